/- Layer 7: a reader of any bytes: it reads on, or it has failed. -/
import Derived.Test.YtndekicblbpkjaaNet
import Derived.Test.YtndekicblbpkjaaOctF
namespace Go.Proofs.Ytndekicblbpkjaa.rdrG
open Go.ChangeShapes Go.WideShapes Go.ChangeAt Go.RowKit
open Go.Proofs.Ytndekicblbpkjaa.base Go.Proofs.Ytndekicblbpkjaa.octA Go.Proofs.Ytndekicblbpkjaa.octB Go.Proofs.Ytndekicblbpkjaa.octC Go.Proofs.Ytndekicblbpkjaa.octF Go.Proofs.Ytndekicblbpkjaa.octK Go.Proofs.Ytndekicblbpkjaa.net Go.Proofs.Ytndekicblbpkjaa.rdrA Go.Proofs.Ytndekicblbpkjaa.sumA Go.Proofs.Ytndekicblbpkjaa.sumB Go.Proofs.Ytndekicblbpkjaa.udpA Go.Proofs.Ytndekicblbpkjaa.tcpC
set_option linter.unusedVariables false

/-- Only block g has changed. -/
structure OnlyG (g : Nat) (w w' : World) : Prop where
  bel : Below g w w'
  size : w'.heap.size = w.heap.size
  els : ∀ k, k ≠ g → w'.heap[k]? = w.heap[k]?
theorem OnlyG.refl (g : Nat) (w : World) : OnlyG g w w := ⟨Below.refl _ _, rfl, fun _ _ => rfl⟩
theorem OnlyG.toE {g : Nat} {w w' : World} (h : OnlyG g w w') : ∀ k, k < w.heap.size → k ≠ g → w'.heap[k]? = w.heap[k]? := fun k _ hk => h.els k hk
theorem OnlyG.set {g : Nat} {a w : World} (h : OnlyG g a w) (i : Nat) (v : Value) : OnlyG g a (w.setCell ⟨g, i, none⟩ v) :=
  ⟨h.bel.setCell (p := ⟨g, i, none⟩) (Nat.le_refl g) v, by simpa using h.size, fun k hk => (Below.heap_setCell w ⟨g, i, none⟩ v k hk).trans (h.els k hk)⟩
theorem OnlyG.trans {g : Nat} {a b c : World} (h : OnlyG g a b) (k : OnlyG g b c) : OnlyG g a c := ⟨h.bel.trans k.bel, k.size.trans h.size, fun i hi => (k.els i hi).trans (h.els i hi)⟩
theorem Only.g {g : Nat} {w w' : World} (h : Only g w w') : OnlyG g w w' := by
  obtain ⟨v, rfl⟩ := h
  exact (OnlyG.refl g w).set 0 v
theorem OnlyG.blk {g : Nat} {w w' : World} (h : OnlyG g w w') {x : Nat} {t : TypeId} {cs : Array Value} (hb : Blk w x t cs) (hx : x ≠ g) : Blk w' x t cs := (h.els x hx).trans hb
theorem OnlyG.from {g B : Nat} {a w w' : World} (h : OnlyG g w w') (hb : Below B a w) (hB : B ≤ g) : Below B a w' := hb.trans (h.bel.mono hB)
/-- The reader at block g: what it has left; or it has failed. -/
def St (w : World) (B g : Nat) (l : List Int) (e : Int) : Prop := (e = 0 ∧ Rdr w B g l) ∨ (l = [] ∧ Blk w g 128 #[.slice none 0 0, .int .i64 e])
theorem St.lt {w : World} {B g : Nat} {l : List Int} {e : Int} (h : St w B g l e) : g < w.heap.size := by
  rcases h with ⟨_, h⟩ | ⟨_, h⟩
  · exact h.lt
  · exact h.lt
theorem St.below {w w' : World} {B g B' : Nat} {l : List Int} {e : Int} (h : St w B g l e) (hb : Below B' w w') (hB : B ≤ B') (hg : g < B') : St w' B g l e := by
  rcases h with ⟨h1, h⟩ | ⟨h1, h⟩
  · exact .inl ⟨h1, h.below hb hB hg⟩
  · exact .inr ⟨h1, h.below hb hg⟩
theorem St.bad {w : World} {B g : Nat} {l : List Int} {e : Int} (h : St w B g l e) (he : e ≠ 0) : l = [] ∧ Blk w g 128 #[.slice none 0 0, .int .i64 e] := by
  rcases h with ⟨h1, h⟩ | h
  · exact absurd h1 he
  · exact h
theorem St.ofBad {w : World} {B g : Nat} {e : Int} (h : Blk w g 128 #[.slice none 0 0, .int .i64 e]) : St w B g [] e := .inr ⟨rfl, h⟩
theorem Rdr.st {w : World} {B g : Nat} {l : List Int} (h : Rdr w B g l) : St w B g l 0 := .inl ⟨rfl, h⟩
theorem St.rdr {w : World} {B g : Nat} {l : List Int} (h : St w B g l 0) (hl : 0 < l.length) : Rdr w B g l := by
  rcases h with ⟨_, h⟩ | ⟨rfl, _⟩
  · exact h
  · simp at hl
theorem St.cells {w : World} {B g : Nat} {l : List Int} {e : Int} (h : St w B g l e) : ∃ A c, Blk w g 128 #[.slice A l.length c, .int .i64 e] := by
  rcases h with ⟨rfl, b, off, c, h, _⟩ | ⟨rfl, h⟩
  · exact ⟨_, _, h⟩
  · exact ⟨_, _, h⟩
/-- What an error becomes where bytes lack. -/
def sh (e : Int) : Int := if e = 0 then 2 else e
theorem sh_ne (e : Int) : sh e ≠ 0 := by unfold sh; split <;> omega
theorem sh_bad {e : Int} (h : e ≠ 0) : sh e = e := if_neg h
theorem sh_0 : sh 0 = 2 := rfl
set_option maxHeartbeats 1000000 in
theorem fail_good (B g : Nat) (l : List Int) (x : Int) (w : World) (h : St w B g l 0) (hx : x ≠ 0) :
    Calls Try.prog 103 #[.pointer (some ⟨g, 0, none⟩), .int .i64 x] w fun o w' => o = .returned (.tuple #[]) ∧ St w' B g [] x ∧ OnlyG g w w' := by
  obtain ⟨A, c, h1⟩ := h.cells
  have c0 : w.cell? ⟨g, 0, none⟩ = some (.slice A l.length c) := h1.cell 0
  have c1 : w.cell? ⟨g, 1, none⟩ = some (.int .i64 0) := h1.cell 1
  have f0 := h1.frozen 0
  have f1 := h1.frozen 1
  have HF := Lib.hid (show St ((w.setCell ⟨g, 1, none⟩ (.int .i64 x)).setCell ⟨g, 0, none⟩ (.slice none 0 0)) B g [] x from St.ofBad (show Blk _ _ _ #[.slice none 0 0, .int .i64 x] from (h1.set_ 1 (.int .i64 x)).set_ 0 (.slice none 0 0)))
  have HO := Lib.hid (((OnlyG.refl g w).set 1 (.int .i64 x)).set 0 (.slice none 0 0))
  have t : (x == 0) = false := by simpa using hx
  clear h h1 hx
  go_enter Try.func103, Try.ntmps103
  go_wp2
  exact bodyPost_end (v := .tuple #[]) (by simp [results, Try.results103, go_sem]) rfl ⟨rfl, HF.out, HO.out⟩
set_option maxHeartbeats 1000000 in
theorem fail_bad (B g : Nat) (l : List Int) (e x : Int) (w : World) (h : St w B g l e) (he : e ≠ 0) (hx : x ≠ 0) :
    Calls Try.prog 103 #[.pointer (some ⟨g, 0, none⟩), .int .i64 x] w fun o w' => o = .returned (.tuple #[]) ∧ w = w' := by
  obtain ⟨rfl, h1⟩ := h.bad he
  have c1 : w.cell? ⟨g, 1, none⟩ = some (.int .i64 e) := h1.cell 1
  have t : (x == 0) = false := by simpa using hx
  have t2 : (e != 0) = true := by simpa using he
  clear h h1 hx he
  go_enter Try.func103, Try.ntmps103
  go_wp2
  exact bodyPost_ret (v := .tuple #[]) (by simp [results, Try.results103, go_sem]) rfl ⟨rfl, rfl⟩
/-- An error is remembered, if there was none. -/
theorem fail_any (B g : Nat) (l : List Int) (e x : Int) (w : World) (h : St w B g l e) (hx : x ≠ 0) :
    Calls Try.prog 103 #[.pointer (some ⟨g, 0, none⟩), .int .i64 x] w fun o w' => o = .returned (.tuple #[]) ∧ St w' B g [] (if e = 0 then x else e) ∧ OnlyG g w w' := by
  by_cases he : e = 0
  · subst he
    rw [if_pos rfl]
    exact fail_good B g l x w h hx
  · rw [if_neg he]
    refine (fail_bad B g l e x w h he hx).mono ?_
    rintro o w' ⟨rfl, rfl⟩
    obtain ⟨rfl, h1⟩ := h.bad he
    exact ⟨rfl, St.ofBad h1, OnlyG.refl _ _⟩
set_option maxHeartbeats 1000000 in
theorem raw_none (B g : Nat) (e : Int) (w : World) (h1 : Blk w g 128 #[.slice none 0 0, .int .i64 e]) :
    Calls Try.prog 96 #[.pointer (some ⟨g, 0, none⟩), .int .i64 ((0 : Nat) : Int)] w fun o w' => o = .returned (.slice none 0 0) ∧ St w' B g [] e ∧ OnlyG g w w' := by
  have c0 : w.cell? ⟨g, 0, none⟩ = some (.slice none 0 0) := h1.cell 0
  have f0 := h1.frozen 0
  have HS := Lib.hid (show St (w.setCell ⟨g, 0, none⟩ (.slice none 0 0)) B g [] e from St.ofBad (show Blk _ _ _ #[.slice none 0 0, .int .i64 e] from h1.set_ 0 (.slice none 0 0)))
  have HO := Lib.hid ((OnlyG.refl g w).set 0 (.slice none 0 0))
  clear h1
  go_enter Try.func96, Try.ntmps96
  go_wp2_with fail
  go_ret
  exact ⟨rfl, HS.out, HO.out⟩
set_option maxHeartbeats 1000000 in
theorem raw_bad (B g k : Nat) (l : List Int) (e : Int) (w : World) (h : St w B g l e) (hk : e ≠ 0 ∨ l.length < k) (hk2 : k ≤ 4294967295) :
    Calls Try.prog 96 #[.pointer (some ⟨g, 0, none⟩), .int .i64 k] w fun o w' => o = .returned (.slice none 0 0) ∧ St w' B g [] (sh e) ∧ OnlyG g w w' := by
  by_cases hlk : l.length < k
  · obtain ⟨A, c, h1⟩ := h.cells
    have HFA := Lib.hid (show ∀ V, V = w → _ from fun V hV => hV ▸ fail_any B g l e 2 w h (by omega))
    have c0 : w.cell? ⟨g, 0, none⟩ = some (.slice A l.length c) := h1.cell 0
    have t : decide (l.length < k) = true := decide_eq_true hlk
    have HSH := Lib.hid (show (if e = 0 then 2 else e) = sh e from rfl)
    obtain ⟨n, hn⟩ : ∃ n, n = l.length := ⟨_, rfl⟩
    rw [← hn] at c0 t hlk
    clear h h1 hk hn
    go_enter Try.func96, Try.ntmps96
    go_wp2_with fail
    refine (HFA.out _ rfl).mono ?_
    rintro o w' ⟨rfl, hs, ho⟩
    rw [HSH.out] at hs
    go_wp2_with fail
    go_ret
    exact ⟨rfl, hs, ho⟩
  · have he : e ≠ 0 := by rcases hk with h | h; exact h; exact absurd h hlk
    obtain ⟨rfl, h1⟩ := h.bad he
    obtain rfl : k = 0 := by simp at hlk; omega
    refine (raw_none B g e w h1).mono ?_
    rw [sh_bad he]
    exact fun _ _ h => h
/-- Some of a list, and not more. -/
def Sub (m l : List Int) : Prop := m.length ≤ l.length ∧ ∀ x ∈ m, x ∈ l
theorem Sub.refl (l : List Int) : Sub l l := ⟨Nat.le_refl _, fun _ h => h⟩
theorem Sub.none (l : List Int) : Sub [] l := ⟨Nat.zero_le _, fun _ h => (by cases h)⟩
theorem Sub.take (l : List Int) (k : Nat) : Sub (l.take k) l := ⟨by rw [List.length_take]; omega, fun _ h => List.mem_of_mem_take h⟩
theorem Sub.drop (l : List Int) (k : Nat) : Sub (l.drop k) l := ⟨by rw [List.length_drop]; omega, fun _ h => List.mem_of_mem_drop h⟩
theorem Sub.trans {a b c : List Int} (h : Sub a b) (k : Sub b c) : Sub a c := ⟨Nat.le_trans h.1 k.1, fun x hx => k.2 x (h.2 x hx)⟩
/-- The next bytes, or none. -/
def RawG (w : World) (B g : Nat) (l : List Int) (e : Int) (k : Nat) (o : Ending) (w' : World) : Prop :=
  ∃ A bs l' e', o = .returned (.slice A bs.length bs.length) ∧ Row w' B A (bs.map (.int .u8)) ∧ (A = none → bs.length = 0) ∧ St w' B g l' e' ∧ OnlyG g w w' ∧ (e' = 0 → e = 0 ∧ l = bs ++ l' ∧ bs.length = k) ∧ (e ≠ 0 → e' = e) ∧ (e = 0 → (k ≤ l.length ∧ e' = 0) ∨ (l.length < k ∧ e' = 2)) ∧ Sub bs l ∧ Sub l' l ∧ bs.length ≤ k
theorem raw_gen (B g k : Nat) (l : List Int) (e : Int) (w : World) (hB : B ≤ g) (h : St w B g l e) (hk2 : k ≤ 4294967295) :
    Calls Try.prog 96 #[.pointer (some ⟨g, 0, none⟩), .int .i64 k] w (RawG w B g l e k) := by
  by_cases hg : e = 0 ∧ k ≤ l.length
  · obtain ⟨rfl, hkl⟩ := hg
    rcases h with ⟨_, hr⟩ | ⟨rfl, h1⟩
    rotate_left
    · obtain rfl : k = 0 := by simpa using hkl
      refine (raw_none B g 0 w h1).mono ?_
      rintro o w' ⟨rfl, hs, ho⟩
      exact ⟨none, [], [], 0, rfl, .inl rfl, fun _ => rfl, hs, ho, fun _ => ⟨rfl, rfl, rfl⟩, fun h => absurd rfl h, fun _ => .inl ⟨Nat.le_refl _, rfl⟩, Sub.none _, Sub.none _, Nat.le_refl _⟩
    refine (raw_any B g k l w hB hr hkl).mono ?_
    rintro o w' ⟨b, off, rfl, hb, hli, hr2, ho⟩
    have e1 : (l.take k).length = k := by rw [List.length_take]; omega
    refine ⟨_, l.take k, l.drop k, 0, by rw [e1], hli.row hb, fun h => (by cases h), Rdr.st hr2, Only.g ho, fun _ => ⟨rfl, (List.take_append_drop k l).symm, e1⟩, fun h => absurd rfl h, fun _ => .inl ⟨hkl, rfl⟩, Sub.take l k, Sub.drop l k, by omega⟩
  · refine (raw_bad B g k l e w h (by omega) hk2).mono ?_
    rintro o w' ⟨rfl, hs, ho⟩
    refine ⟨none, [], [], sh e, rfl, .inl rfl, fun _ => rfl, hs, ho, fun h => absurd h (sh_ne e), fun h => sh_bad h, fun h => .inr ⟨by omega, by rw [h]; rfl⟩, Sub.none _, Sub.none _, Nat.zero_le _⟩
/-- The next number, or 0. -/
def NumG (w : World) (B g : Nat) (l : List Int) (e : Int) (k : Nat) (m : Int) (o : Ending) (w' : World) : Prop :=
  ∃ z l' e', o = .returned (.int .u64 z) ∧ 0 ≤ z ∧ z ≤ m ∧ St w' B g l' e' ∧ OnlyG g w w' ∧ (e' = 0 → e = 0 ∧ l = pb z k k ++ l') ∧ (e ≠ 0 → e' = e ∧ z = 0) ∧ (e = 0 → e' = 0 ∨ e' = 2 ∧ z = 0) ∧ Sub l' l
set_option maxHeartbeats 1000000 in
theorem num_bad (B g k : Nat) (l : List Int) (e : Int) (w : World) (h : St w B g l e) (hk : e ≠ 0 ∨ l.length < k) (hk2 : k ≤ 8) :
    Calls Try.prog 72 #[.pointer (some ⟨g, 0, none⟩), .int .i64 k] w fun o w' => o = .returned (.int .u64 0) ∧ St w' B g [] (sh e) ∧ OnlyG g w w' := by
  have HR := Lib.hid (raw_bad B g k l e w h hk (by omega))
  clear h hk
  go_enter Try.func72, Try.ntmps72
  go_wp2_with fail
  refine HR.out.mono ?_
  rintro o w1 ⟨rfl, hs, ho⟩
  have HS := Lib.hid hs
  have HO := Lib.hid ho
  clear hs ho
  go_wp2_with fail
  go_loop [5, 7, 12] (fun x _ i => i = .int .i64 0 ∧ x = .int .u64 0) (fun _ _ i => 0)
  case atStart => exact ⟨rfl, rfl⟩
  case round =>
    obtain ⟨rfl, rfl⟩ := hrel
    go_wp2_with fail
    go_ret
    exact ⟨rfl, HS.out, HO.out⟩
theorem pb_at1 (l : List Int) (hl : 1 ≤ l.length) (hb : ∀ x ∈ l, 0 ≤ x ∧ x ≤ 255) : 0 ≤ atN l 0 1 ∧ atN l 0 1 ≤ 255 ∧ l = pb (atN l 0 1) 1 1 ++ l.drop 1 := by
  match l, hl with
  | a :: t, _ =>
    have ha := hb a (by simp)
    have e : atN (a :: t) 0 1 = a := by show 0 * 256 + a = a; omega
    rw [e, pb_one a ha.1 ha.2]
    exact ⟨ha.1, ha.2, rfl⟩
theorem pb_at4 (l : List Int) (hl : 4 ≤ l.length) (hb : ∀ x ∈ l, 0 ≤ x ∧ x ≤ 255) : 0 ≤ atN l 0 4 ∧ atN l 0 4 ≤ 4294967295 ∧ l = pb (atN l 0 4) 4 4 ++ l.drop 4 := by
  match l, hl with
  | a :: b :: c :: d :: t, _ =>
    have ha := hb a (by simp)
    have hb2 := hb b (by simp)
    have hc := hb c (by simp)
    have hd := hb d (by simp)
    have e : atN (a :: b :: c :: d :: t) 0 4 = ((a * 256 + b) * 256 + c) * 256 + d := by show (((0 * 256 + a) * 256 + b) * 256 + c) * 256 + d = _; omega
    rw [e, pb_four _ (by omega) (by omega)]
    refine ⟨by omega, by omega, ?_⟩
    show a :: b :: c :: d :: t = _ :: _ :: _ :: _ :: t
    congr 1
    · omega
    · congr 1
      · omega
      · congr 1
        · omega
        · congr 1
          omega
theorem num_gen1 (B g : Nat) (l : List Int) (e : Int) (w : World) (hB : B ≤ g) (h : St w B g l e) (hb : ∀ x ∈ l, 0 ≤ x ∧ x ≤ 255) :
    Calls Try.prog 72 #[.pointer (some ⟨g, 0, none⟩), .int .i64 1] w (NumG w B g l e 1 255) := by
  by_cases hg : e = 0 ∧ 1 ≤ l.length
  · obtain ⟨rfl, hkl⟩ := hg
    refine (num_any B g 1 l w hB (h.rdr (by omega)) hkl (by omega) hb).mono ?_
    rintro o w' ⟨e1, hr2, ho⟩
    obtain ⟨a1, a2, a3⟩ := pb_at1 l hkl hb
    exact ⟨_, l.drop 1, 0, e1, a1, a2, Rdr.st hr2, Only.g ho, fun _ => ⟨rfl, a3⟩, fun h => absurd rfl h, fun _ => .inl rfl, Sub.drop l 1⟩
  · refine (num_bad B g 1 l e w h (by omega) (by omega)).mono ?_
    rintro o w' ⟨rfl, hs, ho⟩
    exact ⟨0, [], sh e, rfl, by omega, by omega, hs, ho, fun h => absurd h (sh_ne e), fun h => ⟨sh_bad h, rfl⟩, fun h => .inr ⟨by rw [h]; rfl, rfl⟩, Sub.none _⟩
theorem num_gen4 (B g : Nat) (l : List Int) (e : Int) (w : World) (hB : B ≤ g) (h : St w B g l e) (hb : ∀ x ∈ l, 0 ≤ x ∧ x ≤ 255) :
    Calls Try.prog 72 #[.pointer (some ⟨g, 0, none⟩), .int .i64 4] w (NumG w B g l e 4 4294967295) := by
  by_cases hg : e = 0 ∧ 4 ≤ l.length
  · obtain ⟨rfl, hkl⟩ := hg
    refine (num_any B g 4 l w hB (h.rdr (by omega)) hkl (by omega) hb).mono ?_
    rintro o w' ⟨e1, hr2, ho⟩
    obtain ⟨a1, a2, a3⟩ := pb_at4 l hkl hb
    exact ⟨_, l.drop 4, 0, e1, a1, a2, Rdr.st hr2, Only.g ho, fun _ => ⟨rfl, a3⟩, fun h => absurd rfl h, fun _ => .inl rfl, Sub.drop l 4⟩
  · refine (num_bad B g 4 l e w h (by omega) (by omega)).mono ?_
    rintro o w' ⟨rfl, hs, ho⟩
    exact ⟨0, [], sh e, rfl, by omega, by omega, hs, ho, fun h => absurd h (sh_ne e), fun h => ⟨sh_bad h, rfl⟩, fun h => .inr ⟨by rw [h]; rfl, rfl⟩, Sub.none _⟩
theorem err_gen (B g : Nat) (l : List Int) (e : Int) (w : World) (h : St w B g l e) :
    Calls Try.prog 75 #[.pointer (some ⟨g, 0, none⟩)] w fun o w' => o = .returned (.int .i64 e) ∧ w = w' := by
  obtain ⟨A, c, h1⟩ := h.cells
  have c1 : w.cell? ⟨g, 1, none⟩ = some (.int .i64 e) := h1.cell 1
  clear h h1
  go_enter Try.func75, Try.ntmps75
  go_wp2
  go_ret
  exact ⟨rfl, rfl⟩
theorem left_gen (B g : Nat) (l : List Int) (e : Int) (w : World) (h : St w B g l e) :
    Calls Try.prog 98 #[.pointer (some ⟨g, 0, none⟩)] w fun o w' => o = .returned (.int .i64 (l.length : Int)) ∧ w = w' := by
  obtain ⟨A, c, h1⟩ := h.cells
  have c1 : w.cell? ⟨g, 0, none⟩ = some (.slice A l.length c) := h1.cell 0
  clear h h1
  go_enter Try.func98, Try.ntmps98
  go_wp2
  go_ret
  exact ⟨rfl, rfl⟩
theorem read_raw (A : Option Addr) (n c : Nat) (w : World) :
    Calls Try.prog 71 #[.slice A n c] w fun e w' => e = .returned (.pointer (some ⟨w.heap.size, 0, none⟩)) ∧ w' = w.alloc (.cells #[.slice A n c, .int .i64 0] 128) := by
  go_enter Try.func71, Try.ntmps71
  go_wp2
  go_ret
  exact ⟨rfl, rfl⟩
end Go.Proofs.Ytndekicblbpkjaa.rdrG
