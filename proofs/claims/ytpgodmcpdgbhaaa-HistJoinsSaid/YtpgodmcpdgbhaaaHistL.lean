/- Layer 38: histograms are joined to one. -/
import Derived.Test.YtpgodmcpdgbhaaaHistK
namespace Go.Proofs.Ytpgodmcpdgbhaaa.histL
open Go.ChangeShapes Go.WideShapes Go.ChangeAt Go.RowKit
open Go.Proofs.Ytpgodmcpdgbhaaa.base Go.Proofs.Ytpgodmcpdgbhaaa.countA Go.Proofs.Ytpgodmcpdgbhaaa.countC Go.Proofs.Ytpgodmcpdgbhaaa.countE Go.Proofs.Ytpgodmcpdgbhaaa.countG Go.Proofs.Ytpgodmcpdgbhaaa.histD Go.Proofs.Ytpgodmcpdgbhaaa.histF Go.Proofs.Ytpgodmcpdgbhaaa.histK
set_option linter.unusedVariables false

/-- The histogram at k says what these numbers say. -/
def Hs (k : Nat) (L : List Int) (w : World) : Prop := ∃ cs f, Blk w k 56 cs ∧ At70 cs f ∧ IsStat f L
theorem Hs.lt {k : Nat} {L : List Int} {w : World} (h : Hs k L w) : k < w.heap.size := by
  obtain ⟨_, _, hB, _, _⟩ := h
  exact hB.lt
theorem Hs.below {k : Nat} {L : List Int} {w w' : World} (h : Hs k L w) (hb : Below w.heap.size w w') : Hs k L w' := by
  obtain ⟨cs, f, hB, hA, hS⟩ := h
  exact ⟨cs, f, hB.below hb hB.lt, hA, hS⟩
theorem Hs.but {k j : Nat} {L : List Int} {w w' : World} (h : Hs k L w) (hb : But j w.heap.size w w') (hk : k ≠ j) : Hs k L w' := by
  obtain ⟨cs, f, hB, hA, hS⟩ := h
  exact ⟨cs, f, hb.blk hB hB.lt hk, hA, hS⟩
theorem Hs.alloc {k : Nat} {L : List Int} {w : World} (h : Hs k L w) (o : Obj) : Hs k L (w.alloc o) := by
  obtain ⟨cs, f, hB, hA, hS⟩ := h
  exact ⟨cs, f, hB.alloc o, hA, hS⟩
theorem row_but {w w' : World} {B j : Nat} {A : Option Addr} {xs : List Value} (h : Row w B A xs) (hb : But j w.heap.size w w') (hj : B ≤ j) (hB : B ≤ w.heap.size) : Row w' B A xs := by
  rcases h with h | ⟨b, off, rfl, hlt, hc⟩
  · exact .inl h
  · refine .inr ⟨b, off, rfl, hlt, fun i u hu => ?_⟩
    have h2 := hb.block b (by omega) (by omega)
    rw [← hc i u hu]
    simp only [World.cell?, h2]
theorem hs_new (w : World) (Z : Array Value) (hZ : Z = Z70) : Hs w.heap.size [] (w.alloc (.cells Z 56)) := ⟨Z, _, Blk.new w _ Z, by rw [hZ]; exact z70_at, empty_stat⟩
theorem add_hs (g B : Nat) (A : Option Addr) (n c : Nat) (l : List Int) (w : World) (hl : l.length = n) (hn : n ≤ 500) (ul : U64 l) (hr : Row w B A (l.map (.int .u64))) (hB : B ≤ g) (h : Hs g [] w) :
    Calls Try.prog 18 #[.pointer (some ⟨g, 0, none⟩), .slice A n c] w fun e w' => e = .returned (.tuple #[]) ∧ Hs g l w' ∧ But g w.heap.size w w' := by
  obtain ⟨cs, f, hB2, hA, hS⟩ := h
  refine (histG.add_at g A n c [] l w hl hn (by simp) (fun x hx => by cases hx) ul (hr.more hB) hB2.lt ⟨cs, f, hB2, hA, hS, But.refl _ _ _⟩).mono fun e w' ⟨he, cs', f', h1, h2, h3, h4⟩ => ⟨he, ⟨cs', f', h1, h2, h3⟩, h4⟩
def flat (ps : List (Nat × List Int)) : List Int := (ps.map (·.2)).flatten
theorem flat_next (ps : List (Nat × List Int)) (j : Nat) (h : j < ps.length) : flat (ps.take (j + 1)) = flat (ps.take j) ++ ps[j].2 := by
  have e : ps.take (j + 1) = ps.take j ++ [ps[j]] := by rw [List.take_add_one, List.getElem?_eq_getElem h]; rfl
  unfold flat
  rw [e, List.map_append, List.flatten_append]
  simp only [List.map_cons, List.map_nil, List.flatten_cons, List.flatten_nil, List.append_nil]
theorem flat_u64 (ps : List (Nat × List Int)) (h : ∀ p ∈ ps, U64 p.2) : U64 (flat ps) := by
  intro x hx
  unfold flat at hx
  rw [List.mem_flatten] at hx
  obtain ⟨l, hl, hx⟩ := hx
  rw [List.mem_map] at hl
  obtain ⟨p, hp, rfl⟩ := hl
  exact h p hp x hx
theorem flat_len (ps : List (Nat × List Int)) (h : ∀ p ∈ ps, p.2.length ≤ 100) : (flat ps).length ≤ 100 * ps.length := by
  induction ps with
  | nil => simp [flat]
  | cons p ps ih =>
    have h1 := h p (by simp)
    have h2 := ih (fun q hq => h q (by simp [hq]))
    have e : flat (p :: ps) = p.2 ++ flat ps := by simp [flat]
    rw [e, List.length_append, List.length_cons]
    omega
/-- One is joined to another one. -/
theorem join_hs (g a : Nat) (G L : List Int) (w : World) (ne : a ≠ g) (hg : Hs g G w) (ha : Hs a L w) (ug : U64 G) (ul : U64 L) (lg : G.length ≤ 1000) (ll : L.length ≤ 1000) :
    Calls Try.prog 31 #[.pointer (some ⟨g, 0, none⟩), .pointer (some ⟨a, 0, none⟩)] w fun e w' => e = .returned (.tuple #[]) ∧ Hs g (G ++ L) w' ∧ But g w.heap.size w w' := by
  obtain ⟨cs, f, hB, hA, hS⟩ := hg
  obtain ⟨xs, x, aB, aA, aS⟩ := ha
  by_cases e : L = []
  · have c65 : w.cell? ⟨a, 65, none⟩ = some (.int .u64 0) := by rw [(aB.cell 65).trans (aA.2 65 (by omega)), aS.len, e]; rfl
    refine (join_zero _ a w c65).mono fun e' w' ⟨he, hw⟩ => ⟨he, ?_, by rw [← hw]; exact But.refl _ _ _⟩
    rw [← hw, e, List.append_nil]
    exact ⟨cs, f, hB, hA, hS⟩
  · obtain ⟨f1, f2, f3⟩ := hS.fits aS ug ul lg ll
    have x65 : x 65 ≠ 0 := by
      rw [aS.len]
      have := List.length_pos_iff.mpr e
      omega
    refine (join_at g a f x w ne ⟨cs, xs, hB, hA, aB, aA, But.refl _ _ _⟩ x65 f1 f2 f3).mono fun e' w' ⟨he, cs', xs', h1, h2, _, _, h3⟩ => ⟨he, ⟨cs', _, h1, h2, hS.join aS e ug ul⟩, h3⟩
theorem size70 : (Try.prog.info? 56).map (·.size) = some 70 := by kernel_rfl
set_option maxRecDepth 100000 in
set_option maxHeartbeats 4000000 in
theorem join_list (g n c : Nat) (A : Option Addr) (ps : List (Nat × List Int)) (G : List Int) (w : World) (hn : ps.length = n) (hn2 : n ≤ 2) (hr : Row w w.heap.size A (ps.map fun p => .pointer (some ⟨p.1, 0, none⟩)))
    (hp : ∀ p ∈ ps, Hs p.1 p.2 w) (hu : ∀ p ∈ ps, U64 p.2) (hl : ∀ p ∈ ps, p.2.length ≤ 100) (hg : Hs g G w) (ug : U64 G) (lg : G.length ≤ 500) :
    Calls Try.prog 22 #[.pointer (some ⟨g, 0, none⟩), .slice A n c] w fun e w' => e = .returned (.tuple #[]) ∧ Hs g (G ++ flat ps) w' ∧ But g w.heap.size w w' := by
  have HP := Lib.hid hp
  have HU := Lib.hid hu
  have HL := Lib.hid hl
  have HR := Lib.hid hr
  have HG := Lib.hid hg
  have UG := Lib.hid ug
  have LG := Lib.hid lg
  have HN := Lib.hid hn
  clear hp hu hl hr hg ug lg hn
  obtain ⟨Z, hZ0⟩ : ∃ Z : Array Value, Z = Z70 := ⟨_, rfl⟩
  have hz : ∀ w : World, (zeroValue 56).run Try.prog w = .ok (.agg Z) w := by rw [hZ0]; exact (zero_of_info zero70).1
  have ZA : At70 Z (fun _ => 0) := by rw [hZ0]; exact z70_at
  have sz : Z.size = 70 := ZA.1
  have sz2 : ¬ Z = #[] := by intro h; rw [h] at sz; cases sz
  obtain ⟨W2, hst, A1, B1, B2⟩ : ∃ W2, (storeCells ⟨w.heap.size, 0, none⟩ Z.toList 0).run Try.prog (w.alloc (.cells Z 56)) = .ok () W2 ∧ Hs w.heap.size [] W2 ∧ Below w.heap.size w W2 ∧ W2.heap.size = w.heap.size + 1 := by
    have F0 := Blk.new w 56 Z
    have hst := store_blk F0 (c' := Z) (by rw [sz]; exact size70) rfl (at70_one ZA)
    exact ⟨_, hst, ⟨_, _, blk_setRow F0 _, ZA, empty_stat⟩, below_setRow ((Below.refl _ _).alloc (Nat.le_refl _) _) (Nat.le_refl _) _, by simp [World.setRow]⟩
  have KA := Lib.hid A1
  have KB := Lib.hid B1
  clear A1 B1 B2 ZA hZ0
  go_enter Try.func22, Try.ntmps22
  go_wp2_with fail
  clear hst
  go_loopw [12, 6] (fun i _ wr => ∃ j : Nat, j ≤ n ∧ i = .int .i64 j ∧ Hs w.heap.size (flat (ps.take j)) wr ∧ Below w.heap.size w wr) (fun i _ _ => n - (intOf i).toNat)
  case atStart => exact ⟨0, by omega, rfl, by simpa [flat] using KA.out, KB.out⟩
  case round =>
    obtain ⟨j, hj, rfl, hS, hbel⟩ := hrel
    have KS := Lib.hid hS
    have HBel := Lib.hid hbel
    clear hS hbel
    have lt0 : (flat (ps.take j)).length ≤ 200 := by
      have := flat_len (ps.take j) (fun p hp => HL.out p (List.mem_of_mem_take hp))
      rw [List.length_take] at this
      omega
    have ut0 : U64 (flat (ps.take j)) := flat_u64 _ fun p hp => HU.out p (List.mem_of_mem_take hp)
    have LT0 := Lib.hid lt0
    have UT0 := Lib.hid ut0
    clear lt0 ut0
    by_cases hlt : j < n
    · have q1 : decide ((j : Int) < (n : Int)) = true := decide_eq_true (by omega)
      have hjl : j < ps.length := by rw [HN.out]; exact hlt
      obtain ⟨b, off, rfl, hbl, hc⟩ := HR.out.at_ (by intro h; simp at h; rw [h] at hjl; simp at hjl)
      have hm : ps[j] ∈ ps := List.getElem_mem hjl
      have hcell : wr.cell? ⟨b, off + j, none⟩ = some (.pointer (some ⟨ps[j].1, 0, none⟩)) := (HBel.out.cell (p := ⟨b, off + j, none⟩) hbl).trans (hc j _ (by simp [hjl]))
      have hpj := HP.out _ hm
      have hne : ps[j].1 ≠ w.heap.size := by have := hpj.lt; omega
      have HJ := Lib.hid (join_hs w.heap.size ps[j].1 (flat (ps.take j)) ps[j].2 wr hne KS.out (by obtain ⟨cs, f, h1, h2, h3⟩ := hpj; exact ⟨cs, f, h1.below HBel.out h1.lt, h2, h3⟩) UT0.out (HU.out _ hm) (by have := LT0.out; omega) (by have := HL.out _ hm; omega))
      rw [← flat_next ps j hjl] at HJ
      clear hc hpj hne hm
      generalize ps[j].1 = a at *
      go_wp2_with (go_at_call 31; (with_reducible refine HJ.out.mono ?_); rintro e w4 ⟨rfl, h4, h5⟩; have H4 := Lib.hid h4; have H5 := Lib.hid (h5.low HBel.out (Nat.le_refl _) HBel.out.size); clear h4 h5)
      go_roundw
      case rel => exact ⟨j + 1, by omega, by go_num, H4.out, H5.out⟩
      case measure => simp [intOf]; omega
    · obtain rfl : j = n := by omega
      have q1 : decide ((j : Int) < (j : Int)) = false := decide_eq_false (by omega)
      have hne : w.heap.size ≠ g := by have := HG.out.lt; omega
      have HJ := Lib.hid (join_hs g w.heap.size G (flat (ps.take j)) wr hne (by obtain ⟨cs, f, h1, h2, h3⟩ := HG.out; exact ⟨cs, f, h1.below HBel.out h1.lt, h2, h3⟩) KS.out UG.out UT0.out (by have := LG.out; omega) (by have := LT0.out; omega))
      rw [← HN.out, List.take_length] at HJ
      clear hne
      go_wp2_with (go_at_call 31; (with_reducible refine HJ.out.mono ?_); rintro e w4 ⟨rfl, h4, h5⟩; have H4 := Lib.hid h4; have H5 := Lib.hid h5; clear h4 h5)
      exact bodyPost_end (v := .tuple #[]) (by simp [results, Try.results22, go_sem]) rfl ⟨rfl, H4.out, histG.but_trans ((But.refl _ _ _).below HBel.out) H5.out HBel.out.size⟩
/-- Whether a histogram says what sorted numbers say: it does. -/
theorem alike_any (g n c : Nat) (A : Option Addr) (S : List Int) (part : Int) (w : World) (h : Hs g S w) (hu : U64 S) (hs : S.Pairwise (· ≤ ·)) (hl : S.length = n) (hn : n ≤ 500) (hr : Row w w.heap.size A (S.map (.int .u64))) (p0 : -9223372036854775808 ≤ part) (p1 : part < 9223372036854775808) :
    Calls Try.prog 19 #[.pointer (some ⟨g, 0, none⟩), .slice A n c, .int .i64 part] w fun e w' => e = .returned (.bool true) ∧ Below w.heap.size w w' := by
  obtain ⟨cs, f, hB, hA, hS⟩ := h
  rcases Nat.eq_zero_or_pos n with h0 | h0
  · obtain rfl : S = [] := List.eq_nil_of_length_eq_zero (by omega)
    subst h0
    exact alike_none g c A f cs part w hB hA hS
  · exact alike_some g n c A f cs S part w hB hA hS hu hs hl h0 hn hr p0 p1
end Go.Proofs.Ytpgodmcpdgbhaaa.histL
