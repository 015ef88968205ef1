/- Layer 23: slices.DeleteFunc over a row of the call's own; Without. -/
import Derived.Test.YtlihgiannfpjfaaEliJ
namespace Go.Proofs.Ytlihgiannfpjfaa.eliK
open Go.ChangeShapes Go.WideShapes Go.ChangeAt Go.RowKit
open Go.Proofs.Ytlihgiannfpjfaa.base Go.Proofs.Ytlihgiannfpjfaa.dfA Go.Proofs.Ytlihgiannfpjfaa.treB Go.Proofs.Ytlihgiannfpjfaa.treD Go.Proofs.Ytlihgiannfpjfaa.treH Go.Proofs.Ytlihgiannfpjfaa.treM Go.Proofs.Ytlihgiannfpjfaa.treW Go.Proofs.Ytlihgiannfpjfaa.treP Go.Proofs.Ytlihgiannfpjfaa.eliW Go.Proofs.Ytlihgiannfpjfaa.eliA Go.Proofs.Ytlihgiannfpjfaa.eliB Go.Proofs.Ytlihgiannfpjfaa.eliC Go.Proofs.Ytlihgiannfpjfaa.eliJ
set_option linter.unusedVariables false

/-- What stays of the first i. -/
def stay (p : Int → Bool) (l : List Int) (i : Nat) : List Int := (l.take i).filter fun x => !p x
theorem stay_next {p : Int → Bool} {l : List Int} {i : Nat} (hi : i < l.length) : stay p l (i + 1) = stay p l i ++ (if p l[i] = true then [] else [l[i]]) := by
  unfold stay
  rw [List.take_succ_eq_append_getElem hi, List.filter_append]
  congr 1
  cases h : p l[i] <;> simp [h]
theorem stay_len (p : Int → Bool) (l : List Int) (i : Nat) : (stay p l i).length ≤ i := by
  unfold stay
  exact Nat.le_trans (List.length_filter_le _ _) (by rw [List.length_take]; omega)
theorem stay_all {p : Int → Bool} {l : List Int} {i : Nat} (h : ∀ q, ∀ hq : q < l.length, q < i → p l[q] = false) : i ≤ l.length → stay p l i = l.take i := by
  intro hi
  unfold stay
  rw [List.filter_eq_self]
  intro x hx
  obtain ⟨q, hq, rfl⟩ := List.mem_iff_getElem.mp hx
  rw [List.length_take] at hq
  rw [List.getElem_take, h q (by omega) (by omega)]
  rfl
/-- The row as it is rewritten: those that stay ahead, and what was not looked at behind. -/
structure Dl (B : Nat) (w0 : World) (g : Nat) (p : Int → Bool) (l : List Int) (i : Nat) (w : World) : Prop where
  row : ∃ cs, Blk w g 3 cs ∧ l.length ≤ cs.size ∧ (∀ (j : Nat) (x : Int), (stay p l i)[j]? = some x → cs[j]? = some (.int .i64 x)) ∧ (∀ j, i ≤ j → ∀ hj : j < l.length, cs[j]? = some (.int .i64 l[j]))
  bel : Below B w0 w
  hB : B ≤ g
theorem Dl.below {B : Nat} {w0 w w' : World} {g : Nat} {p : Int → Bool} {l : List Int} {i : Nat} (h : Dl B w0 g p l i w) (hb : Below w.heap.size w w') (hs : B ≤ w.heap.size) : Dl B w0 g p l i w' := by
  obtain ⟨cs, h1, h2⟩ := h.row
  exact ⟨⟨cs, h1.below hb h1.lt, h2⟩, h.bel.trans (hb.mono hs), h.hB⟩
theorem Dl.drop {B : Nat} {w0 w : World} {g : Nat} {p : Int → Bool} {l : List Int} {i : Nat} (h : Dl B w0 g p l i w) (hi : i < l.length) (hp : p l[i] = true) : Dl B w0 g p l (i + 1) w := by
  obtain ⟨cs, h1, h2, h3, h4⟩ := h.row
  refine ⟨⟨cs, h1, h2, fun j x hx => h3 j x ?_, fun j hj => h4 j (by omega)⟩, h.bel, h.hB⟩
  rwa [stay_next hi, if_pos hp, List.append_nil] at hx
theorem Dl.keep {B : Nat} {w0 w : World} {g : Nat} {p : Int → Bool} {l : List Int} {i : Nat} (h : Dl B w0 g p l i w) (hi : i < l.length) (hp : p l[i] = false) : Dl B w0 g p l (i + 1) (w.setCell ⟨g, (stay p l i).length, none⟩ (.int .i64 l[i])) := by
  obtain ⟨cs, h1, h2, h3, h4⟩ := h.row
  have hle := stay_len p l i
  refine ⟨⟨_, h1.set_ _ _, by rw [Array.size_setIfInBounds]; exact h2, fun j x hx => ?_, fun j hj hj2 => ?_⟩, h.bel.setCell (p := ⟨g, (stay p l i).length, none⟩) h.hB _, h.hB⟩
  · rw [stay_next hi, hp, if_neg (by decide)] at hx
    by_cases e : j = (stay p l i).length
    · subst e
      rw [List.getElem?_append_right (Nat.le_refl _), Nat.sub_self] at hx
      simp at hx
      subst hx
      rw [Array.getElem?_setIfInBounds_self_of_lt (by omega)]
    · have hj : j < (stay p l i).length := by
        have := (List.getElem?_eq_some_iff.mp hx).1
        rw [List.length_append, List.length_singleton] at this
        omega
      rw [List.getElem?_append_left hj] at hx
      rw [Array.getElem?_setIfInBounds_ne (fun he => e he.symm)]
      exact h3 j x hx
  · rw [Array.getElem?_setIfInBounds_ne (by omega)]
    exact h4 j (by omega) hj2
theorem below_cells {B : Nat} {a : World} (g : Nat) (hg : B ≤ g) : ∀ (vs : List Value) (o : Nat) (w : World), Below B a w → Below B a (w.setCells g o vs) := by
  intro vs
  induction vs with
  | nil => intro o w h; exact h
  | cons v vs ih =>
    intro o w h
    rw [World.setCells]
    exact ih (o + 1) _ (h.setCell (p := ⟨g, o, none⟩) hg v)
theorem size_cells (g : Nat) : ∀ (vs : List Value) (o : Nat) (w : World), (w.setCells g o vs).heap.size = w.heap.size := by
  intro vs
  induction vs with
  | nil => intro o w; rfl
  | cons v vs ih => intro o w; rw [World.setCells, ih, set_size]
set_option maxRecDepth 100000 in
set_option maxHeartbeats 16000000 in
theorem delete_any (B g cap : Nat) (l : List Int) (w : World) (b1 b2 : Nat) (p : Int → Bool) (ho : OwnI w B (.slice (some ⟨g, 0, none⟩) l.length cap) l) (hB : B ≤ w.heap.size) (hl : l.length ≤ 1000)
    (hc : ∀ W, Below B w W → ∀ x : Int, Calls Try.prog 32 #[.int .i64 x, .pointer (some ⟨b1, 0, none⟩), .pointer (some ⟨b2, 0, none⟩)] W fun o w' => o = .returned (.bool (p x)) ∧ Below W.heap.size W w') :
    Calls Try.prog 31 #[.slice (some ⟨g, 0, none⟩) l.length cap, .func (.func 32) #[] #[.pointer (some ⟨b1, 0, none⟩), .pointer (some ⟨b2, 0, none⟩)]] w fun o w' => ∃ v, o = .returned v ∧ ReadI w' v (l.filter fun x => !p x) ∧ Below B w w' ∧ w.heap.size ≤ w'.heap.size := by
  obtain ⟨A0, c0, hv, hc1, hc2, hrd⟩ := read_own ho
  injection hv with e1 e2 e3
  subst e1 e3
  have HI := Lib.hid (idx1_any _ cap l w b1 b2 p hrd hl hc1 hc2 (fun W hb => hc W (hb.mono hB)))
  have HC := Lib.hid hc
  have HRD := Lib.hid hrd
  have D0 := Lib.hid (show Dl B w g p l 0 w from by
    rcases ho.2 with ⟨h0, _⟩ | ⟨g', cap', cur, h1, h2, h3, h4, h5, h6, h7⟩
    · cases h0
    · have hg : g = g' ∧ cap = cap' := by simpa using h1
      obtain ⟨rfl, rfl⟩ := hg
      refine ⟨⟨cur, h3, by omega, fun j x hx => by unfold stay at hx; simp at hx, fun j _ hj => ?_⟩, Below.refl _ _, h2⟩
      have hx := ho.cellAt j (by simpa using hj)
      rw [List.getElem?_map, List.getElem?_eq_getElem hj] at hx
      have hb : Blk w g 3 cur := h3
      rw [hb.cell j] at hx
      exact hx)
  have HO := Lib.hid ho
  clear hc hrd ho e2
  obtain ⟨n, hn⟩ : ∃ n, n = l.length := ⟨_, rfl⟩
  have HN := Lib.hid hn
  rw [← hn] at hl hc1 HI ⊢
  clear hn
  go_enter Try.func31, Try.ntmps31
  go_wp2_with fail
  refine HI.out.mono ?_
  rintro o w1 ⟨at', rfl, hf, hb⟩
  have B1 := Lib.hid hb
  rcases hf with ⟨rfl, hall⟩ | ⟨j0, hj0, rfl, hp0, hpre⟩
  · have HX := Lib.hid (show l.filter (fun x => !p x) = l from by rw [List.filter_eq_self]; intro x hx; rw [hall x hx]; rfl)
    clear hall hb
    go_wp2_with fail
    go_ret
    exact ⟨_, rfl, by rw [HX.out, HN.out]; exact ⟨_, cap, rfl, by rw [← HN.out]; exact hc1, hc2, HRD.out.below B1.out⟩, B1.out.mono hB, B1.out.size⟩
  · have hj0n : j0 < n := by rw [HN.out]; exact hj0
    have HSA := Lib.hid (show stay p l (j0 + 1) = l.take j0 from by
      rw [stay_next hj0, if_pos hp0, List.append_nil]
      exact stay_all (fun q hq hq2 => hpre q hq2) (by omega))
    have D1 := Lib.hid (show Dl B w g p l (j0 + 1) w1 from by
      have h0 := D0.out.below hb hB
      obtain ⟨cs, h1, h2, h3, h4⟩ := h0.row
      refine ⟨⟨cs, h1, h2, fun j x hx => ?_, fun j hj => h4 j (by omega)⟩, h0.bel, h0.hB⟩
      rw [HSA.out] at hx
      have hj : j < l.length := by have := (List.getElem?_eq_some_iff.mp hx).1; rw [List.length_take] at this; omega
      rw [h4 j (Nat.zero_le _) hj]
      rw [List.getElem?_take_of_lt (by have := (List.getElem?_eq_some_iff.mp hx).1; rw [List.length_take] at this; omega), List.getElem?_eq_getElem hj] at hx
      injection hx with hx
      rw [hx])
    have HS0 := Lib.hid (show (stay p l (j0 + 1)).length = j0 by rw [HSA.out, List.length_take]; omega)
    have Z1 := Lib.hid (show w.heap.size ≤ w1.heap.size from hb.size)
    clear hb hp0 hpre hj0
    go_wp2_with fail
    go_loopw [5, 6] (fun kv iv wr => ∃ i : Nat, iv = .int .i64 i ∧ i ≤ n ∧ kv = .int .i64 (stay p l i).length ∧ (stay p l i).length < i ∧ Hid (Dl B w g p l i wr) ∧ Hid (w.heap.size ≤ wr.heap.size)) (fun _ iv _ => n - (intOf iv).toNat)
    case atStart => exact ⟨j0 + 1, by go_num, by omega, by rw [HS0.out], by rw [HS0.out]; omega, D1, Z1⟩
    case round =>
      obtain ⟨i, rfl, hi, rfl, hki, KD, KZ⟩ := hrel
      by_cases hin : i < n
      · have t1 : decide ((i : Int) < n) = true := decide_eq_true (by omega)
        have hil : i < l.length := HN.out ▸ hin
        have HNX := Lib.hid (stay_next (p := p) hil)
        have d0 : wr.cell? ⟨g, i, none⟩ = some (.int .i64 l[i]) := by
          obtain ⟨cs, h1, h2, h3, h4⟩ := KD.out.row
          rw [h1.cell i]; exact h4 i (Nat.le_refl _) hil
        have HCX := Lib.hid (HC.out wr KD.out.bel l[i])
        have HKP := Lib.hid (fun (W : World) (hb : Below wr.heap.size wr W) (h : p l[i] = false) => (KD.out.below hb (Nat.le_trans hB KZ.out)).keep hil h)
        have HDP := Lib.hid (fun (W : World) (hb : Below wr.heap.size wr W) (h : p l[i] = true) => (KD.out.below hb (Nat.le_trans hB KZ.out)).drop hil h)
        have HRW := Lib.hid (fun (W : World) (hb : Below wr.heap.size wr W) => (KD.out.below hb (Nat.le_trans hB KZ.out)).row)
        obtain ⟨x, hx⟩ : ∃ x, x = l[i] := ⟨_, rfl⟩
        rw [← hx] at d0 HCX HKP HDP HNX
        obtain ⟨z, hz⟩ : ∃ z, z = p x := ⟨_, rfl⟩
        rw [← hz] at HCX HKP HDP HNX
        obtain ⟨k, hk⟩ : ∃ k, k = (stay p l i).length := ⟨_, rfl⟩
        have HK := Lib.hid hk
        rw [← hk] at HKP hki ⊢
        have j0' : (0 : Int) ≤ i := by omega
        have j1 : (i : Int) < n := by omega
        have j2 : (0 : Int) ≤ k := by omega
        have j3 : (k : Int) < n := by omega
        clear hx hz hk
        go_wp2_with fail
        refine HCX.out.mono ?_
        rintro o w3 ⟨rfl, hb⟩
        have B3 := Lib.hid hb
        have Z3 := Lib.hid (Nat.le_trans KZ.out hb.size)
        cases z with
        | true =>
          have D3 := Lib.hid (HDP.out w3 hb rfl)
          rw [if_pos rfl, List.append_nil] at HNX
          clear hb
          go_wp2_with fail
          go_roundw
          case rel => first | exact ⟨i + 1, by go_num, by omega, by rw [HNX.out, HK.out], by rw [HNX.out, ← HK.out]; omega, D3, Z3⟩ | ((repeat apply Exists.intro); exact ⟨⟨i + 1, by go_num, by omega, by rw [HNX.out, HK.out], by rw [HNX.out, ← HK.out]; omega, D3, Z3⟩, rfl⟩)
          case measure => simp [intOf]; omega
        | false =>
          have D3 := Lib.hid (HKP.out w3 hb rfl)
          rw [if_neg (by decide)] at HNX
          obtain ⟨cs, q1, q2, q3, q4⟩ := HRW.out w3 hb
          have c1 : (w3.cell? ⟨g, k, none⟩).isSome = true := by
            rw [q1.cell k, Array.getElem?_eq_getElem (by have := HN.out; omega)]; rfl
          obtain ⟨cv, c2⟩ := Option.isSome_iff_exists.mp c1
          have c3 : w3.frozen? ⟨g, k, none⟩ = false := q1.frozen k
          have HLL := Lib.hid (show ((stay p l (i + 1)).length : Int) = (k : Int) + 1 by rw [HNX.out, List.length_append, List.length_singleton, ← HK.out]; omega)
          have HLM := Lib.hid (show (stay p l (i + 1)).length = k + 1 by rw [HNX.out, List.length_append, List.length_singleton, ← HK.out])
          clear hb q1 q2 q3 q4 c1
          go_wp2_with fail
          go_roundw
          case rel => first | exact ⟨i + 1, by go_num, by omega, by rw [HLL.out], by rw [HLM.out]; omega, D3, Lib.hid (by rw [set_size]; exact Z3.out)⟩ | ((repeat apply Exists.intro); exact ⟨⟨i + 1, by go_num, by omega, by rw [HLL.out], by rw [HLM.out]; omega, D3, Lib.hid (by rw [set_size]; exact Z3.out)⟩, rfl⟩)
          case measure => simp [intOf]; omega
      · have t1 : decide ((i : Int) < n) = false := decide_eq_false (by omega)
        obtain rfl : n = i := by omega
        have HST := Lib.hid (show stay p l n = l.filter (fun x => !p x) from by unfold stay; rw [HN.out, List.take_length])
        obtain ⟨k, hk⟩ : ∃ k, k = (stay p l n).length := ⟨_, rfl⟩
        have HK := Lib.hid hk
        rw [← hk] at hki ⊢
        have hcl : ∀ ty, (Builtin.clear_ #[23] ty #[.slice (some ⟨g, k, none⟩) (n - k) (cap - k)]).run Try.prog wr = .ok (.tuple #[]) (wr.setCells g k (List.replicate (n - k) (.int .i64 0))) := fun ty => by
          obtain ⟨cs, q1, q2, q3, q4⟩ := KD.out.row
          exact Lib.run_clear_slice wr _ 3 ty (.int .i64 0) Try.underlying23 Try.zeroValue3 rfl rfl g k (n - k) (cap - k) (by omega) (fun j hj => by rw [q1.cell, Array.getElem?_eq_getElem (by have := HN.out; omega)]; rfl) (fun j hj => q1.frozen _)
        have j2 : (0 : Int) ≤ k := by omega
        have j3 : (k : Int) ≤ n := by omega
        have j4 : (k : Int) ≤ cap := by omega
        have j5 : k ≤ cap := by omega
        have j6 : k ≤ n := by omega
        clear hk
        go_wp2_with fail
        go_ret
        refine ⟨_, rfl, ?_, below_cells g KD.out.hB _ _ _ KD.out.bel, by rw [size_cells]; exact KZ.out⟩
        rw [← HST.out]
        refine ⟨some ⟨g, 0, none⟩, cap, by rw [← HK.out] <;> rfl, by rw [← HK.out]; omega, hc2, .inr ⟨g, 0, rfl, ?_, fun j x hx => ?_⟩⟩
        · rw [size_cells]
          obtain ⟨cs, q1, _⟩ := KD.out.row
          exact q1.lt
        · have hj : j < k := by rw [HK.out]; exact (List.getElem?_eq_some_iff.mp hx).1
          obtain ⟨cs, q1, q2, q3, q4⟩ := KD.out.row
          rw [World.cell?_setCells_out g _ k wr ⟨g, 0 + j, none⟩ (fun _ _ => Or.inl (by show 0 + j < k; omega)), Nat.zero_add, q1.cell j]
          exact q3 j x hx
theorem del_nil (fv : Value) (w : World) : Calls Try.prog 31 #[.slice none 0 0, fv] w fun o w' => o = .returned (.slice none 0 0) ∧ w' = w := by
  have HI : Calls Try.prog 41 #[.slice none 0 0, fv] w fun o w' => o = .returned (.int .i64 (-1)) ∧ w' = w := by
    go_enter Try.func41, Try.ntmps41
    go_wp2_with fail
    go_loopw [8] (fun i wr => i = .int .i64 0 ∧ wr = w) (fun _ _ => 0)
    case atStart => exact ⟨rfl, rfl⟩
    case round =>
      obtain ⟨rfl, rfl⟩ := hrel
      go_wp2_with fail
      go_ret
      exact ⟨rfl, rfl⟩
  have HI := Lib.hid HI
  go_enter Try.func31, Try.ntmps31
  go_wp2_with fail
  refine HI.out.mono ?_
  rintro o w1 ⟨rfl, rfl⟩
  go_wp2_with fail
  go_ret
  exact ⟨rfl, rfl⟩
/-- The hosts that stay without those below nodes N. -/
def wout (m : List Nd) (W : Nat → Int) (N : List Int) : List Int := (domL m W 4 m.length).filter fun x => !(N.any (askB m x))
theorem del_own {w0 wA : World} {v : Value} {m : List Nd} {W : Nat → Int} {N : List Int} {b1 b2 : Nat} (ho : OwnI wA w0.heap.size v (domL m W 4 m.length)) (hb : Below w0.heap.size w0 wA)
    (hc : ∀ W', Below w0.heap.size w0 W' → ∀ x : Int, Calls Try.prog 32 #[.int .i64 x, .pointer (some ⟨b1, 0, none⟩), .pointer (some ⟨b2, 0, none⟩)] W' fun o w' => o = .returned (.bool (N.any (askB m x))) ∧ Below W'.heap.size W' w') (hl : (domL m W 4 m.length).length ≤ 1000) :
    Calls Try.prog 31 #[v, .func (.func 32) #[] #[.pointer (some ⟨b1, 0, none⟩), .pointer (some ⟨b2, 0, none⟩)]] wA fun o w' => ∃ v', o = .returned v' ∧ ReadI w' v' (wout m W N) ∧ Below w0.heap.size w0 w' := by
  have h0 := ho
  unfold OwnI at h0
  rcases h0.2 with ⟨e1, e2⟩ | ⟨g, cap, cur, e1, e2, e3, e4, e5, e6, e7⟩
  · have hz : domL m W 4 m.length = [] := List.eq_nil_of_length_eq_zero e2
    subst e1
    refine (del_nil _ wA).mono ?_
    rintro o w' ⟨rfl, rfl⟩
    exact ⟨_, rfl, by unfold wout; rw [hz]; exact ReadI.nil _, hb⟩
  · subst e1
    refine (delete_any w0.heap.size g cap (domL m W 4 m.length) wA b1 b2 (fun x => N.any (askB m x)) ho hb.size hl (fun W' hb' => hc W' (hb.trans hb'))).mono ?_
    rintro o w' ⟨v, rfl, hv, hb2, _⟩
    exact ⟨v, rfl, hv, hb.trans hb2⟩
set_option maxRecDepth 100000 in
set_option maxHeartbeats 16000000 in
theorem without_any {w : World} {S T g : Nat} {m : List Nd} {W : Nat → Int} (h : SetOk w S T g m W) (hm60 : m.length ≤ 60) (AN : Option Addr) (cN : Nat) (N : List Int) (hr : RdI w AN N) (hN : N.length ≤ 30) (hc1 : N.length ≤ cN) (hc2 : cN ≤ 9223372036854775807) :
    Calls Try.prog 20 #[.pointer (some ⟨S, 0, none⟩), .slice AN N.length cN] w fun o w' => ∃ g2, o = .returned (.pointer (some ⟨g2 + 1, 0, none⟩)) ∧ SetOk w' (g2 + 1) T g2 m (F m (wout m W N)) ∧ Below w.heap.size w w' := by
  have hmf : ∀ (fn : Fn) (first cap : Array Value) (w : World), (Instr.makeFunc fn first cap).run Try.prog w = .ok (.func fn first cap) w := fun _ _ _ _ => rfl
  obtain ⟨nn, hnn⟩ : ∃ nn, nn = N.length := ⟨_, rfl⟩
  have HNN := Lib.hid hnn
  obtain ⟨w1, hw1⟩ : ∃ w1, w1 = (w.alloc (.cells #[.pointer (some ⟨S, 0, none⟩)] 28)).alloc (.cells #[.slice AN nn cN] 23) := ⟨_, rfl⟩
  have BA := Lib.hid (show Below w.heap.size w w1 from hw1 ▸ ((Below.refl w.heap.size w).alloc (Nat.le_refl _) _).alloc (by simp) _)
  have HW1 := Lib.hid (show (w.alloc (.cells #[.pointer (some ⟨S, 0, none⟩)] 28)).alloc (.cells #[.slice AN nn cN] 23) = w1 from hw1.symm)
  have K1 := Lib.hid (show Blk w1 w.heap.size 28 #[.pointer (some ⟨S, 0, none⟩)] from hw1 ▸ (Blk.new w _ _).alloc _)
  have K2 := Lib.hid (show Blk w1 (w.heap.size + 1) 23 #[.slice AN nn cN] from by
    have := Blk.new (w.alloc (.cells #[.pointer (some ⟨S, 0, none⟩)] 28)) 23 #[.slice AN nn cN]
    rw [hw1]
    simpa using this)
  have S1 := Lib.hid (h.below BA.out)
  have HE := Lib.hid (empty_x S1.out)
  have hc0 : ((w.alloc (.cells #[.pointer (some ⟨S, 0, none⟩)] 28)).alloc (.cells #[.slice AN nn cN] 23)).cell? ⟨w.heap.size, 0, none⟩ = some (.pointer (some ⟨S, 0, none⟩)) := by rw [HW1.out]; exact K1.out.cell 0
  have BD := Lib.hid (show Below w1.heap.size w1 w1.drew from (Below.refl _ _).drew)
  have HLI := Lib.hid (list_any (S1.out.below BD.out))
  have HSS := Lib.hid (show ∀ W', Below w1.heap.size w1 W' → (World.cell? W' ⟨w.heap.size, 0, none⟩ = some (.pointer (some ⟨S, 0, none⟩)) ∧ World.cell? W' ⟨S, 0, none⟩ = some (.pointer (some ⟨T, 0, none⟩))) from fun W' hb =>
    ⟨(K1.out.below hb K1.out.lt).cell 0, (S1.out.below hb).set.cell 0⟩)
  have HCL := Lib.hid (show ∀ W', Below w1.heap.size w1 W' → ∀ x : Int, Calls Try.prog 32 #[.int .i64 x, .pointer (some ⟨w.heap.size + 1, 0, none⟩), .pointer (some ⟨w.heap.size, 0, none⟩)] W' fun o w' => o = .returned (.bool (N.any (askB m x))) ∧ Below W'.heap.size W' w' from fun W' hb x =>
    clo1_any (S1.out.below hb) (w.heap.size + 1) w.heap.size AN cN N x (by rw [← hnn]; exact (K2.out.below hb K2.out.lt).cell 0) ((K1.out.below hb K1.out.lt).cell 0) ((hr.below BA.out).below hb) hN hc1 hc2)
  have HDL := Lib.hid (domL_len m W 4 m.length)
  have s0 := HSS.out _ BD.out
  rw [← hnn]
  clear h hr hnn hw1
  go_enter Try.func20, Try.ntmps20
  go_wp2_with fail
  rw [HW1.out]
  refine HE.out.mono ?_
  rintro o w2 ⟨rfl, rfl⟩
  go_wp2_with fail
  go_region_held3 (fun W' => World.cell? W' ⟨w.heap.size, 0, none⟩ = some (.pointer (some ⟨S, 0, none⟩)) ∧ World.cell? W' ⟨S, 0, none⟩ = some (.pointer (some ⟨T, 0, none⟩))) (first | with_reducible assumption)
    (first
      | (go_at_call 11
         (with_reducible refine HLI.out.mono ?_)
         rintro o wA ⟨vA, rfl, ho, hb⟩
         have BB := Lib.hid (BD.out.trans (hb.mono BD.out.size))
         have sA := HSS.out _ BB.out
         have HO := Lib.hid ho
         have HDE := Lib.hid (del_own ho hb (fun W' hb' => HCL.out W' (BD.out.trans hb')) (by have := HDL.out; omega))
         clear ho hb)
      | (go_at_call 31
         (with_reducible refine HDE.out.mono ?_)
         rintro o wB ⟨vB, rfl, hvB, hb⟩
         have BC := Lib.hid (BD.out.trans hb)
         have sB := HSS.out _ BC.out
         obtain ⟨A2, c2, rfl, n1, n2, n3⟩ := hvB
         have HNW := Lib.hid (new_any (S1.out.below BC.out).tree hm60 A2 c2 (wout m W N) n3 (Nat.le_trans (List.length_filter_le _ _) (Nat.le_trans HDL.out (by omega))) n1 n2)
         clear hb n3)
      | (go_at_call 9
         (with_reducible refine HNW.out.mono ?_)
         rintro o wC ⟨rfl, hs, hz⟩
         have BE := Lib.hid (BC.out.trans (hs.bel.mono BC.out.size))
         have sC := HSS.out _ BE.out
         have SX := Lib.hid (setOk_of hs (S1.out.below BC.out).tree)
         clear hs hz))
  all_goals go_wp2_with fail
  all_goals go_ret
  all_goals exact ⟨_, rfl, SX.out, BA.out.trans (BE.out.mono BA.out.size)⟩
end Go.Proofs.Ytlihgiannfpjfaa.eliK
