/- Layer 7: bytes with another number in them. -/
import Derived.Test.YtndekicblbpkjaaOctE
import Derived.Laws.CopyOwn
import Derived.Deep.RegionLaw
import Derived.Lib.SliceRun
import Derived.Deep.RegionHeld3
namespace Go.Proofs.Ytndekicblbpkjaa.octF
open Go.ChangeShapes Go.WideShapes Go.ChangeAt Go.RowKit
open Go.Proofs.Ytndekicblbpkjaa.base Go.Proofs.Ytndekicblbpkjaa.octA Go.Proofs.Ytndekicblbpkjaa.octB Go.Proofs.Ytndekicblbpkjaa.octC Go.Proofs.Ytndekicblbpkjaa.octD Go.Proofs.Ytndekicblbpkjaa.octE
set_option linter.unusedVariables false

theorem info1 : (Try.prog.info? 5).map (·.size) = some 1 := by kernel_rfl
def ClonePost (w : World) (n : Nat) (l : List Int) (e : Ending) (w' : World) : Prop :=
  ∃ v', e = .returned v' ∧ w'.ownsRow w.heap.size 5 1 v' n (l.map (.int .u8)) ∧ Below w.heap.size w w' ∧ w.heap.size ≤ w'.heap.size
set_option maxRecDepth 100000 in
theorem clone_big (A : Option Addr) (n c : Nat) (l : List Int) (w : World) (hl : l.length = n) (hn : n ≤ 100000) (hz : A = none → c = 0) (hr : Row w w.heap.size A (l.map (.int .u8))) :
    Calls Try.prog 55 #[.slice A n c] w (ClonePost w n l) := by
  cases A with
  | none =>
    have h0 := row_none hr
    have hl0 : l = [] := by simpa using h0
    subst hl0
    have hn0 : n = 0 := by simpa using hl.symm
    subst hn0
    have hc := hz rfl
    subst hc
    clear hr hz h0 hl
    have q22 : ∀ (w : World) (a : Option Addr) (n c n' c' : Nat), (binOp .eql 22 (.slice a n c) (.slice none n' c')).run Try.prog w = .ok (.bool a.isNone) w := fun w a n c n' c' => Lib.run_eql_slice_nil w _ _ a n c n' c' Try.underlying22
    go_enter Try.func55, Try.ntmps55
    go_wp2_with fail
    go_ret
    exact ⟨_, rfl, World.ownsRow_nil _ _ _ _, Below.refl _ _, Nat.le_refl _⟩
  | some ad =>
    obtain ⟨i0, hi0, hz0, hz1, hz2⟩ := info_parts info_u8
    have HI0 := Lib.hid hi0
    have HZ0 := Lib.hid hz0
    have HZ1 := Lib.hid hz1
    have HZ2 := Lib.hid hz2
    have R1 := Lib.hid hr
    have L1 := Lib.hid hl
    have oneC : ∀ u ∈ l.map (Value.int .u8), u.oneCell' = true := by
      intro u hu
      rw [List.mem_map] at hu
      obtain ⟨x, _, rfl⟩ := hu
      rfl
    have ONE := Lib.hid oneC
    clear hi0 hz0 hz1 hz2 hr hl oneC hz
    have q22 : ∀ (w : World) (a : Option Addr) (n c n' c' : Nat), (binOp .eql 22 (.slice a n c) (.slice none n' c')).run Try.prog w = .ok (.bool a.isNone) w := fun w a n c n' c' => Lib.run_eql_slice_nil w _ _ a n c n' c' Try.underlying22
    go_enter Try.func55, Try.ntmps55
    go_wp2_with (at_builtin; refine wpList_append_row rfl (.tmp 5) (.tmp 6) _ rfl w.heap.size 5 i0 _ 1 Try.underlying22 HI0.out HZ0.out HZ1.out HZ2.out rfl (.slice (some ⟨w.heap.size, 0, none⟩) 0 0) 0 [] rfl (World.ownsRow_lit w #[] 0 (Nat.le_refl _) (by unfold maxLen; omega) rfl) (some ad) n c w.heap.size (l.map (.int .u8)) rfl (by intro h; cases h) (by simp; exact L1.out) (R1.out.below ((Below.refl _ _).alloc (Nat.le_refl _) _)) ONE.out (by unfold maxLen; omega) (by omega) (by simp) ?_; intro va wa owna ga; have HOa := Lib.hid owna; have HBa := Lib.hid (below_grown ((Below.refl _ _).alloc (Nat.le_refl _) _) (World.ownsRow_lit w #[] 0 (Nat.le_refl _) (by unfold maxLen; omega) rfl) (Nat.le_refl _) (by simp) ga); clear owna ga)
    go_ret
    refine ⟨_, rfl, ?_, HBa.out, HBa.out.size⟩
    have := HOa.out
    rwa [Nat.zero_add, List.nil_append] at this
theorem clone_any (A : Option Addr) (n c : Nat) (l : List Int) (w : World) (hl : l.length = n) (hn : n ≤ 1000) (hz : A = none → c = 0) (hr : Row w w.heap.size A (l.map (.int .u8))) :
    Calls Try.prog 55 #[.slice A n c] w (ClonePost w n l) := clone_big A n c l w hl (by omega) hz hr
theorem splice_map (l ys : List Int) (q : Nat) : splice (l.map (Value.int .u8)) q (ys.map (Value.int .u8)) = (splice l q ys).map (Value.int .u8) := by
  simp [splice, List.map_take, List.map_drop]
theorem splice_take {α : Type} (cl cs : List α) (q n : Nat) (h : q + cs.length ≤ n) (hn : n ≤ cl.length) : (splice cl q cs).take n = splice (cl.take n) q cs := by
  have a1 : (cl.take q).length = q := by rw [List.length_take]; omega
  unfold splice
  rw [List.take_append, a1, List.take_of_length_le (by rw [a1]; omega), List.take_append, List.take_of_length_le (by omega : cs.length ≤ n - q), List.take_take, List.drop_take, Nat.min_eq_left (by omega), Nat.sub_sub]
theorem splice_get (l ys : List Int) (q i : Nat) (h : q + ys.length ≤ l.length) : (splice l q ys).getD i 0 = if q ≤ i ∧ i < q + ys.length then ys.getD (i - q) 0 else l.getD i 0 := by
  have a1 : (l.take q).length = q := by rw [List.length_take]; omega
  unfold splice
  rw [List.getD_eq_getElem?_getD, List.getD_eq_getElem?_getD, List.getD_eq_getElem?_getD]
  rcases Nat.lt_or_ge i q with h1 | h1
  · rw [if_neg (by omega), List.getElem?_append_left (by omega), List.getElem?_take, if_pos h1]
  · rw [List.getElem?_append_right (by omega), a1]
    by_cases h2 : i < q + ys.length
    · rw [if_pos ⟨h1, h2⟩, List.getElem?_append_left (by omega)]
    · rw [if_neg (by omega), List.getElem?_append_right (by omega), List.getElem?_drop, show q + ys.length + (i - q - ys.length) = i by omega]
theorem own_splice {w : World} {base g cap n q : Nat} {cl cs xs : List Value} (hg : w.heap[g]? = some (.cells (splice cl q cs).toArray 5 (0, 0))) (hsz : cl.length = cap) (htake : cl.take n = xs) (hnc : n ≤ cap) (hm : cap ≤ maxLen) (hb : base ≤ g) (hfit : q + cs.length ≤ n) :
    w.ownsRow base 5 1 (.slice (some ⟨g, 0, none⟩) n cap) n (splice xs q cs) := by
  subst htake
  refine ⟨?_, .inr ⟨g, cap, _, rfl, hb, hg, hnc, hm, ?_, ?_⟩⟩
  · rw [length_splice _ _ _ (by rw [List.length_take]; omega), List.length_take]; omega
  · simp only [List.size_toArray]; rw [length_splice _ _ _ (by omega)]; omega
  · simp only [Nat.mul_one]; exact splice_take cl cs q n hfit (by omega)
theorem own_split {w : World} {base n : Nat} {v : Value} {xs : List Value} (h : w.ownsRow base 5 1 v n xs) :
    (v = .slice none 0 0 ∧ n = 0) ∨ ∃ g cap cl, v = .slice (some ⟨g, 0, none⟩) n cap ∧ base ≤ g ∧ w.heap[g]? = some (.cells (List.toArray cl) 5 (0, 0)) ∧ n ≤ cap ∧ cap ≤ maxLen ∧ cl.length = cap ∧ cl.take n = xs ∧ g < w.heap.size := by
  rcases h.2 with ⟨rfl, h0⟩ | ⟨g, cap, cur, rfl, hb, hg, hnc, hm, hsz, htake⟩
  · exact .inl ⟨rfl, h0⟩
  · exact .inr ⟨g, cap, cur.toList, rfl, hb, by simpa using hg, hnc, hm, by simpa using hsz, by simpa using htake, (h.lt g rfl).2⟩
set_option maxRecDepth 100000 in
theorem set_no (A : Option Addr) (n c : Nat) (l : List Int) (f z s : Int) (w : World) (hl : l.length = n) (hn : n ≤ 1000) (hz : A = none → c = 0) (hr : Row w w.heap.size A (l.map (.int .u8))) (hno : s < 0 ∨ 8 < s ∨ f < 0 ∨ (n : Int) - s < f) :
    Calls Try.prog 93 #[.slice A n c, .int .i64 f, .int .u64 z, .int .i64 s] w (ClonePost w n l) := by
  have HC := Lib.hid (clone_any A n c l w hl hn hz hr)
  clear hl hz hr
  by_cases h1 : s < 0
  · clear hno
    go_enter Try.func93, Try.ntmps93
    go_wp2_with fail
    refine HC.out.mono ?_
    rintro e w1 ⟨v1, rfl, hown, hbel, hsz⟩
    have HO := Lib.hid hown
    have HB := Lib.hid hbel
    clear hown hbel
    go_wp2_with fail
    go_ret
    exact ⟨_, rfl, HO.out, HB.out, hsz⟩
  by_cases h2 : 8 < s
  · clear hno
    go_enter Try.func93, Try.ntmps93
    go_wp2_with fail
    refine HC.out.mono ?_
    rintro e w1 ⟨v1, rfl, hown, hbel, hsz⟩
    have HO := Lib.hid hown
    have HB := Lib.hid hbel
    clear hown hbel
    go_wp2_with fail
    go_ret
    exact ⟨_, rfl, HO.out, HB.out, hsz⟩
  by_cases h3 : f < 0
  · clear hno
    go_enter Try.func93, Try.ntmps93
    go_wp2_with fail
    refine HC.out.mono ?_
    rintro e w1 ⟨v1, rfl, hown, hbel, hsz⟩
    have HO := Lib.hid hown
    have HB := Lib.hid hbel
    clear hown hbel
    go_wp2_with fail
    go_ret
    exact ⟨_, rfl, HO.out, HB.out, hsz⟩
  have h4 : (n : Int) - s < f := by omega
  have e1 : IntKind.i64.wrap ((n : Int) - s) = (n : Int) - s := IntWalk.i64_in _ (by omega)
  clear hno
  go_enter Try.func93, Try.ntmps93
  go_wp2_with fail
  refine HC.out.mono ?_
  rintro e w1 ⟨v1, rfl, hown, hbel, hsz⟩
  have HO := Lib.hid hown
  have HB := Lib.hid hbel
  clear hown hbel
  go_wp2_with fail
  go_ret
  exact ⟨_, rfl, HO.out, HB.out, hsz⟩
theorem src_of {w : World} {B : Nat} {A : Option Addr} {X : List Value} (h : Row w B A X) : 0 < X.length → ∃ ad, A = some ad ∧ ∀ j v, X[j]? = some v → w.cell? (ad.add j) = some v := by
  intro h0
  obtain ⟨b, off, rfl, _, hc⟩ := h.at_ (by intro h; rw [h] at h0; simp at h0)
  refine ⟨_, rfl, fun j v hv => ?_⟩
  rw [Addr.add_lit]
  exact hc j v hv
theorem step_copy_zero {P : Program} {ops : Array Oper} {o : Oper} {a : Act} {w : World} {K : Act → World → Prop} {Q : Exit → Act → World → Prop} {E : Prop} (hgd : o.guard = none) (d s : Operand) (dT sT : TypeId)
    (ho : o.op = .call { callee := .builtin .copy, args := #[d, s], argTypes := #[dT, sT] }) (elem : TypeId) (hu : P.underlying dT = some (.slice elem)) (hsz : (P.info? elem).map (·.size) = some 1)
    (dp sp : Option Addr) (dLen dCap sLen sCap : Nat) (hd : a.eval d = .slice dp dLen dCap) (hs : a.eval s = .slice sp sLen sCap) (hn : Nat.min sLen dLen = 0)
    (h : K (a.put o.dst (goInt 0)) w) : if Region.wanted o (yielded ops a.tmps) = true then Oper.wp P o a w K Q else E := by
  have hw : Region.wanted o (yielded ops a.tmps) = true := by simp [Region.wanted, hgd]
  rw [if_pos hw]
  have hrun := run_copy_none (P := P) w dT sT o.type elem dp sp dLen dCap sLen sCap hu hsz hn
  unfold Oper.wp
  simp [execOp, ho, resolve, invoke, builtin, hd, hs, hrun, Result.andThen]
  exact h
set_option maxRecDepth 100000 in
set_option maxHeartbeats 1000000 in
theorem set_yes (A : Option Addr) (n c : Nat) (l : List Int) (q k : Nat) (z : Int) (w : World) (hl : l.length = n) (hn : n ≤ 1000) (hz : A = none → c = 0) (hr : Row w w.heap.size A (l.map (.int .u8))) (hk : k ≤ 8) (hq : q + k ≤ n) (z0 : 0 ≤ z) (z1 : z < 18446744073709551616) :
    Calls Try.prog 93 #[.slice A n c, .int .i64 q, .int .u64 z, .int .i64 k] w (ClonePost w n (splice l q (pb z k k))) := by
  have HC := Lib.hid (clone_any A n c l w hl hn hz hr)
  have hhs : hs (k : Int) = k := by unfold hs; omega
  have HP := Lib.hid (fun (w1 w' : World) (hb : Below w1.heap.size w1 w') (hs' : w1.heap.size ≤ w'.heap.size) => put_any (.slice none 0 0) 0 [] z (k : Int) w1.heap.size w1.heap.size w1 w' (World.ownsRow_nil _ _ _ _) hs' (by omega) hb (Nat.le_refl _) z0 z1)
  rw [hhs] at HP
  have e1 : IntKind.i64.wrap ((n : Int) - (k : Int)) = ((n - k : Nat) : Int) := by rw [show (n : Int) - (k : Int) = ((n - k : Nat) : Int) by omega]; exact IntWalk.i64_in _ (by omega)
  have d4 : ¬ (n - k < q) := by omega
  have dq : q ≤ n := by omega
  have hcs : ((pb z k k).map (Value.int .u8)).length = k := by rw [List.length_map, pb_len]
  have HCS := Lib.hid hcs
  have one : ∀ u ∈ (pb z k k).map (Value.int .u8), u.oneCell' = true := by
    intro u hu
    rw [List.mem_map] at hu
    obtain ⟨x, _, rfl⟩ := hu
    rfl
  have ONE := Lib.hid one
  have hml := splice_map l (pb z k k) q
  have HML := Lib.hid hml
  clear hl hz hr hhs hcs one hml
  generalize hX : (pb z k k).map (Value.int .u8) = X at *
  have HX := Lib.hid hX
  clear hX
  go_enter Try.func93, Try.ntmps93
  go_wp2_with fail
  refine HC.out.mono ?_
  rintro e w1 ⟨v1, rfl, hown, hbel, hsz⟩
  rcases own_split hown with ⟨rfl, hn0⟩ | ⟨g, cap, cl, rfl, hg0, hg, hnc, hm, hcl, hct, hgl⟩
  · have hq0 : q = 0 := by omega
    have HK0 := Lib.hid (show k = 0 by omega)
    have HN0 := Lib.hid hn0
    have hl0 := hown.1
    have HLN := Lib.hid hl0
    have HB := Lib.hid hbel
    subst hq0
    clear hown hbel hn0 hl0
    go_wp2_with fail
    go_region_held3 (fun w' => Below w.heap.size w w') (first | exact HB4.out | exact HB3.out | exact HB.out.drew | exact HB.out) (first
      | (go_at_call 45; refine (HP.out w1 w1.drew (Below.refl _ _).drew (Nat.le_refl _)).mono ?_; rintro e w3 ⟨v3, rfl, hown3, hb3, hs3⟩; obtain ⟨A3, c3, rfl⟩ := own_slice hown3; have HB3 := Lib.hid (bel_call HB.out hb3); clear hown3 hb3 hs3)
      | (refine step_copy_zero rfl (.tmp 33) (.tmp 36) _ _ rfl 5 Try.underlying22 info1 none (A3) 0 0 k c3 rfl rfl (by show min _ _ = 0; omega) ?_))
    go_wp2_with fail
    go_ret
    refine ⟨_, rfl, ?_, HB3.out, HB3.out.size⟩
    have h1 : X = [] := List.eq_nil_of_length_eq_zero (by rw [HCS.out, HK0.out])
    rw [← HML.out, h1, HN0.out]
    have h2 : l.map (Value.int .u8) = [] := List.eq_nil_of_length_eq_zero (by rw [HLN.out, HN0.out])
    rw [h2]
    exact World.ownsRow_nil _ _ _ _
  · have HB := Lib.hid hbel
    have HG := Lib.hid hg
    have HT := Lib.hid hct
    have HM := Lib.hid hm
    clear hown hbel hg hct hm
    by_cases hqc : cap = q
    · have HK0 := Lib.hid (show k = 0 by omega)
      have HNQ := Lib.hid (show n = q by omega)
      go_wp2_with fail
      go_region_held3 (fun w' => Below w.heap.size w w') (first | exact HB4.out | exact HB3.out | exact HB.out.drew | exact HB.out) (first
        | (go_at_call 45; refine (HP.out w1 w1.drew (Below.refl _ _).drew (Nat.le_refl _)).mono ?_; rintro e w3 ⟨v3, rfl, hown3, hb3, hs3⟩; obtain ⟨A3, c3, rfl⟩ := own_slice hown3; have HG3 := Lib.hid ((hb3.block g hgl).trans HG.out); have HB3 := Lib.hid (bel_call HB.out hb3); clear hown3 hb3 hs3)
        | (refine step_copy_zero rfl (.tmp 33) (.tmp 36) _ _ rfl 5 Try.underlying22 info1 (some ⟨g, 0, none⟩) A3 (n - q) 0 k c3 rfl rfl (by show min _ _ = 0; omega) ?_))
      go_wp2_with fail
      go_ret
      refine ⟨_, rfl, ?_, HB3.out, HB3.out.size⟩
      have h1 : X = [] := List.eq_nil_of_length_eq_zero (by rw [HCS.out, HK0.out])
      rw [← HML.out]
      refine own_splice (cl := cl) ?_ (by omega) HT.out (by omega) (by rw [← hqc]; exact HM.out) hg0 (by rw [HCS.out]; omega)
      have h3 : splice cl q X = cl := by rw [h1]; simp [splice]
      rw [h3]
      exact HG3.out
    · go_wp2_with fail
      go_region_held3 (fun w' => Below w.heap.size w w') (first | exact HB4.out | exact HB3.out | exact HB.out.drew | exact HB.out) (first
        | (go_at_call 45; refine (HP.out w1 w1.drew (Below.refl _ _).drew (Nat.le_refl _)).mono ?_; rintro e w3 ⟨v3, rfl, hown3, hb3, hs3⟩; obtain ⟨A3, c3, rfl⟩ := own_slice hown3; have HG3 := Lib.hid ((hb3.block g hgl).trans HG.out); have HB3 := Lib.hid (bel_call HB.out hb3); have HSRC := Lib.hid (src_of (X := X) (by have t := own_row hown3; rwa [List.nil_append, HX.out] at t)); clear hown3 hb3 hs3)
        | (refine step_copy_splice rfl (.tmp 33) (.tmp 36) _ _ rfl 5 Try.underlying22 info1 (some ⟨g, q, none⟩) A3 (n - q) (cap - q) k c3 rfl rfl g q cl 5 HG3.out X (by rw [HCS.out]; show k = min _ _; omega) (by intro h0; refine ⟨rfl, ?_⟩; exact HSRC.out h0) (by rw [HCS.out]; omega) ONE.out w.heap.size w ⟨HB3.out.os, HB3.out.tape, HB3.out.output, HB3.out.size, HB3.out.block⟩ hg0 ?_; intro w4 hg4 hb4; have HB4 := Lib.hid hb4; clear hb4))
      go_wp2_with fail
      go_ret
      refine ⟨_, rfl, ?_, HB4.out, HB4.out.size⟩
      rw [← HML.out]
      exact own_splice hg4.out hcl HT.out hnc HM.out hg0 (by rw [HCS.out]; omega)
end Go.Proofs.Ytndekicblbpkjaa.octF
