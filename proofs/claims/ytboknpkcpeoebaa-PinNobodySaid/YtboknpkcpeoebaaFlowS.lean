/- Layer 27: a flow is used, a flow goes, what is known of a flow. -/
import Derived.Test.YtboknpkcpeoebaaFlowR
namespace Go.Proofs.Ytboknpkcpeoebaa.flowS
open Go.ChangeShapes Go.WideShapes Go.ChangeAt Go.RowKit
open Go.Proofs.Ytboknpkcpeoebaa.base Go.Proofs.Ytboknpkcpeoebaa.flowA Go.Proofs.Ytboknpkcpeoebaa.flowB Go.Proofs.Ytboknpkcpeoebaa.flowC Go.Proofs.Ytboknpkcpeoebaa.flowD Go.Proofs.Ytboknpkcpeoebaa.flowE Go.Proofs.Ytboknpkcpeoebaa.flowF Go.Proofs.Ytboknpkcpeoebaa.flowG Go.Proofs.Ytboknpkcpeoebaa.flowH Go.Proofs.Ytboknpkcpeoebaa.flowI Go.Proofs.Ytboknpkcpeoebaa.flowL Go.Proofs.Ytboknpkcpeoebaa.flowM Go.Proofs.Ytboknpkcpeoebaa.flowN Go.Proofs.Ytboknpkcpeoebaa.flowO Go.Proofs.Ytboknpkcpeoebaa.flowP Go.Proofs.Ytboknpkcpeoebaa.flowQ Go.Proofs.Ytboknpkcpeoebaa.flowR
set_option linter.unusedVariables false

theorem nodup_map {α β : Type} (f : α → β) : ∀ L : List α, L.Nodup → (∀ p, p ∈ L → ∀ q, q ∈ L → f p = f q → p = q) → (L.map f).Nodup
  | [], _, _ => List.nodup_nil
  | a :: L, hn, h => by
    obtain ⟨h1, h2⟩ := List.nodup_cons.mp hn
    refine List.nodup_cons.mpr ⟨fun hm => ?_, nodup_map f L h2 fun p hp q hq => h p (by simp [hp]) q (by simp [hq])⟩
    obtain ⟨b, hb, e⟩ := List.mem_map.mp hm
    exact h1 (h b (by simp [hb]) a (by simp) e ▸ hb)
/-- A table as a list: what is known of each flow, the one that was used last first. -/
def Tab (w : World) (ta r : Nat) (v : Value) (n : Nat) (seed : Int) (l : List Ent) : Prop :=
  ∃ (t : Tb Ent) (L F : List Nat) (C : Nat → List Nat), MemF w ta r v n seed t ∧ GoodF n seed t L F C ∧ l = L.map t.ent
section
variable {w : World} {ta r : Nat} {v : Value} {n : Nat} {seed : Int} {l : List Ent}
theorem Tab.sameB (h : Tab w ta r v n seed l) {w' : World} (hb : ∀ k, (k = ta ∨ k = r ∨ v.ownBlock = some k) → w'.heap[k]? = w.heap[k]?) : Tab w' ta r v n seed l := by
  obtain ⟨t, L, F, C, h1, h2, h3⟩ := h
  exact ⟨t, L, F, C, h1.sameB hb, h2, h3⟩
theorem Tab.far (h : Tab w ta r v n seed l) {w' : World} (hb : Below w.heap.size w w') : Tab w' ta r v n seed l := by
  obtain ⟨t, L, F, C, h1, h2, h3⟩ := h
  exact ⟨t, L, F, C, h1.below hb, h2, h3⟩
theorem Tab.drew (h : Tab w ta r v n seed l) : Tab w.drew ta r v n seed l := h.far (Below.refl _ _).drew
/-- No two flows are the same. -/
theorem Tab.uniq (h : Tab w ta r v n seed l) : (l.map Ent.x).Nodup := by
  obtain ⟨t, L, F, C, h1, h2, h3⟩ := h
  subst h3
  rw [List.map_map]
  exact nodup_map _ L h2.lru.nd (fun p hp q hq e => h2.uniq p hp q hq e)
theorem Tab.len (h : Tab w ta r v n seed l) : l.length ≤ n := by
  obtain ⟨t, L, F, C, h1, h2, h3⟩ := h
  subst h3
  have a := h2.perm.length_eq
  have b := h2.cap
  rw [List.length_append, List.length_range] at a
  rw [List.length_map]
  omega
end
theorem map_keep {α : Type} {f g : Nat → α} (L : List Nat) (h : ∀ q, q ∈ L → g q = f q) : L.map g = L.map f := List.map_congr_left h
set_option maxHeartbeats 1000000 in
theorem touch_mem {w : World} {ta r : Nat} {v : Value} {n : Nat} {seed : Int} {t : Tb Ent} {L F : List Nat} {C : Nat → List Nat} (x : Tup) (h : MemF w ta r v n seed t) (g0 : GoodF n seed t L F C) (hn : 1 ≤ n) (hn2 : n ≤ 4096) :
    Calls Try.prog 45 #[.pointer (some ⟨ta, 0, none⟩), .agg x.cells] w fun e w' => Frm ta r v w w' ∧ ((e = .returned (.bool false) ∧ MemF w' ta r v n seed t ∧ ∀ p, p ∈ L → (t.ent p).x ≠ x) ∨ ∃ A a B, L = A ++ a :: B ∧ (t.ent a).x = x ∧ e = .returned (.bool true) ∧ MemF w' ta r v n seed (linkT (unlinkT t a) a)) := by
  have HG := Lib.hid g0
  have HM1 := Lib.hid (h.alloc (.cells #[.int .i64 x.pr, .bool x.s6, .int .u64 x.sh, .int .u64 x.sl, .bool x.d6, .int .u64 x.dh, .int .u64 x.dl, .int .i64 x.sp, .int .i64 x.dp] 26))
  obtain ⟨w1, hw1⟩ : ∃ w1, w1 = w.alloc (.cells #[.int .i64 x.pr, .bool x.s6, .int .u64 x.sh, .int .u64 x.sl, .bool x.d6, .int .u64 x.dh, .int .u64 x.dl, .int .i64 x.sp, .int .i64 x.dp] 26) := ⟨_, rfl⟩
  rw [← hw1] at HM1
  have HW := Lib.hid (show Below w.heap.size w w1 from hw1 ▸ (Below.refl w.heap.size w).alloc (Nat.le_refl _) _)
  have HFI := Lib.hid (show Calls Try.prog 50 #[.pointer (some ⟨ta, 0, none⟩), .agg #[.int .i64 x.pr, .bool x.s6, .int .u64 x.sh, .int .u64 x.sl, .bool x.d6, .int .u64 x.dh, .int .u64 x.dl, .int .i64 x.sp, .int .i64 x.dp]] w1 fun e w' => ∃ at' : Int, e = .returned (.int .i64 at') ∧ flowN.Found t L x at' ∧ Below w1.heap.size w1 w' from find_any x HM1.out g0 hn hn2)
  unfold Tup.cells
  clear h g0
  go_enter Try.func45, Try.ntmps45
  go_wp2_with fail
  rw [← hw1]
  refine (HFI.out).mono ?_
  rintro e w2 ⟨at', rfl, hfd, hb⟩
  have M2 := Lib.hid (HM1.out.below hb)
  have F2 := Lib.hid (show Frm ta r v w w2 from Frm.of_below (HW.out.trans (hb.mono HW.out.size)))
  clear hb hw1 HFI
  rcases hfd with ⟨rfl, hno⟩ | ⟨a, rfl, haL, hax⟩
  · have HN := Lib.hid hno
    clear hno
    go_wp2_with fail
    go_ret
    exact ⟨F2.out, .inl ⟨rfl, M2.out, HN.out⟩⟩
  · obtain ⟨A, B, hL⟩ := split_at haL
    have ha : a < t.np := HG.out.lt a (.inl haL)
    subst hL
    have hso := seg_out A B a HG.out.lru.seg HG.out.lru.nd
    have HQ := Lib.hid (show t.nw a = -1 ∨ ∃ q : Nat, t.nw a = (q : Int) ∧ q < t.np from by
      rw [hso.1]
      rcases lastZ_cons A (-1) with e | ⟨A', q, e, el⟩
      · exact .inl (by rw [e]; rfl)
      · exact .inr ⟨q, el, HG.out.lt q (.inl (by rw [e]; simp))⟩)
    have HP := Lib.hid (show t.od a = -1 ∨ ∃ q : Nat, t.od a = (q : Int) ∧ q < t.np from by
      rw [hso.2.1]
      cases B with
      | nil => exact .inl rfl
      | cons q B => exact .inr ⟨q, rfl, HG.out.lt q (.inl (by simp))⟩)
    have HNW := Lib.hid (show (unlinkT t a).newest = -1 ∨ ∃ q : Nat, (unlinkT t a).newest = (q : Int) ∧ q < (unlinkT t a).np from by
      rw [(HG.out.lru.unlink).hd]
      cases hAB : A ++ B with
      | nil => exact .inl rfl
      | cons q V =>
        refine .inr ⟨q, rfl, HG.out.lt q (.inl ?_)⟩
        have : q ∈ A ++ B := by rw [hAB]; simp
        rw [List.mem_append] at this
        rcases this with h | h
        · simp [h]
        · simp [h])
    have HX := Lib.hid hax
    clear haL hax hso
    have q0 : ((a : Int) == -1) = false := by simp
    go_wp2_with fail
    refine (flowK.unlink_any a M2.out ha HQ.out HP.out).mono ?_
    rintro e w3 ⟨rfl, hm, hf⟩
    have M3 := Lib.hid hm
    have F3 := Lib.hid (F2.out.then hf)
    clear hm hf
    go_wp2_with fail
    refine (flowJ.link_any a M3.out ha HNW.out).mono ?_
    rintro e w4 ⟨rfl, hm, hf⟩
    have M4 := Lib.hid hm
    have F4 := Lib.hid (F3.out.then hf)
    clear hm hf
    go_wp2_with fail
    go_ret
    exact ⟨F4.out, .inr ⟨A, a, B, rfl, HX.out, rfl, M4.out⟩⟩
set_option maxHeartbeats 1000000 in
theorem remove_mem {w : World} {ta r : Nat} {v : Value} {n : Nat} {seed : Int} {t : Tb Ent} {L F : List Nat} {C : Nat → List Nat} (x : Tup) (h : MemF w ta r v n seed t) (g0 : GoodF n seed t L F C) (hn : 1 ≤ n) (hn2 : n ≤ 4096) :
    Calls Try.prog 27 #[.pointer (some ⟨ta, 0, none⟩), .agg x.cells] w fun e w' => Frm ta r v w w' ∧ ((e = .returned (.bool false) ∧ MemF w' ta r v n seed t ∧ ∀ p, p ∈ L → (t.ent p).x ≠ x) ∨ ∃ A a B y, L = A ++ a :: B ∧ (t.ent a).x = x ∧ e = .returned (.bool true) ∧ MemF w' ta r v n seed (takeT t zeroE (rowN n seed (t.ent a).x) a y) ∧ (t.rows (rowN n seed (t.ent a).x) ≠ (a : Int) → ∃ U V, C (rowN n seed (t.ent a).x) = U ++ y :: a :: V)) := by
  have HG := Lib.hid g0
  have HM1 := Lib.hid (h.alloc (.cells #[.int .i64 x.pr, .bool x.s6, .int .u64 x.sh, .int .u64 x.sl, .bool x.d6, .int .u64 x.dh, .int .u64 x.dl, .int .i64 x.sp, .int .i64 x.dp] 26))
  obtain ⟨w1, hw1⟩ : ∃ w1, w1 = w.alloc (.cells #[.int .i64 x.pr, .bool x.s6, .int .u64 x.sh, .int .u64 x.sl, .bool x.d6, .int .u64 x.dh, .int .u64 x.dl, .int .i64 x.sp, .int .i64 x.dp] 26) := ⟨_, rfl⟩
  rw [← hw1] at HM1
  have HW := Lib.hid (show Below w.heap.size w w1 from hw1 ▸ (Below.refl w.heap.size w).alloc (Nat.le_refl _) _)
  have HFI := Lib.hid (show Calls Try.prog 50 #[.pointer (some ⟨ta, 0, none⟩), .agg #[.int .i64 x.pr, .bool x.s6, .int .u64 x.sh, .int .u64 x.sl, .bool x.d6, .int .u64 x.dh, .int .u64 x.dl, .int .i64 x.sp, .int .i64 x.dp]] w1 fun e w' => ∃ at' : Int, e = .returned (.int .i64 at') ∧ flowN.Found t L x at' ∧ Below w1.heap.size w1 w' from find_any x HM1.out g0 hn hn2)
  unfold Tup.cells
  clear h g0
  go_enter Try.func27, Try.ntmps27
  go_wp2_with fail
  rw [← hw1]
  refine (HFI.out).mono ?_
  rintro e w2 ⟨at', rfl, hfd, hb⟩
  have M2 := Lib.hid (HM1.out.below hb)
  have F2 := Lib.hid (show Frm ta r v w w2 from Frm.of_below (HW.out.trans (hb.mono HW.out.size)))
  clear hb hw1 HFI
  rcases hfd with ⟨rfl, hno⟩ | ⟨a, rfl, haL, hax⟩
  · have HN := Lib.hid hno
    clear hno
    go_wp2_with fail
    go_ret
    exact ⟨F2.out, .inl ⟨rfl, M2.out, HN.out⟩⟩
  · obtain ⟨A, B, hL⟩ := split_at haL
    subst hL
    have HX := Lib.hid hax
    clear haL hax
    have q0 : ((a : Int) == -1) = false := by simp
    go_wp2_with fail
    refine (take_any a M2.out HG.out hn hn2).mono ?_
    rintro e w3 ⟨y, rfl, hm, hy, hf⟩
    have M3 := Lib.hid hm
    have F3 := Lib.hid (F2.out.then hf)
    have HY := Lib.hid hy
    clear hm hf hy
    go_wp2_with fail
    go_ret
    exact ⟨F3.out, .inr ⟨A, a, B, y, rfl, HX.out, rfl, M3.out, HY.out⟩⟩
end Go.Proofs.Ytboknpkcpeoebaa.flowS
