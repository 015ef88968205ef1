/- Layer 27: a table of flows as a list, the one that was used last first. -/
import Derived.Test.YtboknpkcpeoebaaFlowW
namespace Go.Proofs.Ytboknpkcpeoebaa.flowX
open Go.ChangeShapes Go.WideShapes Go.ChangeAt Go.RowKit
open Go.Proofs.Ytboknpkcpeoebaa.base Go.Proofs.Ytboknpkcpeoebaa.flowA Go.Proofs.Ytboknpkcpeoebaa.flowB Go.Proofs.Ytboknpkcpeoebaa.flowC Go.Proofs.Ytboknpkcpeoebaa.flowD Go.Proofs.Ytboknpkcpeoebaa.flowE Go.Proofs.Ytboknpkcpeoebaa.flowF Go.Proofs.Ytboknpkcpeoebaa.flowG Go.Proofs.Ytboknpkcpeoebaa.flowH Go.Proofs.Ytboknpkcpeoebaa.flowI Go.Proofs.Ytboknpkcpeoebaa.flowL Go.Proofs.Ytboknpkcpeoebaa.flowM Go.Proofs.Ytboknpkcpeoebaa.flowN Go.Proofs.Ytboknpkcpeoebaa.flowO Go.Proofs.Ytboknpkcpeoebaa.flowP Go.Proofs.Ytboknpkcpeoebaa.flowQ Go.Proofs.Ytboknpkcpeoebaa.flowR Go.Proofs.Ytboknpkcpeoebaa.flowS Go.Proofs.Ytboknpkcpeoebaa.flowT Go.Proofs.Ytboknpkcpeoebaa.flowU Go.Proofs.Ytboknpkcpeoebaa.flowV Go.Proofs.Ytboknpkcpeoebaa.flowW
set_option linter.unusedVariables false

section
variable {w : World} {ta r : Nat} {v : Value} {n : Nat} {seed : Int} {l : List Ent}
theorem touch_tab (x : Tup) (h : Tab w ta r v n seed l) (hn : 1 ≤ n) (hn2 : n ≤ 4096) :
    Calls Try.prog 45 #[.pointer (some ⟨ta, 0, none⟩), .agg x.cells] w fun o w' => Frm ta r v w w' ∧ ((o = .returned (.bool false) ∧ Tab w' ta r v n seed l ∧ ∀ e, e ∈ l → e.x ≠ x) ∨ ∃ A e B, l = A ++ e :: B ∧ e.x = x ∧ o = .returned (.bool true) ∧ Tab w' ta r v n seed (e :: (A ++ B))) := by
  obtain ⟨t, L, F, C, hm, hg, hl⟩ := h
  refine (touch_mem x hm hg hn hn2).mono fun o w' ⟨hf, h⟩ => ⟨hf, ?_⟩
  rcases h with ⟨h1, h2, h3⟩ | ⟨A, a, B, hL, hx, h1, h2⟩
  · refine .inl ⟨h1, ⟨t, L, F, C, h2, hg, hl⟩, fun e he => ?_⟩
    rw [hl] at he
    obtain ⟨p, hp, rfl⟩ := List.mem_map.mp he
    exact h3 p hp
  · subst hL
    refine .inr ⟨A.map t.ent, t.ent a, B.map t.ent, by rw [hl]; simp, hx, h1, _, _, _, _, h2, good_touch hg, ?_⟩
    rw [(linkT_keep (unlinkT t a) a).2.2.1, (unlinkT_keep t a).2.2.1]
    simp
theorem remove_tab (x : Tup) (h : Tab w ta r v n seed l) (hn : 1 ≤ n) (hn2 : n ≤ 4096) :
    Calls Try.prog 27 #[.pointer (some ⟨ta, 0, none⟩), .agg x.cells] w fun o w' => Frm ta r v w w' ∧ ((o = .returned (.bool false) ∧ Tab w' ta r v n seed l ∧ ∀ e, e ∈ l → e.x ≠ x) ∨ ∃ A e B, l = A ++ e :: B ∧ e.x = x ∧ o = .returned (.bool true) ∧ Tab w' ta r v n seed (A ++ B)) := by
  obtain ⟨t, L, F, C, hm, hg, hl⟩ := h
  refine (remove_mem x hm hg hn hn2).mono fun o w' ⟨hf, h⟩ => ⟨hf, ?_⟩
  rcases h with ⟨h1, h2, h3⟩ | ⟨A, a, B, y, hL, hx, h1, h2, h4⟩
  · refine .inl ⟨h1, ⟨t, L, F, C, h2, hg, hl⟩, fun e he => ?_⟩
    rw [hl] at he
    obtain ⟨p, hp, rfl⟩ := List.mem_map.mp he
    exact h3 p hp
  · subst hL
    refine .inr ⟨A.map t.ent, t.ent a, B.map t.ent, by rw [hl]; simp, hx, h1, _, _, _, _, h2, good_take hg zeroE _ y rfl h4, ?_⟩
    have hnd := hg.lru.nd
    have ha : a ∉ A ++ B := by
      rw [List.nodup_append] at hnd
      rw [List.mem_append]
      rintro (hm | hm)
      · exact hnd.2.2 a hm a (by simp) rfl
      · exact (List.nodup_cons.mp hnd.2.1).1 hm
    show A.map t.ent ++ B.map t.ent = (A ++ B).map (updF t.ent a zeroE)
    rw [map_upd _ _ _ _ ha, List.map_append]
theorem get_tab (x : Tup) (h : Tab w ta r v n seed l) (hn : 1 ≤ n) (hn2 : n ≤ 4096) :
    Calls Try.prog 25 #[.pointer (some ⟨ta, 0, none⟩), .agg x.cells] w fun o w' => Below w.heap.size w w' ∧ ((o = .returned (.tuple #[.agg zeroE.cells, .bool false]) ∧ ∀ e, e ∈ l → e.x ≠ x) ∨ ∃ e, e ∈ l ∧ e.x = x ∧ o = .returned (.tuple #[.agg e.cells, .bool true])) := by
  obtain ⟨t, L, F, C, hm, hg, hl⟩ := h
  refine (get_mem x hm hg hn hn2).mono fun o w' ⟨hb, h⟩ => ⟨hb, ?_⟩
  rcases h with ⟨h1, h3⟩ | ⟨a, ha, hx, h1⟩
  · refine .inl ⟨h1, fun e he => ?_⟩
    rw [hl] at he
    obtain ⟨p, hp, rfl⟩ := List.mem_map.mp he
    exact h3 p hp
  · exact .inr ⟨t.ent a, by rw [hl]; exact List.mem_map.mpr ⟨a, ha, rfl⟩, hx, h1⟩
theorem len_tab (h : Tab w ta r v n seed l) : Calls Try.prog 44 #[.pointer (some ⟨ta, 0, none⟩)] w fun o w' => o = .returned (.int .i64 l.length) ∧ Below w.heap.size w w' := by
  obtain ⟨t, L, F, C, hm, hg, hl⟩ := h
  have e : (t.size : Int) = (l.length : Int) := by rw [hl, List.length_map, hg.size]
  have := flowI.len_any hm
  rw [e] at this
  exact this
theorem all_tab (h : Tab w ta r v n seed l) (hn : 1 ≤ n) (hn2 : n ≤ 4096) : Calls Try.prog 32 #[.pointer (some ⟨ta, 0, none⟩)] w fun o w' => ∃ v', o = .returned v' ∧ Own w' w.heap.size v' l ∧ Below w.heap.size w w' := by
  obtain ⟨t, L, F, C, hm, hg, hl⟩ := h
  rw [hl]
  exact all_mem hm hg hn hn2
theorem put_tab (e : Ent) (h : Tab w ta r v n seed l) (hn : 1 ≤ n) (hn2 : n ≤ 4096) :
    Calls Try.prog 23 #[.pointer (some ⟨ta, 0, none⟩), .agg e.cells] w fun o w' => ∃ v2, Frm ta r v w w' ∧ (∀ g, v2.ownBlock = some g → v.ownBlock = some g ∨ w.heap.size ≤ g) ∧ ((∃ A e0 B, l = A ++ e0 :: B ∧ e0.x = e.x ∧ o = .returned (.tuple #[.agg zeroE.cells, .bool false]) ∧ Tab w' ta r v2 n seed (e :: (A ++ B))) ∨ ((∀ e0, e0 ∈ l → e0.x ≠ e.x) ∧ l.length < n ∧ o = .returned (.tuple #[.agg zeroE.cells, .bool false]) ∧ Tab w' ta r v2 n seed (e :: l)) ∨ ((∀ e0, e0 ∈ l → e0.x ≠ e.x) ∧ l.length = n ∧ ∃ A e0, l = A ++ [e0] ∧ o = .returned (.tuple #[.agg e0.cells, .bool true]) ∧ Tab w' ta r v2 n seed (e :: A))) := by
  obtain ⟨t, L, F, C, hm, hg, hl⟩ := h
  have hsz : t.size = L.length := hg.size
  have hll : l.length = L.length := by rw [hl, List.length_map]
  have hln : L.length ≤ n := by
    have a := hg.perm.length_eq
    have b := hg.cap
    rw [List.length_append, List.length_range] at a
    omega
  by_cases hold : ∃ p, p ∈ L ∧ (t.ent p).x = e.x
  · refine (put_old e hm hg hn hn2 hold).mono fun o w' ⟨A, a, B, hL, hx, h1, h2, h3⟩ => ⟨v, h3, fun g e => .inl e, .inl ?_⟩
    subst hL
    refine ⟨A.map t.ent, t.ent a, B.map t.ent, by rw [hl]; simp, hx, h1, ?_⟩
    have k3 : (linkT (unlinkT t a) a).ent = t.ent := (linkT_keep (unlinkT t a) a).2.2.1
    have hg2 := good_turn (good_touch hg) a e (by simp) (by rw [k3]; exact hx.symm)
    rw [k3] at hg2
    refine ⟨_, _, _, _, h2, hg2, ?_⟩
    have hnd := (good_touch hg).lru.nd
    show e :: (A.map t.ent ++ B.map t.ent) = updF t.ent a e a :: (A ++ B).map (updF t.ent a e)
    rw [updF_here, map_upd _ _ _ _ (List.nodup_cons.mp hnd).1, List.map_append]
  · have hnew : ∀ p, p ∈ L → (t.ent p).x ≠ e.x := fun p hp ex => hold ⟨p, hp, ex⟩
    have hnewl : ∀ e0, e0 ∈ l → e0.x ≠ e.x := fun e0 he => by
      rw [hl] at he
      obtain ⟨p, hp, rfl⟩ := List.mem_map.mp he
      exact hnew p hp
    by_cases hfull : t.size < n
    · cases F with
      | nil =>
        refine (put_new1 e hm hg hn hn2 hnew hfull rfl).mono fun o w' ⟨h1, v2, h2, h3, h4⟩ => ⟨v2, h3, h4, .inr (.inl ⟨hnewl, by omega, h1, _, _, _, _, h2, good_addNew hg e _ rfl hnew (by omega), ?_⟩)⟩
        show e :: l = (t.np :: L).map (placeT t e _ t.np (t.np + 1) (-1)).ent
        rw [show (placeT t e (rowN n seed e.x) t.np (t.np + 1) (-1)).ent = updF t.ent t.np e from (linkT_keep _ _).2.2.1, List.map_cons, updF_here, map_upd _ _ _ _ (fun hm => Nat.lt_irrefl _ (hg.lt _ (.inl hm))), hl]
      | cons f F =>
        refine (put_new2 e hm hg hn hn2 hnew f F hfull rfl).mono fun o w' ⟨h1, h2, h3⟩ => ⟨v, h3, fun g e => .inl e, .inr (.inl ⟨hnewl, by omega, h1, _, _, _, _, h2, good_addFree hg e _ rfl hnew, ?_⟩)⟩
        have hfL : f ∉ L := by
          have := hg.lf
          rw [List.nodup_append] at this
          exact fun hm => this.2.2 f hm f (by simp) rfl
        rw [show (placeT t e (rowN n seed e.x) f t.np (t.bh f)).ent = updF t.ent f e from (linkT_keep _ _).2.2.1, List.map_cons, updF_here, map_upd _ _ _ _ hfL, hl]
    · have hsn : t.size = n := by omega
      obtain ⟨A, a, hL, _⟩ := last_of hg.lru (fun e => by rw [e] at hsz; simp at hsz; omega)
      refine (put_new3 e hm hg hn hn2 hnew A a hsn hL).mono fun o w' ⟨x, h1, h2, h3, h4⟩ => ⟨v, h4, fun g e => .inl e, .inr (.inr ⟨hnewl, by omega, A.map t.ent, t.ent a, by rw [hl, hL]; simp, h1, ?_⟩)⟩
      subst hL
      have hg1 := good_take hg zeroE _ x rfl h3
      rw [List.append_nil] at hg1
      have haA : a ∉ A := by
        have := hg.lru.nd
        rw [List.nodup_append] at this
        exact fun hm => this.2.2 a hm a (by simp) rfl
      have hent : ∀ p, p ∈ A → (takeT t zeroE (rowN n seed (t.ent a).x) a x).ent p = t.ent p := fun p hp => updF_far _ _ _ _ (fun e => haA (e ▸ hp))
      have hg2 := good_addFree hg1 e _ rfl (fun p hp => by rw [hent p hp]; exact hnew p (by simp [hp]))
      refine ⟨_, _, _, _, h2, hg2, ?_⟩
      rw [show (placeT (takeT t zeroE (rowN n seed (t.ent a).x) a x) e (rowN n seed e.x) a t.np ((takeT t zeroE (rowN n seed (t.ent a).x) a x).bh a)).ent = updF (updF t.ent a zeroE) a e from (linkT_keep _ _).2.2.1, upd_twice, List.map_cons, updF_here, map_upd _ _ _ _ haA]
end
end Go.Proofs.Ytboknpkcpeoebaa.flowX
