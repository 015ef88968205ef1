/- Layer 27: a table of flows, in plain words. -/
import Derived.Test.YtboknpkcpeoebaaFlowA
namespace Go.Proofs.Ytboknpkcpeoebaa.flowB
open Go.Proofs.Ytboknpkcpeoebaa.flowA
set_option linter.unusedVariables false

/-- A table of flows: how many there are, its places, its rows, what is free, which was used last and which longest ago. -/
structure Tb (E : Type) where
  size : Nat
  np : Nat
  ent : Nat → E
  nw : Nat → Int
  od : Nat → Int
  bh : Nat → Int
  rows : Nat → Int
  free : Int
  newest : Int
  oldest : Int
section
variable {E : Type}
def linkT (t : Tb E) (a : Nat) : Tb E :=
  if t.newest = -1 then { t with nw := updF t.nw a (-1), od := updF t.od a t.newest, oldest := a, newest := a }
  else { t with nw := updF (updF t.nw a (-1)) t.newest.toNat a, od := updF t.od a t.newest, newest := a }
def unlinkT (t : Tb E) (a : Nat) : Tb E :=
  { t with nw := outNw t.nw (t.nw a) (t.od a), od := outOd t.od (t.nw a) (t.od a), newest := if t.nw a = -1 then t.od a else t.newest, oldest := if t.od a = -1 then t.nw a else t.oldest }
/-- The places in the order in which they were used, the last one first. -/
structure Lru (t : Tb E) (L : List Nat) : Prop where
  seg : Seg t.nw t.od (-1) L (-1)
  nd : L.Nodup
  hd : t.newest = headZ L (-1)
  tl : t.oldest = lastZ L (-1)
theorem headZ_nil {L : List Nat} (h : headZ L (-1) = -1) : L = [] := by
  cases L with
  | nil => rfl
  | cons a L => have : ((a : Nat) : Int) = -1 := h; omega
theorem lastZ_far (A : List Nat) (x : Int) (h : A ≠ []) (y : Int) : lastZ A x = lastZ A y := by
  cases A with
  | nil => exact absurd rfl h
  | cons a A => rfl
theorem Lru.link {t : Tb E} {L : List Nat} (h : Lru t L) (a : Nat) (ha : a ∉ L) : Lru (linkT t a) (a :: L) := by
  have hn : (a :: L).Nodup := List.nodup_cons.mpr ⟨ha, h.nd⟩
  have hs := seg_in L a h.seg hn
  unfold linkT
  by_cases e : t.newest = -1
  · rw [if_pos e]
    have e2 : L = [] := headZ_nil (h.hd ▸ e)
    subst e2
    refine ⟨?_, hn, rfl, rfl⟩
    show Seg (updF t.nw a (-1)) (updF t.od a t.newest) (-1) [a] (-1)
    exact ⟨updF_here _ _ _, by rw [updF_here]; exact e, trivial⟩
  · rw [if_neg e]
    cases L with
    | nil => exact absurd h.hd e
    | cons b B =>
      have eb : t.newest = (b : Int) := h.hd
      have hab : b ≠ a := fun e2 => ha (by rw [e2]; simp)
      refine ⟨?_, hn, rfl, ?_⟩
      · show Seg (updF (updF t.nw a (-1)) t.newest.toNat a) (updF t.od a t.newest) (-1) (a :: b :: B) (-1)
        have e3 : updF (updF t.nw a (-1)) t.newest.toNat (a : Int) = updF (outNw t.nw (a : Int) (headZ (b :: B) (-1))) a (-1) := by
          funext q
          rw [eb, Int.toNat_natCast]
          show updF (updF t.nw a (-1)) b (a : Int) q = updF (outNw t.nw (a : Int) (b : Int)) a (-1) q
          unfold outNw
          rw [if_neg (by omega), Int.toNat_natCast]
          unfold updF
          by_cases q1 : q = a
          · subst q1
            rw [if_neg (Ne.symm hab), if_pos rfl, if_pos rfl]
          · by_cases q2 : q = b
            · rw [if_pos q2, if_neg q1, if_pos q2]
            · rw [if_neg q2, if_neg q1, if_neg q1, if_neg q2]
        rw [e3, h.hd]
        exact hs
      · show t.oldest = lastZ (a :: b :: B) (-1)
        rw [h.tl]
        rfl
theorem Lru.unlink {t : Tb E} {A B : List Nat} {m : Nat} (h : Lru t (A ++ m :: B)) : Lru (unlinkT t m) (A ++ B) := by
  obtain ⟨e1, e2, hs⟩ := seg_out A B m h.seg h.nd
  refine ⟨hs, ?_, ?_, ?_⟩
  · have := h.nd
    rw [List.nodup_append] at this ⊢
    obtain ⟨a, b, c⟩ := this
    exact ⟨a, (List.nodup_cons.mp b).2, fun x hx y hy => c x hx y (by simp [hy])⟩
  · show (if t.nw m = -1 then t.od m else t.newest) = headZ (A ++ B) (-1)
    rw [e1, e2, h.hd]
    cases A with
    | nil => rfl
    | cons a A =>
      have : lastZ (a :: A) (-1) ≠ -1 := by
        rcases lastZ_cons (a :: A) (-1) with e | ⟨A', c, _, e⟩
        · cases e
        · rw [e]; omega
      rw [if_neg this]
      rfl
  · show (if t.od m = -1 then t.nw m else t.oldest) = lastZ (A ++ B) (-1)
    rw [e1, e2, h.tl, lastZ_app, lastZ_app]
    cases B with
    | nil => rfl
    | cons b B =>
      rw [if_neg (show headZ (b :: B) (-1) ≠ -1 by show ((b : Nat) : Int) ≠ -1; omega)]
      rfl
theorem Lru.touch {t : Tb E} {A B : List Nat} {m : Nat} (h : Lru t (A ++ m :: B)) : Lru (linkT (unlinkT t m) m) (m :: (A ++ B)) := by
  refine (h.unlink).link m ?_
  have := h.nd
  rw [List.nodup_append] at this
  rw [List.mem_append]
  rintro (hm | hm)
  · exact this.2.2 m hm m (by simp) rfl
  · exact (List.nodup_cons.mp this.2.1).1 hm
end
end Go.Proofs.Ytboknpkcpeoebaa.flowB
