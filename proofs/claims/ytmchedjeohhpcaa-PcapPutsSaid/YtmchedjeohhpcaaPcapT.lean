/- Layer 36: a file's bytes are read as the file, in plain words. -/
import Derived.Test.YtmchedjeohhpcaaPcapN
import Derived.Test.YtmchedjeohhpcaaPcapQ
namespace Go.Proofs.Ytmchedjeohhpcaa.pcapT
open Go.ChangeShapes Go.WideShapes Go.ChangeAt Go.RowKit
open Go.Proofs.Ytmchedjeohhpcaa.base Go.Proofs.Ytmchedjeohhpcaa.pcapA Go.Proofs.Ytmchedjeohhpcaa.pcapB Go.Proofs.Ytmchedjeohhpcaa.pcapC Go.Proofs.Ytmchedjeohhpcaa.pcapD Go.Proofs.Ytmchedjeohhpcaa.pcapE Go.Proofs.Ytmchedjeohhpcaa.pcapF Go.Proofs.Ytmchedjeohhpcaa.pcapG Go.Proofs.Ytmchedjeohhpcaa.pcapI Go.Proofs.Ytmchedjeohhpcaa.pcapJ Go.Proofs.Ytmchedjeohhpcaa.pcapK Go.Proofs.Ytmchedjeohhpcaa.pcapL Go.Proofs.Ytmchedjeohhpcaa.pcapM Go.Proofs.Ytmchedjeohhpcaa.pcapN Go.Proofs.Ytmchedjeohhpcaa.pcapQ
set_option linter.unusedVariables false

theorem wAt_four {n : Nat} (h : n < 4294967296) (y : List Int) : wAt (fourZ n ++ y) 0 = n := by
  have e : wAt (fourZ n ++ y) 0 = wordN ((n : Int) / 16777216 % 256).toNat ((n : Int) / 65536 % 256).toNat ((n : Int) / 256 % 256).toNat ((n : Int) % 256).toNat := rfl
  rw [e]
  unfold wordN
  omega
theorem getD_skip (a y : List Int) (k : Nat) : (a ++ y).getD (a.length + k) 0 = y.getD k 0 := by
  rw [List.getD_eq_getElem?_getD, List.getElem?_append_right (by omega), Nat.add_sub_cancel_left, ← List.getD_eq_getElem?_getD]
theorem wAt_skip (a y : List Int) (k : Nat) : wAt (a ++ y) (a.length + k) = wAt y k := by
  unfold wAt
  rw [getD_skip, Nat.add_assoc, getD_skip, Nat.add_assoc, getD_skip, Nat.add_assoc, getD_skip]
theorem wAt_4 (n : Nat) (y : List Int) (k : Nat) : wAt (fourZ n ++ y) (4 + k) = wAt y k := wAt_skip (fourZ n) y k
theorem byte_four (n : Nat) : Byte (fourZ n) := by
  intro x hx
  simp only [fourZ, List.mem_cons, List.not_mem_nil, or_false] at hx
  rcases hx with rfl | rfl | rfl | rfl <;> omega
theorem Byte.app {a b : List Int} (ha : Byte a) (hb : Byte b) : Byte (a ++ b) := by
  intro x hx
  rcases List.mem_append.mp hx with h | h
  · exact ha x h
  · exact hb x h
theorem body_cons (big : Bool) (e : Rc) (m : List Rc) : bodyB big (e :: m) = fourZ (ordN big e.sec) ++ (fourZ (ordN big e.mic) ++ (fourZ (ordN big e.n) ++ (fourZ (ordN big e.sz) ++ (e.bs ++ bodyB big m)))) := by
  simp [bodyB, wb]
theorem byte_body (big : Bool) (m : List Rc) (h : ∀ e ∈ m, Byte e.bs) : Byte (bodyB big m) := by
  induction m with
  | nil => intro x hx; simp [bodyB] at hx
  | cons e m ih =>
    rw [body_cons]
    exact Byte.app (byte_four _) (Byte.app (byte_four _) (Byte.app (byte_four _) (Byte.app (byte_four _) (Byte.app (h e (List.mem_cons_self ..)) (ih fun x hx => h x (List.mem_cons_of_mem _ hx))))))
theorem dec_body (big : Bool) (m : List Rc) (hok : ∀ e ∈ m, e.sec < 4294967296 ∧ e.mic < 4294967296 ∧ e.sz < 4294967296 ∧ e.n < 4294967296 ∧ e.bs.length = e.n) : dec big (bodyB big m) = some (m.map Rc.re) := by
  induction m with
  | nil => exact dec_nil big
  | cons e m ih =>
    obtain ⟨h1, h2, h3, h4, h5⟩ := hok e (List.mem_cons_self ..)
    have hi := ih fun x hx => hok x (List.mem_cons_of_mem _ hx)
    rw [body_cons]
    obtain ⟨x, hx⟩ : ∃ x, x = fourZ (ordN big e.sec) ++ (fourZ (ordN big e.mic) ++ (fourZ (ordN big e.n) ++ (fourZ (ordN big e.sz) ++ (e.bs ++ bodyB big m)))) := ⟨_, rfl⟩
    have hlen : x.length = 16 + e.n + (bodyB big m).length := by
      rw [hx]
      simp only [List.length_append, fourZ_len, h5]
      omega
    have w0 : wAt x 0 = ordN big e.sec := by rw [hx]; exact wAt_four (ordN_lt big h1) _
    have w4 : wAt x 4 = ordN big e.mic := by rw [hx]; exact (wAt_4 _ _ 0).trans (wAt_four (ordN_lt big h2) _)
    have w8 : wAt x 8 = ordN big e.n := by rw [hx]; exact (wAt_4 _ _ 4).trans ((wAt_4 _ _ 0).trans (wAt_four (ordN_lt big h4) _))
    have w12 : wAt x 12 = ordN big e.sz := by rw [hx]; exact (wAt_4 _ _ 8).trans ((wAt_4 _ _ 4).trans ((wAt_4 _ _ 0).trans (wAt_four (ordN_lt big h3) _)))
    have hp : payN big x = e.n := by unfold payN; rw [w8, ordN_twice big h4]
    have hd16 : x.drop 16 = e.bs ++ bodyB big m := by
      rw [hx]
      rfl
    have hne : x ≠ [] := fun h => by rw [h] at hlen; simp at hlen; omega
    have hns : ¬ shortB big x := by
      unfold shortB
      rw [w8, ordN_twice big h4]
      omega
    have hd : x.drop (e.n + 16) = bodyB big m := by
      rw [Nat.add_comm, ← List.drop_drop, hd16, ← h5, List.drop_left]
    have hr : reOf big x = Rc.re e := by
      unfold reOf Rc.re
      rw [hp, w0, w4, w12, ordN_twice big h1, ordN_twice big h2, ordN_twice big h3, hd16, ← h5, List.take_left]
    rw [← hx, dec_step big x hne hns, hp, hd, hi, hr]
    rfl
def pre (big : Bool) : List Int := fourZ (ordN big 2712847316) ++ (hb big [2, 4] ++ (fourZ (ordN big 0) ++ fourZ (ordN big 0)))
theorem hb_len (big : Bool) : (hb big [2, 4]).length = 4 := by cases big <;> rfl
theorem pre_len (big : Bool) : (pre big).length = 16 := by
  unfold pre
  simp only [List.length_append, fourZ_len, hb_len]
theorem head_pre (big : Bool) (sn link : Nat) : headB big sn link = pre big ++ (fourZ (ordN big sn) ++ fourZ (ordN big link)) := by
  unfold headB pre
  simp only [wb, List.flatMap_cons, List.flatMap_nil, List.append_nil, List.append_assoc]
theorem headZ_pre (big : Bool) : headZ big = pre big := by
  unfold headZ
  rw [head_pre]
  have := List.take_left (l₁ := pre big) (l₂ := fourZ (ordN big 0) ++ fourZ (ordN big 0))
  rw [pre_len] at this
  exact this
theorem head_cons (big : Bool) (sn link : Nat) : headB big sn link = headZ big ++ (fourZ (ordN big sn) ++ fourZ (ordN big link)) := by
  rw [headZ_pre, head_pre]
theorem headZ_len (big : Bool) : (headZ big).length = 16 := by rw [headZ_pre, pre_len]
theorem headZ_magic (big : Bool) (y : List Int) : wAt (headZ big ++ y) 0 = ordN big 2712847316 := by
  rw [headZ_pre]
  unfold pre
  rw [List.append_assoc]
  exact wAt_four (ordN_lt big (by decide)) _
theorem hbz (big : Bool) : hb big [2, 4] = if big then [0, 2, 0, 4] else [2, 0, 4, 0] := by cases big <;> decide
theorem byte_headZ (big : Bool) : Byte (headZ big) := by
  rw [headZ_pre]
  unfold pre
  refine Byte.app (byte_four _) (Byte.app ?_ (Byte.app (byte_four _) (byte_four _)))
  rw [hbz]
  cases big
  · intro x hx
    simp at hx
    omega
  · intro x hx
    simp at hx
    omega
/-- What a file's bytes are, as they are read. -/
structure FileX (big : Bool) (sn link : Nat) (m : List Rc) (X : List Int) : Prop where
  len : 24 ≤ X.length
  h1 : (((ordN true (wAt X 0) : Nat) : Int) == 2712847316) = big
  h2 : ordN big (wAt X 0) = 2712847316
  sn : ordN big (wAt X 16) = sn
  lk : ordN big (wAt X 20) = link
  hd : X.take 16 = headZ big
  dec : dec big (X.drop 24) = some (m.map Rc.re)
  byte : Byte X
theorem fileX (big : Bool) (sn link : Nat) (m : List Rc) (h1 : sn < 4294967296) (h2 : link < 4294967296) (hok : ∀ e ∈ m, e.sec < 4294967296 ∧ e.mic < 4294967296 ∧ e.sz < 4294967296 ∧ e.n < 4294967296 ∧ e.bs.length = e.n) (hb : ∀ e ∈ m, Byte e.bs) :
    FileX big sn link m (headB big sn link ++ bodyB big m) := by
  rw [head_cons, List.append_assoc, List.append_assoc]
  have hw : wAt (headZ big ++ (fourZ (ordN big sn) ++ (fourZ (ordN big link) ++ bodyB big m))) 0 = ordN big 2712847316 := headZ_magic big _
  refine ⟨?_, ?_, ?_, ?_, ?_, ?_, ?_, ?_⟩
  · rw [List.length_append, List.length_append, List.length_append, headZ_len, fourZ_len, fourZ_len]
    omega
  · rw [hw]
    cases big <;> decide
  · rw [hw]
    cases big <;> decide
  · have := wAt_skip (headZ big) (fourZ (ordN big sn) ++ (fourZ (ordN big link) ++ bodyB big m)) 0
    rw [headZ_len] at this
    rw [this, wAt_four (ordN_lt big h1), ordN_twice big h1]
  · have := wAt_skip (headZ big) (fourZ (ordN big sn) ++ (fourZ (ordN big link) ++ bodyB big m)) 4
    rw [headZ_len] at this
    rw [this, (wAt_4 _ _ 0), wAt_four (ordN_lt big h2), ordN_twice big h2]
  · have := List.take_left (l₁ := headZ big) (l₂ := fourZ (ordN big sn) ++ (fourZ (ordN big link) ++ bodyB big m))
    rw [headZ_len] at this
    exact this
  · have e : (headZ big ++ (fourZ (ordN big sn) ++ (fourZ (ordN big link) ++ bodyB big m))).drop 24 = bodyB big m := by
      rw [show (24 : Nat) = (headZ big).length + 8 by rw [headZ_len], ← List.drop_drop, List.drop_left]
      rfl
    rw [e]
    exact dec_body big m hok
  · exact Byte.app (byte_headZ big) (Byte.app (byte_four _) (Byte.app (byte_four _) (byte_body big m hb)))
theorem body_le (big : Bool) (m : List Rc) (h : ∀ e ∈ m, e.bs.length = e.n ∧ e.n ≤ 200) : (bodyB big m).length ≤ 216 * m.length := by
  induction m with
  | nil => exact Nat.le_refl _
  | cons e m ih =>
    have h1 := h e (List.mem_cons_self ..)
    have := ih fun x hx => h x (List.mem_cons_of_mem _ hx)
    rw [body_cons]
    simp only [List.length_append, fourZ_len, List.length_cons]
    omega
/-- Whether files can be that say the same. -/
theorem bad_re {sn : Nat} {l1 l2 : List Rc} (h : l1.map Rc.re = l2.map Rc.re) (h1 : ∀ e ∈ l1, e.bs.length = e.n) (h2 : ∀ e ∈ l2, e.bs.length = e.n) : rightB sn l1 = rightB sn l2 := by
  have hl : l1.length = l2.length := by rw [← List.length_map (f := Rc.re), h, List.length_map]
  have key : ∀ (l1 l2 : List Rc), l1.map Rc.re = l2.map Rc.re → (∀ e ∈ l1, e.bs.length = e.n) → (∀ e ∈ l2, e.bs.length = e.n) → l1.any (Rc.bad sn) = l2.any (Rc.bad sn) := by
    intro l1
    induction l1 with
    | nil => intro l2 h _ _; cases l2 with
      | nil => rfl
      | cons e l => simp at h
    | cons e l ih => intro l2 h h1 h2; cases l2 with
      | nil => simp at h
      | cons e2 l2 =>
        rw [List.map_cons, List.map_cons] at h
        injection h with ha hb
        rw [List.any_cons, List.any_cons, ih l2 hb (fun x hx => h1 x (List.mem_cons_of_mem _ hx)) (fun x hx => h2 x (List.mem_cons_of_mem _ hx))]
        congr 1
        have a1 := h1 e (List.mem_cons_self ..)
        have a2 := h2 e2 (List.mem_cons_self ..)
        unfold Rc.re at ha
        injection ha with x1 x2 x3 x4
        unfold Rc.bad
        rw [← a1, ← a2, x2, x3, x4]
  unfold rightB
  rw [hl, key l1 l2 h h1 h2]
end Go.Proofs.Ytmchedjeohhpcaa.pcapT
