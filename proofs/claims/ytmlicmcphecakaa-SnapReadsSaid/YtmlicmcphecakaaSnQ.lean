/- Layer 44: what reading tells, beside any ops. -/
import Derived.Test.YtmlicmcphecakaaSnP
import Derived.Test.YtmlicmcphecakaaSnM
namespace Go.Proofs.Ytmlicmcphecakaa.snQ
open Go.ChangeShapes Go.WideShapes Go.ChangeAt Go.RowKit
open Go.Proofs.Ytmlicmcphecakaa.base Go.Proofs.Ytmlicmcphecakaa.octA Go.Proofs.Ytmlicmcphecakaa.octB Go.Proofs.Ytmlicmcphecakaa.octC Go.Proofs.Ytmlicmcphecakaa.octF Go.Proofs.Ytmlicmcphecakaa.octK Go.Proofs.Ytmlicmcphecakaa.net Go.Proofs.Ytmlicmcphecakaa.rdrA Go.Proofs.Ytmlicmcphecakaa.snA Go.Proofs.Ytmlicmcphecakaa.snB Go.Proofs.Ytmlicmcphecakaa.snC Go.Proofs.Ytmlicmcphecakaa.snD Go.Proofs.Ytmlicmcphecakaa.snE Go.Proofs.Ytmlicmcphecakaa.snF Go.Proofs.Ytmlicmcphecakaa.snG Go.Proofs.Ytmlicmcphecakaa.snH Go.Proofs.Ytmlicmcphecakaa.snI Go.Proofs.Ytmlicmcphecakaa.snJ Go.Proofs.Ytmlicmcphecakaa.snK Go.Proofs.Ytmlicmcphecakaa.snL Go.Proofs.Ytmlicmcphecakaa.snM Go.Proofs.Ytmlicmcphecakaa.snN Go.Proofs.Ytmlicmcphecakaa.snO Go.Proofs.Ytmlicmcphecakaa.snP
set_option linter.unusedVariables false

theorem opB_re {a b : Ob} (h : Ob.re a = Ob.re b) : opB a = opB b ∧ (a.right ↔ b.right) ∧ a.bs = b.bs ∧ a.nm = b.nm := by
  unfold Ob.re at h
  simp only [Prod.mk.injEq] at h
  obtain ⟨h1, h2, h3, h4, h5, h6⟩ := h
  unfold opB Ob.right
  rw [h1, h2, h3, h4, h5, h6]
  exact ⟨rfl, Iff.rfl, rfl, rfl⟩
theorem opsB_re : ∀ {L m : List Ob}, L.map Ob.re = m.map Ob.re → opsB L = opsB m ∧ L.length = m.length := by
  intro L
  induction L with
  | nil => intro m h; cases m with | nil => exact ⟨rfl, rfl⟩ | cons a t => cases h
  | cons x L ih =>
    intro m h
    cases m with
    | nil => cases h
    | cons y m =>
      rw [List.map_cons, List.map_cons] at h
      injection h with h1 h2
      obtain ⟨e1, e2⟩ := ih h2
      refine ⟨?_, by rw [List.length_cons, List.length_cons, e2]⟩
      show opB x ++ opsB L = opB y ++ opsB m
      rw [e1, (opB_re h1).1]
theorem allO_re {L m : List Ob} (h : L.map Ob.re = m.map Ob.re) : allO L = allO m := by
  obtain ⟨e1, e2⟩ := opsB_re h
  unfold allO
  rw [e1, e2]
theorem mem_re {L m : List Ob} (h : L.map Ob.re = m.map Ob.re) {o : Ob} (ho : o ∈ L) : ∃ x ∈ m, Ob.re x = Ob.re o := by
  have h1 : Ob.re o ∈ m.map Ob.re := h ▸ List.mem_map_of_mem ho
  rw [List.mem_map] at h1
  exact h1
theorem allO_len (l : List Ob) : (allO l).length = 8 + (opsB l).length := by
  unfold allO
  rw [List.length_append, List.length_append, pb_len]
  rfl
theorem opsB_low (l : List Ob) : 15 * l.length ≤ (opsB l).length ∧ ∀ o ∈ l, o.bs.length ≤ (opsB l).length := by
  induction l with
  | nil => exact ⟨Nat.zero_le _, fun o ho => by cases ho⟩
  | cons x l ih =>
    have e : opsB (x :: l) = opB x ++ opsB l := rfl
    rw [e, List.length_append, opB_len, List.length_cons]
    refine ⟨by have := ih.1; omega, fun o ho => ?_⟩
    rcases List.mem_cons.mp ho with rfl | h
    · omega
    · have := ih.2 o h; omega
theorem allO_take (l : List Ob) : (allO l).take 4 = Magic := by
  unfold allO Magic
  rw [List.append_assoc, List.take_append_of_le_length (by simp)]
  rfl
/-- What any bytes are, beside any ops. -/
def ReadLaw (w : World) (bl : List Int) (m : List Ob) (o : Ending) (w' : World) : Prop :=
  ∃ v e L, o = .returned (.tuple #[v, .int .i64 e]) ∧ Below w.heap.size w w' ∧ Kn e ∧ (e = 0 → Got w' (w.heap.size + 1) v L ∧ (∀ x ∈ L, x.right) ∧ allO L = bl ∧ Wf L) ∧ (e ≠ 0 → v = .slice none 0 0 ∧ ¬ (allR m = true ∧ allO m = bl)) ∧ (bl.length < 4 → e = 2) ∧ (4 ≤ bl.length → bl.take 4 ≠ Magic → e = 4)
theorem read_law (A : Option Addr) (n c : Nat) (bl : List Int) (m : List Ob) (w : World) (h : BytesIn w A n c bl) (hn : bl.length ≤ 600) (hu : U8 bl) (hm : m.length ≤ 40) (hb : ∀ o ∈ m, o.bs.length ≤ 600 ∧ U8 o.bs) :
    Calls Try.prog 10 #[.slice A n c] w (ReadLaw w bl m) := by
  by_cases hA : allR m = true ∧ allO m = bl
  · obtain ⟨hr, rfl⟩ := hA
    have hr' := (allR_iff m).mp hr
    have h8 : 8 ≤ (allO m).length := by rw [allO_len]; omega
    rcases h with ⟨h0, _⟩ | ⟨b, off, rfl, h1, h2, h3, h4, h5⟩
    · rw [h0] at h8; simp at h8
    · refine (read_ops b off n c m w h3.symm h4 h5 h1 h2 hm hr' (fun o ho => (hb o ho).1) (fun o ho => opB_u8 o (hb o ho).2)).mono ?_
      rintro o w' ⟨hbw, v, L, rfl, hre, hg⟩
      refine ⟨v, 0, L, rfl, hbw, .inl rfl, fun _ => ⟨hg, fun x hx => ?_, allO_re hre, fun x hx => ?_⟩, fun h => absurd rfl h, fun h => by omega, fun _ h9 => absurd (allO_take m) h9⟩
      · obtain ⟨y, hy, e⟩ := mem_re hre hx
        exact (opB_re e).2.1.mp (hr' y hy)
      · obtain ⟨y, hy, e⟩ := mem_re hre hx
        obtain ⟨_, _, e3, e4⟩ := opB_re e
        have := hr' y hy
        unfold Ob.right RightP at this
        rw [← e3, ← e4]
        exact ⟨(hb y hy).2, by omega⟩
  · refine (read_all A n c bl w h hn hu).mono ?_
    rintro o w' ⟨v, e, L, rfl, h1, h2, h3, h4, h5, h6⟩
    exact ⟨v, e, L, rfl, h1, h2, h3, fun he => ⟨h4 he, hA⟩, h5, h6⟩
theorem got_in {w : World} {B : Nat} {A : Option Addr} {n c : Nat} {L : List Ob} {bl : List Int} (h : Got w B (.slice A n c) L) (hl : L.length = n) (hr : ∀ x ∈ L, x.right) (ha : allO L = bl) (hb : bl.length ≤ 600) (hw : Wf L) : OpsB w A L ∧ L.length ≤ 40 := by
  have e := allO_len L
  rw [ha] at e
  obtain ⟨e1, e2⟩ := opsB_low L
  refine ⟨opsB_of_row (hl ▸ h.row) hl.symm fun o ho => ⟨own_row (h.els o ho), fun hA => ?_, by have := e2 o ho; omega, (own_cap (h.els o ho)).1, (own_cap (h.els o ho)).2, by have := (hw o ho).2; omega, (hw o ho).1⟩, by omega⟩
  rcases (h.els o ho).2 with ⟨hv, h0⟩ | ⟨g, cap, cur, hv, _⟩
  · injection hv
  · injection hv with h1
    rw [hA] at h1
    cases h1
end Go.Proofs.Ytmlicmcphecakaa.snQ
