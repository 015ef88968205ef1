/- Layer 4: a word put into bytes. -/
import Derived.Test.YtlipemjidjjenaaSumJ
namespace Go.Proofs.Ytlipemjidjjenaa.sumK
open Go.ChangeShapes Go.WideShapes Go.ChangeAt Go.RowKit
open Go.Proofs.Ytlipemjidjjenaa.base Go.Proofs.Ytlipemjidjjenaa.sumA Go.Proofs.Ytlipemjidjjenaa.sumB Go.Proofs.Ytlipemjidjjenaa.sumC Go.Proofs.Ytlipemjidjjenaa.sumH Go.Proofs.Ytlipemjidjjenaa.sumI
set_option linter.unusedVariables false

/-- Bytes with a word at a place. -/
def setw (l : List Int) (p : Nat) (v : Int) : List Int := (l.set p (v / 256)).set (p + 1) (v % 256)
theorem setw_len (l : List Int) (p : Nat) (v : Int) : (setw l p v).length = l.length := by simp [setw]
theorem setw_bd (l : List Int) (p : Nat) (v : Int) (h : ∀ x ∈ l, 0 ≤ x ∧ x ≤ 255) (v0 : 0 ≤ v) (v9 : v ≤ 65535) : ∀ x ∈ setw l p v, 0 ≤ x ∧ x ≤ 255 := by
  intro x hx
  rcases List.mem_or_eq_of_mem_set hx with hx | rfl
  · rcases List.mem_or_eq_of_mem_set hx with hx | rfl
    · exact h x hx
    · omega
  · omega
theorem wsum_setw : ∀ (l : List Int) (k : Nat) (v : Int), 2 * k + 1 < l.length → wsum (setw l (2 * k) v) = wsum l - wd l k + v
  | [], k, v, h => by simp at h
  | [a], k, v, h => by simp at h
  | a :: b :: r, 0, v, h => by
    simp [setw, wsum, wd]
    omega
  | a :: b :: r, k + 1, v, h => by
    have ih := wsum_setw r k v (by simp only [List.length_cons] at h; omega)
    have e : setw (a :: b :: r) (2 * (k + 1)) v = a :: b :: setw r (2 * k) v := by
      simp [setw, Nat.mul_add]
    have e2 : wd (a :: b :: r) (k + 1) = wd r k := by simp [wd, Nat.mul_add]
    rw [e, e2]
    simp only [wsum, ih]
    omega
theorem wd_setw_same (l : List Int) (k : Nat) (v : Int) (h : 2 * k + 1 < l.length) : wd (setw l (2 * k) v) k = v := by
  have h0 : (setw l (2 * k) v).getD (2 * k) 0 = v / 256 := by
    rw [List.getD_eq_getElem?_getD]
    unfold setw
    rw [List.getElem?_set_ne (by omega), List.getElem?_set_self (by omega)]
    rfl
  have h1 : (setw l (2 * k) v).getD (2 * k + 1) 0 = v % 256 := by
    rw [List.getD_eq_getElem?_getD]
    unfold setw
    rw [List.getElem?_set_self (by rw [List.length_set]; omega)]
    rfl
  unfold wd
  rw [h0, h1]
  omega
theorem wd_setw_ne (l : List Int) (k j : Nat) (v : Int) (h : j ≠ k) : wd (setw l (2 * k) v) j = wd l j := by
  have h0 : ∀ i, i = 2 * j ∨ i = 2 * j + 1 → (setw l (2 * k) v).getD i 0 = l.getD i 0 := by
    intro i hi
    rw [List.getD_eq_getElem?_getD, List.getD_eq_getElem?_getD]
    unfold setw
    rw [List.getElem?_set_ne (by omega), List.getElem?_set_ne (by omega)]
  unfold wd
  rw [h0 _ (.inl rfl), h0 _ (.inr rfl)]

theorem put_any (A : Option Addr) (n c : Nat) (l : List Int) (w : World) (p : Nat) (v : Int) (hl : l.length = n) (hn : n ≤ 1000) (hr : Row w w.heap.size A (l.map (.int .u8))) (hA : A = none → c = 0) (hp : p + 1 < n) (v0 : 0 ≤ v) (v9 : v ≤ 65535) :
    Calls Try.prog 59 #[.slice A n c, .int .i64 p, .int .i64 v] w fun e w' => ∃ g cap, e = .returned (.slice (some ⟨g, 0, none⟩) n cap) ∧ w'.ownsRow w.heap.size 5 1 (.slice (some ⟨g, 0, none⟩) n cap) n ((setw l p v).map (.int .u8)) ∧ Below w.heap.size w w' := by
  obtain ⟨i0, hi0, hz0, hz1, hz2⟩ := info_parts info_u8
  have HI0 := Lib.hid hi0
  have HZ0 := Lib.hid hz0
  have HZ1 := Lib.hid hz1
  have HZ2 := Lib.hid hz2
  have R1 := Lib.hid hr
  have L1 := Lib.hid hl
  have Z1 := Lib.hid hA
  have ONE : Hid (∀ u ∈ l.map (Value.int .u8), u.oneCell' = true) := Lib.hid (by
    intro u hu
    rw [List.mem_map] at hu
    obtain ⟨x, _, rfl⟩ := hu
    rfl)
  have q1 : IntKind.i64.wrap ((p : Int) + 1) = (p + 1 : Nat) := by rw [IntKind.wrap_i64]; omega
  have q2 : IntKind.u8.wrap (v / 256) = v / 256 := by rw [IntKind.wrap_u8]; omega
  have q3 : IntKind.u8.wrap (v % 256) = v % 256 := by rw [IntKind.wrap_u8]; omega
  obtain ⟨x0, hx0⟩ : ∃ x, (l.map (Value.int .u8))[p]? = some (.int .u8 x) := ⟨l[p]'(by omega), by simp⟩
  obtain ⟨x1, hx1⟩ : ∃ x, (l.map (Value.int .u8))[p + 1]? = some (.int .u8 x) := ⟨l[p + 1]'(by omega), by simp⟩
  have X0 := Lib.hid hx0
  have X1 := Lib.hid hx1
  clear hi0 hz0 hz1 hz2 hr hl hA hx0 hx1
  go_enter Try.func59, Try.ntmps59
  go_wp2_with (at_builtin; refine wpList_append_row rfl (.tmp 8) (.tmp 9) _ rfl w.heap.size 5 i0 _ 1 Try.underlying63 HI0.out HZ0.out HZ1.out HZ2.out rfl (.slice (some ⟨w.heap.size, 0, none⟩) 0 0) 0 [] rfl (World.ownsRow_lit w #[] 0 (Nat.le_refl _) (by unfold maxLen; omega) rfl) A n c w.heap.size (l.map (.int .u8)) rfl Z1.out (by simp; exact L1.out) (R1.out.below ((Below.refl _ _).alloc (Nat.le_refl _) _)) ONE.out (by unfold maxLen; omega) (by omega) (by simp) ?_; intro va wa owna ga; rw [Nat.zero_add, List.nil_append] at owna; have HBa := Lib.hid (below_grown ((Below.refl _ _).alloc (Nat.le_refl _) _) (World.ownsRow_lit w #[] 0 (Nat.le_refl _) (by unfold maxLen; omega) rfl) (Nat.le_refl _) (by simp) ga); clear ga; obtain ⟨g, cap, rfl, hg0, hg1, hcap, hcm, hcell, hfz⟩ := own_form owna (by omega); have HO := Lib.hid owna; have hc0 := (hcell p (by omega)).trans X0.out; have hc1 := (hcell (p + 1) (by omega)).trans X1.out; have hf0 := hfz p; have hf1 := hfz (p + 1); clear owna hcell hfz)
  go_ret
  refine ⟨g, cap, rfl, ?_, (HBa.out.setCell hg0 _).setCell hg0 _⟩
  have h2 := own_stored (own_stored HO.out p (.int .u8 (v / 256))) (p + 1) (.int .u8 (v % 256))
  have e : ((l.map (Value.int .u8)).set p (.int .u8 (v / 256))).set (p + 1) (.int .u8 (v % 256)) = (setw l p v).map (.int .u8) := by simp [setw, List.map_set]
  rw [e] at h2
  exact h2
end Go.Proofs.Ytlipemjidjjenaa.sumK
