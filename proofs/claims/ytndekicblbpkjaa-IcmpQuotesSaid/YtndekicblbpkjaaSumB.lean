/- Layer 4: sums of bytes. -/
import Derived.Test.YtndekicblbpkjaaSumA
import Derived.Test.YtndekicblbpkjaaRow
import Derived.Test.YtndekicblbpkjaaMem
namespace Go.Proofs.Ytndekicblbpkjaa.sumB
open Go.ChangeShapes Go.WideShapes Go.ChangeAt Go.RowKit
open Go.Proofs.Ytndekicblbpkjaa.base Go.Proofs.Ytndekicblbpkjaa.sumA
set_option linter.unusedVariables false

/-- The words of bytes, added. -/
def wsum : List Int → Int
  | [] => 0
  | [a] => 256 * a
  | a :: b :: r => 256 * a + b + wsum r
def even (l : List Int) : Bool := l.length % 2 == 0
theorem wsum_snoc : ∀ (l : List Int) (x : Int), wsum (l ++ [x]) = wsum l + if even l then 256 * x else x
  | [], x => by simp [wsum, even]
  | [a], x => by simp [wsum, even]
  | a :: b :: r, x => by
    have h := wsum_snoc r x
    have e : even (a :: b :: r) = even r := by
      simp only [even, List.length_cons]
      congr 1
      omega
    simp only [List.cons_append, wsum, h, e]
    omega
theorem even_snoc (l : List Int) (x : Int) : even (l ++ [x]) = !even l := by
  simp only [even, List.length_append, List.length_cons, List.length_nil]
  rcases Nat.mod_two_eq_zero_or_one l.length with h | h
  · have h2 : (l.length + (0 + 1)) % 2 = 1 := by omega
    rw [h, h2]; rfl
  · have h2 : (l.length + (0 + 1)) % 2 = 0 := by omega
    rw [h, h2]; rfl
theorem wsum_bd : ∀ (l : List Int), (∀ x ∈ l, 0 ≤ x ∧ x ≤ 255) → 0 ≤ wsum l ∧ wsum l ≤ l.length * 65280
  | [], _ => by simp [wsum]
  | [a], h => by
    have := h a (by simp)
    simp [wsum]; omega
  | a :: b :: r, h => by
    have h1 := h a (by simp)
    have h2 := h b (by simp)
    have h3 := wsum_bd r (fun x hx => h x (by simp [hx]))
    simp only [wsum, List.length_cons]
    omega

/-- One part: where it lies, its room, its bytes. -/
structure Part where
  a : Option Addr
  c : Nat
  l : List Int
def Part.val (p : Part) : Value := .slice p.a p.l.length p.c
def Part.ok (p : Part) (w : World) (B : Nat) : Prop := Row w B p.a (p.l.map (.int .u8)) ∧ (∀ x ∈ p.l, 0 ≤ x ∧ x ≤ 255)
def flat (ps : List Part) : List Int := (ps.map (·.l)).flatten

theorem flat_snoc (ps : List Part) (k : Nat) (h : k < ps.length) : flat (ps.take (k + 1)) = flat (ps.take k) ++ (ps[k]).l := by
  unfold flat
  rw [List.take_succ_eq_append_getElem h, List.map_append, List.flatten_append]
  simp only [List.map_cons, List.map_nil, List.flatten_cons, List.flatten_nil, List.append_nil]
theorem flat_take_len (ps : List Part) (k : Nat) : (flat (ps.take k)).length ≤ (flat ps).length := by
  have : flat ps = flat (ps.take k) ++ flat (ps.drop k) := by
    unfold flat
    rw [← List.flatten_append, ← List.map_append, List.take_append_drop]
  rw [this, List.length_append]; omega
theorem flat_mem {ps : List Part} {w : World} {B : Nat} (h : ∀ p ∈ ps, p.ok w B) : ∀ x ∈ flat ps, 0 ≤ x ∧ x ≤ 255 := by
  intro x hx
  unfold flat at hx
  rw [List.mem_flatten] at hx
  obtain ⟨l, hl, hx⟩ := hx
  rw [List.mem_map] at hl
  obtain ⟨p, hp, rfl⟩ := hl
  exact (h p hp).2 x hx
theorem of_any (A : Option Addr) (n c : Nat) (ps : List Part) (w : World) (B : Nat) (hn : ps.length = n) (hn2 : n ≤ 1000) (hlen : (flat ps).length ≤ 1099511627776)
    (hr : Row w B A (ps.map Part.val)) (hp : ∀ p ∈ ps, p.ok w B) :
    Calls Try.prog 100 #[.slice A n c] w fun e w' => e = .returned (.int .u16 (fo (wsum (flat ps)))) ∧ w = w' := by
  have HR := Lib.hid hr
  have HN := Lib.hid hn
  have HP := Lib.hid hp
  have HL := Lib.hid hlen
  clear hr hn hp hlen
  go_enter Try.func100, Try.ntmps100
  go_wp2
  go_loop [3, 4, 6, 8, 11] (fun s h p b i => ∃ k : Nat, k ≤ n ∧ i = .int .i64 k ∧ s = .int .u64 (wsum (flat (ps.take k))) ∧ h = .bool (even (flat (ps.take k)))) (fun _ _ _ _ i => n - (intOf i).toNat)
  case atStart => exact ⟨0, by omega, rfl, rfl, rfl⟩
  case round =>
    obtain ⟨k, hk, rfl, rfl, rfl⟩ := hrel
    by_cases hlt : k < n
    · have hkl : k < ps.length := by rw [HN.out]; exact hlt
      obtain ⟨b, off, rfl, hbl, hc⟩ := HR.out.at_ (by intro h; simp at h; rw [h] at hkl; simp at hkl)
      have hcell : w.cell? ⟨b, off + k, none⟩ = some (.slice (ps[k]).a (ps[k]).l.length (ps[k]).c) := hc k _ (by simp [hkl, Part.val])
      have hok := HP.out ps[k] (List.getElem_mem hkl)
      have hfs := flat_snoc ps k hkl
      have hfl := Nat.le_trans (flat_take_len ps (k + 1)) HL.out
      have hfm := flat_mem (ps := ps.take (k + 1)) (fun p hp => HP.out p (List.mem_of_mem_take hp))
      rw [hfs] at hfl hfm
      have HFS := Lib.hid hfs
      clear hc hfs
      generalize ps[k] = q at *
      generalize flat (ps.take k) = P at *
      obtain ⟨qa, qc, ql⟩ := q
      obtain ⟨hq, -⟩ := hok
      simp only at hq hfl hfm hcell
      have HQ := Lib.hid hq
      have HM := Lib.hid hfm
      have hql : ql.length ≤ 1099511627776 := by simp at hfl; omega
      have HFL := Lib.hid hfl
      clear hq hfl hfm
      generalize hm : ql.length = m at *
      have HMM := Lib.hid hm
      clear hm
      go_wp2_with fail
      go_loop [3, 4, 8, 17] (fun s h x i => ∃ j : Nat, j ≤ m ∧ i = .int .i64 j ∧ s = .int .u64 (wsum (P ++ ql.take j)) ∧ h = .bool (even (P ++ ql.take j))) (fun _ _ _ i => m - (intOf i).toNat)
      case atStart => exact ⟨0, by omega, rfl, by simp, by simp⟩
      case round =>
        obtain ⟨j, hj, rfl, rfl, rfl⟩ := hrel
        by_cases hjm : j < m
        · have hjl : j < ql.length := by rw [HMM.out]; exact hjm
          obtain ⟨b2, off2, rfl, hbl2, hc2⟩ := HQ.out.at_ (by intro h; simp at h; rw [h] at hjl; simp at hjl)
          have hcell2 : w.cell? ⟨b2, off2 + j, none⟩ = some (.int .u8 (ql[j])) := hc2 j _ (by simp [hjl])
          have hx := HM.out ql[j] (by simp)
          have hw := wsum_snoc (P ++ ql.take j) ql[j]
          have he := even_snoc (P ++ ql.take j) ql[j]
          have hap : (P ++ ql.take j) ++ [ql[j]] = P ++ ql.take (j + 1) := by rw [List.append_assoc, ← List.take_succ_eq_append_getElem hjl]
          rw [hap] at hw he
          have hbd := wsum_bd (P ++ ql.take j) (fun x hx => HM.out x (by
            rw [List.mem_append] at hx ⊢
            exact hx.imp id List.mem_of_mem_take))
          have hln : (P ++ ql.take j).length ≤ 1099511627776 := by
            have := HFL.out
            rw [List.length_append] at this ⊢
            rw [List.length_take]; omega
          have hb1 : wsum (P ++ ql.take j) ≤ 1099511627776 * 65280 := by omega
          have hb0 := hbd.1
          have HW := Lib.hid hw
          have HE := Lib.hid he
          clear hw he hap hbd hln hc2
          obtain ⟨x0, x1⟩ := hx
          generalize ql[j] = x at *
          generalize wsum (P ++ ql.take j) = s0 at *
          have ex : IntKind.u64.wrap x = x := by rw [IntKind.wrap_u64]; omega
          cases hev : even (P ++ ql.take j)
          · have HEV := Lib.hid hev
            clear hev
            go_wp2_with fail
            go_round
            case rel => exact ⟨j + 1, by omega, by go_num, by rw [HW.out, HEV.out]; rfl, by rw [HE.out, HEV.out]; rfl⟩
            case measure => simp [intOf]; omega
          · have HEV := Lib.hid hev
            clear hev
            go_wp2_with fail
            go_round
            case rel => exact ⟨j + 1, by omega, by go_num, by rw [HW.out, HEV.out]; simp; omega, by rw [HE.out, HEV.out]; rfl⟩
            case measure => simp [intOf]; omega
        · have hjj : ql.take j = ql := List.take_of_length_le (by rw [HMM.out]; omega)
          have HJ := Lib.hid hjj
          clear hjj
          go_wp2_with fail
          go_round
          case rel => exact ⟨k + 1, by omega, by go_num, by rw [HFS.out, HJ.out], by rw [HFS.out, HJ.out]⟩
          case measure => simp [intOf]; omega
    · have hkk : ps.take k = ps := List.take_of_length_le (by rw [HN.out]; omega)
      have HK := Lib.hid hkk
      have hbd := wsum_bd (flat ps) (flat_mem HP.out)
      have hll := HL.out
      have hb0 := hbd.1
      have hb1 : wsum (flat ps) ≤ 1099511627776 * 65280 := by omega
      rw [hkk]
      clear hkk hbd hll
      go_wp2_with (go_at_call 104; refine (fold_any _ (by omega) (by omega) _).mono ?_; rintro e w' ⟨rfl, rfl⟩)
      go_ret
      exact ⟨rfl, rfl⟩
end Go.Proofs.Ytndekicblbpkjaa.sumB
