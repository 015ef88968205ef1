/- Layer 44: an op put as bytes. -/
import Derived.Test.YtmlicmcphecakaaSnA
import Derived.Test.YtmlicmcphecakaaSnK
import Derived.Test.YtmlicmcphecakaaRdrA
import Derived.Deep.DeepCutAuto
import Derived.Laws.AppendOwnNone
namespace Go.Proofs.Ytmlicmcphecakaa.snC
open Go.ChangeShapes Go.WideShapes Go.ChangeAt Go.RowKit
open Go.Proofs.Ytmlicmcphecakaa.base Go.Proofs.Ytmlicmcphecakaa.octA Go.Proofs.Ytmlicmcphecakaa.octB Go.Proofs.Ytmlicmcphecakaa.octK Go.Proofs.Ytmlicmcphecakaa.net Go.Proofs.Ytmlicmcphecakaa.snA Go.Proofs.Ytmlicmcphecakaa.snK Go.Proofs.Ytmlicmcphecakaa.rdrA
set_option linter.unusedVariables false

theorem row_none {w : World} {B : Nat} {l : List Int} (h : Row w B none (l.map (.int .u8))) : l = [] := by
  rcases h with h | ⟨b, off, e, _⟩
  · exact List.map_eq_nil_iff.mp h
  · cases e
theorem row_news {w : World} {B : Nat} {ad : Addr} {xs : List Value} (h : Row w B (some ad) xs) : ∀ j u, xs[j]? = some u → w.cell? (ad.add j) = some u := fun j u hu => by
  rcases h with h | ⟨b, off, e, _, hc⟩
  · subst h; cases hu
  · injection e with e
    subst e
    rw [Addr.add_lit]
    exact hc j u hu
theorem hs1 : hs 1 = 1 := by rfl
theorem hs4 : hs 4 = 4 := by rfl
theorem two_row (x y : Int) : (#[Value.int .u64 x, Value.int .u64 y]).toList = [x, y].map (Value.int .u64) := rfl
theorem three_row (x y z : Int) : (#[Value.int .u64 x, Value.int .u64 y, Value.int .u64 z]).toList = [x, y, z].map (Value.int .u64) := rfl
set_option maxHeartbeats 8000000 in
set_option maxRecDepth 100000 in
theorem put_op (v : Value) (m : Nat) (xs : List Value) (o : Ob) (base B : Nat) (a w : World) (hown : w.ownsRow base 5 1 v m xs) (hbase : base ≤ w.heap.size) (hm : m ≤ 500000) (hbel : Below B a w) (hB : B ≤ base) (ho : o.right) (h3 : o.bs.length ≤ 600) (hr : Row a B o.A (o.bs.map (.int .u8))) (hnil : o.A = none → o.c = 0) :
    Calls Try.prog 14 #[v, .agg o.cells] w (PutPostT w base B a m (opB o).length xs (opB o)) := by
  obtain ⟨kind, A, c, bs, nm, host, n, up⟩ := o
  obtain ⟨k0, k1, k2, k3, k4, k5, k6, k7⟩ := ho
  simp only at k0 k1 k2 k3 k4 k5 k6 k7 h3 hr hnil
  obtain ⟨i0, hi0, hz0, hz1, hz2⟩ := info_parts info_u8
  have HI0 := Lib.hid hi0
  have HZ0 := Lib.hid hz0
  have HZ1 := Lib.hid hz1
  have HZ2 := Lib.hid hz2
  obtain ⟨A0, c0, hv⟩ := own_slice hown
  subst hv
  obtain ⟨nb, hnb⟩ : ∃ nb, nb = bs.length := ⟨_, rfl⟩
  obtain ⟨uz, huz⟩ : ∃ uz, uz = upZ up := ⟨_, rfl⟩
  have hu01 : 0 ≤ uz ∧ uz ≤ 1 := by rw [huz]; unfold upZ; split <;> omega
  have HOP := Lib.hid (show opB ⟨kind, A, c, bs, nm, host, n, up⟩ = allb 1 [kind, uz] ++ allb 4 [host, n, (nb : Int)] ++ bs ++ pb (nm.size : Int) 1 1 ++ strZ nm from by rw [huz, hnb]; rfl)
  have HLN := Lib.hid (show (opB ⟨kind, A, c, bs, nm, host, n, up⟩).length = 15 + nb + nm.size from by rw [opB_len, hnb])
  have HNB := Lib.hid hnb
  obtain ⟨p, hp⟩ : ∃ p, p = w.heap.size := ⟨_, rfl⟩
  obtain ⟨w1, hw1⟩ : ∃ w1, w1 = w.alloc (.cells #[.int .i64 kind, .slice A nb c, .string nm, .int .i64 host, .int .i64 n, .bool up] 27) := ⟨_, rfl⟩
  have E1 := Lib.hid hw1
  have EP := Lib.hid hp
  have KP1 := Lib.hid (show Blk w1 p 27 #[.int .i64 kind, .slice A nb c, .string nm, .int .i64 host, .int .i64 n, .bool up] from by rw [hw1, hp]; exact Blk.new w _ _)
  have KB1 := Lib.hid (show Below w.heap.size w w1 from by rw [hw1]; exact (Below.refl _ _).alloc (Nat.le_refl _) _)
  have KO1 := Lib.hid (show w1.ownsRow base 5 1 (.slice A0 m c0) m xs from by rw [hw1]; exact hown.alloc _)
  have KW1 := Lib.hid (show Below B a w1 from hbel.trans (KB1.out.mono (Nat.le_trans hB hbase)))
  have KT1 := Lib.hid (show KT w w1 from (KT.refl w).below KB1.out)
  have KS1 := Lib.hid (show base ≤ w1.heap.size from Nat.le_trans hbase KB1.out.size)
  have HR := Lib.hid hr
  have c1 : w1.cell? ⟨p, 5, none⟩ = some (.bool up) := KP1.out.cell 5
  have c2 : w1.cell? ⟨p, 0, none⟩ = some (.int .i64 kind) := KP1.out.cell 0
  have wk : IntKind.u64.wrap kind = kind := by rw [IntKind.wrap_u64]; omega
  -- the first two numbers
  obtain ⟨w2, hw2⟩ : ∃ w2, w2 = w1.alloc (.cells #[.int .u64 kind, .int .u64 uz] 39) := ⟨_, rfl⟩
  have KB2 := Lib.hid (show Below w1.heap.size w1 w2 from by rw [hw2]; exact (Below.refl _ _).alloc (Nat.le_refl _) _)
  have HAL := Lib.hid (all_t w1.heap.size #[.int .u64 kind, .int .u64 uz] (.slice A0 m c0) m xs 1 2 2 [kind, uz] base B a w2 (by rw [hw2]; exact KO1.out.alloc _) (Nat.le_trans KS1.out KB2.out.size) (by omega) (KW1.out.trans (KB2.out.mono (Nat.le_trans hB KS1.out))) hB rfl (by rw [hw2]; exact Blk.new w1 _ _) (two_row kind uz) (fun x hx => by simp at hx; rcases hx with rfl | rfl <;> omega))
  rw [hs1] at HAL
  have KT2 := Lib.hid (KT1.out.below KB2.out)
  have E2 := Lib.hid hw2
  rw [← hnb] at k2 h3
  have e9 : (⟨kind, A, c, bs, nm, host, n, up⟩ : Ob).cells = #[.int .i64 kind, .slice A nb c, .string nm, .int .i64 host, .int .i64 n, .bool up] := by rw [hnb]; rfl
  rw [e9, HLN.out, HOP.out]
  clear hown hbel hr hnb hw1 hw2 hp e9
  go_enter Try.func14, Try.ntmps14
  rw [show w1.heap.size = p + 1 from by rw [E1.out, EP.out]; simp] at HAL
  cases up with
  | false =>
    have huz2 : uz = 0 := by rw [huz]; rfl
    subst huz2
    clear huz
    go_wp2_with fail
    rw [← EP.out, ← E1.out, ← E2.out]
    refine HAL.out.mono ?_
    rintro o w3 ⟨v3, rfl, ho3, hb3, hs3, hk3⟩
    obtain ⟨m2, hm2⟩ : ∃ m2, m2 = m + 2 := ⟨_, rfl⟩
    rw [show m + 1 * 2 = m2 by omega] at ho3
    obtain ⟨X3, hX3⟩ : ∃ X, X = xs ++ (allb 1 [kind, 0]).map (Value.int .u8) := ⟨_, rfl⟩
    rw [← hX3] at ho3
    obtain ⟨A3, c3, hv3⟩ := own_slice ho3
    subst hv3
    have HO3 := Lib.hid ho3
    have HB3 := Lib.hid hb3
    have HT3 := Lib.hid (KT2.out.trans hk3)
    have KP3 := Lib.hid (hk3 _ _ _ (by decide) (KP1.out.below KB2.out KP1.out.lt))
    have HX3 := Lib.hid hX3
    have HM2 := Lib.hid hm2
    have d3 : w3.cell? ⟨p, 3, none⟩ = some (.int .i64 host) := KP3.out.cell 3
    have d4 : w3.cell? ⟨p, 4, none⟩ = some (.int .i64 n) := KP3.out.cell 4
    have d1 : w3.cell? ⟨p, 1, none⟩ = some (.slice A nb c) := KP3.out.cell 1
    have wh : IntKind.u64.wrap host = host := by rw [IntKind.wrap_u64]; omega
    have wn : IntKind.u64.wrap n = n := by rw [IntKind.wrap_u64]; omega
    have wb : IntKind.u64.wrap (nb : Int) = (nb : Int) := by rw [IntKind.wrap_u64]; omega
    have ws : IntKind.u64.wrap (nm.size : Int) = (nm.size : Int) := by rw [IntKind.wrap_u64]; omega
    obtain ⟨w4, hw4⟩ : ∃ w4, w4 = w3.alloc (.cells #[.int .u64 host, .int .u64 n, .int .u64 (nb : Int)] 39) := ⟨_, rfl⟩
    have KB4 := Lib.hid (show Below w3.heap.size w3 w4 from by rw [hw4]; exact (Below.refl _ _).alloc (Nat.le_refl _) _)
    have HAL2 := Lib.hid (all_t w3.heap.size #[.int .u64 host, .int .u64 n, .int .u64 (nb : Int)] (.slice A3 m2 c3) m2 X3 4 3 3 [host, n, (nb : Int)] base B a w4 (by rw [hw4]; exact HO3.out.alloc _) (Nat.le_trans hs3 KB4.out.size) (by omega) (HB3.out.trans (KB4.out.mono (Nat.le_trans hB hs3))) hB rfl (by rw [hw4]; exact Blk.new w3 _ _) (three_row host n (nb : Int)) (fun x hx => by simp at hx; rcases hx with rfl | rfl | rfl <;> omega))
    rw [hs4] at HAL2
    have E4 := Lib.hid hw4
    clear ho3 hb3 hs3 hk3 hX3 hm2 hw4
    go_wp2_with fail
    rw [← E4.out]
    refine HAL2.out.mono ?_
    rintro o w5 ⟨v5, rfl, ho5, hb5, hs5, hk5⟩
    obtain ⟨m5, hm5⟩ : ∃ m5, m5 = m + 2 + 12 := ⟨_, rfl⟩
    rw [show m2 + 4 * 3 = m5 by have := HM2.out; omega] at ho5
    obtain ⟨X5, hX5⟩ : ∃ X, X = X3 ++ (allb 4 [host, n, (nb : Int)]).map (Value.int .u8) := ⟨_, rfl⟩
    rw [← hX5] at ho5
    obtain ⟨A5, c5, hv5⟩ := own_slice ho5
    subst hv5
    have HO5 := Lib.hid ho5
    have HB5 := Lib.hid hb5
    have HS5 := Lib.hid hs5
    have HT5 := Lib.hid ((HT3.out.below KB4.out).trans hk5)
    have KP5 := Lib.hid (hk5 _ _ _ (by decide) (KP3.out.below KB4.out KP3.out.lt))
    have HX5 := Lib.hid hX5
    have HM5 := Lib.hid hm5
    have d1 : w5.cell? ⟨p, 1, none⟩ = some (.slice A nb c) := KP5.out.cell 1
    clear ho5 hb5 hs5 hk5 hX5 hm5 d3 d4
    have HRW := Lib.hid (HR.out.below HB5.out)
    rcases A with _ | ad
    · obtain rfl : c = 0 := hnil rfl
      have hbs : bs = [] := row_none HR.out
      subst hbs
      obtain rfl : nb = 0 := HNB.out
      obtain ⟨w6, hw6⟩ : ∃ w6, w6 = w5 := ⟨_, rfl⟩
      obtain ⟨A6, hA6⟩ : ∃ A6, A6 = A5 := ⟨_, rfl⟩
      obtain ⟨c6, hc6⟩ : ∃ c6, c6 = c5 := ⟨_, rfl⟩
      obtain ⟨m6, hm6⟩ : ∃ m6, m6 = m5 := ⟨_, rfl⟩
      obtain ⟨X6, hX6⟩ : ∃ X6, X6 = X5 := ⟨_, rfl⟩
      go_upto_region 7 with (at_builtin; refine wpList_append_own_none rfl (.tmp 28) (.tmp 30) _ rfl base 5 i0 1 Try.underlying25 HI0.out (.slice A5 m5 c5) m5 X5 rfl HO5.out rfl ?_)
      subst hw6 hA6 hc6 hm6 hX6
      have HO6 := HO5
      have HB6 := HB5
      have HS6 := HS5
      have HT6 := HT5
      have KP6 := KP5
      have hm6b : m6 ≤ 600000 := by have := HM5.out; omega
      have HM6 := Lib.hid (show m6 = m + 2 + 12 + 0 from by rw [HM5.out])
      have HX6 := Lib.hid (show X6 = xs ++ (allb 1 [kind, 0]).map (Value.int .u8) ++ (allb 4 [host, n, ((0 : Nat) : Int)]).map (Value.int .u8) ++ ([] : List Int).map (Value.int .u8) from by rw [HX5.out, HX3.out]; simp)
      have d2 : w6.cell? ⟨p, 2, none⟩ = some (.string nm) := KP6.out.cell 2
      have HPU := Lib.hid (put_t (.slice A6 m6 c6) m6 X6 (nm.size : Int) 1 base B a w6 HO6.out HS6.out (by omega) HB6.out hB (by omega) (by omega))
      rw [hs1] at HPU
      go_wp2_with fail
      refine HPU.out.mono ?_
      rintro o w7 ⟨v7, rfl, ho7, hb7, hs7, hk7⟩
      obtain ⟨A7, c7, hv7⟩ := own_slice ho7
      subst hv7
      have HO7 := Lib.hid ho7
      have HB7 := Lib.hid hb7
      have HT7 := Lib.hid (HT6.out.trans hk7)
      have d3 : w7.cell? ⟨p, 2, none⟩ = some (.string nm) := (hk7 _ _ _ (by decide) KP6.out).cell 2
      have P71 := Lib.hid (show (m6 + 1) + nm.size ≤ maxLen by unfold maxLen; omega)
      have P72 := Lib.hid (show (m6 + 1) + nm.size ≤ 140737488355328 by omega)
      have HS7 := Lib.hid hs7
      clear ho7 hb7 hk7 d2 hs7
      go_wp2_with (at_builtin; refine Lib.wpList_append_own_string _ rfl (.tmp 38) (.tmp 40) _ _ rfl base 5 i0 Try.underlying25 Try.underlying9 HI0.out HZ0.out HZ1.out HZ2.out (.slice A7 (m6 + 1) c7) (m6 + 1) (X6 ++ (pb (nm.size : Int) 1 1).map (.int .u8)) rfl HO7.out nm rfl P71.out P72.out HS7.out ?_; intro v8 w8 ho8 hg8 _; have HO8 := Lib.hid ho8; have HB8 := Lib.hid (below_grown HB7.out HO7.out hB (Nat.le_trans hB HS7.out) hg8); have HT8 := Lib.hid (HT7.out.grown HO7.out hg8); have HS8 := Lib.hid (Nat.le_trans HS7.out hg8.size); obtain ⟨A8, c8, hv8⟩ := own_slice ho8; subst hv8; clear ho8 hg8)
      go_ret
      refine ⟨.slice A8 (m6 + 1 + nm.size) c8, rfl, ?_, HB8.out, HS8.out, HT8.out⟩
      have h9 := HO8.out
      have e1 : m6 + 1 + nm.size = m + (15 + 0 + nm.size) := by have := HM6.out; omega
      rw [strCells_Z, HX6.out] at h9
      simp only [List.map_append, ← List.append_assoc]
      rw [e1] at h9 ⊢
      exact h9
    · have HNE := Lib.hid (row_news HRW.out)
      have HL := Lib.hid (show (bs.map (Value.int .u8)).length = nb * 1 from by rw [List.length_map, HNB.out, Nat.mul_one])
      have H1 := Lib.hid (show ∀ u ∈ bs.map (Value.int .u8), u.oneCell' = true from fun u hu => by
        rw [List.mem_map] at hu
        obtain ⟨x, _, rfl⟩ := hu
        rfl)
      have P1 := Lib.hid (show m5 + nb ≤ maxLen by have := HM5.out; unfold maxLen; omega)
      have P2 := Lib.hid (show (m5 + nb) * 1 ≤ 140737488355328 by have := HM5.out; omega)
      go_upto_region 7 with (at_builtin; refine wpList_append_own _ rfl (.tmp 28) (.tmp 30) _ rfl base 5 i0 _ 1 1 Try.underlying25 HI0.out HZ0.out HZ1.out HZ2.out rfl (by omega) (.slice A5 m5 c5) m5 X5 rfl HO5.out ad nb c (bs.map (.int .u8)) rfl HL.out HNE.out H1.out P1.out P2.out HS5.out ?_; intro v6 w6 ho6 hg6 _; have HB6 := Lib.hid (below_grown HB5.out HO5.out hB (Nat.le_trans hB HS5.out) hg6); have HT6 := Lib.hid (HT5.out.grown HO5.out hg6); have HS6 := Lib.hid (Nat.le_trans HS5.out hg6.size); have KP6 := Lib.hid (show Blk w6 p 27 _ from (hg6.block p KP5.out.lt (own_neT (by decide) HO5.out KP5.out)).trans KP5.out); obtain ⟨A6, c6, hv6⟩ := own_slice ho6; subst hv6; have HO6 := Lib.hid ho6; clear ho6 hg6)
      obtain ⟨m6, hm6⟩ : ∃ m6, m6 = m5 + nb := ⟨_, rfl⟩
      obtain ⟨X6, hX6⟩ : ∃ X6, X6 = X5 ++ bs.map (Value.int .u8) := ⟨_, rfl⟩
      rw [← hm6, ← hX6] at HO6
      rw [← hm6]
      have HM6 := Lib.hid (show m6 = m + 2 + 12 + nb from by rw [hm6, HM5.out])
      have HX6 := Lib.hid (show X6 = xs ++ (allb 1 [kind, 0]).map (Value.int .u8) ++ (allb 4 [host, n, (nb : Int)]).map (Value.int .u8) ++ bs.map (Value.int .u8) from by rw [hX6, HX5.out, HX3.out])
      have hm6b : m6 ≤ 600000 := by have := HM6.out; omega
      clear hm6 hX6
      have d2 : w6.cell? ⟨p, 2, none⟩ = some (.string nm) := KP6.out.cell 2
      have HPU := Lib.hid (put_t (.slice A6 m6 c6) m6 X6 (nm.size : Int) 1 base B a w6 HO6.out HS6.out (by omega) HB6.out hB (by omega) (by omega))
      rw [hs1] at HPU
      go_wp2_with fail
      refine HPU.out.mono ?_
      rintro o w7 ⟨v7, rfl, ho7, hb7, hs7, hk7⟩
      obtain ⟨A7, c7, hv7⟩ := own_slice ho7
      subst hv7
      have HO7 := Lib.hid ho7
      have HB7 := Lib.hid hb7
      have HT7 := Lib.hid (HT6.out.trans hk7)
      have d3 : w7.cell? ⟨p, 2, none⟩ = some (.string nm) := (hk7 _ _ _ (by decide) KP6.out).cell 2
      have P71 := Lib.hid (show (m6 + 1) + nm.size ≤ maxLen by unfold maxLen; omega)
      have P72 := Lib.hid (show (m6 + 1) + nm.size ≤ 140737488355328 by omega)
      have HS7 := Lib.hid hs7
      clear ho7 hb7 hk7 d2 hs7
      go_wp2_with (at_builtin; refine Lib.wpList_append_own_string _ rfl (.tmp 38) (.tmp 40) _ _ rfl base 5 i0 Try.underlying25 Try.underlying9 HI0.out HZ0.out HZ1.out HZ2.out (.slice A7 (m6 + 1) c7) (m6 + 1) (X6 ++ (pb (nm.size : Int) 1 1).map (.int .u8)) rfl HO7.out nm rfl P71.out P72.out HS7.out ?_; intro v8 w8 ho8 hg8 _; have HO8 := Lib.hid ho8; have HB8 := Lib.hid (below_grown HB7.out HO7.out hB (Nat.le_trans hB HS7.out) hg8); have HT8 := Lib.hid (HT7.out.grown HO7.out hg8); have HS8 := Lib.hid (Nat.le_trans HS7.out hg8.size); obtain ⟨A8, c8, hv8⟩ := own_slice ho8; subst hv8; clear ho8 hg8)
      go_ret
      refine ⟨.slice A8 (m6 + 1 + nm.size) c8, rfl, ?_, HB8.out, HS8.out, HT8.out⟩
      have h9 := HO8.out
      have e1 : m6 + 1 + nm.size = m + (15 + nb + nm.size) := by have := HM6.out; omega
      rw [strCells_Z, HX6.out] at h9
      simp only [List.map_append, ← List.append_assoc]
      rw [e1] at h9 ⊢
      exact h9
  | true =>
    have huz2 : uz = 1 := by rw [huz]; rfl
    subst huz2
    clear huz
    go_wp2_with fail
    rw [← EP.out, ← E1.out, ← E2.out]
    refine HAL.out.mono ?_
    rintro o w3 ⟨v3, rfl, ho3, hb3, hs3, hk3⟩
    obtain ⟨m2, hm2⟩ : ∃ m2, m2 = m + 2 := ⟨_, rfl⟩
    rw [show m + 1 * 2 = m2 by omega] at ho3
    obtain ⟨X3, hX3⟩ : ∃ X, X = xs ++ (allb 1 [kind, 1]).map (Value.int .u8) := ⟨_, rfl⟩
    rw [← hX3] at ho3
    obtain ⟨A3, c3, hv3⟩ := own_slice ho3
    subst hv3
    have HO3 := Lib.hid ho3
    have HB3 := Lib.hid hb3
    have HT3 := Lib.hid (KT2.out.trans hk3)
    have KP3 := Lib.hid (hk3 _ _ _ (by decide) (KP1.out.below KB2.out KP1.out.lt))
    have HX3 := Lib.hid hX3
    have HM2 := Lib.hid hm2
    have d3 : w3.cell? ⟨p, 3, none⟩ = some (.int .i64 host) := KP3.out.cell 3
    have d4 : w3.cell? ⟨p, 4, none⟩ = some (.int .i64 n) := KP3.out.cell 4
    have d1 : w3.cell? ⟨p, 1, none⟩ = some (.slice A nb c) := KP3.out.cell 1
    have wh : IntKind.u64.wrap host = host := by rw [IntKind.wrap_u64]; omega
    have wn : IntKind.u64.wrap n = n := by rw [IntKind.wrap_u64]; omega
    have wb : IntKind.u64.wrap (nb : Int) = (nb : Int) := by rw [IntKind.wrap_u64]; omega
    have ws : IntKind.u64.wrap (nm.size : Int) = (nm.size : Int) := by rw [IntKind.wrap_u64]; omega
    obtain ⟨w4, hw4⟩ : ∃ w4, w4 = w3.alloc (.cells #[.int .u64 host, .int .u64 n, .int .u64 (nb : Int)] 39) := ⟨_, rfl⟩
    have KB4 := Lib.hid (show Below w3.heap.size w3 w4 from by rw [hw4]; exact (Below.refl _ _).alloc (Nat.le_refl _) _)
    have HAL2 := Lib.hid (all_t w3.heap.size #[.int .u64 host, .int .u64 n, .int .u64 (nb : Int)] (.slice A3 m2 c3) m2 X3 4 3 3 [host, n, (nb : Int)] base B a w4 (by rw [hw4]; exact HO3.out.alloc _) (Nat.le_trans hs3 KB4.out.size) (by omega) (HB3.out.trans (KB4.out.mono (Nat.le_trans hB hs3))) hB rfl (by rw [hw4]; exact Blk.new w3 _ _) (three_row host n (nb : Int)) (fun x hx => by simp at hx; rcases hx with rfl | rfl | rfl <;> omega))
    rw [hs4] at HAL2
    have E4 := Lib.hid hw4
    clear ho3 hb3 hs3 hk3 hX3 hm2 hw4
    go_wp2_with fail
    rw [← E4.out]
    refine HAL2.out.mono ?_
    rintro o w5 ⟨v5, rfl, ho5, hb5, hs5, hk5⟩
    obtain ⟨m5, hm5⟩ : ∃ m5, m5 = m + 2 + 12 := ⟨_, rfl⟩
    rw [show m2 + 4 * 3 = m5 by have := HM2.out; omega] at ho5
    obtain ⟨X5, hX5⟩ : ∃ X, X = X3 ++ (allb 4 [host, n, (nb : Int)]).map (Value.int .u8) := ⟨_, rfl⟩
    rw [← hX5] at ho5
    obtain ⟨A5, c5, hv5⟩ := own_slice ho5
    subst hv5
    have HO5 := Lib.hid ho5
    have HB5 := Lib.hid hb5
    have HS5 := Lib.hid hs5
    have HT5 := Lib.hid ((HT3.out.below KB4.out).trans hk5)
    have KP5 := Lib.hid (hk5 _ _ _ (by decide) (KP3.out.below KB4.out KP3.out.lt))
    have HX5 := Lib.hid hX5
    have HM5 := Lib.hid hm5
    have d1 : w5.cell? ⟨p, 1, none⟩ = some (.slice A nb c) := KP5.out.cell 1
    clear ho5 hb5 hs5 hk5 hX5 hm5 d3 d4
    have HRW := Lib.hid (HR.out.below HB5.out)
    rcases A with _ | ad
    · obtain rfl : c = 0 := hnil rfl
      have hbs : bs = [] := row_none HR.out
      subst hbs
      obtain rfl : nb = 0 := HNB.out
      obtain ⟨w6, hw6⟩ : ∃ w6, w6 = w5 := ⟨_, rfl⟩
      obtain ⟨A6, hA6⟩ : ∃ A6, A6 = A5 := ⟨_, rfl⟩
      obtain ⟨c6, hc6⟩ : ∃ c6, c6 = c5 := ⟨_, rfl⟩
      obtain ⟨m6, hm6⟩ : ∃ m6, m6 = m5 := ⟨_, rfl⟩
      obtain ⟨X6, hX6⟩ : ∃ X6, X6 = X5 := ⟨_, rfl⟩
      go_upto_region 7 with (at_builtin; refine wpList_append_own_none rfl (.tmp 28) (.tmp 30) _ rfl base 5 i0 1 Try.underlying25 HI0.out (.slice A5 m5 c5) m5 X5 rfl HO5.out rfl ?_)
      subst hw6 hA6 hc6 hm6 hX6
      have HO6 := HO5
      have HB6 := HB5
      have HS6 := HS5
      have HT6 := HT5
      have KP6 := KP5
      have hm6b : m6 ≤ 600000 := by have := HM5.out; omega
      have HM6 := Lib.hid (show m6 = m + 2 + 12 + 0 from by rw [HM5.out])
      have HX6 := Lib.hid (show X6 = xs ++ (allb 1 [kind, 1]).map (Value.int .u8) ++ (allb 4 [host, n, ((0 : Nat) : Int)]).map (Value.int .u8) ++ ([] : List Int).map (Value.int .u8) from by rw [HX5.out, HX3.out]; simp)
      have d2 : w6.cell? ⟨p, 2, none⟩ = some (.string nm) := KP6.out.cell 2
      have HPU := Lib.hid (put_t (.slice A6 m6 c6) m6 X6 (nm.size : Int) 1 base B a w6 HO6.out HS6.out (by omega) HB6.out hB (by omega) (by omega))
      rw [hs1] at HPU
      go_wp2_with fail
      refine HPU.out.mono ?_
      rintro o w7 ⟨v7, rfl, ho7, hb7, hs7, hk7⟩
      obtain ⟨A7, c7, hv7⟩ := own_slice ho7
      subst hv7
      have HO7 := Lib.hid ho7
      have HB7 := Lib.hid hb7
      have HT7 := Lib.hid (HT6.out.trans hk7)
      have d3 : w7.cell? ⟨p, 2, none⟩ = some (.string nm) := (hk7 _ _ _ (by decide) KP6.out).cell 2
      have P71 := Lib.hid (show (m6 + 1) + nm.size ≤ maxLen by unfold maxLen; omega)
      have P72 := Lib.hid (show (m6 + 1) + nm.size ≤ 140737488355328 by omega)
      have HS7 := Lib.hid hs7
      clear ho7 hb7 hk7 d2 hs7
      go_wp2_with (at_builtin; refine Lib.wpList_append_own_string _ rfl (.tmp 38) (.tmp 40) _ _ rfl base 5 i0 Try.underlying25 Try.underlying9 HI0.out HZ0.out HZ1.out HZ2.out (.slice A7 (m6 + 1) c7) (m6 + 1) (X6 ++ (pb (nm.size : Int) 1 1).map (.int .u8)) rfl HO7.out nm rfl P71.out P72.out HS7.out ?_; intro v8 w8 ho8 hg8 _; have HO8 := Lib.hid ho8; have HB8 := Lib.hid (below_grown HB7.out HO7.out hB (Nat.le_trans hB HS7.out) hg8); have HT8 := Lib.hid (HT7.out.grown HO7.out hg8); have HS8 := Lib.hid (Nat.le_trans HS7.out hg8.size); obtain ⟨A8, c8, hv8⟩ := own_slice ho8; subst hv8; clear ho8 hg8)
      go_ret
      refine ⟨.slice A8 (m6 + 1 + nm.size) c8, rfl, ?_, HB8.out, HS8.out, HT8.out⟩
      have h9 := HO8.out
      have e1 : m6 + 1 + nm.size = m + (15 + 0 + nm.size) := by have := HM6.out; omega
      rw [strCells_Z, HX6.out] at h9
      simp only [List.map_append, ← List.append_assoc]
      rw [e1] at h9 ⊢
      exact h9
    · have HNE := Lib.hid (row_news HRW.out)
      have HL := Lib.hid (show (bs.map (Value.int .u8)).length = nb * 1 from by rw [List.length_map, HNB.out, Nat.mul_one])
      have H1 := Lib.hid (show ∀ u ∈ bs.map (Value.int .u8), u.oneCell' = true from fun u hu => by
        rw [List.mem_map] at hu
        obtain ⟨x, _, rfl⟩ := hu
        rfl)
      have P1 := Lib.hid (show m5 + nb ≤ maxLen by have := HM5.out; unfold maxLen; omega)
      have P2 := Lib.hid (show (m5 + nb) * 1 ≤ 140737488355328 by have := HM5.out; omega)
      go_upto_region 7 with (at_builtin; refine wpList_append_own _ rfl (.tmp 28) (.tmp 30) _ rfl base 5 i0 _ 1 1 Try.underlying25 HI0.out HZ0.out HZ1.out HZ2.out rfl (by omega) (.slice A5 m5 c5) m5 X5 rfl HO5.out ad nb c (bs.map (.int .u8)) rfl HL.out HNE.out H1.out P1.out P2.out HS5.out ?_; intro v6 w6 ho6 hg6 _; have HB6 := Lib.hid (below_grown HB5.out HO5.out hB (Nat.le_trans hB HS5.out) hg6); have HT6 := Lib.hid (HT5.out.grown HO5.out hg6); have HS6 := Lib.hid (Nat.le_trans HS5.out hg6.size); have KP6 := Lib.hid (show Blk w6 p 27 _ from (hg6.block p KP5.out.lt (own_neT (by decide) HO5.out KP5.out)).trans KP5.out); obtain ⟨A6, c6, hv6⟩ := own_slice ho6; subst hv6; have HO6 := Lib.hid ho6; clear ho6 hg6)
      obtain ⟨m6, hm6⟩ : ∃ m6, m6 = m5 + nb := ⟨_, rfl⟩
      obtain ⟨X6, hX6⟩ : ∃ X6, X6 = X5 ++ bs.map (Value.int .u8) := ⟨_, rfl⟩
      rw [← hm6, ← hX6] at HO6
      rw [← hm6]
      have HM6 := Lib.hid (show m6 = m + 2 + 12 + nb from by rw [hm6, HM5.out])
      have HX6 := Lib.hid (show X6 = xs ++ (allb 1 [kind, 1]).map (Value.int .u8) ++ (allb 4 [host, n, (nb : Int)]).map (Value.int .u8) ++ bs.map (Value.int .u8) from by rw [hX6, HX5.out, HX3.out])
      have hm6b : m6 ≤ 600000 := by have := HM6.out; omega
      clear hm6 hX6
      have d2 : w6.cell? ⟨p, 2, none⟩ = some (.string nm) := KP6.out.cell 2
      have HPU := Lib.hid (put_t (.slice A6 m6 c6) m6 X6 (nm.size : Int) 1 base B a w6 HO6.out HS6.out (by omega) HB6.out hB (by omega) (by omega))
      rw [hs1] at HPU
      go_wp2_with fail
      refine HPU.out.mono ?_
      rintro o w7 ⟨v7, rfl, ho7, hb7, hs7, hk7⟩
      obtain ⟨A7, c7, hv7⟩ := own_slice ho7
      subst hv7
      have HO7 := Lib.hid ho7
      have HB7 := Lib.hid hb7
      have HT7 := Lib.hid (HT6.out.trans hk7)
      have d3 : w7.cell? ⟨p, 2, none⟩ = some (.string nm) := (hk7 _ _ _ (by decide) KP6.out).cell 2
      have P71 := Lib.hid (show (m6 + 1) + nm.size ≤ maxLen by unfold maxLen; omega)
      have P72 := Lib.hid (show (m6 + 1) + nm.size ≤ 140737488355328 by omega)
      have HS7 := Lib.hid hs7
      clear ho7 hb7 hk7 d2 hs7
      go_wp2_with (at_builtin; refine Lib.wpList_append_own_string _ rfl (.tmp 38) (.tmp 40) _ _ rfl base 5 i0 Try.underlying25 Try.underlying9 HI0.out HZ0.out HZ1.out HZ2.out (.slice A7 (m6 + 1) c7) (m6 + 1) (X6 ++ (pb (nm.size : Int) 1 1).map (.int .u8)) rfl HO7.out nm rfl P71.out P72.out HS7.out ?_; intro v8 w8 ho8 hg8 _; have HO8 := Lib.hid ho8; have HB8 := Lib.hid (below_grown HB7.out HO7.out hB (Nat.le_trans hB HS7.out) hg8); have HT8 := Lib.hid (HT7.out.grown HO7.out hg8); have HS8 := Lib.hid (Nat.le_trans HS7.out hg8.size); obtain ⟨A8, c8, hv8⟩ := own_slice ho8; subst hv8; clear ho8 hg8)
      go_ret
      refine ⟨.slice A8 (m6 + 1 + nm.size) c8, rfl, ?_, HB8.out, HS8.out, HT8.out⟩
      have h9 := HO8.out
      have e1 : m6 + 1 + nm.size = m + (15 + nb + nm.size) := by have := HM6.out; omega
      rw [strCells_Z, HX6.out] at h9
      simp only [List.map_append, ← List.append_assoc]
      rw [e1] at h9 ⊢
      exact h9
end Go.Proofs.Ytmlicmcphecakaa.snC
