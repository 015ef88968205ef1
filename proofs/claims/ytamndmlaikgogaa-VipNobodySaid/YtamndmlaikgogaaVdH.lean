/- Layer 19: a configuration in memory; what needs its tree. -/
import Derived.Test.YtamndmlaikgogaaVdG
import Derived.Test.YtamndmlaikgogaaTreM
import Derived.Deep.RegionHeld3
import Derived.Deep.DeepCutAuto
namespace Go.Proofs.Ytamndmlaikgogaa.vdH
open Go.ChangeShapes Go.WideShapes Go.ChangeAt Go.RowKit
open Go.Proofs.Ytamndmlaikgogaa.base Go.Proofs.Ytamndmlaikgogaa.dfA Go.Proofs.Ytamndmlaikgogaa.treB Go.Proofs.Ytamndmlaikgogaa.treD Go.Proofs.Ytamndmlaikgogaa.treE Go.Proofs.Ytamndmlaikgogaa.treF Go.Proofs.Ytamndmlaikgogaa.treM Go.Proofs.Ytamndmlaikgogaa.vdD Go.Proofs.Ytamndmlaikgogaa.vdA Go.Proofs.Ytamndmlaikgogaa.vdE Go.Proofs.Ytamndmlaikgogaa.vdF Go.Proofs.Ytamndmlaikgogaa.vdG
set_option linter.unusedVariables false

def U64 (x : Int) : Prop := 0 ≤ x ∧ x < 18446744073709551616
/-- A configuration with its tree in memory. -/
structure CfOk (w : World) (g T : Nat) (c : Cf) : Prop where
  blk : Blk w g 41 (c.cells ++ #[.pointer (some ⟨T, 0, none⟩)])
  rn : RdN w c.nA c.nds
  cn : c.nds.length ≤ c.nc
  cn2 : c.nc ≤ 9223372036854775807
  rv : RdV w c.vA c.vps
  cv : c.vps.length ≤ c.vc
  cv2 : c.vc ≤ 9223372036854775807
  rw_ : RdW w c.wA c.vws
  cw : c.vws.length ≤ c.wc
  cw2 : c.wc ≤ 9223372036854775807
  ok : TreeOk w T c.nds
  vu : ∀ j, j < c.vws.length → U64 (c.vws.getD j zVw).hi ∧ U64 (c.vws.getD j zVw).lo
theorem CfOk.below {w w' : World} {g T : Nat} {c : Cf} (h : CfOk w g T c) (hb : Below w.heap.size w w') : CfOk w' g T c :=
  ⟨h.blk.below hb h.blk.lt, h.rn.below hb, h.cn, h.cn2, rows_below h.rv hb, h.cv, h.cv2, rows_below h.rw_ hb, h.cw, h.cw2, h.ok.below hb, h.vu⟩
theorem mem_ofK {l : List Nd} {kind : Int} {n : Nat} {x : Int} : x ∈ ofK l kind n ↔ ∃ k : Nat, k < n ∧ x = (k : Int) ∧ ((l.getD k zNd).kind == kind) = true := by
  unfold ofK
  rw [List.mem_map]
  constructor
  · rintro ⟨k, hk, rfl⟩
    rw [List.mem_filter, List.mem_range] at hk
    exact ⟨k, hk.1, rfl, hk.2⟩
  · rintro ⟨k, h1, rfl, h2⟩
    exact ⟨k, by rw [List.mem_filter, List.mem_range]; exact ⟨h1, h2⟩, rfl⟩
theorem ndAt_nat {l : List Nd} {k : Nat} (h : k < l.length) : ndAt l (k : Int) = l.getD k zNd := by
  unfold ndAt isB
  rw [show decide ((0 : Int) ≤ (k : Int)) = true from decide_eq_true (by omega), show decide ((k : Int) < (l.length : Int)) = true from decide_eq_true (by omega)]
  rfl
/-- A host's address is of the version that the configuration lacks. -/
def lk (c : Cf) (v6 : Bool) : Bool := if v6 = true then zA c.b6 c.bh c.bl else zA c.a6 c.ah c.al
/-- Of the first hosts none lacks a source. -/
def noLack (c : Cf) (H : List Int) (j : Nat) : Prop := ∀ q, q < j → lk c (ndAt c.nds (H.getD q 0)).v6 = false
theorem lack_no {c : Cf} {H : List Int} (hH : H = ofK c.nds 4 c.nds.length) (h : noLack c H H.length) : lackE c c.nds.length = false := by
  cases e : lackE c c.nds.length with
  | false => rfl
  | true =>
    unfold lackE at e
    rw [List.any_eq_true] at e
    obtain ⟨k, hk, h2⟩ := e
    rw [List.mem_range] at hk
    unfold lackB at h2
    rw [Bool.and_eq_true] at h2
    have hm : (k : Int) ∈ H := by rw [hH]; exact mem_ofK.mpr ⟨k, hk, rfl, h2.1⟩
    obtain ⟨q, hq, hq2⟩ := List.getElem_of_mem hm
    have h3 := h q hq
    rw [List.getD_eq_getElem?_getD, List.getElem?_eq_getElem hq, hq2] at h3
    simp only [Option.getD_some] at h3
    rw [ndAt_nat hk] at h3
    unfold lk at h3
    rw [h3] at h2
    cases h2.2
theorem lack_yes {c : Cf} {H : List Int} {q : Nat} (hH : H = ofK c.nds 4 c.nds.length) (hq : q < H.length) (h : lk c (ndAt c.nds (H.getD q 0)).v6 = true) : lackE c c.nds.length = true := by
  have e : H.getD q 0 = H[q] := by rw [List.getD_eq_getElem?_getD, List.getElem?_eq_getElem hq]; rfl
  have hm : H[q] ∈ ofK c.nds 4 c.nds.length := hH ▸ List.getElem_mem hq
  obtain ⟨k, hk, hx, h2⟩ := mem_ofK.mp hm
  refine lack_here hk ?_
  unfold lackB
  rw [h2, Bool.true_and]
  rw [e, hx, ndAt_nat hk] at h
  exact h
theorem eq_zero (v6 : Bool) (hi lo : Int) (W : World) : (binOp .eql 27 (.agg #[.bool v6, .int .u64 hi, .int .u64 lo]) (.agg #[.bool false, .int .u64 0, .int .u64 0])).run Try.prog W = .ok (.bool (zA v6 hi lo)) W := by
  rw [addr_eq]
  unfold zA
  cases v6 <;> rfl
theorem field_n (nm : ByteArray) (kd ab wt : Int) (v6 : Bool) (hi lo : Int) (W : World) : (Instr.field 44 (.agg #[.string nm, .int .i64 kd, .int .i64 ab, .int .i64 wt, .bool v6, .int .u64 hi, .int .u64 lo]) 4).run Try.prog W = .ok (.agg #[.bool v6, .int .u64 hi, .int .u64 lo]) W := by kernel_rfl
theorem field_a (v6 : Bool) (hi lo : Int) (W : World) : (Instr.field 27 (.agg #[.bool v6, .int .u64 hi, .int .u64 lo]) 0).run Try.prog W = .ok (.bool v6) W := by kernel_rfl
set_option maxHeartbeats 8000000 in
set_option maxRecDepth 100000 in
theorem why_rest {w : World} {g T : Nat} {c : Cf} (h : CfOk w g T c) : Calls Try.prog 31 #[.pointer (some ⟨g, 0, none⟩)] w (RetI (restZ c) w) := by
  obtain ⟨Q, hQ⟩ : ∃ Q, Q = restZ c := ⟨_, rfl⟩
  have HP := Lib.hid (show ∀ v : Int, Q = v → ∀ W, Below w.heap.size w W → RetI Q w (.returned (.int .i64 v)) W from fun v h W hb => ⟨by rw [h], hb⟩)
  have HQ := Lib.hid (show Q = if lackE c c.nds.length = true then 7 else if vipsE c.vps ≠ 0 then vipsE c.vps else viewsE (levN c) c.vws from hQ)
  rw [← hQ]
  have HC := Lib.hid h
  obtain ⟨A1, c1, K1, kc1, ht⟩ := h.ok.at_
  have HHO := Lib.hid (hosts_any ht (by have := h.ok.len; omega))
  obtain ⟨H, hH⟩ : ∃ H, H = ofK c.nds 4 c.nds.length := ⟨_, rfl⟩
  rw [← hH] at HHO
  have EH := Lib.hid hH
  have d11 : w.cell? ⟨g, 11, none⟩ = some (.pointer (some ⟨T, 0, none⟩)) := h.blk.cell 11
  clear hQ hH ht h
  go_enter Try.func31, Try.ntmps31
  go_wp2_with fail
  refine HHO.out.mono ?_
  rintro o w1 ⟨v1, rfl, ho1, hb1⟩
  have B1 := Lib.hid hb1
  obtain ⟨A9, c9, rfl, q1, q2, q3⟩ := read_own ho1
  have R1 := Lib.hid q3
  obtain ⟨m, hm⟩ : ∃ m, m = H.length := ⟨_, rfl⟩
  have HM := Lib.hid hm
  rw [← hm] at q1 ⊢
  have W1 := Lib.hid (Below.refl w1.heap.size w1)
  have N0 := Lib.hid (show noLack c H 0 from fun q hq => absurd hq (by omega))
  clear d11 hb1 ho1 hm q3
  go_wp2_with fail
  go_loopw [18] (fun i wr => ∃ k : Nat, i = .int .i64 k ∧ k ≤ m ∧ noLack c H k ∧ Below w1.heap.size w1 wr) (fun i _ => m - (intOf i).toNat)
  case atStart => exact ⟨0, rfl, by omega, N0.out, W1.out⟩
  case round =>
    obtain ⟨k, rfl, hk, hnl, hbel⟩ := hrel
    have KB := Lib.hid hbel
    have KN := Lib.hid hnl
    clear hbel hnl
    by_cases hkn : k < m
    · have t1 : decide ((k : Int) < m) = true := decide_eq_true (by omega)
      obtain ⟨b, off, hA, hbl, hcl⟩ := (R1.out.below KB.out).at_ k (by have := HM.out; omega)
      subst hA
      have hg : H.getD k 0 = H[k]'(by have := HM.out; omega) := by rw [List.getD_eq_getElem?_getD, List.getElem?_eq_getElem (by have := HM.out; omega)]; rfl
      have HLY := Lib.hid (fun h => lack_yes (c := c) (q := k) EH.out (by have := HM.out; omega) h)
      obtain ⟨x, hx⟩ : ∃ x, x = H.getD k 0 := ⟨_, rfl⟩
      rw [← hg, ← hx] at hcl
      have HNX := Lib.hid (show lk c (ndAt c.nds x).v6 = false → noLack c H (k + 1) from fun h q hq => by
        by_cases e : q = k
        · subst e; rw [← hx]; exact h
        · exact KN.out q (by omega))
      rw [← hx] at HLY
      have CK := Lib.hid (HC.out.below (B1.out.trans (KB.out.mono B1.out.size)))
      have d11 : wr.cell? ⟨g, 11, none⟩ = some (.pointer (some ⟨T, 0, none⟩)) := CK.out.blk.cell 11
      obtain ⟨A2, c2, K2, kc2, ht2⟩ := CK.out.ok.at_
      have HND := Lib.hid (node_any ht2 x)
      obtain ⟨e, he⟩ : ∃ e, e = ndAt c.nds x := ⟨_, rfl⟩
      rw [← he] at HND HNX HLY
      have j0 : (0 : Int) ≤ k := by omega
      have j1 : (k : Int) < m := by omega
      clear hg hx he ht2
      go_wp2_with fail
      refine HND.out.mono ?_
      rintro o w2 ⟨rfl, hb2⟩
      have B2 := Lib.hid (KB.out.trans (hb2.mono KB.out.size))
      have C2 := Lib.hid (CK.out.below hb2)
      obtain ⟨nm, kd, ab, wt, v6, hi, lo⟩ := e
      rw [show (Nd.cells ⟨nm, kd, ab, wt, v6, hi, lo⟩) = #[.string nm, .int .i64 kd, .int .i64 ab, .int .i64 wt, .bool v6, .int .u64 hi, .int .u64 lo] from rfl]
      have dd5 : w2.cell? ⟨g, 5, none⟩ = some (.bool c.a6) := C2.out.blk.cell 5
      have dd6 : w2.cell? ⟨g, 6, none⟩ = some (.int .u64 c.ah) := C2.out.blk.cell 6
      have dd7 : w2.cell? ⟨g, 7, none⟩ = some (.int .u64 c.al) := C2.out.blk.cell 7
      have dd8 : w2.cell? ⟨g, 8, none⟩ = some (.bool c.b6) := C2.out.blk.cell 8
      have dd9 : w2.cell? ⟨g, 9, none⟩ = some (.int .u64 c.bh) := C2.out.blk.cell 9
      have dd10 : w2.cell? ⟨g, 10, none⟩ = some (.int .u64 c.bl) := C2.out.blk.cell 10
      have HF1 := fun W => field_n nm kd ab wt v6 hi lo W
      have HF2 := fun W => field_a v6 hi lo W
      have HE1 := fun W => eq_zero c.a6 c.ah c.al W
      have HE2 := fun W => eq_zero c.b6 c.bh c.bl W
      have HLK := Lib.hid (show lk c v6 = if v6 = true then zA c.b6 c.bh c.bl else zA c.a6 c.ah c.al from rfl)
      obtain ⟨z1, hz1⟩ : ∃ z, z = zA c.a6 c.ah c.al := ⟨_, rfl⟩
      obtain ⟨z2, hz2⟩ : ∃ z, z = zA c.b6 c.bh c.bl := ⟨_, rfl⟩
      rw [← hz1] at HE1
      rw [← hz2] at HE2
      rw [← hz1, ← hz2] at HLK
      obtain ⟨q, hq⟩ : ∃ q, q = lk c v6 := ⟨_, rfl⟩
      have HNX2 := Lib.hid (show q = false → noLack c H (k + 1) from fun h => HNX.out (hq ▸ h))
      have HX7 := Lib.hid (show q = true → Q = 7 from fun h => by rw [HQ.out, if_pos (HLY.out (hq ▸ h))])
      have HLK2 := Lib.hid (show q = if v6 = true then z2 else z1 from hq.trans HLK.out)
      clear hz1 hz2 hq HLK hb2 d11 hcl
      cases v6 with
      | true =>
        obtain rfl : q = z2 := HLK2.out
        cases q
        all_goals go_wp2_with fail
        all_goals first
          | (go_roundw
             case rel => exact ⟨k + 1, by go_num, by omega, HNX2.out (by first | rfl | trivial), B2.out⟩
             case measure => simp [intOf]; omega)
          | (go_ret
             exact HP.out 7 (HX7.out (by first | rfl | trivial)) _ (B1.out.trans (B2.out.mono B1.out.size)))
      | false =>
        obtain rfl : q = z1 := HLK2.out
        cases q
        all_goals go_wp2_with fail
        all_goals first
          | (go_roundw
             case rel => exact ⟨k + 1, by go_num, by omega, HNX2.out (by first | rfl | trivial), B2.out⟩
             case measure => simp [intOf]; omega)
          | (go_ret
             exact HP.out 7 (HX7.out (by first | rfl | trivial)) _ (B1.out.trans (B2.out.mono B1.out.size)))
    · have t1 : decide ((k : Int) < m) = false := decide_eq_false (by omega)
      obtain rfl : m = k := by omega
      have HQ := Lib.hid (show Q = if vipsE c.vps ≠ 0 then vipsE c.vps else viewsE (levN c) c.vws from by rw [HQ.out, lack_no EH.out (by have := KN.out; rw [HM.out] at this; exact this), if_neg (by decide)])
      have B2 := Lib.hid (B1.out.trans (KB.out.mono B1.out.size))
      have C2 := Lib.hid (HC.out.below B2.out)
      obtain ⟨w2, hw2⟩ : ∃ w2, w2 = wr := ⟨_, rfl⟩
      subst hw2
      obtain ⟨sA, hsA⟩ : ∃ x, x = c.vA := ⟨_, rfl⟩
      obtain ⟨sC, hsC⟩ : ∃ x, x = c.vc := ⟨_, rfl⟩
      obtain ⟨sn, hsn⟩ : ∃ x, x = c.vps.length := ⟨_, rfl⟩
      have SR := Lib.hid (show RdV w2 sA c.vps from hsA ▸ C2.out.rv)
      have s1 : sn ≤ sC := by have := C2.out.cv; omega
      have s2 : sC ≤ 9223372036854775807 := by have := C2.out.cv2; omega
      have SN := Lib.hid hsn
      have SF := Lib.hid (show ∀ W, CfOk W g T c → W.cell? ⟨g, 1, none⟩ = some (.slice sA sn sC) from fun W h => by rw [hsA, hsC, hsn]; exact h.blk.cell 1)
      have d1 : w2.cell? ⟨g, 1, none⟩ = some (.slice sA sn sC) := SF.out w2 C2.out
      have W2 := Lib.hid (Below.refl w2.heap.size w2)
      clear KB KN R1 HM EH hk hkn q1 q2 N0 W1 hsA hsC hsn
      go_wp2_with fail
      go_loopw [46] (fun i wr => ∃ k : Nat, i = .int .i64 k ∧ k ≤ sn ∧ fstE (vipW c.vps) k = 0 ∧ Below w2.heap.size w2 wr) (fun i _ => sn - (intOf i).toNat)
      case atStart => exact ⟨0, rfl, by omega, rfl, W2.out⟩
      case round =>
        obtain ⟨k, rfl, hk, hnl, hbel⟩ := hrel
        have KB := Lib.hid hbel
        have KN := Lib.hid hnl
        clear hbel hnl d1
        by_cases hkn : k < sn
        · have t1 : decide ((k : Int) < sn) = true := decide_eq_true (by omega)
          have CK := Lib.hid (C2.out.below KB.out)
          have SK := Lib.hid (rows_below SR.out KB.out)
          obtain ⟨b, off, hA, hbl, hC⟩ := rows_at SK.out k (by have := SN.out; omega)
          subst hA
          have HW0 := Lib.hid (show vipW c.vps k = vipQ c.vps (c.vps.getD k zVp) k from rfl)
          obtain ⟨e, he⟩ : ∃ e, e = c.vps.getD k zVp := ⟨_, rfl⟩
          rw [← he] at HW0
          have hCC := hC
          simp only [← he] at hCC
          clear hC he
          have d0 : wr.cell? ⟨b, off + k * 7, none⟩ = some (.bool e.v6) := hCC 0 (by omega)
          have d1 : wr.cell? ⟨b, off + k * 7 + 1, none⟩ = some (.int .u64 e.hi) := hCC 1 (by omega)
          have d2 : wr.cell? ⟨b, off + k * 7 + 2, none⟩ = some (.int .u64 e.lo) := hCC 2 (by omega)
          have d3 : wr.cell? ⟨b, off + k * 7 + 3, none⟩ = some (.int .i64 e.pr) := hCC 3 (by omega)
          have d4 : wr.cell? ⟨b, off + k * 7 + 4, none⟩ = some (.int .i64 e.po) := hCC 4 (by omega)
          have d5 : wr.cell? ⟨b, off + k * 7 + 5, none⟩ = some (.int .i64 e.co) := hCC 5 (by omega)
          have d6 : wr.cell? ⟨b, off + k * 7 + 6, none⟩ = some (.bool e.nat) := hCC 6 (by omega)
          have j0 : (0 : Int) ≤ k := by omega
          have j1 : (k : Int) < sn := by omega
          have j2 : (k : Int) ≤ (sC : Int) := by omega
          obtain ⟨w3, hw3⟩ : ∃ w3, w3 = wr.alloc (.cells #[.bool e.v6, .int .u64 e.hi, .int .u64 e.lo, .int .i64 e.pr, .int .i64 e.po, .int .i64 e.co, .bool e.nat] 48) := ⟨_, rfl⟩
          have E3 := Lib.hid hw3
          have K3 := Lib.hid (show Blk w3 wr.heap.size 48 #[.bool e.v6, .int .u64 e.hi, .int .u64 e.lo, .int .i64 e.pr, .int .i64 e.po, .int .i64 e.co, .bool e.nat] from hw3 ▸ Blk.new wr _ _)
          have B3 := Lib.hid (show Below wr.heap.size wr w3 from hw3 ▸ (Below.refl _ _).alloc (Nat.le_refl _) _)
          have C3 := Lib.hid (CK.out.below B3.out)
          have S3 := Lib.hid (rows_below SK.out B3.out)
          have HCALL := Lib.hid (show Calls Try.prog 49 #[.agg #[.bool e.v6, .int .u64 e.hi, .int .u64 e.lo, .int .i64 e.pr, .int .i64 e.po, .int .i64 e.co, .bool e.nat], .slice (some ⟨b, off, none⟩) k sC] w3.drew (RetI (vipQ c.vps e k) w3.drew) from vip_any e (some ⟨b, off, none⟩) sC c.vps k w3.drew (rows_below S3.out (Below.refl _ _).drew) (by have := SN.out; omega) (by omega) s2)
          rw [← HW0.out] at HCALL
          obtain ⟨y, hy⟩ : ∃ y, y = vipW c.vps k := ⟨_, rfl⟩
          rw [← hy] at HCALL
          have HY := Lib.hid hy
          have s0 : w3.drew.cell? ⟨wr.heap.size, 0, none⟩ = some (.bool e.v6) ∧ w3.drew.cell? ⟨wr.heap.size, 1, none⟩ = some (.int .u64 e.hi) ∧ w3.drew.cell? ⟨wr.heap.size, 2, none⟩ = some (.int .u64 e.lo) ∧ w3.drew.cell? ⟨wr.heap.size, 3, none⟩ = some (.int .i64 e.pr) ∧ w3.drew.cell? ⟨wr.heap.size, 4, none⟩ = some (.int .i64 e.po) ∧ w3.drew.cell? ⟨wr.heap.size, 5, none⟩ = some (.int .i64 e.co) ∧ w3.drew.cell? ⟨wr.heap.size, 6, none⟩ = some (.bool e.nat) ∧ w3.drew.cell? ⟨g, 1, none⟩ = some (.slice (some ⟨b, off, none⟩) sn sC) := ⟨K3.out.cell 0, K3.out.cell 1, K3.out.cell 2, K3.out.cell 3, K3.out.cell 4, K3.out.cell 5, K3.out.cell 6, SF.out w3 C3.out⟩
          clear hw3 hCC hy
          go_upto_region 13 with fail
          rw [← E3.out]
          go_region_held3 (fun V => V.cell? ⟨wr.heap.size, 0, none⟩ = some (.bool e.v6) ∧ V.cell? ⟨wr.heap.size, 1, none⟩ = some (.int .u64 e.hi) ∧ V.cell? ⟨wr.heap.size, 2, none⟩ = some (.int .u64 e.lo) ∧ V.cell? ⟨wr.heap.size, 3, none⟩ = some (.int .i64 e.pr) ∧ V.cell? ⟨wr.heap.size, 4, none⟩ = some (.int .i64 e.po) ∧ V.cell? ⟨wr.heap.size, 5, none⟩ = some (.int .i64 e.co) ∧ V.cell? ⟨wr.heap.size, 6, none⟩ = some (.bool e.nat) ∧ V.cell? ⟨g, 1, none⟩ = some (.slice (some ⟨b, off, none⟩) sn sC)) (first | with_reducible assumption | with_reducible exact s9.out) (first
            | ((with_reducible refine HCALL.out.mono ?_)
               rintro o w4 ⟨rfl, hb4⟩
               have hb5 : Below w3.heap.size w3 w4 := (Below.refl _ _).drew.trans hb4
               have B4 := Lib.hid (show Below wr.heap.size wr w4 from B3.out.trans (hb5.mono B3.out.size))
               have K4 := Lib.hid (show Blk w4 wr.heap.size 48 #[.bool e.v6, .int .u64 e.hi, .int .u64 e.lo, .int .i64 e.pr, .int .i64 e.po, .int .i64 e.co, .bool e.nat] from K3.out.below hb5 K3.out.lt)
               have C4 := Lib.hid (CK.out.below B4.out)
               have s9 := Lib.hid (show w4.cell? ⟨wr.heap.size, 0, none⟩ = some (.bool e.v6) ∧ w4.cell? ⟨wr.heap.size, 1, none⟩ = some (.int .u64 e.hi) ∧ w4.cell? ⟨wr.heap.size, 2, none⟩ = some (.int .u64 e.lo) ∧ w4.cell? ⟨wr.heap.size, 3, none⟩ = some (.int .i64 e.pr) ∧ w4.cell? ⟨wr.heap.size, 4, none⟩ = some (.int .i64 e.po) ∧ w4.cell? ⟨wr.heap.size, 5, none⟩ = some (.int .i64 e.co) ∧ w4.cell? ⟨wr.heap.size, 6, none⟩ = some (.bool e.nat) ∧ w4.cell? ⟨g, 1, none⟩ = some (.slice (some ⟨b, off, none⟩) sn sC) from ⟨K4.out.cell 0, K4.out.cell 1, K4.out.cell 2, K4.out.cell 3, K4.out.cell 4, K4.out.cell 5, K4.out.cell 6, SF.out w4 C4.out⟩)
               clear hb4 hb5))
          have HST := Lib.hid (show y ≠ 0 → vipsE c.vps = y from fun h => by rw [HY.out] at h ⊢; exact fst_stop KN.out h (by have := SN.out; omega))
          have HNE := Lib.hid (show y = 0 → fstE (vipW c.vps) (k + 1) = 0 from fun h => by rw [fst_next KN.out, ← HY.out]; exact h)
          clear HCALL HY s0
          by_cases hy0 : y = 0
          · subst hy0
            go_wp2_with fail
            go_roundw
            case rel => exact ⟨k + 1, by go_num, by omega, HNE.out rfl, KB.out.trans (B4.out.mono KB.out.size)⟩
            case measure => simp [intOf]; omega
          · have t3 : (y != 0) = true := bne_iff_ne.mpr hy0
            have HQ := Lib.hid (show Q = y from by rw [HQ.out, HST.out hy0, if_pos hy0])
            go_wp2_with fail
            go_ret
            exact HP.out y HQ.out _ (B2.out.trans ((KB.out.trans (B4.out.mono KB.out.size)).mono B2.out.size))
        · have t1 : decide ((k : Int) < sn) = false := decide_eq_false (by omega)
          obtain rfl : sn = k := by omega
          have HQ := Lib.hid (show Q = viewsE (levN c) c.vws from by rw [HQ.out, show vipsE c.vps = 0 from by have h := KN.out; rw [SN.out] at h; exact h]; rfl)
          have B3 := Lib.hid (B2.out.trans (KB.out.mono B2.out.size))
          have C3 := Lib.hid (HC.out.below B3.out)
          obtain ⟨vA, hvA⟩ : ∃ x, x = c.wA := ⟨_, rfl⟩
          obtain ⟨vC, hvC⟩ : ∃ x, x = c.wc := ⟨_, rfl⟩
          obtain ⟨vn, hvn⟩ : ∃ x, x = c.vws.length := ⟨_, rfl⟩
          have VR := Lib.hid (show RdW wr vA c.vws from hvA ▸ C3.out.rw_)
          have v1 : vn ≤ vC := by have := C3.out.cw; omega
          have v2 : vC ≤ 9223372036854775807 := by have := C3.out.cw2; omega
          have VN := Lib.hid hvn
          have VF := Lib.hid (show ∀ W, CfOk W g T c → W.cell? ⟨g, 2, none⟩ = some (.slice vA vn vC) ∧ W.cell? ⟨g, 11, none⟩ = some (.pointer (some ⟨T, 0, none⟩)) from fun W h => ⟨by rw [hvA, hvC, hvn]; exact h.blk.cell 2, h.blk.cell 11⟩)
          obtain ⟨w5, hw5⟩ : ∃ w5, w5 = wr := ⟨_, rfl⟩
          subst hw5
          have d2 : w5.cell? ⟨g, 2, none⟩ = some (.slice vA vn vC) := (VF.out w5 C3.out).1
          have W5 := Lib.hid (Below.refl w5.heap.size w5)
          have LEV := Lib.hid (show levN c = ((ofK c.nds 1 c.nds.length).length : Int) from rfl)
          obtain ⟨lv, hlv⟩ : ∃ lv, lv = (ofK c.nds 1 c.nds.length).length := ⟨_, rfl⟩
          have LV := Lib.hid hlv
          have HQ := Lib.hid (show Q = viewsE (lv : Int) c.vws from by rw [HQ.out, LEV.out, hlv])
          clear KB KN hk hkn hvA hvC hvn hlv s1 s2 SR SF LEV
          go_wp2_with fail
          go_loopw [70] (fun i wr => ∃ k : Nat, i = .int .i64 k ∧ k ≤ vn ∧ fstE (viewW (lv : Int) c.vws) k = 0 ∧ Below w5.heap.size w5 wr) (fun i _ => vn - (intOf i).toNat)
          case atStart => exact ⟨0, rfl, by omega, rfl, W5.out⟩
          case round =>
            obtain ⟨k, rfl, hk, hnl, hbel⟩ := hrel
            have KB := Lib.hid hbel
            have KN := Lib.hid hnl
            clear hbel hnl d2
            by_cases hkn : k < vn
            · have t1 : decide ((k : Int) < vn) = true := decide_eq_true (by omega)
              have CK := Lib.hid (C3.out.below KB.out)
              have SK := Lib.hid (rows_below VR.out KB.out)
              obtain ⟨b, off, hA, hbl, hC⟩ := rows_at SK.out k (by have := VN.out; omega)
              subst hA
              have HW0 := Lib.hid (show viewW (lv : Int) c.vws k = viewQ (lv : Int) c.vws (c.vws.getD k zVw) k from rfl)
              have HU := Lib.hid (HC.out.vu k (by have := VN.out; omega))
              obtain ⟨e, he⟩ : ∃ e, e = c.vws.getD k zVw := ⟨_, rfl⟩
              rw [← he] at HW0 HU
              have hCC := hC
              simp only [← he] at hCC
              clear hC he
              have d0 : wr.cell? ⟨b, off + k * 5, none⟩ = some (.bool e.v6) := hCC 0 (by omega)
              have d1 : wr.cell? ⟨b, off + k * 5 + 1, none⟩ = some (.int .u64 e.hi) := hCC 1 (by omega)
              have d2 : wr.cell? ⟨b, off + k * 5 + 2, none⟩ = some (.int .u64 e.lo) := hCC 2 (by omega)
              have d3 : wr.cell? ⟨b, off + k * 5 + 3, none⟩ = some (.int .i64 e.bits) := hCC 3 (by omega)
              have d4 : wr.cell? ⟨b, off + k * 5 + 4, none⟩ = some (.int .i64 e.lev) := hCC 4 (by omega)
              have j0 : (0 : Int) ≤ k := by omega
              have j1 : (k : Int) < vn := by omega
              have j2 : (k : Int) ≤ (vC : Int) := by omega
              obtain ⟨w3, hw3⟩ : ∃ w3, w3 = wr.alloc (.cells #[.bool e.v6, .int .u64 e.hi, .int .u64 e.lo, .int .i64 e.bits, .int .i64 e.lev] 52) := ⟨_, rfl⟩
              have E3 := Lib.hid hw3
              have K3 := Lib.hid (show Blk w3 wr.heap.size 52 #[.bool e.v6, .int .u64 e.hi, .int .u64 e.lo, .int .i64 e.bits, .int .i64 e.lev] from hw3 ▸ Blk.new wr _ _)
              have BB3 := Lib.hid (show Below wr.heap.size wr w3 from hw3 ▸ (Below.refl _ _).alloc (Nat.le_refl _) _)
              have CC3 := Lib.hid (CK.out.below BB3.out)
              have HCALL := Lib.hid (show ∀ W, Below wr.heap.size wr W → Calls Try.prog 50 #[.agg #[.bool e.v6, .int .u64 e.hi, .int .u64 e.lo, .int .i64 e.bits, .int .i64 e.lev], .slice (some ⟨b, off, none⟩) k vC, .int .i64 lv] W (RetI (viewQ (lv : Int) c.vws e k) W) from fun W hb => view_any e lv (some ⟨b, off, none⟩) vC c.vws k W (rows_below SK.out hb) (by have := VN.out; omega) (by omega) v2 HU.out.1.1 HU.out.1.2 HU.out.2.1 HU.out.2.2)
              rw [← HW0.out] at HCALL
              obtain ⟨y, hy⟩ : ∃ y, y = viewW (lv : Int) c.vws k := ⟨_, rfl⟩
              rw [← hy] at HCALL
              have HY := Lib.hid hy
              have LVC := Lib.hid (show ∀ W, CfOk W g T c → Calls Try.prog 51 #[.pointer (some ⟨T, 0, none⟩)] W fun o w' => ∃ A8 c8, o = .returned (.slice A8 lv c8) ∧ Below W.heap.size W w' from fun W h => by
                obtain ⟨A2, c2, K2, kc2, ht2⟩ := h.ok.at_
                refine (levels_any ht2 (by have := h.ok.len; omega)).mono ?_
                rintro o w' ⟨v, rfl, ho, hb⟩
                obtain ⟨A8, c8, rfl, p1, p2, p3⟩ := read_own ho
                exact ⟨A8, c8, by rw [LV.out], hb⟩)
              have s0 : w3.drew.cell? ⟨wr.heap.size, 0, none⟩ = some (.bool e.v6) ∧ w3.drew.cell? ⟨wr.heap.size, 1, none⟩ = some (.int .u64 e.hi) ∧ w3.drew.cell? ⟨wr.heap.size, 2, none⟩ = some (.int .u64 e.lo) ∧ w3.drew.cell? ⟨wr.heap.size, 3, none⟩ = some (.int .i64 e.bits) ∧ w3.drew.cell? ⟨wr.heap.size, 4, none⟩ = some (.int .i64 e.lev) ∧ w3.drew.cell? ⟨g, 2, none⟩ = some (.slice (some ⟨b, off, none⟩) vn vC) ∧ w3.drew.cell? ⟨g, 11, none⟩ = some (.pointer (some ⟨T, 0, none⟩)) := ⟨K3.out.cell 0, K3.out.cell 1, K3.out.cell 2, K3.out.cell 3, K3.out.cell 4, (VF.out w3 CC3.out).1, (VF.out w3 CC3.out).2⟩
              clear hw3 hCC hy
              go_upto_region 20 with fail
              rw [← E3.out]
              go_region_held3 (fun V => V.cell? ⟨wr.heap.size, 0, none⟩ = some (.bool e.v6) ∧ V.cell? ⟨wr.heap.size, 1, none⟩ = some (.int .u64 e.hi) ∧ V.cell? ⟨wr.heap.size, 2, none⟩ = some (.int .u64 e.lo) ∧ V.cell? ⟨wr.heap.size, 3, none⟩ = some (.int .i64 e.bits) ∧ V.cell? ⟨wr.heap.size, 4, none⟩ = some (.int .i64 e.lev) ∧ V.cell? ⟨g, 2, none⟩ = some (.slice (some ⟨b, off, none⟩) vn vC) ∧ V.cell? ⟨g, 11, none⟩ = some (.pointer (some ⟨T, 0, none⟩))) (first | with_reducible assumption | with_reducible exact s8.out | with_reducible exact s9.out) (first
                | ((with_reducible refine (LVC.out _ (CC3.out.below (Below.refl _ _).drew)).mono ?_)
                   rintro o w4 ⟨A8, c8, rfl, hb4⟩
                   have hb5 : Below w3.heap.size w3 w4 := (Below.refl _ _).drew.trans hb4
                   have B4 := Lib.hid (show Below wr.heap.size wr w4 from BB3.out.trans (hb5.mono BB3.out.size))
                   have K4 := Lib.hid (show Blk w4 wr.heap.size 52 #[.bool e.v6, .int .u64 e.hi, .int .u64 e.lo, .int .i64 e.bits, .int .i64 e.lev] from K3.out.below hb5 K3.out.lt)
                   have C4 := Lib.hid (CK.out.below B4.out)
                   have s8 := Lib.hid (show w4.cell? ⟨wr.heap.size, 0, none⟩ = some (.bool e.v6) ∧ w4.cell? ⟨wr.heap.size, 1, none⟩ = some (.int .u64 e.hi) ∧ w4.cell? ⟨wr.heap.size, 2, none⟩ = some (.int .u64 e.lo) ∧ w4.cell? ⟨wr.heap.size, 3, none⟩ = some (.int .i64 e.bits) ∧ w4.cell? ⟨wr.heap.size, 4, none⟩ = some (.int .i64 e.lev) ∧ w4.cell? ⟨g, 2, none⟩ = some (.slice (some ⟨b, off, none⟩) vn vC) ∧ w4.cell? ⟨g, 11, none⟩ = some (.pointer (some ⟨T, 0, none⟩)) from ⟨K4.out.cell 0, K4.out.cell 1, K4.out.cell 2, K4.out.cell 3, K4.out.cell 4, (VF.out w4 C4.out).1, (VF.out w4 C4.out).2⟩)
                   clear hb4 hb5)
                | ((with_reducible refine (HCALL.out _ B4.out).mono ?_)
                   rintro o w6 ⟨rfl, hb6⟩
                   have B6 := Lib.hid (show Below wr.heap.size wr w6 from B4.out.trans (hb6.mono B4.out.size))
                   have K6 := Lib.hid (show Blk w6 wr.heap.size 52 #[.bool e.v6, .int .u64 e.hi, .int .u64 e.lo, .int .i64 e.bits, .int .i64 e.lev] from K4.out.below hb6 K4.out.lt)
                   have C6 := Lib.hid (CK.out.below B6.out)
                   have s9 := Lib.hid (show w6.cell? ⟨wr.heap.size, 0, none⟩ = some (.bool e.v6) ∧ w6.cell? ⟨wr.heap.size, 1, none⟩ = some (.int .u64 e.hi) ∧ w6.cell? ⟨wr.heap.size, 2, none⟩ = some (.int .u64 e.lo) ∧ w6.cell? ⟨wr.heap.size, 3, none⟩ = some (.int .i64 e.bits) ∧ w6.cell? ⟨wr.heap.size, 4, none⟩ = some (.int .i64 e.lev) ∧ w6.cell? ⟨g, 2, none⟩ = some (.slice (some ⟨b, off, none⟩) vn vC) ∧ w6.cell? ⟨g, 11, none⟩ = some (.pointer (some ⟨T, 0, none⟩)) from ⟨K6.out.cell 0, K6.out.cell 1, K6.out.cell 2, K6.out.cell 3, K6.out.cell 4, (VF.out w6 C6.out).1, (VF.out w6 C6.out).2⟩)
                   clear hb6))
              have HST := Lib.hid (show y ≠ 0 → viewsE (lv : Int) c.vws = y from fun h => by rw [HY.out] at h ⊢; exact fst_stop KN.out h (by have := VN.out; omega))
              have HNE := Lib.hid (show y = 0 → fstE (viewW (lv : Int) c.vws) (k + 1) = 0 from fun h => by rw [fst_next KN.out, ← HY.out]; exact h)
              clear HCALL HY s0
              by_cases hy0 : y = 0
              · subst hy0
                go_wp2_with fail
                go_roundw
                case rel => exact ⟨k + 1, by go_num, by omega, HNE.out rfl, KB.out.trans (B6.out.mono KB.out.size)⟩
                case measure => simp [intOf]; omega
              · have t3 : (y != 0) = true := bne_iff_ne.mpr hy0
                have HQ := Lib.hid (show Q = y from by rw [HQ.out, HST.out hy0])
                go_wp2_with fail
                go_ret
                exact HP.out y HQ.out _ (B3.out.trans ((KB.out.trans (B6.out.mono KB.out.size)).mono B3.out.size))
            · have t1 : decide ((k : Int) < vn) = false := decide_eq_false (by omega)
              obtain rfl : vn = k := by omega
              have HQ := Lib.hid (show Q = 0 from by rw [HQ.out]; have h := KN.out; rw [VN.out] at h; exact h)
              go_wp2_with fail
              go_ret
              exact HP.out 0 HQ.out _ (B3.out.trans (KB.out.mono B3.out.size))
end Go.Proofs.Ytamndmlaikgogaa.vdH
