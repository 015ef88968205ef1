/- 6 texts in one. -/
import Derived.Laws.AppendOwnNone
import Derived.Deep.RegionHeldLaw
import Derived.Test.YtodckfgfbcnkoaaNa11
import Derived.Test.YtodckfgfbcnkoaaNa13
/- Layer 9: which headers may be. -/
namespace Go.Proofs.Ytodckfgfbcnkoaa.sixH
set_option maxHeartbeats 8000000
set_option maxRecDepth 100000
open Go.ChangeShapes Go.WideShapes Go.ChangeAt Go.RowKit
open base rdrA rdrG sumB sixW sixM sixA sixB sixE sixG
set_option linter.unusedVariables false
structure RightH (h:Hs) (l:List XP):Prop where
  c0:0 ≤ h.cls
  c1:h.cls ≤ 255
  h0:0 ≤ h.hop
  h1:h.hop ≤ 255
  l0:0 ≤ h.lab
  l1:h.lab ≤ 1048575
  s6:h.s6 = true
  d6:h.d6 = true
  p0:0 ≤ h.p
  p1:h.p ≤ 255
  pn:isX h.p = false
  e:RightE l
def RightP (w:World) (h:Hs) (l:List XP) (o:Ending) (w':World):Prop := ∃ v,o = .returned (.bool v)∧(v = true ↔ RightH h l)∧Below w.heap.size w w'
theorem slice_toX (b off n c t:Nat) (ht:t ≤ c) (hc:0 < c) :
    (∀ W:World,(Instr.slice 46 (.slice (some ⟨b,off,none⟩) n c) none (some (.int .i64 (t:Int))) none).run Try.prog W = .ok (.slice (some ⟨b,off,none⟩) t c) W) ∧
    (∀ W:World,(Instr.sliceAt 46 (.slice (some ⟨b,off,none⟩) n c) none (some (.int .i64 (t:Int))) none).run Try.prog W = .ok (.slice (some ⟨b,off,none⟩) t c) W) := by
  have hu:Try.prog.underlying 46 = some (.slice (Try.prog.elem 46)) := by kernel_rfl
  have hz:∀ W:World,(sizeOf (Try.prog.elem 46)).run Try.prog W = .ok 2 W := fun _ => by kernel_rfl
  have key:∀ W:World,(Instr.slice 46 (.slice (some ⟨b,off,none⟩) n c) none (some (.int .i64 (t:Int))) none).run Try.prog W = .ok (.slice (some ⟨b,off,none⟩) t c) W := by
    intro W
    rw [run_slice_h W 46 (some ⟨b,off,none⟩) n c hu .i64 (t:Int) (by omega) (by omega),hz]
    simp only [Result.andThen,sliced,Int.toNat_natCast,Option.map_some,Nat.sub_zero,Addr.add_lit,Nat.zero_mul,Nat.add_zero]
    split <;> rfl
  exact ⟨key,fun W => by rw [run_sliceAt_slice W 46 _ _ _ _ hu,key]⟩
theorem map_take (l:List Xt) (k:Nat):(l.take k).map Xt.re = (l.map Xt.re).take k := by rw [List.map_take]
theorem right_any (h:Hs) (A:Option Addr) (n c:Nat) (l:List Xt) (w:World) (hl:l.length = n) (hr:RdX w A l) (hnc:n ≤ c) (hn:n ≤ 9223372036854775807) (hd:∀ x ∈ l,x.d.length ≤ 9223372036854775807) :
    Calls Try.prog 68 #[.agg (h.cells (.slice A n c))] w (RightP w h (l.map Xt.re)) := by
  obtain ⟨cls,lab,hop,s6,sh,sl,d6,dh,dl,p⟩ := h
  obtain ⟨w1,hw1⟩:∃ w1,w1 = w.alloc (.cells #[.int .i64 cls,.int .i64 lab,.int .i64 hop,.bool s6,.int .u64 sh,.int .u64 sl,.bool d6,.int .u64 dh,.int .u64 dl,.slice A n c,.int .i64 p] 48) := ⟨_,rfl⟩
  have E1 := Lib.hid hw1
  have BA := Lib.hid (show Below w.heap.size w w1 from by rw [hw1]; exact (Below.refl _ _).alloc (Nat.le_refl _) _)
  have KB := Lib.hid (show Blk w1 w.heap.size 48 #[.int .i64 cls,.int .i64 lab,.int .i64 hop,.bool s6,.int .u64 sh,.int .u64 sl,.bool d6,.int .u64 dh,.int .u64 dl,.slice A n c,.int .i64 p] from by rw [hw1]; exact Blk.new w _ _)
  have HR1 := Lib.hid (hr.below BA.out)
  have HL := Lib.hid hl
  have HD := Lib.hid hd
  have IS := Lib.hid (fun V => is_any p V)
  have HNO := Lib.hid (show ∀ w',¬ RightH ⟨cls,lab,hop,s6,sh,sl,d6,dh,dl,p⟩ (l.map Xt.re) → Below w.heap.size w w' → RightP w ⟨cls,lab,hop,s6,sh,sl,d6,dh,dl,p⟩ (l.map Xt.re) (.returned (.bool false)) w' from fun w' h1 h2 => ⟨false,rfl,⟨fun h => (by cases h),fun h => absurd h h1⟩,h2⟩)
  have HYES := Lib.hid (show ∀ w',RightH ⟨cls,lab,hop,s6,sh,sl,d6,dh,dl,p⟩ (l.map Xt.re) → Below w.heap.size w w' → RightP w ⟨cls,lab,hop,s6,sh,sl,d6,dh,dl,p⟩ (l.map Xt.re) (.returned (.bool true)) w' from fun w' h1 h2 => ⟨true,rfl,⟨fun _ => h1,fun _ => rfl⟩,h2⟩)
  obtain ⟨HH,hHH⟩:∃ HH,HH = RightH ⟨cls,lab,hop,s6,sh,sl,d6,dh,dl,p⟩ (l.map Xt.re) := ⟨_,rfl⟩
  have EHH := Lib.hid hHH
  rw [← hHH] at HNO HYES
  show Calls _ _ #[.agg #[.int .i64 cls,.int .i64 lab,.int .i64 hop,.bool s6,.int .u64 sh,.int .u64 sl,.bool d6,.int .u64 dh,.int .u64 dl,.slice A n c,.int .i64 p]] _ _
  have dd0 := KB.out.cell 0
  have dd1 := KB.out.cell 1
  have dd2 := KB.out.cell 2
  have dd3 := KB.out.cell 3
  have dd4 := KB.out.cell 4
  have dd5 := KB.out.cell 5
  have dd6 := KB.out.cell 6
  have dd7 := KB.out.cell 7
  have dd8 := KB.out.cell 8
  have dd9 := KB.out.cell 9
  have dd10 := KB.out.cell 10
  clear hw1 hl hr hd hHH
  by_cases xc0:cls < 0
  · have HX := Lib.hid (show ¬ HH from by rw [EHH.out]; intro H; have e := H.c0; simp only at e; omega)
    have qc0_0:decide (cls < 0) = true := decide_eq_true (by omega)
    have qc0_1:decide (0 ≤ cls) = false := decide_eq_false (by omega)
    clear xc0
    go_enter Try.func68,Try.ntmps68
    go_upto_region 1 with fail
    rw [← E1.out]
    go_wp2_with fail
    go_ret
    exact HNO.out _ HX.out BA.out
  have qc0_0:decide (cls < 0) = false := decide_eq_false (by omega)
  have qc0_1:decide (0 ≤ cls) = true := decide_eq_true (by omega)
  by_cases xc1:255 < cls
  · have HX := Lib.hid (show ¬ HH from by rw [EHH.out]; intro H; have e := H.c1; simp only at e; omega)
    have qc1_0:decide (255 < cls) = true := decide_eq_true (by omega)
    have qc1_1:decide (cls ≤ 255) = false := decide_eq_false (by omega)
    clear xc1
    go_enter Try.func68,Try.ntmps68
    go_upto_region 1 with fail
    rw [← E1.out]
    go_wp2_with fail
    go_ret
    exact HNO.out _ HX.out BA.out
  have qc1_0:decide (255 < cls) = false := decide_eq_false (by omega)
  have qc1_1:decide (cls ≤ 255) = true := decide_eq_true (by omega)
  by_cases xh0:hop < 0
  · have HX := Lib.hid (show ¬ HH from by rw [EHH.out]; intro H; have e := H.h0; simp only at e; omega)
    have qh0_0:decide (hop < 0) = true := decide_eq_true (by omega)
    have qh0_1:decide (0 ≤ hop) = false := decide_eq_false (by omega)
    clear xh0
    go_enter Try.func68,Try.ntmps68
    go_upto_region 1 with fail
    rw [← E1.out]
    go_wp2_with fail
    go_ret
    exact HNO.out _ HX.out BA.out
  have qh0_0:decide (hop < 0) = false := decide_eq_false (by omega)
  have qh0_1:decide (0 ≤ hop) = true := decide_eq_true (by omega)
  by_cases xh1:255 < hop
  · have HX := Lib.hid (show ¬ HH from by rw [EHH.out]; intro H; have e := H.h1; simp only at e; omega)
    have qh1_0:decide (255 < hop) = true := decide_eq_true (by omega)
    have qh1_1:decide (hop ≤ 255) = false := decide_eq_false (by omega)
    clear xh1
    go_enter Try.func68,Try.ntmps68
    go_upto_region 1 with fail
    rw [← E1.out]
    go_wp2_with fail
    go_ret
    exact HNO.out _ HX.out BA.out
  have qh1_0:decide (255 < hop) = false := decide_eq_false (by omega)
  have qh1_1:decide (hop ≤ 255) = true := decide_eq_true (by omega)
  by_cases xl0:lab < 0
  · have HX := Lib.hid (show ¬ HH from by rw [EHH.out]; intro H; have e := H.l0; simp only at e; omega)
    have ql0_0:decide (lab < 0) = true := decide_eq_true (by omega)
    have ql0_1:decide (0 ≤ lab) = false := decide_eq_false (by omega)
    clear xl0
    go_enter Try.func68,Try.ntmps68
    go_upto_region 1 with fail
    rw [← E1.out]
    go_wp2_with fail
    go_ret
    exact HNO.out _ HX.out BA.out
  have ql0_0:decide (lab < 0) = false := decide_eq_false (by omega)
  have ql0_1:decide (0 ≤ lab) = true := decide_eq_true (by omega)
  by_cases xl1:1048575 < lab
  · have HX := Lib.hid (show ¬ HH from by rw [EHH.out]; intro H; have e := H.l1; simp only at e; omega)
    have ql1_0:decide (1048576 ≤ lab) = true := decide_eq_true (by omega)
    have ql1_1:decide (lab ≤ 1048575) = false := decide_eq_false (by omega)
    have ql1_2:decide (1048575 < lab) = true := decide_eq_true (by omega)
    clear xl1
    go_enter Try.func68,Try.ntmps68
    go_upto_region 1 with fail
    rw [← E1.out]
    go_wp2_with fail
    go_ret
    exact HNO.out _ HX.out BA.out
  have ql1_0:decide (1048576 ≤ lab) = false := decide_eq_false (by omega)
  have ql1_1:decide (lab ≤ 1048575) = true := decide_eq_true (by omega)
  have ql1_2:decide (1048575 < lab) = false := decide_eq_false (by omega)
  rcases (by cases s6 <;> simp:s6 = false ∨ s6 = true) with rfl | rfl
  · have HX := Lib.hid (show ¬ HH from by rw [EHH.out]; intro H; have e:false = true := H.s6; cases e)
    go_enter Try.func68,Try.ntmps68
    go_upto_region 1 with fail
    rw [← E1.out]
    go_wp2_with fail
    go_ret
    exact HNO.out _ HX.out BA.out
  rcases (by cases d6 <;> simp:d6 = false ∨ d6 = true) with rfl | rfl
  · have HX := Lib.hid (show ¬ HH from by rw [EHH.out]; intro H; have e:false = true := H.d6; cases e)
    go_enter Try.func68,Try.ntmps68
    go_upto_region 1 with fail
    rw [← E1.out]
    go_wp2_with fail
    go_ret
    exact HNO.out _ HX.out BA.out
  by_cases xp0:p < 0
  · have HX := Lib.hid (show ¬ HH from by rw [EHH.out]; intro H; have e := H.p0; simp only at e; omega)
    have qp0_0:decide (p < 0) = true := decide_eq_true (by omega)
    have qp0_1:decide (0 ≤ p) = false := decide_eq_false (by omega)
    clear xp0
    go_enter Try.func68,Try.ntmps68
    go_upto_region 1 with fail
    rw [← E1.out]
    go_wp2_with fail
    go_ret
    exact HNO.out _ HX.out BA.out
  have qp0_0:decide (p < 0) = false := decide_eq_false (by omega)
  have qp0_1:decide (0 ≤ p) = true := decide_eq_true (by omega)
  by_cases xp1:255 < p
  · have HX := Lib.hid (show ¬ HH from by rw [EHH.out]; intro H; have e := H.p1; simp only at e; omega)
    have qp1_0:decide (255 < p) = true := decide_eq_true (by omega)
    have qp1_1:decide (p ≤ 255) = false := decide_eq_false (by omega)
    clear xp1
    go_enter Try.func68,Try.ntmps68
    go_upto_region 1 with fail
    rw [← E1.out]
    go_wp2_with fail
    go_ret
    exact HNO.out _ HX.out BA.out
  have qp1_0:decide (255 < p) = false := decide_eq_false (by omega)
  have qp1_1:decide (p ≤ 255) = true := decide_eq_true (by omega)
  cases hpn:isX p with
  | true =>
    rw [hpn] at IS
    have HX := Lib.hid (show ¬ HH from by rw [EHH.out]; intro H; have e:isX p = false := H.pn; rw [hpn] at e; cases e)
    clear hpn
    go_enter Try.func68,Try.ntmps68
    go_upto_region 1 with fail
    rw [← E1.out]
    go_wp2_with fail
    refine (IS.out _).mono ?_
    rintro o w' ⟨rfl,rfl⟩
    go_wp2_with fail
    go_ret
    exact HNO.out _ HX.out BA.out
  | false =>
  have HPN := Lib.hid hpn
  rw [hpn] at IS
  clear hpn
  by_cases h8:8 < n
  · have HX := Lib.hid (show ¬ HH from by rw [EHH.out]; intro H; have e := H.e.most; rw [List.length_map,HL.out] at e; omega)
    have q8:decide (8 < (n:Int)) = true := decide_eq_true (by omega)
    have q9:decide (8 < n) = true := decide_eq_true h8
    clear h8
    go_enter Try.func68,Try.ntmps68
    go_upto_region 1 with fail
    rw [← E1.out]
    go_wp2_with fail
    refine (IS.out _).mono ?_
    rintro o w' ⟨rfl,rfl⟩
    go_wp2_with fail
    go_ret
    exact HNO.out _ HX.out BA.out
  have q8:decide (8 < (n:Int)) = false := decide_eq_false (by omega)
  have q9:decide (8 < n) = false := decide_eq_false h8
  have hn8:n ≤ 8 := by omega
  have HC := Lib.hid (show RightE (l.map Xt.re) → HH from fun h => by
    rw [EHH.out]
    exact ⟨by show 0 ≤ cls; omega,by show cls ≤ 255; omega,by show 0 ≤ hop; omega,by show hop ≤ 255; omega,by show 0 ≤ lab; omega,by show lab ≤ 1048575; omega,rfl,rfl,by show 0 ≤ p; omega,by show p ≤ 255; omega,HPN.out,h⟩)
  have HNE := Lib.hid (show ∀ j,j < n → ¬ (rightX ((l.map Xt.re)[j]?.getD (0,[])) j = true∧lies ((l.map Xt.re).take j) / 8 = 0) → ¬ HH from fun j hj h => by
    rw [EHH.out]
    intro H
    have hjl:j < (l.map Xt.re).length := by rw [List.length_map,HL.out]; exact hj
    refine h ⟨?_,H.e.whole j hjl⟩
    rw [List.getElem?_eq_getElem hjl]
    exact H.e.each j hjl)
  clear xc0 xc1 xh0 xh1 xl0 xl1 xp0 xp1 h8
  go_enter Try.func68,Try.ntmps68
  go_upto_region 1 with fail
  rw [← E1.out]
  go_wp2_with fail
  refine (IS.out _).mono ?_
  rintro o w' ⟨rfl,rfl⟩
  go_wp2_with fail
  go_loopw [3,66] (fun _ i wr => ∃ j:Nat,j ≤ n∧i = .int .i64 j∧Hid (∀ k,k < j → rightX ((l.map Xt.re)[k]?.getD (0,[])) k = true∧lies ((l.map Xt.re).take k) / 8 = 0)∧Hid (Below w1.heap.size w1 wr)) (fun _ i _ => n - (intOf i).toNat)
  case atStart => exact ⟨0,by omega,rfl,Lib.hid (fun k hk => by omega),Lib.hid (Below.refl _ _)⟩
  case round =>
    obtain ⟨j,hj,rfl,HG,HBJ⟩ := hrel
    have k9:wr.cell? ⟨w.heap.size,9,none⟩ = some (.slice A n c) := (HBJ.out.cell (p := ⟨w.heap.size,9,none⟩) KB.out.lt).trans dd9
    by_cases hlt:j < n
    · have hjl:j < l.length := HL.out.symm ▸ hlt
      obtain ⟨b,off,hA,hbl,hC⟩ := (HR1.out.below HBJ.out).at_ j hjl
      subst hA
      obtain ⟨x,hx⟩:∃ x,x = l[j] := ⟨_,rfl⟩
      have HXM := Lib.hid (show x ∈ l from hx ▸ List.getElem_mem hjl)
      have HEL := Lib.hid (HR1.out.els x HXM.out)
      rw [← hx] at hC
      obtain ⟨kd,hkd⟩:∃ kd,kd = x.kind := ⟨_,rfl⟩
      obtain ⟨xA,hxA⟩:∃ xA,xA = x.A := ⟨_,rfl⟩
      obtain ⟨xn,hxn⟩:∃ xn,xn = x.d.length := ⟨_,rfl⟩
      obtain ⟨xc,hxc⟩:∃ xc,xc = x.c := ⟨_,rfl⟩
      have HK := Lib.hid hkd
      have HXA := Lib.hid hxA
      have HXN := Lib.hid hxn
      have HXC := Lib.hid hxc
      have e0:wr.cell? ⟨b,off + j * 2,none⟩ = some (.int .i64 kd) := by rw [hkd]; exact hC 0 (by omega)
      have e1:wr.cell? ⟨b,off + j * 2 + 1,none⟩ = some (.slice xA xn xc) := by rw [hxA,hxn,hxc]; exact hC 1 (by omega)
      obtain ⟨rx,hrx⟩:∃ rx,rx = rightX x.re j := ⟨_,rfl⟩
      obtain ⟨fr,hfr⟩:∃ fr,fr = lies ((l.map Xt.re).take j) / 8 := ⟨_,rfl⟩
      obtain ⟨frm,hfrm⟩:∃ frm,frm = decide (lies ((l.map Xt.re).take j) % 2 = 1) := ⟨_,rfl⟩
      have HRX := Lib.hid hrx
      have HFR := Lib.hid hfr
      have HFM := Lib.hid hfrm
      have HXR := Lib.hid (show (l.map Xt.re)[j]?.getD (0,[]) = x.re from by rw [List.getElem?_map,List.getElem?_eq_getElem hjl,← hx]; rfl)
      have hfr0:0 ≤ fr := by
        rw [hfr]
        have := lies_in (l := (l.map Xt.re).take j) (fun y hy => by
          have hy := List.mem_of_mem_take hy
          rw [List.mem_map] at hy
          obtain ⟨z,hz,rfl⟩ := hy
          exact (HR1.out.els z hz).2.2.2.1)
        omega
      have RX := Lib.hid (show ∀ V,Below w1.heap.size w1 V → Calls Try.prog 93 #[.agg #[.int .i64 kd,.slice xA xn xc],.int .i64 (j:Int)] V fun o w' => o = .returned (.bool rx)∧Below V.heap.size V w' from fun V hV => by
        have := rext_any x j V ((HEL.out.1.below hV).more hV.size) HEL.out.2.2.2.1 (by omega) (HD.out x HXM.out)
        unfold Xt.cells at this
        rw [← HK.out,← HXA.out,← HXN.out,← HXC.out,← HRX.out] at this
        exact this)
      have FR := Lib.hid (show ∀ V,Below w1.heap.size w1 V → Calls Try.prog 20 #[.agg #[.int .i64 0,.int .i64 0,.int .i64 0,.bool false,.int .u64 0,.int .u64 0,.bool false,.int .u64 0,.int .u64 0,.slice (some ⟨b,off,none⟩) j c,.int .i64 0]] V fun o w' => o = .returned (.int .i64 fr)∧Below V.heap.size V w' from fun V hV => by
        have := frag_any zeroH (some ⟨b,off,none⟩) j c (l.take j) V (by rw [List.length_take,HL.out]; omega) ((HR1.out.below hV).take j) (by omega)
        rw [map_take,← HFR.out] at this
        exact this)
      obtain ⟨r1,r2⟩ := slice_toX b off n c j (by omega) (by omega)
      have j0:(0:Int) ≤ j := by omega
      have j1:(j:Int) < n := by omega
      have j2:(j:Int) ≤ c := by omega
      have t1:decide ((j:Int) < n) = true := decide_eq_true (by omega)
      have t1n:decide (j < n) = true := decide_eq_true hlt
      clear hx hC hkd hxA hxn hxc hrx hfr hfrm hjl hbl
      go_wp2_with fail
      refine (RX.out _ HBJ.out).mono ?_
      rintro o w2 ⟨rfl,hb2⟩
      have HB2 := Lib.hid (HBJ.out.trans (hb2.mono HBJ.out.size))
      clear hb2
      cases rx with
      | false =>
        have HX := Lib.hid (HNE.out j hlt (fun h => by rw [HXR.out,← HRX.out,← HFR.out] at h; cases h.1))
        go_wp2_with fail
        go_ret
        exact HNO.out _ HX.out (BA.out.trans (HB2.out.mono BA.out.size))
      | true =>
        have k9:w2.cell? ⟨w.heap.size,9,none⟩ = some (.slice (some ⟨b,off,none⟩) n c) := (HB2.out.cell (p := ⟨w.heap.size,9,none⟩) KB.out.lt).trans dd9
        go_wp2_with fail
        refine (FR.out _ HB2.out).mono ?_
        rintro o w3 ⟨rfl,hb3⟩
        have HB3 := Lib.hid (HB2.out.trans (hb3.mono HB2.out.size))
        clear hb3
        by_cases h0:fr = 0
        · have t0:(fr != 0) = false := by simpa using h0
          have HGN := Lib.hid (show ∀ k,k < j + 1 → rightX ((l.map Xt.re)[k]?.getD (0,[])) k = true∧lies ((l.map Xt.re).take k) / 8 = 0 from fun k hk => by
            rcases Nat.lt_or_ge k j with h | h
            · exact HG.out k h
            · obtain rfl:k = j := by omega
              rw [HXR.out,← HRX.out,← HFR.out]
              exact ⟨rfl,h0⟩)
          clear h0
          go_wp2_with fail
          go_roundw
          case rel => exact ⟨j + 1,by omega,by go_num,HGN,HB3⟩
          case measure => simp [intOf]; omega
        · have t0:(fr != 0) = true := by simpa using h0
          have HX := Lib.hid (HNE.out j hlt (fun h => by rw [HXR.out,← HRX.out,← HFR.out] at h; exact h0 h.2))
          clear h0
          go_wp2_with fail
          go_ret
          exact HNO.out _ HX.out (BA.out.trans (HB3.out.mono BA.out.size))
    · obtain rfl:n = j := by omega
      have t1:decide ((n:Int) < n) = false := decide_eq_false (by omega)
      have t1n:decide (n < n) = false := decide_eq_false (by omega)
      have HX := Lib.hid (show HH from HC.out ⟨by rw [List.length_map,HL.out]; exact hn8,fun i hi => by
        have := (HG.out i (by rw [List.length_map,HL.out] at hi; exact hi)).1
        rwa [List.getElem?_eq_getElem hi] at this,fun i hi => (HG.out i (by rw [List.length_map,HL.out] at hi; exact hi)).2⟩)
      go_wp2_with fail
      go_ret
      exact HYES.out _ HX.out (BA.out.trans (HBJ.out.mono BA.out.size))
end Go.Proofs.Ytodckfgfbcnkoaa.sixH
namespace Go.Proofs.Ytodckfgfbcnkoaa.sixI
end Go.Proofs.Ytodckfgfbcnkoaa.sixI
/- Layer 5: the bytes of an address of version 6. -/
namespace Go.Proofs.Ytodckfgfbcnkoaa.sixJ
set_option maxHeartbeats 4000000
set_option maxRecDepth 100000
open Go.ChangeShapes Go.WideShapes Go.ChangeAt Go.RowKit
open base octA octF rdrA rdrG sixM sixB
set_option linter.unusedVariables false
theorem bits_six (a b:Int) (w:World):Calls Try.prog 83 #[.agg #[.bool true,.int .u64 a,.int .u64 b]] w fun o w' => o = .returned (.int .i64 128)∧Below w.heap.size w w' := by
  go_enter Try.func83,Try.ntmps83
  go_wp2
  go_ret
  exact ⟨rfl,(Below.refl _ _).alloc (Nat.le_refl _) _⟩
def aB (hh ll:Int) (j i:Nat):Int := if i < 8 then (if i < j then byteZ hh (7 - i) else 0) else (if i - 8 < j then byteZ ll (7 - (i - 8)) else 0)
structure Ar (hh ll:Int) (j:Nat) (cs:Array Value):Prop where
  size:cs.size = 16
  at_:∀ i,i < 16 → cs[i]? = some (.int .u8 (aB hh ll j i))
theorem Ar.zero (hh ll:Int):Ar hh ll 0 #[.int .u8 0,.int .u8 0,.int .u8 0,.int .u8 0,.int .u8 0,.int .u8 0,.int .u8 0,.int .u8 0,.int .u8 0,.int .u8 0,.int .u8 0,.int .u8 0,.int .u8 0,.int .u8 0,.int .u8 0,.int .u8 0] := ⟨rfl,fun i hi => by
  have:aB hh ll 0 i = 0 := by unfold aB; simp
  rw [this]
  show ((List.replicate 16 (Value.int .u8 0)).toArray)[i]? = _
  rw [List.getElem?_toArray,List.getElem?_replicate,if_pos hi]⟩
theorem Ar.next {hh ll:Int} {j:Nat} {cs:Array Value} (h:Ar hh ll j cs) (hj:j < 8):Ar hh ll (j + 1) ((cs.setIfInBounds j (.int .u8 (byteZ hh (7 - j)))).setIfInBounds (8 + j) (.int .u8 (byteZ ll (7 - j)))) := by
  refine ⟨by rw [Array.size_setIfInBounds,Array.size_setIfInBounds]; exact h.size,fun i hi => ?_⟩
  have hs := h.size
  rw [Array.getElem?_setIfInBounds,Array.getElem?_setIfInBounds,Array.size_setIfInBounds]
  by_cases h1:8 + j = i
  · subst h1
    rw [if_pos rfl,if_pos (by omega)]
    unfold aB
    rw [if_neg (by omega),show 8 + j - 8 = j by omega,if_pos (by omega)]
  · rw [if_neg h1]
    by_cases h2:j = i
    · subst h2
      rw [if_pos rfl,if_pos (by omega)]
      unfold aB
      rw [if_pos (by omega),if_pos (by omega)]
    · rw [if_neg h2,h.at_ i hi]
      congr 2
      unfold aB
      by_cases h3:i < 8
      · rw [if_pos h3,if_pos h3]
        by_cases h4:i < j
        · rw [if_pos h4,if_pos (by omega)]
        · rw [if_neg h4,if_neg (by omega)]
      · rw [if_neg h3,if_neg h3]
        by_cases h4:i - 8 < j
        · rw [if_pos h4,if_pos (by omega)]
        · rw [if_neg h4,if_neg (by omega)]
theorem aB_list (hh ll:Int) (i:Nat) (hi:i < 16):some (Value.int .u8 (aB hh ll 8 i)) = ((pb hh 8 8 ++ pb ll 8 8).map (Value.int .u8))[i]? := by
  have e1:(pb hh 8 8).length = 8 := pb_len hh 8 8
  rw [List.getElem?_map]
  unfold aB
  by_cases h:i < 8
  · rw [if_pos h,if_pos h,List.getElem?_append_left (by omega)]
    unfold pb
    rw [List.getElem?_map,List.getElem?_range (by omega)]
    rfl
  · rw [if_neg h,if_pos (by omega),List.getElem?_append_right (by omega),e1]
    unfold pb
    rw [List.getElem?_map,List.getElem?_range (by omega)]
    rfl
theorem abytes_any (hh ll:Int) (w:World) (h0:0 ≤ hh) (h1:hh < 18446744073709551616) (l0:0 ≤ ll) (l1:ll < 18446744073709551616) :
    Calls Try.prog 54 #[.agg #[.bool true,.int .u64 hh,.int .u64 ll]] w fun o w' => ∃ v,o = .returned v∧w'.ownsRow w.heap.size 5 1 v 16 ((pb hh 8 8 ++ pb ll 8 8).map (.int .u8))∧Below w.heap.size w w' := by
  obtain ⟨i0,hi0,hz0,hz1,hz2⟩ := info_parts info_u8
  obtain ⟨g,hg⟩:∃ g,g = w.heap.size := ⟨_,rfl⟩
  obtain ⟨w1,hw1⟩:∃ w1,w1 = w.alloc (.cells #[.bool true,.int .u64 hh,.int .u64 ll] 32) := ⟨_,rfl⟩
  have E1 := Lib.hid hw1
  have EG := Lib.hid hg
  have s1:w1.heap.size = g + 1 := by rw [hw1,hg]; simp
  have K1 := Lib.hid (show Blk w1 g 32 #[.bool true,.int .u64 hh,.int .u64 ll] from by rw [hw1,hg]; exact Blk.new w _ _)
  obtain ⟨w2,hw2⟩:∃ w2,w2 = w1.alloc (.cells #[.int .u8 0,.int .u8 0,.int .u8 0,.int .u8 0,.int .u8 0,.int .u8 0,.int .u8 0,.int .u8 0,.int .u8 0,.int .u8 0,.int .u8 0,.int .u8 0,.int .u8 0,.int .u8 0,.int .u8 0,.int .u8 0] 118) := ⟨_,rfl⟩
  have E2 := Lib.hid hw2
  have B2 := Lib.hid (show Below g w w2 from by rw [hw2,hw1,hg]; exact ((Below.refl _ _).alloc (Nat.le_refl _) _).alloc (by simp) _)
  have BB := Lib.hid (show Below w1.heap.size w1 w2 from by rw [hw2]; exact (Below.refl _ _).alloc (Nat.le_refl _) _)
  have K2 := Lib.hid (show Blk w2 (g + 1) 118 #[.int .u8 0,.int .u8 0,.int .u8 0,.int .u8 0,.int .u8 0,.int .u8 0,.int .u8 0,.int .u8 0,.int .u8 0,.int .u8 0,.int .u8 0,.int .u8 0,.int .u8 0,.int .u8 0,.int .u8 0,.int .u8 0] from by rw [hw2,← s1]; exact Blk.new w1 _ _)
  have S2 := Lib.hid (show w2.heap.size = g + 2 from by rw [hw2]; simp; omega)
  have KA := Lib.hid (K1.out.below BB.out K1.out.lt)
  have S1 := Lib.hid s1
  rw [← EG.out]
  clear hw1 hw2 hg s1
  go_enter Try.func54,Try.ntmps54
  go_upto_region 2 with fail
  rw [← EG.out,← E1.out,← E2.out]
  go_wp2_with fail
  go_loopw [7] (fun i wr => ∃ (j:Nat) (cs:Array Value),j ≤ 8∧i = .int .i64 j∧Hid (Ar hh ll j cs)∧Hid (Blk wr (g + 1) 118 cs)∧Hid (Blk wr g 32 #[.bool true,.int .u64 hh,.int .u64 ll])∧Hid (Below g w wr)∧Hid (g + 2 ≤ wr.heap.size)) (fun i _ => 8 - (intOf i).toNat)
  case atStart => exact ⟨0,_,by omega,rfl,Lib.hid (Ar.zero hh ll),K2,KA,B2,Lib.hid (by have := S2.out; omega)⟩
  case round =>
    obtain ⟨j,cs,hj,rfl,HA,HK,HKA,HB,HZ⟩ := hrel
    have d1 := HKA.out.cell 1
    have d2 := HKA.out.cell 2
    by_cases hlt:j < 8
    · obtain ⟨q,hq⟩:∃ q,q = 7 - j := ⟨_,rfl⟩
      have w8:IntKind.i64.wrap (8 * (j:Int)) = 8 * (j:Int) := IntWalk.i64_in _ (by omega)
      have w56:IntKind.i64.wrap (56 - 8 * (j:Int)) = ((8 * q:Nat):Int) := by rw [IntWalk.i64_in _ (by omega)]; omega
      have c1 := (HK.out.cell j).trans (HA.out.at_ j (by omega))
      have c2 := (HK.out.cell (8 + j)).trans (HA.out.at_ (8 + j) (by omega))
      have f1 := HK.out.frozen j
      have f2 := HK.out.frozen (8 + j)
      have t1:decide ((j:Int) < 8) = true := decide_eq_true (by omega)
      have i0:(0:Int) ≤ j := by omega
      have i1:(j:Int) < 16 := by omega
      have w88:IntKind.i64.wrap (8 + (j:Int)) = 8 + (j:Int) := IntWalk.i64_in _ (by omega)
      have HK2 := Lib.hid (show Blk (wr.setCell ⟨g + 1,j,none⟩ (.int .u8 (byteZ hh q))) (g + 1) 118 (cs.setIfInBounds j (.int .u8 (byteZ hh q))) from HK.out.set_ j _)
      have c3:(wr.setCell ⟨g + 1,j,none⟩ (.int .u8 (byteZ hh q))).cell? ⟨g + 1,8 + j,none⟩ = some (.int .u8 (aB hh ll j (8 + j))) := by
        rw [HK2.out.cell,Array.getElem?_setIfInBounds,if_neg (by omega)]
        exact HA.out.at_ (8 + j) (by omega)
      have f3 := HK2.out.frozen (8 + j)
      have i2:(0:Int) ≤ 8 + j := by omega
      have i3:8 + (j:Int) < 16 := by omega
      have HKZ := Lib.hid (show Blk ((wr.setCell ⟨g + 1,j,none⟩ (.int .u8 (byteZ hh q))).setCell ⟨g + 1,8 + j,none⟩ (.int .u8 (byteZ ll q))) (g + 1) 118 ((cs.setIfInBounds j (.int .u8 (byteZ hh q))).setIfInBounds (8 + j) (.int .u8 (byteZ ll q))) from HK2.out.set_ (8 + j) _)
      have BZ := Lib.hid (show Below (g + 1) wr ((wr.setCell ⟨g + 1,j,none⟩ (.int .u8 (byteZ hh q))).setCell ⟨g + 1,8 + j,none⟩ (.int .u8 (byteZ ll q))) from ((Below.refl _ _).setCell (p := ⟨g + 1,j,none⟩) (Nat.le_refl (g + 1)) _).setCell (p := ⟨g + 1,8 + j,none⟩) (Nat.le_refl (g + 1)) _)
      have hq8:(q:Int) ≤ 7 := by omega
      have hq9:q ≤ 7 := by omega
      have hdh:0 ≤ hh / 2 ^ (8 * q) := Int.ediv_nonneg h0 (Int.le_of_lt (Int.pow_pos (by decide)))
      have hdl:0 ≤ ll / 2 ^ (8 * q) := Int.ediv_nonneg l0 (Int.le_of_lt (Int.pow_pos (by decide)))
      have hbh:IntKind.u8.wrap (hh / 2 ^ (8 * q)) = byteZ hh q := by rw [IntKind.wrap_u8']; rfl
      have hbl:IntKind.u8.wrap (ll / 2 ^ (8 * q)) = byteZ ll q := by rw [IntKind.wrap_u8']; rfl
      have HAN := Lib.hid (show Ar hh ll (j + 1) ((cs.setIfInBounds j (.int .u8 (byteZ hh q))).setIfInBounds (8 + j) (.int .u8 (byteZ ll q))) from hq ▸ Ar.next HA.out hlt)
      clear hq
      go_wp2_with fail
      go_roundw
      case rel => exact ⟨j + 1,_,by omega,by go_num,HAN,HKZ,Lib.hid (HKA.out.below BZ.out (Nat.lt_succ_self g)),Lib.hid (HB.out.trans (BZ.out.mono (Nat.le_succ g))),Lib.hid (Nat.le_trans HZ.out BZ.out.size)⟩
      case measure => simp [intOf]; omega
    · obtain rfl:j = 8 := by omega
      have d0 := HKA.out.cell 0
      have hmk := fun (W:World) => run_make_one (P := Try.prog) 22 5 i0 _ Try.underlying22 hi0 hz0 hz1 rfl .i64 .i64 (16:Int) (by omega) (by rw [hz2]; omega) (by omega) W
      have HBT := Lib.hid (fun V => bits_six hh ll V)
      have t1:decide (((8:Nat):Int) < 8) = false := by decide
      go_wp2_with fail
      refine (HBT.out _).mono ?_
      rintro e w5 ⟨rfl,hb5⟩
      have B5 := Lib.hid (HK.out.below hb5 HK.out.lt)
      have L5 := Lib.hid (show Below g w w5 from HB.out.trans (hb5.mono (by have := HZ.out; omega)))
      have Z5 := Lib.hid (show g + 2 ≤ w5.heap.size from Nat.le_trans HZ.out hb5.size)
      have BZ := Lib.hid (show Blk (w5.alloc (.cells (zeros 16 (.int .u8 0)) 5)) w5.heap.size 5 ([Value.int .u8 0,.int .u8 0,.int .u8 0,.int .u8 0,.int .u8 0,.int .u8 0,.int .u8 0,.int .u8 0,.int .u8 0,.int .u8 0,.int .u8 0,.int .u8 0,.int .u8 0,.int .u8 0,.int .u8 0,.int .u8 0]:List Value).toArray from Blk.new w5 5 (zeros 16 (.int .u8 0)))
      have BA := Lib.hid (B5.out.alloc (.cells (zeros 16 (.int .u8 0)) 5))
      have LZ := Lib.hid (L5.out.alloc (by have := Z5.out; omega) (.cells (zeros 16 (.int .u8 0)) 5))
      have SRC := Lib.hid (show ∀ i v,((pb hh 8 8 ++ pb ll 8 8).map (Value.int .u8))[i]? = some v → (w5.alloc (.cells (zeros 16 (.int .u8 0)) 5)).cell? ((⟨g + 1,0,none⟩:Addr).add i) = some v from fun i v hv => by
        have hi:i < 16 := by have := (List.getElem?_eq_some_iff.1 hv).1; simpa [pb] using this
        rw [Addr.add_lit,Nat.zero_add,BA.out.cell,HA.out.at_ i hi,← hv,aB_list hh ll i hi])
      have ONE := Lib.hid (show ∀ v ∈ (pb hh 8 8 ++ pb ll 8 8).map (Value.int .u8),v.oneCell' = true from fun v hv => by
        rw [List.mem_map] at hv
        obtain ⟨x,_,rfl⟩ := hv
        rfl)
      have LE := Lib.hid (show g ≤ w5.heap.size from by have := Z5.out; omega)
      clear hb5 d0 d1 d2
      go_wp2_with (refine wpList_copy_splice (o := ⟨some 39,_,_,_,_,_⟩) rfl (.tmp 34) (.tmp 38) 22 22 rfl 5 Try.underlying22 info1 (some ⟨w5.heap.size,0,none⟩) (some ⟨g + 1,0,none⟩) 16 16 16 16 rfl rfl w5.heap.size 0 [Value.int .u8 0,.int .u8 0,.int .u8 0,.int .u8 0,.int .u8 0,.int .u8 0,.int .u8 0,.int .u8 0,.int .u8 0,.int .u8 0,.int .u8 0,.int .u8 0,.int .u8 0,.int .u8 0,.int .u8 0,.int .u8 0] 5 BZ.out ((pb hh 8 8 ++ pb ll 8 8).map (Value.int .u8)) rfl (fun _ => ⟨rfl,_,rfl,SRC.out⟩) (Nat.le_refl _) ONE.out g w LZ.out LE.out ?_; intro w6 hg6 hb6; have G6 := hg6; have L6 := Lib.hid hb6; clear hg6 hb6)
      go_ret
      refine ⟨_,rfl,⟨rfl,.inr ⟨w5.heap.size,16,_,rfl,LE.out,G6.out,Nat.le_refl _,by unfold maxLen; omega,rfl,rfl⟩⟩,L6.out⟩
end Go.Proofs.Ytodckfgfbcnkoaa.sixJ
/- Layer 9: the law's bytes. -/
namespace Go.Proofs.Ytodckfgfbcnkoaa.sixK
open Go.ChangeShapes Go.WideShapes Go.ChangeAt Go.RowKit
open octA rdrG sixW sixM
set_option linter.unusedVariables false
def hd8 (cls lab hop p0:Int) (n:Nat):List Int := [96 + cls / 16,cls % 16 * 16 + lab / 65536,lab / 256 % 256,lab % 256,(n:Int) / 256 % 256,(n:Int) % 256,p0,hop]
def hdB (h:Hs) (p0:Int) (n:Nat):List Int := hd8 h.cls h.lab h.hop p0 n ++ (pb h.sh 8 8 ++ pb h.sl 8 8) ++ (pb h.dh 8 8 ++ pb h.dl 8 8)
def sixB (h:Hs) (l:List XP) (r:List Int):List Int := hdB h (nextK l h.p) (extL l + r.length) ++ (extB l h.p ++ r)
theorem one_map (l:List Int):∀ u ∈ l.map (Value.int .u8),u.oneCell' = true := fun u hu => by
  rw [List.mem_map] at hu
  obtain ⟨x,_,rfl⟩ := hu
  rfl
end Go.Proofs.Ytodckfgfbcnkoaa.sixK
namespace Go.Proofs.Ytodckfgfbcnkoaa.sixN
end Go.Proofs.Ytodckfgfbcnkoaa.sixN
/- Layer 9: next, Len, the law's cut. -/
namespace Go.Proofs.Ytodckfgfbcnkoaa.sixO
set_option maxHeartbeats 4000000
set_option maxRecDepth 100000
open Go.ChangeShapes Go.WideShapes Go.ChangeAt Go.RowKit
open base rdrA rdrG sixW sixM sixE
set_option linter.unusedVariables false
theorem next_any (h:Hs) (A:Option Addr) (n c k:Nat) (l:List Xt) (w:World) (hl:l.length = n) (hr:RdX w A l) (hn:n ≤ 1000000) :
    Calls Try.prog 69 #[.agg (h.cells (.slice A n c)),.int .i64 k] w fun o w' => o = .returned (.int .i64 (nextK ((l.map Xt.re).drop k) h.p))∧Below w.heap.size w w' := by
  obtain ⟨cls,lab,hop,s6,sh,sl,d6,dh,dl,p⟩ := h
  obtain ⟨w1,hw1⟩:∃ w1,w1 = w.alloc (.cells #[.int .i64 cls,.int .i64 lab,.int .i64 hop,.bool s6,.int .u64 sh,.int .u64 sl,.bool d6,.int .u64 dh,.int .u64 dl,.slice A n c,.int .i64 p] 48) := ⟨_,rfl⟩
  have E1 := Lib.hid hw1
  have BA := Lib.hid (show Below w.heap.size w w1 from by rw [hw1]; exact (Below.refl _ _).alloc (Nat.le_refl _) _)
  have KB := Lib.hid (show Blk w1 w.heap.size 48 #[.int .i64 cls,.int .i64 lab,.int .i64 hop,.bool s6,.int .u64 sh,.int .u64 sl,.bool d6,.int .u64 dh,.int .u64 dl,.slice A n c,.int .i64 p] from by rw [hw1]; exact Blk.new w _ _)
  have HR1 := Lib.hid (hr.below BA.out)
  have SZ1 := Lib.hid (show w1.heap.size = w.heap.size + 1 from by rw [hw1]; simp)
  have HL := Lib.hid hl
  have x9 := KB.out.cell 9
  have x10 := KB.out.cell 10
  show Calls _ _ #[.agg #[.int .i64 cls,.int .i64 lab,.int .i64 hop,.bool s6,.int .u64 sh,.int .u64 sl,.bool d6,.int .u64 dh,.int .u64 dl,.slice A n c,.int .i64 p],.int .i64 k] _ _
  by_cases hk:k < n
  · have hkl:k < l.length := by rw [hl]; exact hk
    obtain ⟨b,off,hA,hbl,hC⟩ := HR1.out.at_ k hkl
    subst hA
    have d0:w1.cell? ⟨b,off + k * 2,none⟩ = some (.int .i64 (l[k]).kind) := hC 0 (by omega)
    have hv:nextK ((l.map Xt.re).drop k) p = (l[k]).kind := by
      rw [List.drop_eq_getElem_cons (by rw [List.length_map]; exact hkl),List.getElem_map]
      rfl
    show Calls _ _ _ _ fun o w' => o = .returned (.int .i64 (nextK ((l.map Xt.re).drop k) p))∧_
    rw [hv]
    obtain ⟨y,hy⟩:∃ y,y = (l[k]).kind := ⟨_,rfl⟩
    rw [← hy] at d0 ⊢
    have j0:(0:Int) ≤ k := by omega
    have j1:(k:Int) < n := by omega
    have t1:decide ((k:Int) < n) = true := decide_eq_true j1
    have t1n:decide (k < n) = true := decide_eq_true hk
    clear hw1 hl hr hkl hC hv hy hk hbl
    go_enter Try.func69,Try.ntmps69
    go_upto_region 1 with fail
    rw [← E1.out]
    go_wp2_with fail
    go_ret
    exact ⟨rfl,BA.out⟩
  · have hv:nextK ((l.map Xt.re).drop k) p = p := by
      rw [List.drop_of_length_le (by rw [List.length_map,hl]; omega)]
      rfl
    show Calls _ _ _ _ fun o w' => o = .returned (.int .i64 (nextK ((l.map Xt.re).drop k) p))∧_
    rw [hv]
    have t1:decide ((k:Int) < n) = false := decide_eq_false (by omega)
    have t1n:decide (k < n) = false := decide_eq_false hk
    clear hw1 hl hr hv hk
    go_enter Try.func69,Try.ntmps69
    go_upto_region 1 with fail
    rw [← E1.out]
    go_wp2_with fail
    go_ret
    exact ⟨rfl,BA.out⟩
theorem len_any (h:Hs) (A:Option Addr) (n c:Nat) (l:List Xt) (w:World) (hl:l.length = n) (hr:RdX w A l) (hn:n ≤ 8) (hd:∀ x ∈ l,x.d.length ≤ 2047) :
    Calls Try.prog 33 #[.agg (h.cells (.slice A n c))] w fun o w' => o = .returned (.int .i64 (40 + extL (l.map Xt.re):Nat))∧Below w.heap.size w w' := by
  obtain ⟨cls,lab,hop,s6,sh,sl,d6,dh,dl,p⟩ := h
  obtain ⟨w1,hw1⟩:∃ w1,w1 = w.alloc (.cells #[.int .i64 cls,.int .i64 lab,.int .i64 hop,.bool s6,.int .u64 sh,.int .u64 sl,.bool d6,.int .u64 dh,.int .u64 dl,.slice A n c,.int .i64 p] 48) := ⟨_,rfl⟩
  have E1 := Lib.hid hw1
  have BA := Lib.hid (show Below w.heap.size w w1 from by rw [hw1]; exact (Below.refl _ _).alloc (Nat.le_refl _) _)
  have KB := Lib.hid (show Blk w1 w.heap.size 48 #[.int .i64 cls,.int .i64 lab,.int .i64 hop,.bool s6,.int .u64 sh,.int .u64 sl,.bool d6,.int .u64 dh,.int .u64 dl,.slice A n c,.int .i64 p] from by rw [hw1]; exact Blk.new w _ _)
  have HR1 := Lib.hid (hr.below BA.out)
  have SZ1 := Lib.hid (show w1.heap.size = w.heap.size + 1 from by rw [hw1]; simp)
  have HL := Lib.hid hl
  have x9 := KB.out.cell 9
  have x10 := KB.out.cell 10
  show Calls _ _ #[.agg #[.int .i64 cls,.int .i64 lab,.int .i64 hop,.bool s6,.int .u64 sh,.int .u64 sl,.bool d6,.int .u64 dh,.int .u64 dl,.slice A n c,.int .i64 p]] _ _
  have HD := Lib.hid (show ∀ k,k ≤ n → extL ((l.map Xt.re).take k) ≤ 2048 * k from fun k => by
    induction k with
    | zero => intro _; simp [extL]
    | succ k ih =>
      intro hk
      have hk2:k < (l.map Xt.re).length := by rw [List.length_map,hl]; omega
      have := hd (l[k]'(by rw [hl]; omega)) (List.getElem_mem _)
      rw [List.take_succ_eq_append_getElem hk2]
      have e:extL ((l.map Xt.re).take k ++ [(l.map Xt.re)[k]]) = extL ((l.map Xt.re).take k) + (1 + (l[k]'(by rw [hl]; omega)).d.length) := by
        unfold extL
        rw [List.map_append,List.sum_append]
        simp [Xt.re]
      rw [e]
      have := ih (by omega)
      omega)
  have HST := Lib.hid (show ∀ k (hk:k < l.length),extL ((l.map Xt.re).take (k + 1)) = extL ((l.map Xt.re).take k) + (1 + l[k].d.length) from fun k hk => by
    have hk2:k < (l.map Xt.re).length := by rw [List.length_map]; exact hk
    rw [List.take_succ_eq_append_getElem hk2]
    unfold extL
    rw [List.map_append,List.sum_append]
    simp [Xt.re])
  have HALL := Lib.hid (show extL ((l.map Xt.re).take n) = extL (l.map Xt.re) from by rw [List.take_of_length_le (by rw [List.length_map,hl]; exact Nat.le_refl _)])
  clear hw1 hl hr hd
  go_enter Try.func33,Try.ntmps33
  go_upto_region 3 with fail
  rw [← E1.out]
  go_loopw [3,9] (fun tv iv wr => ∃ k v:Nat,k ≤ n∧iv = .int .i64 k∧tv = .int .i64 v∧Hid (v = 40 + extL ((l.map Xt.re).take k))∧Hid (Below w1.heap.size w1 wr)) (fun _ i _ => n - (intOf i).toNat)
  case atStart => exact ⟨0,40,by omega,rfl,rfl,Lib.hid (by simp [extL]),Lib.hid (Below.refl _ _)⟩
  case round =>
    obtain ⟨k,v,hk,rfl,rfl,HV,HB⟩ := hrel
    have hvb:v ≤ 40 + 2048 * k := by have := HV.out; have := HD.out k hk; omega
    by_cases hlt:k < n
    · have hkl:k < l.length := by rw [HL.out]; exact hlt
      obtain ⟨b,off,hA,hbl,hC⟩ := (HR1.out.below HB.out).at_ k hkl
      subst hA
      have hst := HST.out k hkl
      have hdk := HD.out (k + 1) (by omega)
      obtain ⟨e,he⟩:∃ e,e = l[k] := ⟨_,rfl⟩
      rw [← he] at hC hst
      obtain ⟨ek,eA,ec,ed⟩ := e
      obtain ⟨q,hq⟩:∃ q,q = ed.length := ⟨_,rfl⟩
      have d0:wr.cell? ⟨b,off + k * 2,none⟩ = some (.int .i64 ek) := hC 0 (by omega)
      have d1:wr.cell? ⟨b,off + k * 2 + 1,none⟩ = some (.slice eA q ec) := by rw [hq]; exact hC 1 (by omega)
      have HVN := Lib.hid (show v + (1 + q) = 40 + extL ((l.map Xt.re).take (k + 1)) from by rw [hst,HV.out,hq]; show _ = _; simp only [Nat.add_assoc])
      have hq9:v + (1 + q) ≤ 40 + 2048 * (k + 1) := by have := HVN.out; omega
      obtain ⟨w3,hw3⟩:∃ w3,w3 = wr.alloc (.cells #[.int .i64 ek,.slice eA q ec] 101) := ⟨_,rfl⟩
      have E3 := Lib.hid hw3
      have B3 := Lib.hid (show Below wr.heap.size wr w3 from by rw [hw3]; exact (Below.refl _ _).alloc (Nat.le_refl _) _)
      have K3 := Lib.hid (show Blk w3 wr.heap.size 101 #[.int .i64 ek,.slice eA q ec] from by rw [hw3]; exact Blk.new wr _ _)
      have HB3 := Lib.hid (HB.out.trans (B3.out.mono HB.out.size))
      have j0:(0:Int) ≤ k := by omega
      have j1:(k:Int) < n := by omega
      have t1:decide ((k:Int) < n) = true := decide_eq_true j1
      have t1n:decide (k < n) = true := decide_eq_true hlt
      have wk:IntKind.i64.wrap ((k:Int) + 1) = (k:Int) + 1 := IntWalk.i64_in _ (by omega)
      have wq:IntKind.i64.wrap (1 + (q:Int)) = 1 + (q:Int) := IntWalk.i64_in _ (by omega)
      have wv:IntKind.i64.wrap ((v:Int) + (1 + (q:Int))) = ((v + (1 + q):Nat):Int) := by rw [IntWalk.i64_in _ (by omega)]; omega
      clear hw3 hC hst hdk he hq hkl hbl hlt x9 x10
      go_upto_region 5 with fail
      rw [← E3.out]
      have z1 := K3.out.cell 1
      go_wp2_with fail
      go_roundw
      case rel => exact ⟨k + 1,v + (1 + q),by omega,by go_num,by go_num,HVN,HB3⟩
      case measure => simp [intOf]; omega
    · obtain rfl:k = n := by omega
      have t1:decide ((k:Int) < k) = false := decide_eq_false (by omega)
      have t1n:decide (k < k) = false := decide_eq_false (by omega)
      have hv:v = 40 + extL (l.map Xt.re) := by rw [HV.out,HALL.out]
      subst hv
      go_wp2_with fail
      go_ret
      exact ⟨rfl,BA.out.trans (HB.out.mono BA.out.size)⟩
end Go.Proofs.Ytodckfgfbcnkoaa.sixO
