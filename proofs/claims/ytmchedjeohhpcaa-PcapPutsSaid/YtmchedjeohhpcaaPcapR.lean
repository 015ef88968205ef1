/- Layer 36: the law's right. -/
import Derived.Test.YtmchedjeohhpcaaPcapQ
namespace Go.Proofs.Ytmchedjeohhpcaa.pcapR
open Go.ChangeShapes Go.WideShapes Go.ChangeAt Go.RowKit
open Go.Proofs.Ytmchedjeohhpcaa.base Go.Proofs.Ytmchedjeohhpcaa.pcapA Go.Proofs.Ytmchedjeohhpcaa.pcapB Go.Proofs.Ytmchedjeohhpcaa.pcapC Go.Proofs.Ytmchedjeohhpcaa.pcapD Go.Proofs.Ytmchedjeohhpcaa.pcapE Go.Proofs.Ytmchedjeohhpcaa.pcapF Go.Proofs.Ytmchedjeohhpcaa.pcapG Go.Proofs.Ytmchedjeohhpcaa.pcapI Go.Proofs.Ytmchedjeohhpcaa.pcapJ Go.Proofs.Ytmchedjeohhpcaa.pcapK Go.Proofs.Ytmchedjeohhpcaa.pcapL Go.Proofs.Ytmchedjeohhpcaa.pcapM Go.Proofs.Ytmchedjeohhpcaa.pcapN Go.Proofs.Ytmchedjeohhpcaa.pcapQ
set_option linter.unusedVariables false

theorem right_false {sn : Nat} {l : List Rc} {j : Nat} (hj : j < l.length) (e : Rc.bad sn l[j] = true) : rightB sn l = false := by
  unfold rightB
  rw [show l.any (Rc.bad sn) = true from List.any_eq_true.mpr ⟨_, List.getElem_mem hj, e⟩]
  simp
theorem right_true {sn : Nat} {l : List Rc} (hl : l.length ≤ 4096) (h : NoP (Rc.bad sn) l l.length) : rightB sn l = true := by
  unfold rightB
  have h2 := fst_any h.none
  rw [← h2, decide_eq_true hl]
  rfl
set_option maxHeartbeats 4000000 in
set_option maxRecDepth 100000 in
theorem lright_any (big : Bool) (sn link : Nat) (A : Option Addr) (c : Nat) (l : List Rc) (w : World) (h1 : sn < 4294967296) (hr : RdR w A l) (hw : ∀ e ∈ l, e.ok) (hn6 : ∀ e ∈ l, e.n ≤ 65536) (hl : l.length ≤ 4096) (hc1 : l.length ≤ c) (hc2 : c ≤ 9223372036854775807) :
    Calls Try.prog 9 #[.agg #[.bool big, .int .u32 (sn : Int), .int .u32 (link : Int), .slice A l.length c]] w fun o w' => o = .returned (.bool (rightB sn l)) ∧ Below w.heap.size w w' := by
  have HR := Lib.hid hr
  have HW := Lib.hid hw
  have HN6 := Lib.hid hn6
  have HFA := Lib.hid (fun j (hj : j < l.length) (e : Rc.bad sn l[j] = true) => right_false hj e)
  have HTR := Lib.hid (fun (h : NoP (Rc.bad sn) l l.length) => right_true hl h)
  obtain ⟨n, hn⟩ : ∃ n, n = l.length := ⟨_, rfl⟩
  have HN := Lib.hid hn
  obtain ⟨res, hres⟩ : ∃ res, res = rightB sn l := ⟨_, rfl⟩
  have HRES := Lib.hid hres
  rw [← hn] at hl hc1 ⊢
  rw [← hres]
  clear hr hw hn6 hn hres
  go_enter Try.func9, Try.ntmps9
  go_wp2_with fail
  go_loopw [3] (fun i wr => ∃ (j : Nat), j ≤ n ∧ i = .int .i64 j ∧ Hid (NoP (Rc.bad sn) l j) ∧ Hid (Below w.heap.size w wr) ∧ Hid (Blk wr w.heap.size 25 #[.bool big, .int .u32 (sn : Int), .int .u32 (link : Int), .slice A n c])) (fun i _ => n - (intOf i).toNat)
  case atStart => exact ⟨0, by omega, rfl, Lib.hid (fun q hq hq2 => by omega), Lib.hid ((Below.refl _ _).alloc (Nat.le_refl _) _), Lib.hid (Blk.new _ _ _)⟩
  case round =>
    obtain ⟨j, hj, rfl, HNO, HB, HKA⟩ := hrel
    have f3 : wr.cell? ⟨w.heap.size, 3, none⟩ = some (.slice A n c) := HKA.out.cell 3
    by_cases hlt : j < n
    · have hjl : j < l.length := HN.out ▸ hlt
      obtain ⟨b, off, hA, hbl, hC⟩ := (HR.out.below HB.out).at_ j hjl
      subst hA
      have HBAD := Lib.hid (fun e => HFA.out j hjl e)
      have HNEXT := Lib.hid (fun e => HNO.out.next hjl e)
      obtain ⟨o1, o2, o3, o4⟩ := HW.out l[j] (List.getElem_mem hjl)
      have hn6 := HN6.out l[j] (List.getElem_mem hjl)
      obtain ⟨e, he⟩ : ∃ e, e = l[j] := ⟨_, rfl⟩
      rw [← he] at hC HBAD HNEXT o1 o2 o3 o4 hn6
      have d0 : wr.cell? ⟨b, off + j * 4, none⟩ = some (.int .u32 (e.sec : Int)) := hC 0 (by omega)
      have d1 : wr.cell? ⟨b, off + j * 4 + 1, none⟩ = some (.int .u32 (e.mic : Int)) := hC 1 (by omega)
      have d2 : wr.cell? ⟨b, off + j * 4 + 2, none⟩ = some (.int .u32 (e.sz : Int)) := hC 2 (by omega)
      have d3 : wr.cell? ⟨b, off + j * 4 + 3, none⟩ = some (.slice e.A e.n e.c) := hC 3 (by omega)
      have j0 : (0 : Int) ≤ j := by omega
      have j1 : (j : Int) < n := by omega
      have hcv : IntKind.u32.wrap (e.n : Int) = (e.n : Int) := by rw [IntKind.wrap_u32]; omega
      have KX := (HKA.out.alloc (.cells #[.int .u32 (e.sec : Int), .int .u32 (e.mic : Int), .int .u32 (e.sz : Int), .slice e.A e.n e.c] 38))
      have f1 : (wr.alloc (.cells #[.int .u32 (e.sec : Int), .int .u32 (e.mic : Int), .int .u32 (e.sz : Int), .slice e.A e.n e.c] 38)).cell? ⟨w.heap.size, 1, none⟩ = some (.int .u32 (sn : Int)) := KX.cell 1
      have HKX := Lib.hid KX
      have HBX := Lib.hid (HB.out.alloc HB.out.size (.cells #[.int .u32 (e.sec : Int), .int .u32 (e.mic : Int), .int .u32 (e.sz : Int), .slice e.A e.n e.c] 38))
      have HE := Lib.hid (show Rc.bad sn e = badB sn e.mic e.sz e.n from rfl)
      clear hC he o1 o2 o3 o4 hjl KX
      by_cases a1 : 999999 < e.mic
      · have t1 : decide ((999999 : Int) < e.mic) = true := decide_eq_true (by omega)
        have HV := Lib.hid (show res = false from by rw [HRES.out]; exact HBAD.out (by rw [HE.out]; unfold badB; rw [decide_eq_true (show 1000000 ≤ e.mic by omega)]; rfl))
        go_wp2_with fail
        go_ret
        exact ⟨by rw [HV.out]; rfl, HBX.out⟩
      · have t1 : decide ((999999 : Int) < e.mic) = false := decide_eq_false (by omega)
        by_cases a2 : sn < e.n
        · have t2 : decide ((sn : Int) < e.n) = true := decide_eq_true (by omega)
          have t2' : decide (sn < e.n) = true := decide_eq_true a2
          have HV := Lib.hid (show res = false from by rw [HRES.out]; exact HBAD.out (by rw [HE.out]; unfold badB; rw [decide_eq_true a2]; simp))
          go_wp2_with fail
          go_ret
          exact ⟨by rw [HV.out]; rfl, HBX.out⟩
        · have t2 : decide ((sn : Int) < e.n) = false := decide_eq_false (by omega)
          have t2' : decide (sn < e.n) = false := decide_eq_false a2
          by_cases a3 : e.sz < e.n
          · have t3 : decide ((e.sz : Int) < e.n) = true := decide_eq_true (by omega)
            have t3' : decide (e.sz < e.n) = true := decide_eq_true a3
            have HV := Lib.hid (show res = false from by rw [HRES.out]; exact HBAD.out (by rw [HE.out]; unfold badB; rw [decide_eq_true a3]; simp))
            go_wp2_with fail
            go_ret
            exact ⟨by rw [HV.out]; rfl, HBX.out⟩
          · have t3 : decide ((e.sz : Int) < e.n) = false := decide_eq_false (by omega)
            have t3' : decide (e.sz < e.n) = false := decide_eq_false a3
            have HNX := Lib.hid (HNEXT.out (by rw [HE.out]; unfold badB; rw [decide_eq_false a2, decide_eq_false a3, decide_eq_false (show ¬ 1000000 ≤ e.mic by omega), decide_eq_false (show ¬ 65536 < e.n by omega)]; rfl))
            go_wp2_with fail
            go_roundw
            case rel => exact ⟨j + 1, by omega, by go_num, HNX, HBX, HKX⟩
            case measure => simp [intOf]; omega
    · obtain rfl : n = j := by omega
      have HV := Lib.hid (show res = true from by rw [HRES.out]; exact HTR.out (HN.out ▸ HNO.out))
      go_wp2_with fail
      go_ret
      exact ⟨by rw [HV.out]; rfl, HB.out⟩
end Go.Proofs.Ytmchedjeohhpcaa.pcapR
