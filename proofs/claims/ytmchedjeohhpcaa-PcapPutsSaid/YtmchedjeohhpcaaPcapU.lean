/- Layer 36: files that may not be are told as that. -/
import Derived.Test.YtmchedjeohhpcaaPcapS
import Derived.Test.YtmchedjeohhpcaaPcapT
import Derived.Test.YtmchedjeohhpcaaPcapP
namespace Go.Proofs.Ytmchedjeohhpcaa.pcapU
open Go.ChangeShapes Go.WideShapes Go.ChangeAt Go.RowKit
open Go.Proofs.Ytmchedjeohhpcaa.base Go.Proofs.Ytmchedjeohhpcaa.pcapA Go.Proofs.Ytmchedjeohhpcaa.pcapB Go.Proofs.Ytmchedjeohhpcaa.pcapC Go.Proofs.Ytmchedjeohhpcaa.pcapD Go.Proofs.Ytmchedjeohhpcaa.pcapE Go.Proofs.Ytmchedjeohhpcaa.pcapF Go.Proofs.Ytmchedjeohhpcaa.pcapG Go.Proofs.Ytmchedjeohhpcaa.pcapI Go.Proofs.Ytmchedjeohhpcaa.pcapJ Go.Proofs.Ytmchedjeohhpcaa.pcapK Go.Proofs.Ytmchedjeohhpcaa.pcapL Go.Proofs.Ytmchedjeohhpcaa.pcapM Go.Proofs.Ytmchedjeohhpcaa.pcapN Go.Proofs.Ytmchedjeohhpcaa.pcapO Go.Proofs.Ytmchedjeohhpcaa.pcapP Go.Proofs.Ytmchedjeohhpcaa.pcapQ Go.Proofs.Ytmchedjeohhpcaa.pcapR Go.Proofs.Ytmchedjeohhpcaa.pcapS Go.Proofs.Ytmchedjeohhpcaa.pcapT
set_option linter.unusedVariables false

/-- What holds of the law's few records. -/
structure FewOk (w : World) (m : List Rc) : Prop where
  inr : ∀ e ∈ m, InR w e
  n2 : ∀ e ∈ m, e.n ≤ 200
  len : m.length ≤ 20
theorem fewOk {w : World} {l : List Rc} (h : ∀ e ∈ l, InR w e) : FewOk w (fewL l) := by
  have key : ∀ e ∈ fewL l, InR w e ∧ e.n ≤ 200 := by
    intro e he
    unfold fewL at he
    rw [List.mem_map] at he
    obtain ⟨x, hx, rfl⟩ := he
    exact ⟨(h x (List.mem_of_mem_take hx)).clip, clip_le x⟩
  exact ⟨fun e he => (key e he).1, fun e he => (key e he).2, by rw [fewL_len]; omega⟩
section
variable {w : World} {m : List Rc}
theorem FewOk.ok (h : FewOk w m) : ∀ e ∈ m, e.ok := fun e he => (h.inr e he).ok (h.n2 e he)
theorem Has.below {w' : World} {e : Rc} (h : Has w e) (hb : Below w.heap.size w w') : Has w' e := ⟨(h.1.below hb).more hb.size, h.2⟩
theorem FewOk.has (h : FewOk w m) {w' : World} (hb : Below w.heap.size w w') : ∀ e ∈ m, Has w' e := fun e he => Has.below ((h.inr e he).has (h.n2 e he)) hb
theorem FewOk.n6 (h : FewOk w m) : ∀ e ∈ m, e.n ≤ 65536 := fun e he => by have := h.n2 e he; omega
theorem FewOk.file (h : FewOk w m) (big : Bool) {sn link : Nat} (h1 : sn < 4294967296) (h2 : link < 4294967296) : FileX big sn link m (headB big sn link ++ bodyB big m) :=
  fileX big sn link m h1 h2 (fun e he => ⟨(h.inr e he).sec, (h.inr e he).mic, (h.inr e he).sz, by have := h.n2 e he; omega, (h.inr e he).len⟩) (fun e he => (h.inr e he).byte)
theorem FewOk.le (h : FewOk w m) (big : Bool) (sn link : Nat) : (headB big sn link ++ bodyB big m).length ≤ 5000 := by
  rw [List.length_append, headB_len]
  have := body_le big m (fun e he => ⟨(h.inr e he).len, h.n2 e he⟩)
  have := h.len
  omega
end
def ReadOk (big : Bool) (sn link : Nat) (m : List Rc) (w : World) (o : Ending) (w' : World) : Prop :=
  Below w.heap.size w w' ∧ ∃ A c m', m'.map Rc.re = m.map Rc.re ∧ RdR w' A m' ∧ (∀ e ∈ m', Has w' e) ∧ m'.length = m.length ∧
    ((rightB sn m = true ∧ o = .returned (.tuple #[.agg #[.bool big, .int .u32 (sn : Int), .int .u32 (link : Int), .slice A m.length c], .int .i64 0])) ∨ (rightB sn m = false ∧ o = .returned (.tuple #[.agg fileZ, .int .i64 5])))
theorem read_file (big : Bool) (sn link : Nat) (m : List Rc) (X : List Int) (A : Option Addr) (n c : Nat) (w : World) (hX : FileX big sn link m X) (hm : ∀ e ∈ m, e.bs.length = e.n) (hl : X.length = n) (h5 : n ≤ 5000) (hc1 : n ≤ c) (hc2 : c ≤ 9223372036854775807) (hr : Row w w.heap.size A (X.map (.int .u8))) :
    Calls Try.prog 11 #[.slice A n c] w (ReadOk big sn link m w) := by
  have hc := read_main big A n c X w hl h5 (by have := hX.len; omega) hc1 hc2 hr hX.byte hX.h1 hX.h2
  rw [hX.sn, hX.lk] at hc
  refine hc.mono ?_
  rintro o w' ⟨hb, hd⟩
  refine ⟨hb, ?_⟩
  rcases hd with ⟨h, _⟩ | ⟨_, h, _⟩ | ⟨_, A', c', m', hdec, hrd, hhas, hok, _, _, _, hres⟩
  · exact absurd hX.hd h
  · rw [hX.dec] at h
    cases h
  · rw [hX.dec] at hdec
    injection hdec with hre
    have hlen : m'.length = m.length := by rw [← List.length_map (f := Rc.re), ← hre, List.length_map]
    have hbad : rightB sn m' = rightB sn m := bad_re hre.symm (fun e he => (hhas e he).2.1) hm
    refine ⟨A', c', m', hre.symm, hrd, hhas, hlen, ?_⟩
    rw [hbad, hlen] at hres
    exact hres
set_option maxHeartbeats 4000000 in
set_option maxRecDepth 100000 in
theorem ranges_any (big : Bool) (sn link : Nat) (A : Option Addr) (c : Nat) (l : List Rc) (w : World) (h1 : sn < 4294967296) (h2 : link < 4294967296) (hr : RdR w A l) (hin : ∀ e ∈ l, InR w e) (hc1 : l.length ≤ c) (hc2 : c ≤ 9223372036854775807) :
    Calls Try.prog 5 #[.agg #[.bool big, .int .u32 (sn : Int), .int .u32 (link : Int), .slice A l.length c]] w fun o w' => o = .returned (.bool true) ∧ Below w.heap.size w w' := by
  have HFO := Lib.hid (fewOk hin)
  have BA : Below w.heap.size w (w.alloc (.cells #[.bool big, .int .u32 (sn : Int), .int .u32 (link : Int), .slice A l.length c] 25)) := (Below.refl w.heap.size w).alloc (Nat.le_refl _) _
  have inA : ∀ e ∈ l, InR (w.alloc (.cells #[.bool big, .int .u32 (sn : Int), .int .u32 (link : Int), .slice A l.length c] 25)) e := fun e he => by
    have h := hin e he
    exact ⟨h.sec, h.mic, h.sz, h.nc, h.cm, h.none, (h.row.below BA).more BA.size, h.len, h.byte⟩
  have HFW := Lib.hid (few_any big sn link A c l _ (hr.below BA) inA hc1 hc2)
  have K0 := Blk.new w 25 #[.bool big, .int .u32 (sn : Int), .int .u32 (link : Int), .slice A l.length c]
  obtain ⟨n, hn⟩ : ∃ n, n = l.length := ⟨_, rfl⟩
  obtain ⟨m, hm⟩ : ∃ m, m = fewL l := ⟨_, rfl⟩
  rw [← hm] at HFO HFW
  rw [← hn] at HFW K0 BA ⊢
  have HK0 := Lib.hid K0
  have HBA := Lib.hid BA
  have HSN := Lib.hid h1
  have HLK := Lib.hid h2
  clear hr hin inA hn hm K0 BA hc1 hc2
  go_enter Try.func5, Try.ntmps5
  go_wp2_with fail
  refine HFW.out.mono ?_
  rintro o w2 ⟨A1, c1, rfl, ho2, hb2⟩
  have HKM := Lib.hid (own_cap ho2)
  obtain ⟨k, hk⟩ : ∃ k, k = m.length := ⟨_, rfl⟩
  have HKL := Lib.hid hk
  rw [← hk] at ho2 HKM ⊢
  have KC := HK0.out.below hb2 HK0.out.lt
  have z0 := KC.cell 0
  have z1 := KC.cell 1
  have z2 := KC.cell 2
  have z3 := KC.cell 3
  have y0 := KC.frozen 0
  have y1 := KC.frozen 1
  have y2 := KC.frozen 2
  have y3 := KC.frozen 3
  have o1 := own_setT ho2 KC (by decide) 0 (.bool big)
  have o2 := own_setT o1 (KC.set_ 0 _) (by decide) 1 (.int .u32 (sn : Int))
  have o3 := own_setT o2 ((KC.set_ 0 _).set_ 1 _) (by decide) 2 (.int .u32 (link : Int))
  have o4 := own_setT o3 (((KC.set_ 0 _).set_ 1 _).set_ 2 _) (by decide) 3 (.slice A1 k c1)
  have HO3 := Lib.hid (show ((((w2.setCell ⟨w.heap.size, 0, none⟩ (.bool big)).setCell ⟨w.heap.size, 1, none⟩ (.int .u32 (sn : Int))).setCell ⟨w.heap.size, 2, none⟩ (.int .u32 (link : Int))).setCell ⟨w.heap.size, 3, none⟩ (.slice A1 k c1)).ownsRow (w.alloc (.cells #[.bool big, .int .u32 (sn : Int), .int .u32 (link : Int), .slice A n c] 25)).heap.size 38 4 (.slice A1 k c1) k (flatR m) from o4)
  have HK3 := Lib.hid (show Blk ((((w2.setCell ⟨w.heap.size, 0, none⟩ (.bool big)).setCell ⟨w.heap.size, 1, none⟩ (.int .u32 (sn : Int))).setCell ⟨w.heap.size, 2, none⟩ (.int .u32 (link : Int))).setCell ⟨w.heap.size, 3, none⟩ (.slice A1 k c1)) w.heap.size 25 #[.bool big, .int .u32 (sn : Int), .int .u32 (link : Int), .slice A1 k c1] from (((KC.set_ 0 _).set_ 1 _).set_ 2 _).set_ 3 _)
  have HB3 := Lib.hid (show Below w.heap.size w ((((w2.setCell ⟨w.heap.size, 0, none⟩ (.bool big)).setCell ⟨w.heap.size, 1, none⟩ (.int .u32 (sn : Int))).setCell ⟨w.heap.size, 2, none⟩ (.int .u32 (link : Int))).setCell ⟨w.heap.size, 3, none⟩ (.slice A1 k c1)) from ((((HBA.out.trans (hb2.mono HBA.out.size)).setCell (Nat.le_refl _) _).setCell (Nat.le_refl _) _).setCell (Nat.le_refl _) _).setCell (Nat.le_refl _) _)
  clear ho2 hb2 KC o1 o2 o3 o4 hk
  obtain ⟨w3, hw3⟩ : ∃ w3, w3 = ((((w2.setCell ⟨w.heap.size, 0, none⟩ (.bool big)).setCell ⟨w.heap.size, 1, none⟩ (.int .u32 (sn : Int))).setCell ⟨w.heap.size, 2, none⟩ (.int .u32 (link : Int))).setCell ⟨w.heap.size, 3, none⟩ (.slice A1 k c1)) := ⟨_, rfl⟩
  have HW3 := Lib.hid hw3
  rw [← hw3] at HO3 HK3 HB3
  have HLB := Lib.hid (lbytes_any big sn link A1 c1 m w3 HSN.out HLK.out (rd_of_row HO3.out HKL.out) HFO.out.ok (HFO.out.has HB3.out) (by have := HFO.out.len; omega) (HKL.out ▸ HKM.out.1) HKM.out.2)
  rw [← HKL.out] at HLB
  have HFX := Lib.hid (HFO.out.file big HSN.out HLK.out)
  have HLE := Lib.hid (HFO.out.le big sn link)
  obtain ⟨X, hX⟩ : ∃ X, X = headB big sn link ++ bodyB big m := ⟨_, rfl⟩
  rw [← hX] at HLB HFX HLE
  clear hw3 hX
  go_wp2_with fail
  rw [← HW3.out]
  clear z0 z1 z2 z3 y0 y1 y2 y3 HW3
  refine HLB.out.mono ?_
  rintro o w4 ⟨v4, rfl, ho4, hb4⟩
  obtain ⟨A4, c4, rfl⟩ := own_slice ho4
  have HRD := Lib.hid (read_file big sn link m X A4 _ c4 w4 HFX.out (fun e he => (HFO.out.inr e he).len) rfl HLE.out (own_bounds ho4).2.1 (own_bounds ho4).2.2 (own_row ho4))
  have HB4 := Lib.hid (HB3.out.trans (hb4.mono HB3.out.size))
  have HK4 := Lib.hid (HK3.out.below hb4 HK3.out.lt)
  have HO4 := Lib.hid (own_below HO3.out hb4)
  clear ho4 hb4
  go_wp2_with fail
  refine HRD.out.mono ?_
  rintro o w5 ⟨hb5, A5, c5, m5, hre, hrd, hhas, hml, hres⟩
  have HB5 := Lib.hid (HB4.out.trans (hb5.mono HB4.out.size))
  have HK5 := Lib.hid (HK4.out.below hb5 HK4.out.lt)
  have HO5 := Lib.hid (own_below HO4.out hb5)
  have HRE := Lib.hid hre
  have HRD5 := Lib.hid hrd
  have HHS5 := Lib.hid hhas
  rw [← HKL.out] at hres
  have HML := Lib.hid (hml.trans HKL.out.symm)
  clear hre hrd hhas hml hb5
  have q0 := HK5.out.cell 0
  have q1 := HK5.out.cell 1
  have q2 := HK5.out.cell 2
  have q3 := HK5.out.cell 3
  have hkl := HKL.out
  have hlen20 := HFO.out.len
  have HLR := Lib.hid (show ∀ (W : World) (z : Bool), Below w5.heap.size w5 W → rightB sn m = z → Calls Try.prog 9 #[.agg #[.bool big, .int .u32 (sn : Int), .int .u32 (link : Int), .slice A1 k c1]] W fun o w' => o = .returned (.bool z) ∧ Below W.heap.size W w' from fun W z hb hz => by
    have := lright_any big sn link A1 c1 m W HSN.out (rd_of_row (own_below HO5.out hb) HKL.out) HFO.out.ok HFO.out.n6 (by omega) (hkl ▸ HKM.out.1) HKM.out.2
    rw [← hkl, hz] at this
    exact this)
  have HAW := Lib.hid (fun W => awake_any W)
  rcases hres with ⟨hz, rfl⟩ | ⟨hz, rfl⟩
  · have HZ := Lib.hid hz
    have B6 : Below w5.heap.size w5 (w5.alloc (.cells #[.bool big, .int .u32 (sn : Int), .int .u32 (link : Int), .slice A5 k c5] 25)) := (Below.refl _ _).alloc (Nat.le_refl _) _
    have HSM := Lib.hid (show ∀ W : World, Below w5.heap.size w5 W → Calls Try.prog 14 #[.agg #[.bool big, .int .u32 (sn : Int), .int .u32 (link : Int), .slice A1 k c1], .agg #[.bool big, .int .u32 (sn : Int), .int .u32 (link : Int), .slice A5 k c5]] W fun o w' => o = .returned (.bool true) ∧ Below W.heap.size W w' from fun W hb => same_true big sn link A1 A5 k c1 c5 m m5 W (rd_of_row (own_below HO5.out hb) HKL.out) (HRD5.out.below hb) (HFO.out.has (HB5.out.trans (hb.mono HB5.out.size))) (fun e he => Has.below (HHS5.out e he) hb) hkl.symm HRE.out.symm (by omega))
    have HB6 := Lib.hid B6
    have K6 := Blk.new w5 25 #[.bool big, .int .u32 (sn : Int), .int .u32 (link : Int), .slice A5 k c5]
    have q6 := (HK5.out.alloc (.cells #[.bool big, .int .u32 (sn : Int), .int .u32 (link : Int), .slice A5 k c5] 25))
    have e0 := q6.cell 0
    have e1 := q6.cell 1
    have e2 := q6.cell 2
    have e3 := q6.cell 3
    have HK6 := Lib.hid K6
    have HQ6 := Lib.hid q6
    clear hz hkl hlen20 K6 q6 B6
    go_wp2_with fail
    refine (HLR.out _ true HB6.out HZ.out).mono ?_
    rintro o w7 ⟨rfl, hb7⟩
    have a7 := HQ6.out.below hb7 HQ6.out.lt
    have g7 := HK6.out.below hb7 HK6.out.lt
    have B7 := Lib.hid (HB6.out.trans (hb7.mono HB6.out.size))
    have f0 := a7.cell 0
    have f1 := a7.cell 1
    have f2 := a7.cell 2
    have f3 := a7.cell 3
    have g0 := g7.cell 0
    have g1 := g7.cell 1
    have g2 := g7.cell 2
    have g3 := g7.cell 3
    clear hb7 a7 g7 e0 e1 e2 e3 q0 q1 q2 q3
    go_wp2_with fail
    refine (HSM.out _ B7.out).mono ?_
    rintro o w8 ⟨rfl, hb8⟩
    have B8 := Lib.hid (B7.out.trans (hb8.mono B7.out.size))
    clear hb8
    go_wp2_with fail
    refine (HAW.out _).mono ?_
    rintro o w9 ⟨rfl, hb9⟩
    have B9 := Lib.hid (HB5.out.trans ((B8.out.trans (hb9.mono B8.out.size)).mono HB5.out.size))
    clear hb9
    go_wp2_with fail
    go_ret
    exact ⟨rfl, B9.out⟩
  · have HZ := Lib.hid hz
    have B6 : Below w5.heap.size w5 (w5.alloc (.cells #[.bool false, .int .u32 0, .int .u32 0, .slice none 0 0] 25)) := (Below.refl _ _).alloc (Nat.le_refl _) _
    have HSM := Lib.hid (show ∀ W : World, Calls Try.prog 14 #[.agg #[.bool false, .int .u32 0, .int .u32 0, .slice none 0 0], .agg #[.bool false, .int .u32 0, .int .u32 0, .slice none 0 0]] W fun o w' => o = .returned (.bool true) ∧ Below W.heap.size W w' from fun W => same_true false 0 0 none none 0 0 0 [] [] W (.inl rfl) (.inl rfl) (by simp) (by simp) rfl rfl (by omega))
    have HB6 := Lib.hid B6
    have K6 := Blk.new w5 25 #[.bool false, .int .u32 0, .int .u32 0, .slice none 0 0]
    have q6 := (HK5.out.alloc (.cells #[.bool false, .int .u32 0, .int .u32 0, .slice none 0 0] 25))
    have e0 := q6.cell 0
    have e1 := q6.cell 1
    have e2 := q6.cell 2
    have e3 := q6.cell 3
    have HK6 := Lib.hid K6
    have HQ6 := Lib.hid q6
    unfold fileZ
    clear hz hkl hlen20 K6 q6 B6
    go_wp2_with fail
    refine (HLR.out _ false HB6.out HZ.out).mono ?_
    rintro o w7 ⟨rfl, hb7⟩
    have g7 := HK6.out.below hb7 HK6.out.lt
    have B7 := Lib.hid (HB6.out.trans (hb7.mono HB6.out.size))
    have g0 := g7.cell 0
    have g1 := g7.cell 1
    have g2 := g7.cell 2
    have g3 := g7.cell 3
    clear hb7 g7 e0 e1 e2 e3 q0 q1 q2 q3
    go_wp2_with fail
    refine (HSM.out _).mono ?_
    rintro o w8 ⟨rfl, hb8⟩
    have B8 := Lib.hid (B7.out.trans (hb8.mono B7.out.size))
    clear hb8
    go_wp2_with fail
    refine (HAW.out _).mono ?_
    rintro o w9 ⟨rfl, hb9⟩
    have B9 := Lib.hid (HB5.out.trans ((B8.out.trans (hb9.mono B8.out.size)).mono HB5.out.size))
    clear hb9
    go_wp2_with fail
    go_ret
    exact ⟨rfl, B9.out⟩
end Go.Proofs.Ytmchedjeohhpcaa.pcapU
