/- 7 texts in one. -/
import Derived.Test.YtndekicblbpkjaaPt12
import Derived.Test.YtndekicblbpkjaaPt14
import Derived.Test.YtndekicblbpkjaaPt23
import Derived.Test.YtndekicblbpkjaaPt28
/- Layer 13: what is told of an error about a packet that is made: plain words. -/
namespace Go.Proofs.Ytndekicblbpkjaa.pktW
open Go.ChangeShapes Go.WideShapes Go.ChangeAt Go.RowKit
open Go.Proofs.Ytndekicblbpkjaa.base Go.Proofs.Ytndekicblbpkjaa.octA Go.Proofs.Ytndekicblbpkjaa.rdrA Go.Proofs.Ytndekicblbpkjaa.rdrG Go.Proofs.Ytndekicblbpkjaa.sumA Go.Proofs.Ytndekicblbpkjaa.sumB Go.Proofs.Ytndekicblbpkjaa.sixW Go.Proofs.Ytndekicblbpkjaa.sixM Go.Proofs.Ytndekicblbpkjaa.pktA Go.Proofs.Ytndekicblbpkjaa.pktB Go.Proofs.Ytndekicblbpkjaa.pktC Go.Proofs.Ytndekicblbpkjaa.pktE Go.Proofs.Ytndekicblbpkjaa.sixE Go.Proofs.Ytndekicblbpkjaa.sixF Go.Proofs.Ytndekicblbpkjaa.pktG Go.Proofs.Ytndekicblbpkjaa.pktR
set_option linter.unusedVariables false

theorem quo_of (v : Bool) (ty : Int) (d : List Int) (Q : Qt) (h : (if v = true then q6 d else q4 d) = Q) (ht : icmpI.tellsB v ty = true) :
    quo v ty d = if Q.f ≠ 0 then (zeroT, Q.f) else if Q.fr ≠ 0 then (zeroT, 21) else if Q.t.pr ≠ 6 ∧ Q.t.pr ≠ 17 then (zeroT, 14) else if Q.r.length < 4 then (zeroT, 2)
      else (⟨Q.t.pr, Q.t.s6, Q.t.sh, Q.t.sl, Q.t.d6, Q.t.dh, Q.t.dl, 256 * Q.r.getD 0 0 + Q.r.getD 1 0, 256 * Q.r.getD 2 0 + Q.r.getD 3 0⟩, 0) := by
  unfold quo
  rw [h, if_neg (by rw [ht]; decide)]
theorem quo4 (ttl sl dl sp dp : Int) (bs : List Int) (k : Nat) (h1 : 0 ≤ ttl ∧ ttl ≤ 255) (h3 : 0 ≤ sl ∧ sl ≤ 4294967295) (h4 : 0 ≤ dl ∧ dl ≤ 4294967295) (hb : 8 ≤ bs.length) (hb2 : bs.length ≤ 900) (e1 : udpA.w16 bs 0 = sp) (e2 : udpA.w16 bs 2 = dp) (hk : k ≤ 20 + bs.length) :
    quo false 3 ((mkB4 ttl 17 sl dl bs).take k) = if k < 24 then (zeroT, 2) else (⟨17, false, 0, sl, false, 0, dl, sp, dp⟩, 0) := by
  have hln := mk4_len ttl 17 sl dl bs
  have hdr := mk4_drop ttl 17 sl dl bs
  obtain ⟨s1, s2, s3, _, _, _, _⟩ := fourHn.hk_says 0 0 0 ttl 17 sl dl (65535 - fo (wsum (fourD.hk 0 0 0 ttl 17 sl dl 0 (20 + ((0 : Nat) : Int) + (bs.length : Int)) []))) (20 + ((0 : Nat) : Int) + (bs.length : Int)) [] bs 20 rfl rfl (by omega) (by omega)
  have e12 : tcpC.w32 (mkB4 ttl 17 sl dl bs) 12 = sl := by
    show (sl / 65536 / 256 * 256 + sl / 65536 % 256) * 65536 + (sl % 65536 / 256 * 256 + sl % 65536 % 256) = _
    omega
  have e16 : tcpC.w32 (mkB4 ttl 17 sl dl bs) 16 = dl := by
    show (dl / 65536 / 256 * 256 + dl / 65536 % 256) * 65536 + (dl % 65536 / 256 * 256 + dl % 65536 % 256) = _
    omega
  have e9 : (mkB4 ttl 17 sl dl bs).getD 9 0 = 17 := rfl
  rw [show fourD.hk 0 0 0 ttl 17 sl dl (65535 - fo (wsum (fourD.hk 0 0 0 ttl 17 sl dl 0 (20 + ((0 : Nat) : Int) + (bs.length : Int)) []))) (20 + ((0 : Nat) : Int) + (bs.length : Int)) [] ++ bs = mkB4 ttl 17 sl dl bs from rfl] at s1 s2 s3
  generalize mkB4 ttl 17 sl dl bs = B at *
  have ld : (B.take k).length = k := by rw [List.length_take]; omega
  by_cases h20 : k < 20
  · rw [quo_of false 3 _ ⟨2, 0, zeroT, []⟩ (by rw [if_neg (by decide)]; unfold q4; rw [if_pos (by omega)]) (by decide), if_pos (by decide), if_pos (by omega)]
  · have g0 : (B.take k).getD 0 0 = B.getD 0 0 := fourB.getD_take B k 0 (by omega)
    have hQ : (if (false : Bool) = true then q6 (B.take k) else q4 (B.take k)) = ⟨0, 0, ⟨17, false, 0, sl, false, 0, dl, 0, 0⟩, bs.take (k - 20)⟩ := by
      rw [if_neg (by decide)]
      unfold q4
      have hh : fourA.hl (B.take k) = 20 := by
        show (B.take k).getD 0 0 % 16 * 4 = 20
        rw [g0]
        exact s2
      rw [if_neg (by omega), g0, if_neg (by omega), if_neg (by omega), fourB.w16_take B k 6 (by omega), s3, fourB.getD_take B k 9 (by omega), e9, fourB.w32_take B k 12 (by omega), e12, fourB.w32_take B k 16 (by omega), e16, hh, List.drop_take, show (20 : Int).toNat = 20 from rfl, hdr]
      rfl
    rw [quo_of false 3 _ _ hQ (by decide), if_neg (fun h => h rfl), if_neg (fun h => h rfl), if_neg (fun h => h.2 rfl)]
    have lr : (bs.take (k - 20)).length = k - 20 := by rw [List.length_take]; omega
    by_cases h24 : k < 24
    · rw [if_pos (by show (bs.take (k - 20)).length < 4; omega), if_pos h24]
    · rw [if_neg (by show ¬ (bs.take (k - 20)).length < 4; omega), if_neg h24]
      show ((⟨17, false, 0, sl, false, 0, dl, 256 * (bs.take (k - 20)).getD 0 0 + (bs.take (k - 20)).getD 1 0, 256 * (bs.take (k - 20)).getD 2 0 + (bs.take (k - 20)).getD 3 0⟩ : Tp), (0 : Int)) = _
      rw [fourB.getD_take bs _ 0 (by omega), fourB.getD_take bs _ 1 (by omega), fourB.getD_take bs _ 2 (by omega), fourB.getD_take bs _ 3 (by omega)]
      have a1 : 256 * bs.getD 0 0 + bs.getD 1 0 = sp := by rw [← e1]; show _ = bs.getD 0 0 * 256 + bs.getD 1 0; omega
      have a2 : 256 * bs.getD 2 0 + bs.getD 3 0 = dp := by rw [← e2]; show _ = bs.getD 2 0 * 256 + bs.getD 3 0; omega
      rw [a1, a2]
theorem quo6 (ttl sh sl dh dl sp dp : Int) (bs : List Int) (k : Nat) (h1 : 0 ≤ ttl ∧ ttl ≤ 255) (b1 : 0 ≤ sh ∧ sh < 18446744073709551616) (b2 : 0 ≤ sl ∧ sl < 18446744073709551616) (b3 : 0 ≤ dh ∧ dh < 18446744073709551616) (b4 : 0 ≤ dl ∧ dl < 18446744073709551616) (hb : 8 ≤ bs.length) (hb2 : bs.length ≤ 900) (e1 : udpA.w16 bs 0 = sp) (e2 : udpA.w16 bs 2 = dp) (hk : k ≤ 40 + bs.length) :
    quo true 1 ((mkB6 ttl 17 sh sl dh dl bs).take k) = if k < 44 then (zeroT, 2) else (⟨17, true, sh, sl, true, dh, dl, sp, dp⟩, 0) := by
  have hdr := mk6_drop ttl 17 sh sl dh dl bs
  obtain ⟨a1, a2, _, _, _, a6, a7⟩ := sixY.put_parse ⟨0, 0, ttl, true, sh, sl, true, dh, dl, 17⟩ [] bs [] (right6 ttl 17 sh sl dh dl h1 (by omega) (by decide)) (fun x hx => by cases hx) (by omega) b1 b2 b3 b4
  rw [List.append_nil] at a1 a2 a6
  have e6 : (mkB6 ttl 17 sh sl dh dl bs).getD 6 0 = 17 := rfl
  have hln : (mkB6 ttl 17 sh sl dh dl bs).length = 40 + bs.length := by rw [show mkB6 ttl 17 sh sl dh dl bs = sixK.sixB ⟨0, 0, ttl, true, sh, sl, true, dh, dl, 17⟩ [] bs from rfl, a7]; rfl
  have a2' : hdOf (mkB6 ttl 17 sh sl dh dl bs) 17 = ⟨0, 0, ttl, true, sh, sl, true, dh, dl, 17⟩ := a2
  have a6' : (mkB6 ttl 17 sh sl dh dl bs).getD 0 0 / 16 = 6 := a6
  clear a1 a2 a6 a7
  generalize mkB6 ttl 17 sh sl dh dl bs = B at *
  have ld : (B.take k).length = k := by rw [List.length_take]; omega
  by_cases h40 : k < 40
  · rw [quo_of true 1 _ ⟨2, 0, zeroT, []⟩ (by rw [if_pos rfl]; unfold q6; rw [show sixQ (B.take k) = .inl 2 from by unfold sixQ; rw [if_pos (by omega)]]) (by decide), if_pos (by decide), if_pos (by omega)]
  · have hQ : (if (true : Bool) = true then q6 (B.take k) else q4 (B.take k)) = ⟨0, 0, ⟨17, true, sh, sl, true, dh, dl, 0, 0⟩, bs.take (k - 40)⟩ := by
      rw [if_pos rfl]
      unfold q6
      have hs : sixQ (B.take k) = .inr ([], 17, bs.take (k - 40)) := by
        unfold sixQ
        rw [if_neg (by omega), sixF.getD_take B k 0 (by omega), if_neg (by omega), sixF.getD_take B k 6 (by omega), e6, chn_done (by decide), List.drop_take, hdr]
        rfl
      rw [hs]
      show Qt.mk 0 (lies [] / 8) ⟨17, true, (hdOf (B.take k) 17).sh, (hdOf (B.take k) 17).sl, true, (hdOf (B.take k) 17).dh, (hdOf (B.take k) 17).dl, 0, 0⟩ (bs.take (k - 40)) = _
      rw [sixF.hdOf_take B k (by omega), a2']
      rfl
    rw [quo_of true 1 _ _ hQ (by decide), if_neg (fun h => h rfl), if_neg (fun h => h rfl), if_neg (fun h => h.2 rfl)]
    have lr : (bs.take (k - 40)).length = k - 40 := by rw [List.length_take]; omega
    by_cases h24 : k < 44
    · rw [if_pos (by show (bs.take (k - 40)).length < 4; omega), if_pos h24]
    · rw [if_neg (by show ¬ (bs.take (k - 40)).length < 4; omega), if_neg h24]
      show ((⟨17, true, sh, sl, true, dh, dl, 256 * (bs.take (k - 40)).getD 0 0 + (bs.take (k - 40)).getD 1 0, 256 * (bs.take (k - 40)).getD 2 0 + (bs.take (k - 40)).getD 3 0⟩ : Tp), (0 : Int)) = _
      rw [fourB.getD_take bs _ 0 (by omega), fourB.getD_take bs _ 1 (by omega), fourB.getD_take bs _ 2 (by omega), fourB.getD_take bs _ 3 (by omega)]
      have a1 : 256 * bs.getD 0 0 + bs.getD 1 0 = sp := by rw [← e1]; show _ = bs.getD 0 0 * 256 + bs.getD 1 0; omega
      have a2 : 256 * bs.getD 2 0 + bs.getD 3 0 = dp := by rw [← e2]; show _ = bs.getD 2 0 * 256 + bs.getD 3 0; omega
      rw [a1, a2]
def msg (ty : Int) (ps d : List Int) : List Int := icmpEn.mk ty 0 0 (65535 - fo (wsum (ps ++ icmpEn.mk ty 0 0 0 d))) d
theorem msg_len (ty : Int) (ps d : List Int) : (msg ty ps d).length = 8 + d.length := icmpEn.mk_len _ _ _ _ _
theorem msg_in (ty : Int) (ps d : List Int) (ht : 0 ≤ ty ∧ ty ≤ 255) (hp : U8 ps) (hd : U8 d) : U8 (msg ty ps d) := by
  have hin : ∀ x ∈ ps ++ icmpEn.mk ty 0 0 0 d, 0 ≤ x ∧ x ≤ 255 := fun x hx => (List.mem_append.1 hx).elim (hp x) (icmpEn.mk_in ty 0 0 0 d ⟨ht, by omega, by omega⟩ (by omega) (by omega) (by omega) (by omega) hd x)
  have fb := fo_bd _ (wsum_bd _ hin).1
  exact icmpEn.mk_in ty 0 0 _ d ⟨ht, by omega, by omega⟩ (by omega) (by omega) (by omega) (by omega) hd
theorem msg_abt (v : Bool) (ty : Int) (ps d : List Int) (ht : 0 ≤ ty ∧ ty ≤ 255) (hp : U8 ps) (he : ps.length % 2 = 0) (hd : U8 d) :
    abt v (msg ty ps d) ps = ((quo v ty d).1.back, (quo v ty d).2) := by
  have hin : ∀ x ∈ ps ++ icmpEn.mk ty 0 0 0 d, 0 ≤ x ∧ x ≤ 255 := fun x hx => (List.mem_append.1 hx).elim (hp x) (icmpEn.mk_in ty 0 0 0 d ⟨ht, by omega, by omega⟩ (by omega) (by omega) (by omega) (by omega) hd x)
  have hc := icmpEn.chk_right ty 0 0 d ps he hin
  have hl := msg_len ty ps d
  have hE : icmpE (msg ty ps d) ps = 0 := by
    unfold icmpE
    rw [if_neg (by omega), if_neg (fun h => h hc)]
  unfold abt
  rw [if_neg (by omega)]
  rfl
theorem tell4 (ttl fl2 dl2 : Int) (d : List Int) (h1 : 0 ≤ ttl ∧ ttl ≤ 255) (h3 : 0 ≤ fl2 ∧ fl2 ≤ 4294967295) (h4 : 0 ≤ dl2 ∧ dl2 ≤ 4294967295) (hd : U8 d) (hl : d.length ≤ 800) :
    pkP (mkB4 ttl 1 fl2 dl2 (msg 3 [] d)) = if (quo false 3 d).2 ≠ 0 then (zeroPk, (quo false 3 d).2) else (⟨false, ⟨1, false, 0, fl2, false, 0, dl2, 0, 0⟩, ttl, 0, true, (quo false 3 d).1.back, ((mkB4 ttl 1 fl2 dl2 (msg 3 [] d)).length : Int)⟩, 0) := by
  have hm := msg_len 3 [] d
  have ha := msg_abt false 3 [] d (by omega) (fun x hx => by cases hx) rfl hd
  rw [mk4_parse ttl 1 fl2 dl2 _ h1 (by omega) h3 h4 (by omega), mk4_len]
  unfold withP
  simp only
  rw [if_neg (by decide), if_neg (by decide), if_pos (by simp), show psd false 0 fl2 0 dl2 1 ((msg 3 [] d).length : Int) = [] from rfl, ha]
  rfl
theorem tell6 (ttl sh sl dh dl : Int) (ps d : List Int) (h1 : 0 ≤ ttl ∧ ttl ≤ 255) (b1 : 0 ≤ sh ∧ sh < 18446744073709551616) (b2 : 0 ≤ sl ∧ sl < 18446744073709551616) (b3 : 0 ≤ dh ∧ dh < 18446744073709551616) (b4 : 0 ≤ dl ∧ dl < 18446744073709551616) (hd : U8 d) (hl : d.length ≤ 800) (hps : ps = psd6 sh sl dh dl 58 (8 + (d.length : Int))) :
    pkP (mkB6 ttl 58 sh sl dh dl (msg 1 ps d)) = if (quo true 1 d).2 ≠ 0 then (zeroPk, (quo true 1 d).2) else (⟨true, ⟨58, true, sh, sl, true, dh, dl, 0, 0⟩, ttl, 0, true, (quo true 1 d).1.back, ((mkB6 ttl 58 sh sl dh dl (msg 1 ps d)).length : Int)⟩, 0) := by
  have hm := msg_len 1 ps d
  have ha := msg_abt true 1 ps d (by omega) (hps ▸ psd6_u8 _ _ _ _ _ _) (by rw [hps, psd6_len]) hd
  obtain ⟨m1, m2⟩ := mk6_parse ttl 58 sh sl dh dl (msg 1 ps d) h1 (by omega) (by decide) b1 b2 b3 b4 (by omega)
  have hps2 : psd true sh sl dh dl 58 ((msg 1 ps d).length : Int) = ps := by
    unfold psd
    rw [if_pos rfl, hm]
    show psd6 sh sl dh dl 58 ((8 + d.length : Nat) : Int) = ps
    rw [hps, Int.natCast_add]
    rfl
  rw [m1, m2]
  unfold withP
  simp only
  rw [if_neg (by decide), if_neg (by decide), if_pos (by simp), hps2, ha]
  rfl
end Go.Proofs.Ytndekicblbpkjaa.pktW
namespace Go.Proofs.Ytndekicblbpkjaa.pktL2
end Go.Proofs.Ytndekicblbpkjaa.pktL2
/- Layer 9: the law SixPuts. -/
namespace Go.Proofs.Ytndekicblbpkjaa.sixZn
open Go.ChangeShapes Go.WideShapes Go.ChangeAt Go.RowKit
open Go.Proofs.Ytndekicblbpkjaa.base Go.Proofs.Ytndekicblbpkjaa.rdrA Go.Proofs.Ytndekicblbpkjaa.rdrG Go.Proofs.Ytndekicblbpkjaa.sixM
set_option linter.unusedVariables false

set_option maxHeartbeats 2000000 in
set_option maxRecDepth 100000 in
theorem bytes_no (cls lab hop : Int) (s6 : Bool) (sh sl : Int) (d6 : Bool) (dh dl p : Int) (A : Option Addr) (n c : Nat) (rv : Value) (w : World)
    (HR : Hid (∀ V, Below w.heap.size w V → Calls Try.prog 19 #[.agg #[.int .i64 cls, .int .i64 lab, .int .i64 hop, .bool s6, .int .u64 sh, .int .u64 sl, .bool d6, .int .u64 dh, .int .u64 dl, .slice A n c, .int .i64 p]] V fun o w' => o = .returned (.bool false) ∧ Below V.heap.size V w')) :
    Calls Try.prog 18 #[.agg #[.int .i64 cls, .int .i64 lab, .int .i64 hop, .bool s6, .int .u64 sh, .int .u64 sl, .bool d6, .int .u64 dh, .int .u64 dl, .slice A n c, .int .i64 p], rv] w fun o w' => o = .returned (.tuple #[.slice none 0 0, .int .i64 1]) ∧ Below w.heap.size w w' := by
  obtain ⟨w1, hw1⟩ : ∃ w1, w1 = w.alloc (.cells #[.int .i64 cls, .int .i64 lab, .int .i64 hop, .bool s6, .int .u64 sh, .int .u64 sl, .bool d6, .int .u64 dh, .int .u64 dl, .slice A n c, .int .i64 p] 29) := ⟨_, rfl⟩
  have E1 := Lib.hid hw1
  have BA := Lib.hid (show Below w.heap.size w w1 from by rw [hw1]; exact (Below.refl _ _).alloc (Nat.le_refl _) _)
  have KB := Lib.hid (show Blk w1 w.heap.size 29 #[.int .i64 cls, .int .i64 lab, .int .i64 hop, .bool s6, .int .u64 sh, .int .u64 sl, .bool d6, .int .u64 dh, .int .u64 dl, .slice A n c, .int .i64 p] from by rw [hw1]; exact Blk.new w _ _)
  clear hw1
  go_enter Try.func18, Try.ntmps18
  go_upto_region 1 with fail
  rw [← E1.out]
  have x0 := KB.out.cell 0
  have x1 := KB.out.cell 1
  have x2 := KB.out.cell 2
  have x3 := KB.out.cell 3
  have x4 := KB.out.cell 4
  have x5 := KB.out.cell 5
  have x6 := KB.out.cell 6
  have x7 := KB.out.cell 7
  have x8 := KB.out.cell 8
  have x9 := KB.out.cell 9
  have x10 := KB.out.cell 10
  go_wp2_with fail
  refine (HR.out _ BA.out).mono ?_
  rintro o w2 ⟨rfl, hb2⟩
  have B2 := Lib.hid (BA.out.trans (hb2.mono BA.out.size))
  clear hb2 x0 x1 x2 x3 x4 x5 x6 x7 x8 x9 x10
  go_wp2_with fail
  go_ret2
  exact ⟨rfl, B2.out⟩
end Go.Proofs.Ytndekicblbpkjaa.sixZn
namespace Go.Proofs.Ytndekicblbpkjaa.tcpKn
end Go.Proofs.Ytndekicblbpkjaa.tcpKn
namespace Go.Proofs.Ytndekicblbpkjaa.tcpMn
end Go.Proofs.Ytndekicblbpkjaa.tcpMn
/- Layer 13: Datagram and Segment of any flow. -/
namespace Go.Proofs.Ytndekicblbpkjaa.pktS
open Go.ChangeShapes Go.WideShapes Go.ChangeAt Go.RowKit
open Go.Proofs.Ytndekicblbpkjaa.base Go.Proofs.Ytndekicblbpkjaa.octA Go.Proofs.Ytndekicblbpkjaa.rdrA Go.Proofs.Ytndekicblbpkjaa.rdrG Go.Proofs.Ytndekicblbpkjaa.sixW Go.Proofs.Ytndekicblbpkjaa.sixM Go.Proofs.Ytndekicblbpkjaa.pktA Go.Proofs.Ytndekicblbpkjaa.pktB Go.Proofs.Ytndekicblbpkjaa.sixE Go.Proofs.Ytndekicblbpkjaa.sixF Go.Proofs.Ytndekicblbpkjaa.pktL Go.Proofs.Ytndekicblbpkjaa.pktM Go.Proofs.Ytndekicblbpkjaa.pktR
set_option linter.unusedVariables false

theorem six_bytes (ttl pr sh sl dh dl : Int) (A : Option Addr) (n c : Nat) (bl : List Int) (w : World) (h : Sl w A n c bl) (hn : n ≤ 900) (h1 : 0 ≤ ttl ∧ ttl ≤ 255) (h2 : 0 ≤ pr ∧ pr ≤ 255) (h3 : isX pr = false) (b1 : 0 ≤ sh ∧ sh < 18446744073709551616) (b2 : 0 ≤ sl ∧ sl < 18446744073709551616) (b3 : 0 ≤ dh ∧ dh < 18446744073709551616) (b4 : 0 ≤ dl ∧ dl < 18446744073709551616) :
    Calls Try.prog 18 #[.agg #[.int .i64 0, .int .i64 0, .int .i64 ttl, .bool true, .int .u64 sh, .int .u64 sl, .bool true, .int .u64 dh, .int .u64 dl, .slice none 0 0, .int .i64 pr], .slice A n c] w (MkP 0 (mkB6 ttl pr sh sl dh dl bl) w) := by
  refine (sixQ.bytes_any ⟨0, 0, ttl, true, sh, sl, true, dh, dl, pr⟩ none 0 0 [] A n c bl w rfl (⟨.inl rfl, fun o ho => by cases ho⟩ : RdX w none []) (Nat.le_refl _) (right6 ttl pr sh sl dh dl h1 h2 h3) b1 b2 b3 b4 h.len h.row (by omega) h.nil).mono ?_
  rintro o w' ⟨v, rfl, h5, h6⟩
  obtain ⟨B, d, rfl⟩ := own_slice h5
  refine ⟨h6, B, _, d, rfl, Sl.own h5 rfl ?_⟩
  have u8 : ∀ n : Int, U8 (pb n 8 8) := fun n => pb_u8 n 8 8
  intro x hx
  have hx2 : x ∈ sixK.hdB ⟨0, 0, ttl, true, sh, sl, true, dh, dl, pr⟩ pr (extL [] + bl.length) ++ ([] ++ bl) := hx
  unfold sixK.hdB sixK.hd8 at hx2
  rw [List.nil_append] at hx2
  have hbn := h.len
  rcases List.mem_append.1 hx2 with hx2 | hx2
  · rcases List.mem_append.1 hx2 with hx2 | hx2
    · rcases List.mem_append.1 hx2 with hx2 | hx2
      · simp only [List.mem_cons, List.not_mem_nil, or_false] at hx2
        rcases hx2 with rfl | rfl | rfl | rfl | rfl | rfl | rfl | rfl <;> omega
      · exact (List.mem_append.1 hx2).elim (u8 _ x) (u8 _ x)
    · exact (List.mem_append.1 hx2).elim (u8 _ x) (u8 _ x)
  · exact h.u8 x hx2
theorem six_bad (ttl pr sh sl dh dl : Int) (rv : Value) (w : World) (h1 : ¬ (0 ≤ ttl ∧ ttl ≤ 255)) :
    Calls Try.prog 18 #[.agg #[.int .i64 0, .int .i64 0, .int .i64 ttl, .bool true, .int .u64 sh, .int .u64 sl, .bool true, .int .u64 dh, .int .u64 dl, .slice none 0 0, .int .i64 pr], rv] w (MkP 1 [] w) := by
  refine (sixZn.bytes_no 0 0 ttl true sh sl true dh dl pr none 0 0 rv w (Lib.hid fun V hV => ?_)).mono ?_
  · refine (sixH.right_any ⟨0, 0, ttl, true, sh, sl, true, dh, dl, pr⟩ none 0 0 [] V rfl (⟨.inl rfl, fun o ho => by cases ho⟩ : RdX V none []) (Nat.le_refl _) (by omega) (fun x hx => by cases hx)).mono ?_
    rintro o w' ⟨v, rfl, h2, h3⟩
    cases v with
    | false => exact ⟨rfl, h3⟩
    | true => exact absurd ⟨(h2.mp rfl).h0, (h2.mp rfl).h1⟩ h1
  · rintro o w' ⟨rfl, h4⟩
    exact MkP.nil_ h4
def Made (pr : Int) (s6 : Bool) (sh sl : Int) (d6 : Bool) (dh dl sp dp ttl fl proto : Int) : Prop := pr = proto ∧ s6 = d6 ∧ (0 ≤ ttl ∧ ttl ≤ 255) ∧ (0 ≤ sp ∧ sp ≤ 65535 ∧ 0 ≤ dp ∧ dp ≤ 65535) ∧ (0 ≤ fl ∧ fl ≤ 255) ∧ (s6 = true ∨ (sh = 0 ∧ dh = 0 ∧ sl < 4294967296 ∧ dl < 4294967296))
theorem dgram_with (s6 : Bool) (sh sl dh dl sp dp ttl fl : Int) (A : Option Addr) (n c : Nat) (pl : List Int) (w : World) (h : Sl w A n c pl) (hn : n ≤ 500) (b1 : 0 ≤ sh ∧ sh < 18446744073709551616) (b2 : 0 ≤ sl ∧ sl < 18446744073709551616) (b3 : 0 ≤ dh ∧ dh < 18446744073709551616) (b4 : 0 ≤ dl ∧ dl < 18446744073709551616) (ps : List Int) (hps : ps = psd s6 sh sl dh dl 17 (8 + (pl.length : Int))) (e e2 : Int) (bs out : List Int) (hM : udpM sp dp pl ps = (e, bs))
    (HB : (e ≠ 0 ∧ e2 = e ∧ out = []) ∨ (e = 0 ∧ s6 = false ∧ ∀ V A2 n2 k2, Below w.heap.size w V → Sl V A2 n2 k2 bs → Calls Try.prog 89 #[.agg #[.int .i64 0, .int .i64 0, .bool false, .bool false, .int .i64 0, .int .i64 ttl, .int .i64 17, .bool false, .int .u64 sh, .int .u64 sl, .bool false, .int .u64 dh, .int .u64 dl, .slice none 0 0], .slice A2 n2 k2] V (MkP e2 out V)) ∨ (e = 0 ∧ s6 = true ∧ ∀ V A2 n2 k2, Below w.heap.size w V → Sl V A2 n2 k2 bs → Calls Try.prog 18 #[.agg #[.int .i64 0, .int .i64 0, .int .i64 ttl, .bool true, .int .u64 sh, .int .u64 sl, .bool true, .int .u64 dh, .int .u64 dl, .slice none 0 0, .int .i64 17], .slice A2 n2 k2] V (MkP e2 out V))) :
    Calls Try.prog 33 #[.agg #[.int .i64 17, .bool s6, .int .u64 sh, .int .u64 sl, .bool s6, .int .u64 dh, .int .u64 dl, .int .i64 sp, .int .i64 dp], .int .i64 ttl, .slice A n c] w (MkP e2 out w) := by
  have hl := h.len
  have hp40 : ps.length ≤ 1000 := by rw [hps]; have := psd_len s6 sh sl dh dl 17 (8 + (pl.length : Int)); omega
  have HPS := fun V => psd_any s6 sh sl s6 dh dl 17 (8 + (n : Int)) V b1 b2 b3 b4 (by omega) (by omega)
  rw [← hl] at HPS
  rw [← hps] at HPS
  refine dgram_go s6 sh sl dh dl sp dp ttl A n c _ _ w (by omega) (Lib.hid fun V c1 c2 hV k1 k2 => ?_)
  have HC : ∀ W A2 n2 cc2, Below V.heap.size V W → Sl W A2 n2 cc2 ps → Calls Try.prog 64 #[.slice A2 n2 cc2, .pointer (some ⟨c1, 0, none⟩), .pointer (some ⟨c2, 0, none⟩)] W (MkP e bs W) := fun W A2 n2 cc2 hW hs => by
    have h9 := udp_bytes sp dp A A2 n c n2 cc2 pl ps W (h.below (hV.trans (hW.mono hV.size))) hs (by omega) (by have := hs.len; omega)
    rw [hM] at h9
    exact dg_closure 17 s6 sh sl s6 dh dl sp dp c1 c2 A A2 n c n2 cc2 e bs W (k1.below hW k1.lt) (k2.below hW k2.lt) (Lib.hid h9)
  rw [← hl]
  rcases HB with ⟨he, rfl, rfl⟩ | ⟨rfl, rfl, HB⟩ | ⟨rfl, rfl, HB⟩
  · exact whole_dg_bad 17 s6 sh sl s6 dh dl sp dp ttl _ c1 c2 ps bs e2 he V (Lib.hid fun W hW => HPS W) (Lib.hid HC)
  · exact whole_dg_four 17 sh sl false dh dl sp dp ttl _ c1 c2 ps bs _ _ V (Lib.hid fun W hW => HPS W) (Lib.hid HC) (Lib.hid fun W A2 n2 k2 hW hs => HB W A2 n2 k2 (hV.trans (hW.mono hV.size)) hs)
  · exact whole_dg_six 17 sh sl true dh dl sp dp ttl _ c1 c2 ps bs _ _ V (Lib.hid fun W hW => HPS W) (Lib.hid HC) (Lib.hid fun W A2 n2 k2 hW hs => HB W A2 n2 k2 (hV.trans (hW.mono hV.size)) hs)
theorem dgram_bad (pr : Int) (s6 : Bool) (sh sl : Int) (d6 : Bool) (dh dl sp dp ttl fl : Int) (A : Option Addr) (n c : Nat) (pl : List Int) (w : World) (h : Sl w A n c pl) (hn : n ≤ 500) (b1 : 0 ≤ sh ∧ sh < 18446744073709551616) (b2 : 0 ≤ sl ∧ sl < 18446744073709551616) (b3 : 0 ≤ dh ∧ dh < 18446744073709551616) (b4 : 0 ≤ dl ∧ dl < 18446744073709551616) (hm : ¬ Made pr s6 sh sl d6 dh dl sp dp ttl 0 17) :
    Calls Try.prog 33 #[.agg #[.int .i64 pr, .bool s6, .int .u64 sh, .int .u64 sl, .bool d6, .int .u64 dh, .int .u64 dl, .int .i64 sp, .int .i64 dp], .int .i64 ttl, .slice A n c] w (MkP 1 [] w) := by
  have hl := h.len
  by_cases hx : pr ≠ 17 ∨ s6 ≠ d6
  · exact dgram_not pr s6 sh sl d6 dh dl sp dp ttl A n c w hx
  obtain rfl : pr = 17 := Classical.byContradiction fun e => hx (.inl e)
  obtain rfl : s6 = d6 := Classical.byContradiction fun e => hx (.inr e)
  obtain ⟨ps, hps⟩ : ∃ ps, ps = psd s6 sh sl dh dl 17 (8 + (pl.length : Int)) := ⟨_, rfl⟩
  by_cases hp : 0 ≤ sp ∧ sp ≤ 65535 ∧ 0 ≤ dp ∧ dp ≤ 65535
  · obtain ⟨bs, hbs⟩ : ∃ bs, bs = udpB.ub sp dp pl (udpB.chkZ (ps ++ udpB.ub sp dp pl 0)) := ⟨_, rfl⟩
    have hM : udpM sp dp pl ps = (0, bs) := by unfold udpM; rw [if_pos hp, hbs]
    have hlb : bs.length = 8 + pl.length := by
      rw [hbs]
      exact udpB.ub_len _ _ _ _
    cases s6 with
    | false =>
      refine dgram_with false sh sl dh dl sp dp ttl fl A n c pl w h hn b1 b2 b3 b4 ps hps 0 1 bs _ hM (.inr (.inl ⟨rfl, rfl, fun V A2 n2 k2 hV hs2 => ?_⟩))
      have h9 := four_bytes ttl 17 sh sl false dh dl A2 n2 k2 bs V hs2 (by have := hs2.len; omega) b2.1 b4.1
      unfold fourM at h9
      rw [if_neg (fun ⟨a1, _, ⟨a3, a4⟩, _, a5, a6⟩ => hm ⟨rfl, rfl, a1, hp, by omega, .inr ⟨a3, a5, by omega, by omega⟩⟩)] at h9
      exact h9
    | true =>
      refine dgram_with true sh sl dh dl sp dp ttl fl A n c pl w h hn b1 b2 b3 b4 ps hps 0 1 bs _ hM (.inr (.inr ⟨rfl, rfl, fun V A2 n2 k2 hV hs2 => ?_⟩))
      exact six_bad ttl 17 sh sl dh dl _ V (fun a => hm ⟨rfl, rfl, a, hp, by omega, .inl rfl⟩)
  · have hM : udpM sp dp pl ps = (1, []) := by unfold udpM; rw [if_neg hp]
    exact dgram_with s6 sh sl dh dl sp dp ttl fl A n c pl w h hn b1 b2 b3 b4 ps hps 1 1 [] [] hM (.inl ⟨by decide, rfl, rfl⟩)
end Go.Proofs.Ytndekicblbpkjaa.pktS
/- Layer 13: a packet whose bytes behind its header a closure makes. -/
namespace Go.Proofs.Ytndekicblbpkjaa.pktL3
open Go.ChangeShapes Go.WideShapes Go.ChangeAt Go.RowKit
open Go.Proofs.Ytndekicblbpkjaa.base Go.Proofs.Ytndekicblbpkjaa.rdrA Go.Proofs.Ytndekicblbpkjaa.rdrG Go.Proofs.Ytndekicblbpkjaa.sixM Go.Proofs.Ytndekicblbpkjaa.pktA Go.Proofs.Ytndekicblbpkjaa.pktB Go.Proofs.Ytndekicblbpkjaa.pktL
set_option linter.unusedVariables false

set_option maxHeartbeats 4000000 in
set_option maxRecDepth 100000 in
theorem whole_ur_four (pr : Int) (sh sl : Int) (d6 : Bool) (dh dl sp dp ttl sz : Int) (c1 : Nat) (ps bs : List Int) (e : Int) (out : List Int) (w : World)
    (HPS : Hid (∀ V, Below w.heap.size w V → Calls Try.prog 88 #[.agg #[.bool false, .int .u64 sh, .int .u64 sl], .agg #[.bool d6, .int .u64 dh, .int .u64 dl], .int .i64 pr, .int .i64 sz] V (Gives ps V)))
    (HC : Hid (∀ V A2 n2 k2, Below w.heap.size w V → Sl V A2 n2 k2 ps → Calls Try.prog 68 #[.slice A2 n2 k2, .pointer (some ⟨c1, 0, none⟩)] V (MkP 0 bs V)))
    (HB : Hid (∀ V A2 n2 k2, Below w.heap.size w V → Sl V A2 n2 k2 bs → Calls Try.prog 89 #[.agg #[.int .i64 0, .int .i64 0, .bool false, .bool false, .int .i64 0, .int .i64 ttl, .int .i64 pr, .bool false, .int .u64 sh, .int .u64 sl, .bool d6, .int .u64 dh, .int .u64 dl, .slice none 0 0], .slice A2 n2 k2] V (MkP e out V))) :
    Calls Try.prog 63 #[.agg #[.int .i64 pr, .bool false, .int .u64 sh, .int .u64 sl, .bool d6, .int .u64 dh, .int .u64 dl, .int .i64 sp, .int .i64 dp], .int .i64 ttl, .int .i64 sz, .func (.func 68) #[] #[.pointer (some ⟨c1, 0, none⟩)]] w (MkP e out w) := by
  obtain ⟨w1, hw1⟩ : ∃ w1, w1 = w.alloc (.cells #[.int .i64 pr, .bool false, .int .u64 sh, .int .u64 sl, .bool d6, .int .u64 dh, .int .u64 dl, .int .i64 sp, .int .i64 dp] 48) := ⟨_, rfl⟩
  have E1 := Lib.hid hw1
  have B1 := Lib.hid (show Below w.heap.size w w1 from by rw [hw1]; exact (Below.refl _ _).alloc (Nat.le_refl _) _)
  obtain ⟨g, hg⟩ : ∃ g, g = w.heap.size := ⟨_, rfl⟩
  have EG := Lib.hid hg
  have KP := Lib.hid (show Blk w1 g 48 #[.int .i64 pr, .bool false, .int .u64 sh, .int .u64 sl, .bool d6, .int .u64 dh, .int .u64 dl, .int .i64 sp, .int .i64 dp] from by rw [hw1, hg]; exact Blk.new w _ _)
  clear hw1 hg
  go_enter Try.func63, Try.ntmps63
  go_upto_region 1 with fail
  rw [← E1.out, ← EG.out]
  have p0 := KP.out.cell 0
  have p1 := KP.out.cell 1
  have p2 := KP.out.cell 2
  have p3 := KP.out.cell 3
  have p4 := KP.out.cell 4
  have p5 := KP.out.cell 5
  have p6 := KP.out.cell 6
  go_wp2_with fail
  refine (HPS.out _ B1.out).mono ?_
  rintro o w2 ⟨hb2, A2, n2, k2, rfl, hsl, hge⟩
  have KP2 := Lib.hid (KP.out.below hb2 KP.out.lt)
  have B2 := Lib.hid (B1.out.trans (hb2.mono B1.out.size))
  have HC2 := Lib.hid (HC.out w2 A2 n2 k2 B2.out hsl)
  clear hb2 hsl hge p0 p1 p2 p3 p4 p5 p6
  go_wp2_with fail
  refine HC2.out.mono ?_
  rintro o w3 ⟨hb3, A3, n3, c3, rfl, hs3⟩
  have KP3 := Lib.hid (KP2.out.below hb3 KP2.out.lt)
  have B3 := Lib.hid (B2.out.trans (hb3.mono B2.out.size))
  have HB3 := Lib.hid (HB.out w3 A3 n3 c3 B3.out hs3)
  clear hb3 hs3
  have p0 := KP3.out.cell 0
  have p1 := KP3.out.cell 1
  have p2 := KP3.out.cell 2
  have p3 := KP3.out.cell 3
  have p4 := KP3.out.cell 4
  have p5 := KP3.out.cell 5
  have p6 := KP3.out.cell 6
  go_wp2_with fail
  refine HB3.out.mono ?_
  rintro o w4 ⟨hb4, A4, n4, c4, rfl, hs4⟩
  have B4 := Lib.hid (B3.out.trans (hb4.mono B3.out.size))
  clear hb4
  go_wp2_with fail
  go_ret2
  exact ⟨B4.out, A4, n4, c4, rfl, hs4⟩
set_option maxHeartbeats 4000000 in
set_option maxRecDepth 100000 in
theorem whole_ur_six (pr : Int) (sh sl : Int) (d6 : Bool) (dh dl sp dp ttl sz : Int) (c1 : Nat) (ps bs : List Int) (e : Int) (out : List Int) (w : World)
    (HPS : Hid (∀ V, Below w.heap.size w V → Calls Try.prog 88 #[.agg #[.bool true, .int .u64 sh, .int .u64 sl], .agg #[.bool d6, .int .u64 dh, .int .u64 dl], .int .i64 pr, .int .i64 sz] V (Gives ps V)))
    (HC : Hid (∀ V A2 n2 k2, Below w.heap.size w V → Sl V A2 n2 k2 ps → Calls Try.prog 68 #[.slice A2 n2 k2, .pointer (some ⟨c1, 0, none⟩)] V (MkP 0 bs V)))
    (HB : Hid (∀ V A2 n2 k2, Below w.heap.size w V → Sl V A2 n2 k2 bs → Calls Try.prog 18 #[.agg #[.int .i64 0, .int .i64 0, .int .i64 ttl, .bool true, .int .u64 sh, .int .u64 sl, .bool d6, .int .u64 dh, .int .u64 dl, .slice none 0 0, .int .i64 pr], .slice A2 n2 k2] V (MkP e out V))) :
    Calls Try.prog 63 #[.agg #[.int .i64 pr, .bool true, .int .u64 sh, .int .u64 sl, .bool d6, .int .u64 dh, .int .u64 dl, .int .i64 sp, .int .i64 dp], .int .i64 ttl, .int .i64 sz, .func (.func 68) #[] #[.pointer (some ⟨c1, 0, none⟩)]] w (MkP e out w) := by
  obtain ⟨w1, hw1⟩ : ∃ w1, w1 = w.alloc (.cells #[.int .i64 pr, .bool true, .int .u64 sh, .int .u64 sl, .bool d6, .int .u64 dh, .int .u64 dl, .int .i64 sp, .int .i64 dp] 48) := ⟨_, rfl⟩
  have E1 := Lib.hid hw1
  have B1 := Lib.hid (show Below w.heap.size w w1 from by rw [hw1]; exact (Below.refl _ _).alloc (Nat.le_refl _) _)
  obtain ⟨g, hg⟩ : ∃ g, g = w.heap.size := ⟨_, rfl⟩
  have EG := Lib.hid hg
  have KP := Lib.hid (show Blk w1 g 48 #[.int .i64 pr, .bool true, .int .u64 sh, .int .u64 sl, .bool d6, .int .u64 dh, .int .u64 dl, .int .i64 sp, .int .i64 dp] from by rw [hw1, hg]; exact Blk.new w _ _)
  clear hw1 hg
  go_enter Try.func63, Try.ntmps63
  go_upto_region 1 with fail
  rw [← E1.out, ← EG.out]
  have p0 := KP.out.cell 0
  have p1 := KP.out.cell 1
  have p2 := KP.out.cell 2
  have p3 := KP.out.cell 3
  have p4 := KP.out.cell 4
  have p5 := KP.out.cell 5
  have p6 := KP.out.cell 6
  go_wp2_with fail
  refine (HPS.out _ B1.out).mono ?_
  rintro o w2 ⟨hb2, A2, n2, k2, rfl, hsl, hge⟩
  have KP2 := Lib.hid (KP.out.below hb2 KP.out.lt)
  have B2 := Lib.hid (B1.out.trans (hb2.mono B1.out.size))
  have HC2 := Lib.hid (HC.out w2 A2 n2 k2 B2.out hsl)
  clear hb2 hsl hge p0 p1 p2 p3 p4 p5 p6
  go_wp2_with fail
  refine HC2.out.mono ?_
  rintro o w3 ⟨hb3, A3, n3, c3, rfl, hs3⟩
  have KP3 := Lib.hid (KP2.out.below hb3 KP2.out.lt)
  have B3 := Lib.hid (B2.out.trans (hb3.mono B2.out.size))
  have HB3 := Lib.hid (HB.out w3 A3 n3 c3 B3.out hs3)
  clear hb3 hs3
  have p0 := KP3.out.cell 0
  have p1 := KP3.out.cell 1
  have p2 := KP3.out.cell 2
  have p3 := KP3.out.cell 3
  have p4 := KP3.out.cell 4
  have p5 := KP3.out.cell 5
  have p6 := KP3.out.cell 6
  go_wp2_with fail
  refine HB3.out.mono ?_
  rintro o w4 ⟨hb4, A4, n4, c4, rfl, hs4⟩
  have B4 := Lib.hid (B3.out.trans (hb4.mono B3.out.size))
  clear hb4
  go_wp2_with fail
  go_ret2
  exact ⟨B4.out, A4, n4, c4, rfl, hs4⟩
end Go.Proofs.Ytndekicblbpkjaa.pktL3
