/- 8 texts in one. -/
import Derived.Test.YtnofddbfogilaaaGe01
import Derived.Test.YtnofddbfogilaaaGe11
import Derived.Test.YtnofddbfogilaaaGe13
import Derived.Test.YtnofddbfogilaaaGe14
import Derived.Test.YtnofddbfogilaaaGe22
import Derived.Test.YtnofddbfogilaaaGe24
import Derived.Test.YtnofddbfogilaaaGe25
/- Layer 13: what is made, parsed: plain words. -/
namespace Go.Proofs.Ytnofddbfogilaaa.pktR
open Go.ChangeShapes Go.WideShapes Go.ChangeAt Go.RowKit
open octA rdrA rdrG sumA sumB sixW sixM pktA pktB pktC pktE sixE sixF pktG
set_option linter.unusedVariables false
def mkB4 (ttl pr sl dl:Int) (bl:List Int):List Int:=fourD.hk 0 0 0 ttl pr sl dl (65535 - fo (wsum (fourD.hk 0 0 0 ttl pr sl dl 0 (20+((0:Nat):Int)+(bl.length:Int)) []))) (20+((0:Nat):Int)+(bl.length:Int)) []++bl
theorem mk4_len (ttl pr sl dl:Int) (bl:List Int):(mkB4 ttl pr sl dl bl).length=20+bl.length:=by
  unfold mkB4
  rw [List.length_append,fourD.hk_len]
  rfl
theorem mk4_drop (ttl pr sl dl:Int) (bl:List Int):(mkB4 ttl pr sl dl bl).drop 20=bl:=by
  unfold mkB4
  rw [List.drop_append_of_le_length (by rw [fourD.hk_len]; simp),List.drop_of_length_le (by rw [fourD.hk_len]; simp),List.nil_append]
theorem mk4_parse (ttl pr sl dl:Int) (bl:List Int) (h1:0≤ttl∧ttl≤255) (h2:0≤pr∧pr≤255) (h3:0≤sl∧sl≤4294967295) (h4:0≤dl∧dl≤4294967295) (hb:bl.length≤900) :
    pkP (mkB4 ttl pr sl dl bl)=withP false ⟨pr,false,0,sl,false,0,dl,0,0⟩ ttl (20+(bl.length:Int)) bl:=by
  have hln:=mk4_len ttl pr sl dl bl
  have hin:=fourD.hk_in 0 0 0 ttl pr sl dl 0 (20+((0:Nat):Int)+(bl.length:Int)) [] (by omega) (by omega) (by omega) h1 h2 h3 h4 (by omega) (by omega) (by simp) (fun x hx=>by cases hx)
  have hck:=fourHn.hk_chk 0 0 0 ttl pr sl dl (20+((0:Nat):Int)+(bl.length:Int)) [] hin
  obtain ⟨s1,s2,s3,s4,s5,s6,_⟩:=fourHn.hk_says 0 0 0 ttl pr sl dl (65535 - fo (wsum (fourD.hk 0 0 0 ttl pr sl dl 0 (20+((0:Nat):Int)+(bl.length:Int)) []))) (20+((0:Nat):Int)+(bl.length:Int)) [] bl 20 rfl rfl (by omega) (by omega)
  have e12:tcpC.w32 (mkB4 ttl pr sl dl bl) 12=sl:=by
    show (sl / 65536 / 256*256+sl / 65536 % 256)*65536+(sl % 65536 / 256*256+sl % 65536 % 256)=_
    omega
  have e16:tcpC.w32 (mkB4 ttl pr sl dl bl) 16=dl:=by
    show (dl / 65536 / 256*256+dl / 65536 % 256)*65536+(dl % 65536 / 256*256+dl % 65536 % 256)=_
    omega
  have e8:(mkB4 ttl pr sl dl bl).getD 8 0=ttl:=rfl
  have e9:(mkB4 ttl pr sl dl bl).getD 9 0=pr:=rfl
  rw [show fourD.hk 0 0 0 ttl pr sl dl (65535 - fo (wsum (fourD.hk 0 0 0 ttl pr sl dl 0 (20+((0:Nat):Int)+(bl.length:Int)) []))) (20+((0:Nat):Int)+(bl.length:Int)) []++bl=mkB4 ttl pr sl dl bl from rfl] at s1 s2 s3 s4 s5 s6
  generalize mkB4 ttl pr sl dl bl=B at *
  have hS:fourS B=20:=by unfold fourS; rw [s2]; rfl
  have hR:fourR B=bl:=by
    unfold fourR
    rw [hS,s6,s4,List.take_of_length_le (by omega)]
  have hE:fourE B=0:=by
    unfold fourE
    rw [if_neg (by omega),if_neg (by omega),if_neg (by omega),if_neg (by omega),if_neg (by omega),s2,show ((20:Nat):Int).toNat=20 from rfl,s5,if_neg (by omega)]
  unfold pkP
  rw [if_neg (by omega),if_neg (by omega),if_pos s1]
  unfold p4
  rw [if_neg (by omega),s3,if_neg (by decide),e8,e9,e12,e16,hS,hR]
  rfl
def mkB6 (ttl pr sh sl dh dl:Int) (bl:List Int):List Int:=sixK.sixB ⟨0,0,ttl,true,sh,sl,true,dh,dl,pr⟩ [] bl
theorem right6 (ttl pr sh sl dh dl:Int) (h1:0≤ttl∧ttl≤255) (h2:0≤pr∧pr≤255) (h3:isX pr=false):sixH.RightH ⟨0,0,ttl,true,sh,sl,true,dh,dl,pr⟩ [] :=
  ⟨by show (0:Int)≤0; decide,by show (0:Int)≤255; decide,h1.1,h1.2,by show (0:Int)≤0; decide,by show (0:Int)≤1048575; decide,rfl,rfl,h2.1,h2.2,h3,⟨by decide,fun i h=>absurd h (Nat.not_lt_zero i),fun i h=>absurd h (Nat.not_lt_zero i)⟩⟩
theorem mk6_parse (ttl pr sh sl dh dl:Int) (bl:List Int) (h1:0≤ttl∧ttl≤255) (h2:0≤pr∧pr≤255) (h3:isX pr=false) (b1:0≤sh∧sh<18446744073709551616) (b2:0≤sl∧sl<18446744073709551616) (b3:0≤dh∧dh<18446744073709551616) (b4:0≤dl∧dl<18446744073709551616) (hb:bl.length≤900) :
    pkP (mkB6 ttl pr sh sl dh dl bl)=withP true ⟨pr,true,sh,sl,true,dh,dl,0,0⟩ ttl (40+(bl.length:Int)) bl∧(mkB6 ttl pr sh sl dh dl bl).length=40+bl.length:=by
  obtain ⟨_,_,a3,a4,a5,a6,a7⟩:=sixY.put_parse ⟨0,0,ttl,true,sh,sl,true,dh,dl,pr⟩ [] bl [] (right6 ttl pr sh sl dh dl h1 h2 h3) (fun x hx=>by cases hx) (by omega) b1 b2 b3 b4
  obtain ⟨a1,a2,_⟩:=sixY.put_parse ⟨0,0,ttl,true,sh,sl,true,dh,dl,pr⟩ [] bl [] (right6 ttl pr sh sl dh dl h1 h2 h3) (fun x hx=>by cases hx) (by omega) b1 b2 b3 b4
  rw [List.append_nil] at a1 a2
  have hl:(sixK.sixB ⟨0,0,ttl,true,sh,sl,true,dh,dl,pr⟩ [] bl).length=40+bl.length:=by rw [a7]; rfl
  refine ⟨?_,hl⟩
  show pkP (sixK.sixB ⟨0,0,ttl,true,sh,sl,true,dh,dl,pr⟩ [] bl)=_
  generalize sixK.sixB ⟨0,0,ttl,true,sh,sl,true,dh,dl,pr⟩ [] bl=B at *
  have e7:B.getD 7 0=ttl:=congrArg Hs.hop a2
  have a1':sixP B=.inr ([],pr,bl):=a1
  have a2':hdOf B pr=⟨0,0,ttl,true,sh,sl,true,dh,dl,pr⟩:=a2
  unfold pkP
  rw [if_neg (by omega),if_neg (by omega),if_neg (by omega),if_pos a5]
  unfold p6
  rw [a1']
  show (if lies [] / 8≠0∨decide (lies [] % 2=1)=true then (zeroPk,21) else withP true ⟨pr,true,(hdOf B pr).sh,(hdOf B pr).sl,true,(hdOf B pr).dh,(hdOf B pr).dl,0,0⟩ (B.getD 7 0) (((40+extL []:Nat):Int)+(bl.length:Int)) bl)=_
  rw [if_neg (by decide),a2',e7]
  rfl
theorem mk6_drop (ttl pr sh sl dh dl:Int) (bl:List Int):(mkB6 ttl pr sh sl dh dl bl).drop 40=bl:=by
  show (sixK.hdB ⟨0,0,ttl,true,sh,sl,true,dh,dl,pr⟩ _ _++([]++bl)).drop 40=bl
  have hl:∀ p n,(sixK.hdB ⟨0,0,ttl,true,sh,sl,true,dh,dl,pr⟩ p n).length=40:=fun p n=>by
    unfold sixK.hdB
    simp only [List.length_append,pb_len,sixK.hd8,List.length_cons,List.length_nil]
  rw [List.drop_append_of_le_length (by rw [hl]; omega),List.drop_of_length_le (by rw [hl]; omega)]
  rfl
theorem psd_even (s6:Bool) (sh sl dh dl pr sz:Int) (h:pr≠1):(psd s6 sh sl dh dl pr sz).length % 2=0:=by
  unfold psd
  rw [if_neg h]
  split
  · rw [psd6_len]
  · rw [psd4_len]
theorem udp_parse (v6 s6:Bool) (sh sl:Int) (d6:Bool) (dh dl sp dp ttl sz:Int) (pl:List Int) (hp:0≤sp∧sp≤65535∧0≤dp∧dp≤65535) (hn:pl.length≤800) (hu:U8 pl) (bs:List Int)
    (hb:bs=udpB.ub sp dp pl (udpB.chkZ (psd s6 sh sl dh dl 17 (8+(pl.length:Int))++udpB.ub sp dp pl 0))) :
    withP v6 ⟨17,s6,sh,sl,d6,dh,dl,0,0⟩ ttl sz bs=(⟨v6,⟨17,s6,sh,sl,d6,dh,dl,sp,dp⟩,ttl,0,false,zeroT,sz⟩,0):=by
  have hps:U8 (psd s6 sh sl dh dl 17 (8+(pl.length:Int))):=by
    unfold psd
    rw [if_neg (show ¬ (17:Int)=1 by decide)]
    split
    · exact psd6_u8 _ _ _ _ _ _
    · exact psd4_u8 _ _ _ _
  have he:=psd_even s6 sh sl dh dl 17 (8+(pl.length:Int)) (by decide)
  have hin:∀ x ∈ psd s6 sh sl dh dl 17 (8+(pl.length:Int))++udpB.ub sp dp pl 0,0≤x∧x≤255:=fun x hx=>(List.mem_append.1 hx).elim (hps x) (udpB.ub_in sp dp pl 0 hu x)
  have c:=udpB.chkZ_in _ hin
  have c0:=udpJn.chk_pos _ hin
  have hchk:=udpJn.chk_right sp dp pl _ hp (by omega) hu hps he
  obtain ⟨u1,u2,u3,u4,u5⟩:=udpJn.ub_says sp dp pl _ hp (by omega) c.1 c.2
  have hl:=udpB.ub_len sp dp pl (udpB.chkZ (psd s6 sh sl dh dl 17 (8+(pl.length:Int))++udpB.ub sp dp pl 0))
  rw [← hb] at hchk u1 u2 u3 u4 u5 hl
  have hsz:(bs.length:Int)=8+(pl.length:Int):=by omega
  have hE:udpE_ bs (psd s6 sh sl dh dl 17 (bs.length:Int)) (!v6)=0:=by
    unfold udpE_
    rw [hsz,if_neg (by omega),if_neg (by omega),if_neg (by
      intro h
      rcases h with ⟨h,_⟩ | ⟨_,h⟩
      · exact c0 (u4 ▸ h)
      · exact h hchk)]
  unfold withP
  simp only
  rw [if_neg (by decide),if_pos trivial,hE,if_neg (by decide),u1,u2]
theorem tcp_parse (v6 s6:Bool) (sh sl:Int) (d6:Bool) (dh dl sp dp ttl fl sz:Int) (pl:List Int) (hp:0≤sp∧sp≤65535∧0≤dp∧dp≤65535) (hf:0≤fl∧fl≤255) (hn:pl.length≤500) (hu:U8 pl) (bs:List Int)
    (hb:bs=tcpLn.tk sp dp 0 0 fl 1024 0 (65535 - fo (wsum (psd s6 sh sl dh dl 6 (20+(pl.length:Int))++tcpLn.tk sp dp 0 0 fl 1024 0 0 [] pl))) [] pl) :
    withP v6 ⟨6,s6,sh,sl,d6,dh,dl,0,0⟩ ttl sz bs=(⟨v6,⟨6,s6,sh,sl,d6,dh,dl,sp,dp⟩,ttl,fl,false,zeroT,sz⟩,0):=by
  have hps:U8 (psd s6 sh sl dh dl 6 (20+(pl.length:Int))):=by
    unfold psd
    rw [if_neg (show ¬ (6:Int)=1 by decide)]
    split
    · exact psd6_u8 _ _ _ _ _ _
    · exact psd4_u8 _ _ _ _
  have he:=psd_even s6 sh sl dh dl 6 (20+(pl.length:Int)) (by decide)
  have hin:∀ x ∈ psd s6 sh sl dh dl 6 (20+(pl.length:Int))++tcpLn.tk sp dp 0 0 fl 1024 0 0 [] pl,0≤x∧x≤255:=fun x hx=>(List.mem_append.1 hx).elim (hps x) (tcpNn.tk_in sp dp 0 0 fl 1024 0 0 [] pl hp.1 hp.2.1 hp.2.2.1 hp.2.2.2 (by omega) (by omega) (by omega) (by omega) hf.1 hf.2 (by omega) (by omega) (by omega) (by omega) (by omega) (by omega) (by simp) (fun x hx=>by cases hx) hu x)
  have hchk:=tcpLn.chk_right sp dp 0 0 fl 1024 0 [] pl _ rfl he hin
  obtain ⟨k1,k2,k3,_,_,k6,k7,k8,_,_,_,_⟩:=tcpLn.tk_says sp dp 0 0 fl 1024 0 (65535 - fo (wsum (psd s6 sh sl dh dl 6 (20+(pl.length:Int))++tcpLn.tk sp dp 0 0 fl 1024 0 0 [] pl))) [] pl rfl
  rw [← hb] at hchk k1 k2 k3 k6 k7 k8
  have k1':bs.length=20+pl.length:=by rw [k1]; rfl
  have hsz:(bs.length:Int)=20+(pl.length:Int):=by omega
  have k6':bs.getD 12 0 / 16*4=20:=k6
  have hE:tcpE bs (psd s6 sh sl dh dl 6 (bs.length:Int))=0:=by
    unfold tcpE
    rw [hsz,if_neg (by omega),if_neg (by omega),if_neg (fun h=>h hchk)]
  unfold withP
  simp only
  rw [if_pos trivial,hE,if_neg (by decide),k2,k3,k8]
end Go.Proofs.Ytnofddbfogilaaa.pktR
namespace Go.Proofs.Ytnofddbfogilaaa.pktL2
end Go.Proofs.Ytnofddbfogilaaa.pktL2
namespace Go.Proofs.Ytnofddbfogilaaa.sixZn
end Go.Proofs.Ytnofddbfogilaaa.sixZn
/- Layer 10: headers that may not be. -/
namespace Go.Proofs.Ytnofddbfogilaaa.tcpKn
set_option maxHeartbeats 1000000
set_option maxRecDepth 100000
open Go.ChangeShapes Go.WideShapes Go.ChangeAt Go.RowKit
open base sumB rdrA
set_option linter.unusedVariables false
def okH (sp dp wn ur fl:Int) (no:Nat):Prop:=(0≤sp∧sp≤65535)∧(0≤dp∧dp≤65535)∧(0≤wn∧wn≤65535)∧(0≤ur∧ur≤65535)∧(0≤fl∧fl≤255)∧no≤40∧no % 4=0
theorem not_ok (sp dp wn ur fl:Int) (no:Nat) (h:¬ okH sp dp wn ur fl no):(sp<0)∨(0≤sp∧65535<sp)∨((0≤sp∧sp≤65535)∧dp<0)∨((0≤sp∧sp≤65535)∧0≤dp∧65535<dp)∨((0≤sp∧sp≤65535)∧(0≤dp∧dp≤65535)∧wn<0)∨((0≤sp∧sp≤65535)∧(0≤dp∧dp≤65535)∧0≤wn∧65535<wn)∨((0≤sp∧sp≤65535)∧(0≤dp∧dp≤65535)∧(0≤wn∧wn≤65535)∧ur<0)∨((0≤sp∧sp≤65535)∧(0≤dp∧dp≤65535)∧(0≤wn∧wn≤65535)∧0≤ur∧65535<ur)∨((0≤sp∧sp≤65535)∧(0≤dp∧dp≤65535)∧(0≤wn∧wn≤65535)∧(0≤ur∧ur≤65535)∧fl<0)∨((0≤sp∧sp≤65535)∧(0≤dp∧dp≤65535)∧(0≤wn∧wn≤65535)∧(0≤ur∧ur≤65535)∧0≤fl∧255<fl)∨((0≤sp∧sp≤65535)∧(0≤dp∧dp≤65535)∧(0≤wn∧wn≤65535)∧(0≤ur∧ur≤65535)∧(0≤fl∧fl≤255)∧40<no)∨((0≤sp∧sp≤65535)∧(0≤dp∧dp≤65535)∧(0≤wn∧wn≤65535)∧(0≤ur∧ur≤65535)∧(0≤fl∧fl≤255)∧no≤40∧no % 4≠0):=by
  have H:=Lib.hid h
  clear h
  by_cases a0:sp<0
  · exact .inl a0
  by_cases b0:65535<sp
  · exact .inr (.inl ⟨Int.not_lt.1 a0,b0⟩)
  by_cases a1:dp<0
  · exact .inr (.inr (.inl ⟨⟨Int.not_lt.1 a0,Int.not_lt.1 b0⟩,a1⟩))
  by_cases b1:65535<dp
  · exact .inr (.inr (.inr (.inl ⟨⟨Int.not_lt.1 a0,Int.not_lt.1 b0⟩,Int.not_lt.1 a1,b1⟩)))
  by_cases a2:wn<0
  · exact .inr (.inr (.inr (.inr (.inl ⟨⟨Int.not_lt.1 a0,Int.not_lt.1 b0⟩,⟨Int.not_lt.1 a1,Int.not_lt.1 b1⟩,a2⟩))))
  by_cases b2:65535<wn
  · exact .inr (.inr (.inr (.inr (.inr (.inl ⟨⟨Int.not_lt.1 a0,Int.not_lt.1 b0⟩,⟨Int.not_lt.1 a1,Int.not_lt.1 b1⟩,Int.not_lt.1 a2,b2⟩)))))
  by_cases a3:ur<0
  · exact .inr (.inr (.inr (.inr (.inr (.inr (.inl ⟨⟨Int.not_lt.1 a0,Int.not_lt.1 b0⟩,⟨Int.not_lt.1 a1,Int.not_lt.1 b1⟩,⟨Int.not_lt.1 a2,Int.not_lt.1 b2⟩,a3⟩))))))
  by_cases b3:65535<ur
  · exact .inr (.inr (.inr (.inr (.inr (.inr (.inr (.inl ⟨⟨Int.not_lt.1 a0,Int.not_lt.1 b0⟩,⟨Int.not_lt.1 a1,Int.not_lt.1 b1⟩,⟨Int.not_lt.1 a2,Int.not_lt.1 b2⟩,Int.not_lt.1 a3,b3⟩)))))))
  by_cases a4:fl<0
  · exact .inr (.inr (.inr (.inr (.inr (.inr (.inr (.inr (.inl ⟨⟨Int.not_lt.1 a0,Int.not_lt.1 b0⟩,⟨Int.not_lt.1 a1,Int.not_lt.1 b1⟩,⟨Int.not_lt.1 a2,Int.not_lt.1 b2⟩,⟨Int.not_lt.1 a3,Int.not_lt.1 b3⟩,a4⟩))))))))
  by_cases b4:255<fl
  · exact .inr (.inr (.inr (.inr (.inr (.inr (.inr (.inr (.inr (.inl ⟨⟨Int.not_lt.1 a0,Int.not_lt.1 b0⟩,⟨Int.not_lt.1 a1,Int.not_lt.1 b1⟩,⟨Int.not_lt.1 a2,Int.not_lt.1 b2⟩,⟨Int.not_lt.1 a3,Int.not_lt.1 b3⟩,Int.not_lt.1 a4,b4⟩)))))))))
  by_cases c0:40<no
  · exact .inr (.inr (.inr (.inr (.inr (.inr (.inr (.inr (.inr (.inr (.inl ⟨⟨Int.not_lt.1 a0,Int.not_lt.1 b0⟩,⟨Int.not_lt.1 a1,Int.not_lt.1 b1⟩,⟨Int.not_lt.1 a2,Int.not_lt.1 b2⟩,⟨Int.not_lt.1 a3,Int.not_lt.1 b3⟩,⟨Int.not_lt.1 a4,Int.not_lt.1 b4⟩,c0⟩))))))))))
  exact .inr (.inr (.inr (.inr (.inr (.inr (.inr (.inr (.inr (.inr (.inr (⟨⟨Int.not_lt.1 a0,Int.not_lt.1 b0⟩,⟨Int.not_lt.1 a1,Int.not_lt.1 b1⟩,⟨Int.not_lt.1 a2,Int.not_lt.1 b2⟩,⟨Int.not_lt.1 a3,Int.not_lt.1 b3⟩,⟨Int.not_lt.1 a4,Int.not_lt.1 b4⟩,Nat.not_lt.1 c0,fun e=>H.out ⟨⟨Int.not_lt.1 a0,Int.not_lt.1 b0⟩,⟨Int.not_lt.1 a1,Int.not_lt.1 b1⟩,⟨Int.not_lt.1 a2,Int.not_lt.1 b2⟩,⟨Int.not_lt.1 a3,Int.not_lt.1 b3⟩,⟨Int.not_lt.1 a4,Int.not_lt.1 b4⟩,Nat.not_lt.1 c0,e⟩⟩)))))))))))
theorem right_no0 (sp dp sq ak fl wn ur:Int) (AO:Option Addr) (no co:Nat) (w:World) (h:sp<0) :
    Calls Try.prog 60 #[.agg #[.int .i64 sp,.int .i64 dp,.int .u32 sq,.int .u32 ak,.int .i64 fl,.int .i64 wn,.int .i64 ur,.slice AO no co]] w fun e w'=>e=.returned (.bool false)∧Below w.heap.size w w':=by
  have i0:∀ w,(Instr.index 125 (.agg #[.int .i64 sp,.int .i64 65535,.int .i64 dp,.int .i64 65535,.int .i64 wn,.int .i64 65535,.int .i64 ur,.int .i64 65535,.int .i64 fl,.int .i64 255]) (.int .i64 0)).run Try.prog w=.ok (.agg #[.int .i64 sp,.int .i64 65535]) w:=fun _=>by kernel_rfl
  have q0:decide (sp<0)=true:=decide_eq_true (by omega)
  clear h
  have HBX:=Lib.hid ((Below.refl w.heap.size w).alloc (Nat.le_refl _) (.cells #[.int .i64 sp,.int .i64 dp,.int .u32 sq,.int .u32 ak,.int .i64 fl,.int .i64 wn,.int .i64 ur,.slice AO no co] 72))
  have BOX:=Lib.hid (Blk.new w 72 #[.int .i64 sp,.int .i64 dp,.int .u32 sq,.int .u32 ak,.int .i64 fl,.int .i64 wn,.int .i64 ur,.slice AO no co])
  have HZ:=Lib.hid (show (w.alloc (.cells #[.int .i64 sp,.int .i64 dp,.int .u32 sq,.int .u32 ak,.int .i64 fl,.int .i64 wn,.int .i64 ur,.slice AO no co] 72)).heap.size=w.heap.size+1 by simp)
  go_enter Try.func60,Try.ntmps60
  go_wp2_with fail
  go_loopw [21,4] (fun i _ wr=>∃ j:Nat,j≤0∧i=.int .i64 j∧Below (w.heap.size+1) (w.alloc (.cells #[.int .i64 sp,.int .i64 dp,.int .u32 sq,.int .u32 ak,.int .i64 fl,.int .i64 wn,.int .i64 ur,.slice AO no co] 72)) wr) (fun i _ _=>5 - (intOf i).toNat)
  case atStart=>exact ⟨0,by omega,rfl,Below.refl _ _⟩
  case round =>
    obtain ⟨j,hj,rfl,hbel⟩:=hrel
    have HB:=Lib.hid hbel
    have o7:wr.cell? ⟨w.heap.size,7,none⟩=some (.slice AO no co):=(hbel.cell (p:=⟨w.heap.size,7,none⟩) (Nat.lt_succ_self _)).trans (BOX.out.cell 7)
    have HS:=Lib.hid (show w.heap.size+1≤wr.heap.size from Nat.le_trans (Nat.le_of_eq HZ.out.symm) hbel.size)
    clear hbel
    have hcase:j=0:=by omega
    rcases hcase with rfl
    · go_wp2_with fail
      go_ret
      exact ⟨rfl,HBX.out.trans ((HB.out.alloc HS.out _:Below (w.heap.size+1) _ _).mono (Nat.le_succ _))⟩
theorem right_no1 (sp dp sq ak fl wn ur:Int) (AO:Option Addr) (no co:Nat) (w:World) (h:0≤sp∧65535<sp) :
    Calls Try.prog 60 #[.agg #[.int .i64 sp,.int .i64 dp,.int .u32 sq,.int .u32 ak,.int .i64 fl,.int .i64 wn,.int .i64 ur,.slice AO no co]] w fun e w'=>e=.returned (.bool false)∧Below w.heap.size w w':=by
  have i0:∀ w,(Instr.index 125 (.agg #[.int .i64 sp,.int .i64 65535,.int .i64 dp,.int .i64 65535,.int .i64 wn,.int .i64 65535,.int .i64 ur,.int .i64 65535,.int .i64 fl,.int .i64 255]) (.int .i64 0)).run Try.prog w=.ok (.agg #[.int .i64 sp,.int .i64 65535]) w:=fun _=>by kernel_rfl
  have q0:decide (sp<0)=false:=decide_eq_false (by omega)
  have p0:decide (65535<sp)=true:=decide_eq_true (by omega)
  clear h
  have HBX:=Lib.hid ((Below.refl w.heap.size w).alloc (Nat.le_refl _) (.cells #[.int .i64 sp,.int .i64 dp,.int .u32 sq,.int .u32 ak,.int .i64 fl,.int .i64 wn,.int .i64 ur,.slice AO no co] 72))
  have BOX:=Lib.hid (Blk.new w 72 #[.int .i64 sp,.int .i64 dp,.int .u32 sq,.int .u32 ak,.int .i64 fl,.int .i64 wn,.int .i64 ur,.slice AO no co])
  have HZ:=Lib.hid (show (w.alloc (.cells #[.int .i64 sp,.int .i64 dp,.int .u32 sq,.int .u32 ak,.int .i64 fl,.int .i64 wn,.int .i64 ur,.slice AO no co] 72)).heap.size=w.heap.size+1 by simp)
  go_enter Try.func60,Try.ntmps60
  go_wp2_with fail
  go_loopw [21,4] (fun i _ wr=>∃ j:Nat,j≤0∧i=.int .i64 j∧Below (w.heap.size+1) (w.alloc (.cells #[.int .i64 sp,.int .i64 dp,.int .u32 sq,.int .u32 ak,.int .i64 fl,.int .i64 wn,.int .i64 ur,.slice AO no co] 72)) wr) (fun i _ _=>5 - (intOf i).toNat)
  case atStart=>exact ⟨0,by omega,rfl,Below.refl _ _⟩
  case round =>
    obtain ⟨j,hj,rfl,hbel⟩:=hrel
    have HB:=Lib.hid hbel
    have o7:wr.cell? ⟨w.heap.size,7,none⟩=some (.slice AO no co):=(hbel.cell (p:=⟨w.heap.size,7,none⟩) (Nat.lt_succ_self _)).trans (BOX.out.cell 7)
    have HS:=Lib.hid (show w.heap.size+1≤wr.heap.size from Nat.le_trans (Nat.le_of_eq HZ.out.symm) hbel.size)
    clear hbel
    have hcase:j=0:=by omega
    rcases hcase with rfl
    · go_wp2_with fail
      go_ret
      exact ⟨rfl,HBX.out.trans ((HB.out.alloc HS.out _:Below (w.heap.size+1) _ _).mono (Nat.le_succ _))⟩
theorem right_no2 (sp dp sq ak fl wn ur:Int) (AO:Option Addr) (no co:Nat) (w:World) (h:(0≤sp∧sp≤65535)∧dp<0) :
    Calls Try.prog 60 #[.agg #[.int .i64 sp,.int .i64 dp,.int .u32 sq,.int .u32 ak,.int .i64 fl,.int .i64 wn,.int .i64 ur,.slice AO no co]] w fun e w'=>e=.returned (.bool false)∧Below w.heap.size w w':=by
  have i0:∀ w,(Instr.index 125 (.agg #[.int .i64 sp,.int .i64 65535,.int .i64 dp,.int .i64 65535,.int .i64 wn,.int .i64 65535,.int .i64 ur,.int .i64 65535,.int .i64 fl,.int .i64 255]) (.int .i64 0)).run Try.prog w=.ok (.agg #[.int .i64 sp,.int .i64 65535]) w:=fun _=>by kernel_rfl
  have i1:∀ w,(Instr.index 125 (.agg #[.int .i64 sp,.int .i64 65535,.int .i64 dp,.int .i64 65535,.int .i64 wn,.int .i64 65535,.int .i64 ur,.int .i64 65535,.int .i64 fl,.int .i64 255]) (.int .i64 1)).run Try.prog w=.ok (.agg #[.int .i64 dp,.int .i64 65535]) w:=fun _=>by kernel_rfl
  have q0:decide (sp<0)=false:=decide_eq_false (by omega)
  have p0:decide (65535<sp)=false:=decide_eq_false (by omega)
  have q1:decide (dp<0)=true:=decide_eq_true (by omega)
  clear h
  have HBX:=Lib.hid ((Below.refl w.heap.size w).alloc (Nat.le_refl _) (.cells #[.int .i64 sp,.int .i64 dp,.int .u32 sq,.int .u32 ak,.int .i64 fl,.int .i64 wn,.int .i64 ur,.slice AO no co] 72))
  have BOX:=Lib.hid (Blk.new w 72 #[.int .i64 sp,.int .i64 dp,.int .u32 sq,.int .u32 ak,.int .i64 fl,.int .i64 wn,.int .i64 ur,.slice AO no co])
  have HZ:=Lib.hid (show (w.alloc (.cells #[.int .i64 sp,.int .i64 dp,.int .u32 sq,.int .u32 ak,.int .i64 fl,.int .i64 wn,.int .i64 ur,.slice AO no co] 72)).heap.size=w.heap.size+1 by simp)
  go_enter Try.func60,Try.ntmps60
  go_wp2_with fail
  go_loopw [21,4] (fun i _ wr=>∃ j:Nat,j≤1∧i=.int .i64 j∧Below (w.heap.size+1) (w.alloc (.cells #[.int .i64 sp,.int .i64 dp,.int .u32 sq,.int .u32 ak,.int .i64 fl,.int .i64 wn,.int .i64 ur,.slice AO no co] 72)) wr) (fun i _ _=>5 - (intOf i).toNat)
  case atStart=>exact ⟨0,by omega,rfl,Below.refl _ _⟩
  case round =>
    obtain ⟨j,hj,rfl,hbel⟩:=hrel
    have HB:=Lib.hid hbel
    have o7:wr.cell? ⟨w.heap.size,7,none⟩=some (.slice AO no co):=(hbel.cell (p:=⟨w.heap.size,7,none⟩) (Nat.lt_succ_self _)).trans (BOX.out.cell 7)
    have HS:=Lib.hid (show w.heap.size+1≤wr.heap.size from Nat.le_trans (Nat.le_of_eq HZ.out.symm) hbel.size)
    clear hbel
    have hcase:j=0∨j=1:=by omega
    rcases hcase with rfl | rfl
    · go_wp2_with fail
      go_roundw
      case rel=>exact ⟨1,by omega,by go_num,HB.out.alloc HS.out _⟩
      case measure=>simp [intOf]
    · go_wp2_with fail
      go_ret
      exact ⟨rfl,HBX.out.trans ((HB.out.alloc HS.out _:Below (w.heap.size+1) _ _).mono (Nat.le_succ _))⟩
theorem right_no3 (sp dp sq ak fl wn ur:Int) (AO:Option Addr) (no co:Nat) (w:World) (h:(0≤sp∧sp≤65535)∧0≤dp∧65535<dp) :
    Calls Try.prog 60 #[.agg #[.int .i64 sp,.int .i64 dp,.int .u32 sq,.int .u32 ak,.int .i64 fl,.int .i64 wn,.int .i64 ur,.slice AO no co]] w fun e w'=>e=.returned (.bool false)∧Below w.heap.size w w':=by
  have i0:∀ w,(Instr.index 125 (.agg #[.int .i64 sp,.int .i64 65535,.int .i64 dp,.int .i64 65535,.int .i64 wn,.int .i64 65535,.int .i64 ur,.int .i64 65535,.int .i64 fl,.int .i64 255]) (.int .i64 0)).run Try.prog w=.ok (.agg #[.int .i64 sp,.int .i64 65535]) w:=fun _=>by kernel_rfl
  have i1:∀ w,(Instr.index 125 (.agg #[.int .i64 sp,.int .i64 65535,.int .i64 dp,.int .i64 65535,.int .i64 wn,.int .i64 65535,.int .i64 ur,.int .i64 65535,.int .i64 fl,.int .i64 255]) (.int .i64 1)).run Try.prog w=.ok (.agg #[.int .i64 dp,.int .i64 65535]) w:=fun _=>by kernel_rfl
  have q0:decide (sp<0)=false:=decide_eq_false (by omega)
  have p0:decide (65535<sp)=false:=decide_eq_false (by omega)
  have q1:decide (dp<0)=false:=decide_eq_false (by omega)
  have p1:decide (65535<dp)=true:=decide_eq_true (by omega)
  clear h
  have HBX:=Lib.hid ((Below.refl w.heap.size w).alloc (Nat.le_refl _) (.cells #[.int .i64 sp,.int .i64 dp,.int .u32 sq,.int .u32 ak,.int .i64 fl,.int .i64 wn,.int .i64 ur,.slice AO no co] 72))
  have BOX:=Lib.hid (Blk.new w 72 #[.int .i64 sp,.int .i64 dp,.int .u32 sq,.int .u32 ak,.int .i64 fl,.int .i64 wn,.int .i64 ur,.slice AO no co])
  have HZ:=Lib.hid (show (w.alloc (.cells #[.int .i64 sp,.int .i64 dp,.int .u32 sq,.int .u32 ak,.int .i64 fl,.int .i64 wn,.int .i64 ur,.slice AO no co] 72)).heap.size=w.heap.size+1 by simp)
  go_enter Try.func60,Try.ntmps60
  go_wp2_with fail
  go_loopw [21,4] (fun i _ wr=>∃ j:Nat,j≤1∧i=.int .i64 j∧Below (w.heap.size+1) (w.alloc (.cells #[.int .i64 sp,.int .i64 dp,.int .u32 sq,.int .u32 ak,.int .i64 fl,.int .i64 wn,.int .i64 ur,.slice AO no co] 72)) wr) (fun i _ _=>5 - (intOf i).toNat)
  case atStart=>exact ⟨0,by omega,rfl,Below.refl _ _⟩
  case round =>
    obtain ⟨j,hj,rfl,hbel⟩:=hrel
    have HB:=Lib.hid hbel
    have o7:wr.cell? ⟨w.heap.size,7,none⟩=some (.slice AO no co):=(hbel.cell (p:=⟨w.heap.size,7,none⟩) (Nat.lt_succ_self _)).trans (BOX.out.cell 7)
    have HS:=Lib.hid (show w.heap.size+1≤wr.heap.size from Nat.le_trans (Nat.le_of_eq HZ.out.symm) hbel.size)
    clear hbel
    have hcase:j=0∨j=1:=by omega
    rcases hcase with rfl | rfl
    · go_wp2_with fail
      go_roundw
      case rel=>exact ⟨1,by omega,by go_num,HB.out.alloc HS.out _⟩
      case measure=>simp [intOf]
    · go_wp2_with fail
      go_ret
      exact ⟨rfl,HBX.out.trans ((HB.out.alloc HS.out _:Below (w.heap.size+1) _ _).mono (Nat.le_succ _))⟩
theorem right_no8 (sp dp sq ak fl wn ur:Int) (AO:Option Addr) (no co:Nat) (w:World) (h:(0≤sp∧sp≤65535)∧(0≤dp∧dp≤65535)∧(0≤wn∧wn≤65535)∧(0≤ur∧ur≤65535)∧fl<0) :
    Calls Try.prog 60 #[.agg #[.int .i64 sp,.int .i64 dp,.int .u32 sq,.int .u32 ak,.int .i64 fl,.int .i64 wn,.int .i64 ur,.slice AO no co]] w fun e w'=>e=.returned (.bool false)∧Below w.heap.size w w':=by
  have i0:∀ w,(Instr.index 125 (.agg #[.int .i64 sp,.int .i64 65535,.int .i64 dp,.int .i64 65535,.int .i64 wn,.int .i64 65535,.int .i64 ur,.int .i64 65535,.int .i64 fl,.int .i64 255]) (.int .i64 0)).run Try.prog w=.ok (.agg #[.int .i64 sp,.int .i64 65535]) w:=fun _=>by kernel_rfl
  have i1:∀ w,(Instr.index 125 (.agg #[.int .i64 sp,.int .i64 65535,.int .i64 dp,.int .i64 65535,.int .i64 wn,.int .i64 65535,.int .i64 ur,.int .i64 65535,.int .i64 fl,.int .i64 255]) (.int .i64 1)).run Try.prog w=.ok (.agg #[.int .i64 dp,.int .i64 65535]) w:=fun _=>by kernel_rfl
  have i2:∀ w,(Instr.index 125 (.agg #[.int .i64 sp,.int .i64 65535,.int .i64 dp,.int .i64 65535,.int .i64 wn,.int .i64 65535,.int .i64 ur,.int .i64 65535,.int .i64 fl,.int .i64 255]) (.int .i64 2)).run Try.prog w=.ok (.agg #[.int .i64 wn,.int .i64 65535]) w:=fun _=>by kernel_rfl
  have i3:∀ w,(Instr.index 125 (.agg #[.int .i64 sp,.int .i64 65535,.int .i64 dp,.int .i64 65535,.int .i64 wn,.int .i64 65535,.int .i64 ur,.int .i64 65535,.int .i64 fl,.int .i64 255]) (.int .i64 3)).run Try.prog w=.ok (.agg #[.int .i64 ur,.int .i64 65535]) w:=fun _=>by kernel_rfl
  have i4:∀ w,(Instr.index 125 (.agg #[.int .i64 sp,.int .i64 65535,.int .i64 dp,.int .i64 65535,.int .i64 wn,.int .i64 65535,.int .i64 ur,.int .i64 65535,.int .i64 fl,.int .i64 255]) (.int .i64 4)).run Try.prog w=.ok (.agg #[.int .i64 fl,.int .i64 255]) w:=fun _=>by kernel_rfl
  have q0:decide (sp<0)=false:=decide_eq_false (by omega)
  have p0:decide (65535<sp)=false:=decide_eq_false (by omega)
  have q1:decide (dp<0)=false:=decide_eq_false (by omega)
  have p1:decide (65535<dp)=false:=decide_eq_false (by omega)
  have q2:decide (wn<0)=false:=decide_eq_false (by omega)
  have p2:decide (65535<wn)=false:=decide_eq_false (by omega)
  have q3:decide (ur<0)=false:=decide_eq_false (by omega)
  have p3:decide (65535<ur)=false:=decide_eq_false (by omega)
  have q4:decide (fl<0)=true:=decide_eq_true (by omega)
  clear h
  have HBX:=Lib.hid ((Below.refl w.heap.size w).alloc (Nat.le_refl _) (.cells #[.int .i64 sp,.int .i64 dp,.int .u32 sq,.int .u32 ak,.int .i64 fl,.int .i64 wn,.int .i64 ur,.slice AO no co] 72))
  have BOX:=Lib.hid (Blk.new w 72 #[.int .i64 sp,.int .i64 dp,.int .u32 sq,.int .u32 ak,.int .i64 fl,.int .i64 wn,.int .i64 ur,.slice AO no co])
  have HZ:=Lib.hid (show (w.alloc (.cells #[.int .i64 sp,.int .i64 dp,.int .u32 sq,.int .u32 ak,.int .i64 fl,.int .i64 wn,.int .i64 ur,.slice AO no co] 72)).heap.size=w.heap.size+1 by simp)
  go_enter Try.func60,Try.ntmps60
  go_wp2_with fail
  go_loopw [21,4] (fun i _ wr=>∃ j:Nat,j≤4∧i=.int .i64 j∧Below (w.heap.size+1) (w.alloc (.cells #[.int .i64 sp,.int .i64 dp,.int .u32 sq,.int .u32 ak,.int .i64 fl,.int .i64 wn,.int .i64 ur,.slice AO no co] 72)) wr) (fun i _ _=>5 - (intOf i).toNat)
  case atStart=>exact ⟨0,by omega,rfl,Below.refl _ _⟩
  case round =>
    obtain ⟨j,hj,rfl,hbel⟩:=hrel
    have HB:=Lib.hid hbel
    have o7:wr.cell? ⟨w.heap.size,7,none⟩=some (.slice AO no co):=(hbel.cell (p:=⟨w.heap.size,7,none⟩) (Nat.lt_succ_self _)).trans (BOX.out.cell 7)
    have HS:=Lib.hid (show w.heap.size+1≤wr.heap.size from Nat.le_trans (Nat.le_of_eq HZ.out.symm) hbel.size)
    clear hbel
    have hcase:j=0∨j=1∨j=2∨j=3∨j=4:=by omega
    rcases hcase with rfl | rfl | rfl | rfl | rfl
    · go_wp2_with fail
      go_roundw
      case rel=>exact ⟨1,by omega,by go_num,HB.out.alloc HS.out _⟩
      case measure=>simp [intOf]
    · go_wp2_with fail
      go_roundw
      case rel=>exact ⟨2,by omega,by go_num,HB.out.alloc HS.out _⟩
      case measure=>simp [intOf]
    · go_wp2_with fail
      go_roundw
      case rel=>exact ⟨3,by omega,by go_num,HB.out.alloc HS.out _⟩
      case measure=>simp [intOf]
    · go_wp2_with fail
      go_roundw
      case rel=>exact ⟨4,by omega,by go_num,HB.out.alloc HS.out _⟩
      case measure=>simp [intOf]
    · go_wp2_with fail
      go_ret
      exact ⟨rfl,HBX.out.trans ((HB.out.alloc HS.out _:Below (w.heap.size+1) _ _).mono (Nat.le_succ _))⟩
theorem right_no9 (sp dp sq ak fl wn ur:Int) (AO:Option Addr) (no co:Nat) (w:World) (h:(0≤sp∧sp≤65535)∧(0≤dp∧dp≤65535)∧(0≤wn∧wn≤65535)∧(0≤ur∧ur≤65535)∧0≤fl∧255<fl) :
    Calls Try.prog 60 #[.agg #[.int .i64 sp,.int .i64 dp,.int .u32 sq,.int .u32 ak,.int .i64 fl,.int .i64 wn,.int .i64 ur,.slice AO no co]] w fun e w'=>e=.returned (.bool false)∧Below w.heap.size w w':=by
  have i0:∀ w,(Instr.index 125 (.agg #[.int .i64 sp,.int .i64 65535,.int .i64 dp,.int .i64 65535,.int .i64 wn,.int .i64 65535,.int .i64 ur,.int .i64 65535,.int .i64 fl,.int .i64 255]) (.int .i64 0)).run Try.prog w=.ok (.agg #[.int .i64 sp,.int .i64 65535]) w:=fun _=>by kernel_rfl
  have i1:∀ w,(Instr.index 125 (.agg #[.int .i64 sp,.int .i64 65535,.int .i64 dp,.int .i64 65535,.int .i64 wn,.int .i64 65535,.int .i64 ur,.int .i64 65535,.int .i64 fl,.int .i64 255]) (.int .i64 1)).run Try.prog w=.ok (.agg #[.int .i64 dp,.int .i64 65535]) w:=fun _=>by kernel_rfl
  have i2:∀ w,(Instr.index 125 (.agg #[.int .i64 sp,.int .i64 65535,.int .i64 dp,.int .i64 65535,.int .i64 wn,.int .i64 65535,.int .i64 ur,.int .i64 65535,.int .i64 fl,.int .i64 255]) (.int .i64 2)).run Try.prog w=.ok (.agg #[.int .i64 wn,.int .i64 65535]) w:=fun _=>by kernel_rfl
  have i3:∀ w,(Instr.index 125 (.agg #[.int .i64 sp,.int .i64 65535,.int .i64 dp,.int .i64 65535,.int .i64 wn,.int .i64 65535,.int .i64 ur,.int .i64 65535,.int .i64 fl,.int .i64 255]) (.int .i64 3)).run Try.prog w=.ok (.agg #[.int .i64 ur,.int .i64 65535]) w:=fun _=>by kernel_rfl
  have i4:∀ w,(Instr.index 125 (.agg #[.int .i64 sp,.int .i64 65535,.int .i64 dp,.int .i64 65535,.int .i64 wn,.int .i64 65535,.int .i64 ur,.int .i64 65535,.int .i64 fl,.int .i64 255]) (.int .i64 4)).run Try.prog w=.ok (.agg #[.int .i64 fl,.int .i64 255]) w:=fun _=>by kernel_rfl
  have q0:decide (sp<0)=false:=decide_eq_false (by omega)
  have p0:decide (65535<sp)=false:=decide_eq_false (by omega)
  have q1:decide (dp<0)=false:=decide_eq_false (by omega)
  have p1:decide (65535<dp)=false:=decide_eq_false (by omega)
  have q2:decide (wn<0)=false:=decide_eq_false (by omega)
  have p2:decide (65535<wn)=false:=decide_eq_false (by omega)
  have q3:decide (ur<0)=false:=decide_eq_false (by omega)
  have p3:decide (65535<ur)=false:=decide_eq_false (by omega)
  have q4:decide (fl<0)=false:=decide_eq_false (by omega)
  have p4:decide (255<fl)=true:=decide_eq_true (by omega)
  clear h
  have HBX:=Lib.hid ((Below.refl w.heap.size w).alloc (Nat.le_refl _) (.cells #[.int .i64 sp,.int .i64 dp,.int .u32 sq,.int .u32 ak,.int .i64 fl,.int .i64 wn,.int .i64 ur,.slice AO no co] 72))
  have BOX:=Lib.hid (Blk.new w 72 #[.int .i64 sp,.int .i64 dp,.int .u32 sq,.int .u32 ak,.int .i64 fl,.int .i64 wn,.int .i64 ur,.slice AO no co])
  have HZ:=Lib.hid (show (w.alloc (.cells #[.int .i64 sp,.int .i64 dp,.int .u32 sq,.int .u32 ak,.int .i64 fl,.int .i64 wn,.int .i64 ur,.slice AO no co] 72)).heap.size=w.heap.size+1 by simp)
  go_enter Try.func60,Try.ntmps60
  go_wp2_with fail
  go_loopw [21,4] (fun i _ wr=>∃ j:Nat,j≤4∧i=.int .i64 j∧Below (w.heap.size+1) (w.alloc (.cells #[.int .i64 sp,.int .i64 dp,.int .u32 sq,.int .u32 ak,.int .i64 fl,.int .i64 wn,.int .i64 ur,.slice AO no co] 72)) wr) (fun i _ _=>5 - (intOf i).toNat)
  case atStart=>exact ⟨0,by omega,rfl,Below.refl _ _⟩
  case round =>
    obtain ⟨j,hj,rfl,hbel⟩:=hrel
    have HB:=Lib.hid hbel
    have o7:wr.cell? ⟨w.heap.size,7,none⟩=some (.slice AO no co):=(hbel.cell (p:=⟨w.heap.size,7,none⟩) (Nat.lt_succ_self _)).trans (BOX.out.cell 7)
    have HS:=Lib.hid (show w.heap.size+1≤wr.heap.size from Nat.le_trans (Nat.le_of_eq HZ.out.symm) hbel.size)
    clear hbel
    have hcase:j=0∨j=1∨j=2∨j=3∨j=4:=by omega
    rcases hcase with rfl | rfl | rfl | rfl | rfl
    · go_wp2_with fail
      go_roundw
      case rel=>exact ⟨1,by omega,by go_num,HB.out.alloc HS.out _⟩
      case measure=>simp [intOf]
    · go_wp2_with fail
      go_roundw
      case rel=>exact ⟨2,by omega,by go_num,HB.out.alloc HS.out _⟩
      case measure=>simp [intOf]
    · go_wp2_with fail
      go_roundw
      case rel=>exact ⟨3,by omega,by go_num,HB.out.alloc HS.out _⟩
      case measure=>simp [intOf]
    · go_wp2_with fail
      go_roundw
      case rel=>exact ⟨4,by omega,by go_num,HB.out.alloc HS.out _⟩
      case measure=>simp [intOf]
    · go_wp2_with fail
      go_ret
      exact ⟨rfl,HBX.out.trans ((HB.out.alloc HS.out _:Below (w.heap.size+1) _ _).mono (Nat.le_succ _))⟩
theorem right_no (sp dp fl:Int) (w:World) (h:¬ okH sp dp 1024 0 fl 0) :
    Calls Try.prog 60 #[.agg #[.int .i64 sp,.int .i64 dp,.int .u32 0,.int .u32 0,.int .i64 fl,.int .i64 1024,.int .i64 0,.slice none 0 0]] w fun e w'=>e=.returned (.bool false)∧Below w.heap.size w w':=by
  rcases not_ok sp dp 1024 0 fl 0 h with h | h | h | h | h | h | h | h | h | h | h | h
  · exact right_no0 sp dp 0 0 fl 1024 0 none 0 0 w h
  · exact right_no1 sp dp 0 0 fl 1024 0 none 0 0 w h
  · exact right_no2 sp dp 0 0 fl 1024 0 none 0 0 w h
  · exact right_no3 sp dp 0 0 fl 1024 0 none 0 0 w h
  · omega
  · omega
  · omega
  · omega
  · exact right_no8 sp dp 0 0 fl 1024 0 none 0 0 w h
  · exact right_no9 sp dp 0 0 fl 1024 0 none 0 0 w h
  · omega
  · omega
end Go.Proofs.Ytnofddbfogilaaa.tcpKn
/- Layer 10: the law and the code on headers that may not be. -/
namespace Go.Proofs.Ytnofddbfogilaaa.tcpMn
open Go.ChangeShapes Go.WideShapes Go.ChangeAt Go.RowKit
open base rdrA tcpKn
set_option linter.unusedVariables false
theorem bytes_wrong (sp dp fl:Int) (A A2:Option Addr) (n c n2 c2:Nat) (w:World) (h:¬ okH sp dp 1024 0 fl 0) :
    Calls Try.prog 43 #[.agg #[.int .i64 sp,.int .i64 dp,.int .u32 0,.int .u32 0,.int .i64 fl,.int .i64 1024,.int .i64 0,.slice none 0 0],.slice A n c,.slice A2 n2 c2] w fun e w'=>e=.returned (.tuple #[.slice none 0 0,.int .i64 1])∧Below w.heap.size w w':=by
  have HB0:=Lib.hid (show Below w.heap.size w (w.alloc (.cells #[.int .i64 sp,.int .i64 dp,.int .u32 0,.int .u32 0,.int .i64 fl,.int .i64 1024,.int .i64 0,.slice none 0 0] 72)) from (Below.refl _ _).alloc (Nat.le_refl _) _)
  have H:=Lib.hid (fun w=>right_no sp dp fl w h)
  clear h
  go_enter Try.func43,Try.ntmps43
  go_wp2_with fail
  refine (H.out _).mono ?_
  rintro e w' ⟨rfl,hb⟩
  have HB:=Lib.hid (bel_call HB0.out hb)
  go_wp2_with fail
  go_ret2
  exact ⟨rfl,HB.out⟩
end Go.Proofs.Ytnofddbfogilaaa.tcpMn
/- Layer 13: Datagram and Segment of any flow. -/
namespace Go.Proofs.Ytnofddbfogilaaa.pktS
set_option maxHeartbeats 4000000
open Go.ChangeShapes Go.WideShapes Go.ChangeAt Go.RowKit
open base rdrA rdrG sumA sumB sixW sixM pktA pktB pktG pktL
set_option linter.unusedVariables false
def tcpM (sp dp fl:Int) (pl ps:List Int):Int × List Int:=if (0≤sp∧sp≤65535∧0≤dp∧dp≤65535)∧(0≤fl∧fl≤255) then (0,tcpLn.tk sp dp 0 0 fl 1024 0 (65535 - fo (wsum (ps++tcpLn.tk sp dp 0 0 fl 1024 0 0 [] pl))) [] pl) else (1,[])
theorem tcp_bytes (sp dp fl:Int) (A A2:Option Addr) (n c n2 c2:Nat) (pl ps:List Int) (w:World) (h:Sl w A n c pl) (h2:Sl w A2 n2 c2 ps) (hn:n≤500) (hn2:n2≤1000) :
    Calls Try.prog 43 #[.agg #[.int .i64 sp,.int .i64 dp,.int .u32 0,.int .u32 0,.int .i64 fl,.int .i64 1024,.int .i64 0,.slice none 0 0],.slice A n c,.slice A2 n2 c2] w (MkP (tcpM sp dp fl pl ps).1 (tcpM sp dp fl pl ps).2 w):=by
  unfold tcpM
  by_cases hp:(0≤sp∧sp≤65535∧0≤dp∧dp≤65535)∧(0≤fl∧fl≤255)
  · rw [if_pos hp]
    obtain ⟨⟨p1,p2,p3,p4⟩,p5,p6⟩:=hp
    refine (tcpNn.bytes_tk sp dp 0 0 fl 1024 0 none 0 0 [] A A2 n c n2 c2 pl ps w p1 p2 p3 p4 p5 p6 (by omega) (by omega) (by omega) (by omega) (by omega) rfl (by omega) (by omega) (by omega) (by omega) rfl (.inl rfl) (fun _=>rfl) (fun x hx=>by cases hx) h.len hn h.row h.nil h.u8 h2.len hn2 h2.row h2.u8).mono ?_
    rintro o w' ⟨v,rfl,h3,h4⟩
    obtain ⟨B,d,rfl⟩:=own_slice h3
    have hin:∀ x ∈ ps++tcpLn.tk sp dp 0 0 fl 1024 0 0 [] pl,0≤x∧x≤255:=fun x hx=>(List.mem_append.1 hx).elim (h2.u8 x) (tcpNn.tk_in sp dp 0 0 fl 1024 0 0 [] pl p1 p2 p3 p4 (by omega) (by omega) (by omega) (by omega) p5 p6 (by omega) (by omega) (by omega) (by omega) (by omega) (by omega) (by simp) (fun x hx=>by cases hx) h.u8 x)
    have fb:=fo_bd _ (wsum_bd _ hin).1
    refine ⟨h4,B,_,d,rfl,Sl.own h3 ?_ (tcpNn.tk_in sp dp 0 0 fl 1024 0 _ [] pl p1 p2 p3 p4 (by omega) (by omega) (by omega) (by omega) p5 p6 (by omega) (by omega) (by omega) (by omega) (by omega) (by omega) (by simp) (fun x hx=>by cases hx) h.u8)⟩
    rw [(tcpLn.tk_says sp dp 0 0 fl 1024 0 _ [] pl rfl).1,h.len]
    rfl
  · rw [if_neg hp]
    refine (tcpMn.bytes_wrong sp dp fl A A2 n c n2 c2 w (fun ⟨a,b,_,_,e,_⟩=>hp ⟨⟨a.1,a.2,b.1,b.2⟩,e⟩)).mono ?_
    rintro o w' ⟨rfl,h4⟩
    exact MkP.nil_ h4
theorem sg_closure (pr:Int) (s6:Bool) (sh sl:Int) (d6:Bool) (dh dl sp dp fl:Int) (c1 c2 c3:Nat) (A A2:Option Addr) (n c n2 cc2:Nat) (e:Int) (bs:List Int) (w:World)
    (K1:Blk w c1 39 #[.int .i64 pr,.bool s6,.int .u64 sh,.int .u64 sl,.bool d6,.int .u64 dh,.int .u64 dl,.int .i64 sp,.int .i64 dp]) (K2:Blk w c2 3 #[.int .i64 fl]) (K3:Blk w c3 47 #[.slice A n c])
    (HC:Hid (Calls Try.prog 43 #[.agg #[.int .i64 sp,.int .i64 dp,.int .u32 0,.int .u32 0,.int .i64 fl,.int .i64 1024,.int .i64 0,.slice none 0 0],.slice A n c,.slice A2 n2 cc2] w (MkP e bs w))) :
    Calls Try.prog 42 #[.slice A2 n2 cc2,.pointer (some ⟨c1,0,none⟩),.pointer (some ⟨c2,0,none⟩),.pointer (some ⟨c3,0,none⟩)] w (MkP e bs w):=by
  have p7:=K1.cell 7
  have p8:=K1.cell 8
  have q0:=K2.cell 0
  have r0:=K3.cell 0
  go_enter Try.func42,Try.ntmps42
  go_wp2_with fail
  refine HC.out.mono ?_
  rintro o w4 ⟨hb4,A4,n4,c4,rfl,hs4⟩
  go_wp2_with fail
  go_ret2
  exact ⟨hb4,A4,n4,c4,rfl,hs4⟩
def Made (pr:Int) (s6:Bool) (sh sl:Int) (d6:Bool) (dh dl sp dp ttl fl proto:Int):Prop:=pr=proto∧s6=d6∧(0≤ttl∧ttl≤255)∧(0≤sp∧sp≤65535∧0≤dp∧dp≤65535)∧(0≤fl∧fl≤255)∧(s6=true∨(sh=0∧dh=0∧sl<4294967296∧dl<4294967296))
end Go.Proofs.Ytnofddbfogilaaa.pktS
/- Layer 14: a packet in another one: plain words. -/
namespace Go.Proofs.Ytnofddbfogilaaa.tunW
open Go.ChangeShapes Go.WideShapes Go.ChangeAt Go.RowKit
open base rdrA rdrG sixM
set_option linter.unusedVariables false
def okAd (v6:Bool) (h l:Int):Bool:=v6 || (decide (h=0) && decide (l<4294967296))
theorem aright_any (v6:Bool) (h l:Int) (w:World) (h0:0≤l):Calls Try.prog 30 #[.agg #[.bool v6,.int .u64 h,.int .u64 l]] w fun o w'=>o=.returned (.bool (okAd v6 h l))∧Below w.heap.size w w':=by
  cases v6 with
  | false =>
    by_cases hk:fourOn.okA false h l
    · obtain ⟨_,rfl,h2⟩:=hk
      rw [show okAd false 0 l=true from by unfold okAd; rw [decide_eq_true (show l<4294967296 by omega)]; rfl]
      exact fourOn.addr_yes l w h0 h2
    · have e:okAd false h l=false:=by
        unfold okAd
        by_cases a:h=0
        · rw [decide_eq_false (show ¬ l<4294967296 from fun b=>hk ⟨rfl,a,by omega⟩)]
          simp
        · rw [decide_eq_false a]
          rfl
      rw [e]
      exact fourOn.addr_no h l w hk
  | true =>
    go_enter Try.func30,Try.ntmps30
    go_wp2
    go_ret
    exact ⟨rfl,(Below.refl _ _).alloc (Nat.le_refl _) _⟩
end Go.Proofs.Ytnofddbfogilaaa.tunW
/- Layer 35: traffic in plain words. -/
namespace Go.Proofs.Ytnofddbfogilaaa.genW
open Go.ChangeShapes Go.WideShapes Go.ChangeAt Go.RowKit
open base mixA mixB pktA pktC pktE pktS sixW tunW
set_option linter.unusedVariables false
def gAdv (a:Int):Int:=IntKind.u64.wrap (a+11400714819323198485)
def gAt (a:Int):Nat→Int
  | 0=>a
  | k+1=>gAdv (gAt a k)
def gNum (a:Int) (k:Nat):Int:=oneZ (gAdv (gAt a k))
theorem gAt_add (a:Int) (j:Nat):∀ k,gAt (gAt a j) k=gAt a (j+k)
  | 0=>rfl
  | k+1=>by
    show gAdv (gAt (gAt a j) k)=gAdv (gAt a (j+k))
    rw [gAt_add a j k]
theorem gNum_add (a:Int) (j k:Nat):gNum (gAt a j) k=gNum a (j+k):=by
  unfold gNum
  rw [gAt_add]
theorem wrap_in (x:Int):0≤IntKind.u64.wrap x∧IntKind.u64.wrap x<18446744073709551616:=by
  rw [IntKind.wrap_u64]
  omega
theorem oneZ_in (x:Int) (h0:0≤x) (h1:x<18446744073709551616):0≤oneZ x∧oneZ x<18446744073709551616:=by
  obtain ⟨n,rfl⟩:=Int.eq_ofNat_of_zero_le h0
  rw [oneZ_eq (by omega)]
  have:=one_lt n
  omega
theorem gNum_in (a:Int) (k:Nat):0≤gNum a k∧gNum a k<18446744073709551616:=by
  have h:=wrap_in (gAt a k+11400714819323198485)
  exact oneZ_in _ h.1 h.2
structure Pl where
  key:Int
  cl:Int
  po:Int
  v6:Bool
  hi:Int
  lo:Int
  pr:Int
  dp:Int
  co:Int
  nt:Bool
  mo:Int
def Pl.cells (p:Pl):Array Value:=#[.int .u64 p.key,.int .i64 p.cl,.int .i64 p.po,.bool p.v6,.int .u64 p.hi,.int .u64 p.lo,.int .i64 p.pr,.int .i64 p.dp,.int .i64 p.co,.bool p.nt,.int .i64 p.mo]
def Pl.right (p:Pl):Prop:=(1≤p.cl∧p.cl≤65536∧1≤p.po∧p.po≤32768∧0≤p.mo∧p.mo≤1400)∧okAd p.v6 p.hi p.lo=true∧(p.pr=6∨p.pr=17)∧0≤p.dp∧p.dp≤65535
instance (p:Pl):Decidable p.right:=by unfold Pl.right; infer_instance
structure Pl.In (p:Pl):Prop where
  k0:0≤p.key
  k1:p.key<18446744073709551616
  h0:0≤p.hi
  h1:p.hi<18446744073709551616
  l0:0≤p.lo
  l1:p.lo<18446744073709551616
def gFlow (p:Pl) (a:Int):Tp:=⟨p.pr,p.v6,if p.v6=true then 2306139568115548160 else 0,if p.v6=true then below (gNum a 0) p.cl+1 else 167772161+below (gNum a 0) p.cl,p.v6,p.hi,p.lo,32768+below (gNum a 1) p.po,p.dp⟩
def gMany (p:Pl) (a:Int):Nat:=(below (gNum a 0) (p.mo+1)).toNat
def gPay (a:Int) (n:Nat):List Int:=(List.range n).map fun i=>gNum a i % 256
theorem gPay_len (a:Int) (n:Nat):(gPay a n).length=n:=by simp [gPay]
theorem gPay_u8 (a:Int) (n:Nat):U8 (gPay a n):=fun x hx=>by
  simp only [gPay,List.mem_map,List.mem_range] at hx
  obtain ⟨i,_,rfl⟩:=hx
  have:=gNum_in a i
  omega
theorem below_in (a:Int) (k:Nat) (n:Int) (h:1≤n):0≤below (gNum a k) n∧below (gNum a k) n<n:=by
  have:=gNum_in a k
  unfold below
  rw [if_neg (by omega)]
  exact mul_lt this.1 this.2 h
theorem gMany_in (p:Pl) (a:Int) (h:0≤p.mo):(gMany p a:Int)=below (gNum a 0) (p.mo+1)∧(gMany p a:Int)≤p.mo:=by
  have:=below_in a 0 (p.mo+1) (by omega)
  unfold gMany
  omega
structure FOk (p:Pl) (t:Tp):Prop where
  pr:t.pr=p.pr
  s6:t.s6=p.v6
  d6:t.d6=p.v6
  dh:t.dh=p.hi
  dl:t.dl=p.lo
  dp:t.dp=p.dp
  sp0:0≤t.sp
  sp1:t.sp≤65535
  sh0:0≤t.sh
  sh1:t.sh<18446744073709551616
  sl0:0≤t.sl
  sl1:t.sl<18446744073709551616
  s4:p.v6=false→t.sh=0∧t.sl<4294967296
theorem gFlow_ok (p:Pl) (hp:p.right) (a:Int):FOk p (gFlow p a):=by
  obtain ⟨⟨h1,h2,h3,h4,h5,h6⟩,h7,h8,h9,h10⟩:=hp
  have b1:=below_in a 0 p.cl h1
  have b2:=below_in a 1 p.po h3
  refine ⟨rfl,rfl,rfl,rfl,rfl,rfl,?_,?_,?_,?_,?_,?_,fun h=>?_⟩
  · show 0≤32768+below (gNum a 1) p.po; omega
  · show 32768+below (gNum a 1) p.po≤65535; omega
  · show 0≤(if p.v6=true then (2306139568115548160:Int) else 0); split <;> omega
  · show (if p.v6=true then (2306139568115548160:Int) else 0)<18446744073709551616; split <;> omega
  · show 0≤(if p.v6=true then below (gNum a 0) p.cl+1 else 167772161+below (gNum a 0) p.cl); split <;> omega
  · show (if p.v6=true then below (gNum a 0) p.cl+1 else 167772161+below (gNum a 0) p.cl)<18446744073709551616; split <;> omega
  · have e:¬ p.v6=true:=by simp [h]
    refine ⟨?_,?_⟩
    · show (if p.v6=true then (2306139568115548160:Int) else 0)=0; rw [if_neg e]
    · show (if p.v6=true then below (gNum a 0) p.cl+1 else 167772161+below (gNum a 0) p.cl)<4294967296; rw [if_neg e]; omega
theorem FOk.made {p:Pl} {t:Tp} (h:FOk p t) (hp:p.right) (hi:p.In) (fl proto:Int) (hf:0≤fl∧fl≤255) (hpr:p.pr=proto):Made t.pr t.s6 t.sh t.sl t.d6 t.dh t.dl t.sp t.dp 64 fl proto:=by
  obtain ⟨⟨h1,h2,h3,h4,h5,h6⟩,h7,h8,h9,h10⟩:=hp
  refine ⟨h.pr.trans hpr,h.s6.trans h.d6.symm,by omega,⟨h.sp0,h.sp1,by rw [h.dp]; exact h9,by rw [h.dp]; exact h10⟩,hf,?_⟩
  cases hv:p.v6 with
  | true=>exact .inl (h.s6.trans hv)
  | false =>
    unfold okAd at h7
    rw [hv] at h7
    simp at h7
    exact .inr ⟨(h.s4 hv).1,h.dh.trans h7.1,(h.s4 hv).2,by rw [h.dl]; exact h7.2⟩
structure Gs where
  t:Tp
  fl:Int
  a:Int
  op:List Tp
def gSeg (p:Pl) (a:Int) (op:List Tp):Gs :=
  if op.length=0∨(below (gNum a 0) 4=0∧op.length<256) then ⟨gFlow p (gAt a 1),2,gAt a 3,op++[gFlow p (gAt a 1)]⟩
  else if below (gNum a 0) 4=1 then ⟨op.getD (below (gNum a 1) op.length).toNat zeroT,17,gAt a 2,op.eraseIdx (below (gNum a 1) op.length).toNat⟩
  else ⟨op.getD (below (gNum a 1) op.length).toNat zeroT,16,gAt a 2,op⟩
theorem gSeg_ok (p:Pl) (hp:p.right) (a:Int) (op:List Tp) (h:∀ t ∈ op,FOk p t) (hn:op.length≤256):FOk p (gSeg p a op).t∧(∀ t ∈ (gSeg p a op).op,FOk p t)∧(gSeg p a op).op.length≤256∧(0≤(gSeg p a op).fl∧(gSeg p a op).fl≤255):=by
  unfold gSeg
  split
  case isTrue h1 =>
    refine ⟨gFlow_ok p hp _,fun t ht=>?_,?_,(by decide:(0:Int)≤2),(by decide:(2:Int)≤255)⟩
    · rcases List.mem_append.1 ht with ht | ht
      · exact h t ht
      · rw [List.mem_singleton.1 ht]; exact gFlow_ok p hp _
    · show (op++[gFlow p (gAt a 1)]).length≤256
      rw [List.length_append]
      simp only [List.length_cons,List.length_nil]
      omega
  case isFalse h1 =>
    have hop:1≤op.length:=by omega
    have b:=below_in a 1 op.length (by omega)
    have hlt:(below (gNum a 1) op.length).toNat<op.length:=by omega
    have hm:FOk p (op.getD (below (gNum a 1) op.length).toNat zeroT):=by
      rw [List.getD_eq_getElem?_getD,List.getElem?_eq_getElem hlt]
      exact h _ (List.getElem_mem hlt)
    split
    · refine ⟨hm,fun t ht=>h t (List.mem_of_mem_eraseIdx ht),?_,(by decide:(0:Int)≤17),(by decide:(17:Int)≤255)⟩
      have:=List.length_eraseIdx_le op (below (gNum a 1) op.length).toNat
      show (op.eraseIdx _).length≤256
      omega
    · exact ⟨hm,h,hn,(by decide:(0:Int)≤16),(by decide:(16:Int)≤255)⟩
end Go.Proofs.Ytnofddbfogilaaa.genW
