/- 7 texts in one. -/
import Derived.Test.YtnofddbfogilaaaGq02
import Derived.Test.YtnofddbfogilaaaGq11
import Derived.Test.YtnofddbfogilaaaGq13
import Derived.Test.YtnofddbfogilaaaGq14
import Derived.Test.YtnofddbfogilaaaGq22
import Derived.Test.YtnofddbfogilaaaGq25
/- Layer 9: what is put, parsed again (plain words). -/
namespace Go.Proofs.Ytnofddbfogilaaa.sixY
open Go.ChangeShapes Go.WideShapes Go.ChangeAt Go.RowKit
open base octA octB octE rdrA rdrG tcpC sixW sixM snK sixE sixF sixH sixK sixQ sixT
set_option linter.unusedVariables false
theorem atN_pb8 (n:Int) (z:List Int) (h0:0≤n) (h1:n<18446744073709551616):atN (pb n 8 8++z) 0 8=n:=by
 obtain ⟨x,rfl⟩:=Int.eq_ofNat_of_zero_le h0
 have e:=atN_put [] 8 [(x:Int)] 0 x (by simp) rfl 8 (Nat.le_refl _)
 have e2:allb 8 [(x:Int)]=pb (x:Int) 8 8:=by
  show pb (x:Int) 8 8++[]=_
  rw [List.append_nil]
 rw [List.nil_append,e2] at e
 have e3:atN (pb (x:Int) 8 8++z) 0 8=atN (pb (x:Int) 8 8) 0 8:=by
  have key:∀ k,k≤8→atN (pb (x:Int) 8 8++z) 0 k=atN (pb (x:Int) 8 8) 0 k:=fun k=>by
   induction k with
   | zero=>intro _; rfl
   | succ k ih =>
    intro hk
    show atN _ 0 k*256+(pb (x:Int) 8 8++z).getD (0+k) 0=atN _ 0 k*256+(pb (x:Int) 8 8).getD (0+k) 0
    rw [ih (by omega),getD_app _ _ _ (by rw [pb_len]; omega)]
  exact key 8 (Nat.le_refl _)
 rw [e3]
 refine e.trans ?_
 have h9:x<18446744073709551616:=by omega
 show ((x / 1 % 18446744073709551616:Nat):Int)=_
 rw [Nat.div_one,Nat.mod_eq_of_lt h9]
theorem atN_pb16 (m n:Int) (z:List Int) (h0:0≤n) (h1:n<18446744073709551616):atN (pb m 8 8++(pb n 8 8++z)) 8 8=n:=by
 rw [atN_drop,List.drop_append_of_le_length (by rw [pb_len]; omega),List.drop_of_length_le (by rw [pb_len]; omega),List.nil_append]
 exact atN_pb8 n z h0 h1
theorem word_eq (cls lab:Int) (c0:0≤cls) (c1:cls≤255) (l0:0≤lab) (l1:lab≤1048575) (W:Int) (hW:W=((96+cls / 16)*256+(cls % 16*16+lab / 65536))*65536+(lab / 256 % 256*256+lab % 256)):W / 1048576 % 256=cls∧W % 1048576=lab:=by
 have e:W=(96*16+cls)*1048576+lab:=by omega
 clear hW
 omega
theorem hd_back (h:Hs) (X:List XP) (p0:Int) (N:Nat) (hN:N≤65535) (z:List Int) (hR:RightH h X) (hsh:0≤h.sh∧h.sh<18446744073709551616) (hsl:0≤h.sl∧h.sl<18446744073709551616) (hdh:0≤h.dh∧h.dh<18446744073709551616) (hdl:0≤h.dl∧h.dl<18446744073709551616) :
  hdOf (hdB h p0 N++z) h.p=h∧(hdB h p0 N++z).getD 0 0 / 16=6∧(hdB h p0 N++z).getD 6 0=p0∧sizeP (hdB h p0 N++z)=N∧(hdB h p0 N).length=40:=by
 obtain ⟨cls,lab,hop,s6,sh,sl,d6,dh,dl,p⟩:=h
 obtain rfl:s6=true:=hR.s6
 obtain rfl:d6=true:=hR.d6
 have c0:0≤cls:=hR.c0
 have c1:cls≤255:=hR.c1
 have l0:0≤lab:=hR.l0
 have l1:lab≤1048575:=hR.l1
 have e:hdB ⟨cls,lab,hop,true,sh,sl,true,dh,dl,p⟩ p0 N++z=(96+cls / 16)::(cls % 16*16+lab / 65536)::(lab / 256 % 256)::(lab % 256)::((N:Int) / 256 % 256)::((N:Int) % 256)::p0::hop::(pb sh 8 8++(pb sl 8 8++(pb dh 8 8++(pb dl 8 8++z)))):=by
  show (hd8 cls lab hop p0 N++(pb sh 8 8++pb sl 8 8)++(pb dh 8 8++pb dl 8 8))++z=_
  simp only [hd8,List.append_assoc,List.cons_append,List.nil_append]
 have d8:(hdB ⟨cls,lab,hop,true,sh,sl,true,dh,dl,p⟩ p0 N++z).drop 8=pb sh 8 8++(pb sl 8 8++(pb dh 8 8++(pb dl 8 8++z))):=by rw [e]; rfl
 have d24:(hdB ⟨cls,lab,hop,true,sh,sl,true,dh,dl,p⟩ p0 N++z).drop 24=pb dh 8 8++(pb dl 8 8++z):=by
  rw [show 24=8+16 from rfl,← List.drop_drop,d8]
  have ln:(pb sh 8 8++pb sl 8 8).length=16:=by rw [List.length_append,pb_len,pb_len]
  rw [← List.append_assoc,List.drop_append_of_le_length (by omega),List.drop_of_length_le (by omega),List.nil_append]
 have hw:=word_eq cls lab c0 c1 l0 l1 _ rfl
 refine ⟨?_,?_,?_,?_,?_⟩
 ·show Hs.mk (w32 (hdB _ p0 N++z) 0 / 1048576 % 256) (w32 (hdB _ p0 N++z) 0 % 1048576) ((hdB _ p0 N++z).getD 7 0) true (atN ((hdB _ p0 N++z).drop 8) 0 8) (atN ((hdB _ p0 N++z).drop 8) 8 8) true (atN ((hdB _ p0 N++z).drop 24) 0 8) (atN ((hdB _ p0 N++z).drop 24) 8 8) p=_
  have ew:w32 (hdB ⟨cls,lab,hop,true,sh,sl,true,dh,dl,p⟩ p0 N++z) 0=((96+cls / 16)*256+(cls % 16*16+lab / 65536))*65536+(lab / 256 % 256*256+lab % 256):=by rw [e]; rfl
  have e7:(hdB ⟨cls,lab,hop,true,sh,sl,true,dh,dl,p⟩ p0 N++z).getD 7 0=hop:=by rw [e]; rfl
  rw [ew,hw.1,hw.2,e7,d8,d24,atN_pb8 sh _ hsh.1 hsh.2,atN_pb16 sh sl _ hsl.1 hsl.2,atN_pb8 dh _ hdh.1 hdh.2,atN_pb16 dh dl _ hdl.1 hdl.2]
 ·rw [e]
  show (96+cls / 16) / 16=6
  omega
 ·rw [e]; rfl
 ·unfold sizeP
  rw [e]
  show (256*((N:Int) / 256 % 256)+(N:Int) % 256).toNat=N
  omega
 ·show (hd8 cls lab hop p0 N++(pb sh 8 8++pb sl 8 8)++(pb dh 8 8++pb dl 8 8)).length=40
  simp only [List.length_append,pb_len,hd8,List.length_cons,List.length_nil]
theorem put_parse (h:Hs) (X:List XP) (r t:List Int) (hR:RightH h X) (hU:∀ x ∈ X,U8 x.2) (hr:r.length≤1000) (hsh:0≤h.sh∧h.sh<18446744073709551616) (hsl:0≤h.sl∧h.sl<18446744073709551616) (hdh:0≤h.dh∧h.dh<18446744073709551616) (hdl:0≤h.dl∧h.dl<18446744073709551616) :
  sixP (sixB h X r++t)=.inr (X,h.p,r)∧hdOf (sixB h X r++t) h.p=h∧sixQ (sixB h X r)=.inr (X,h.p,r)∧hdOf (sixB h X r) h.p=h∧(sixB h X r).getD 0 0 / 16=6∧(sixB h X r++t).getD 0 0 / 16=6∧(sixB h X r).length=40+extL X+r.length:=by
 have hx:=extL_le hR.e
 obtain ⟨a1,a2,a3,a4,a5⟩:=hd_back h X (nextK X h.p) (extL X+r.length) (by omega) ((extB X h.p++r)++t) hR hsh hsl hdh hdl
 obtain ⟨b1,b2,b3,b4,b5⟩:=hd_back h X (nextK X h.p) (extL X+r.length) (by omega) (extB X h.p++r) hR hsh hsl hdh hdl
 have ea:sixB h X r++t=hdB h (nextK X h.p) (extL X+r.length)++((extB X h.p++r)++t):=by unfold sixB; rw [List.append_assoc]
 have eb:sixB h X r=hdB h (nextK X h.p) (extL X+r.length)++(extB X h.p++r):=rfl
 have ln:(extB X h.p++r).length=extL X+r.length:=by rw [List.length_append,extB_len]
 have lb:(sixB h X r).length=40+extL X+r.length:=by rw [eb,List.length_append,a5,ln]; omega
 have hc:=chn_put X [] h.p r 9 (by rw [List.nil_append]; exact hR.e) hU hR.pn (by have:=hR.e.most; omega)
 rw [List.nil_append] at hc
 have dr:(sixB h X r).drop 40=extB X h.p++r:=by rw [eb,List.drop_append_of_le_length (by omega),List.drop_of_length_le (by omega),List.nil_append]
 refine ⟨?_,by rw [ea]; exact a1,?_,by rw [eb]; exact b1,by rw [eb]; exact b2,by rw [ea]; exact a2,lb⟩
 ·have e4:sizeP (sixB h X r++t)=extL X+r.length:=by rw [ea]; exact a4
  have tk:(sixB h X r++t).take (40+(extL X+r.length))=sixB h X r:=by
   rw [List.take_append_of_le_length (by omega),List.take_of_length_le (by omega)]
  unfold sixP
  rw [if_neg (by rw [List.length_append]; omega),if_neg (by rw [ea,a2]; decide),e4,if_neg (by rw [List.length_append]; omega),tk,dr,ea,a3,hc]
  rfl
 ·unfold sixQ
  rw [if_neg (by omega),if_neg (by rw [eb,b2]; decide),dr,eb,b3,hc]
  rfl
end Go.Proofs.Ytnofddbfogilaaa.sixY
/- Layer 13: what is made, parsed: plain words. -/
namespace Go.Proofs.Ytnofddbfogilaaa.pktR
open Go.ChangeShapes Go.WideShapes Go.ChangeAt Go.RowKit
open octA rdrA rdrG sumA sumB sixW sixM pktA pktB pktC pktE sixE sixF pktG
set_option linter.unusedVariables false
def mkB4 (ttl pr sl dl:Int) (bl:List Int):List Int:=fourD.hk 0 0 0 ttl pr sl dl (65535 - fo (wsum (fourD.hk 0 0 0 ttl pr sl dl 0 (20+((0:Nat):Int)+(bl.length:Int)) []))) (20+((0:Nat):Int)+(bl.length:Int)) []++bl
theorem mk4_len (ttl pr sl dl:Int) (bl:List Int):(mkB4 ttl pr sl dl bl).length=20+bl.length:=by
 unfold mkB4
 rw [List.length_append,fourD.hk_len]
 rfl
theorem mk4_drop (ttl pr sl dl:Int) (bl:List Int):(mkB4 ttl pr sl dl bl).drop 20=bl:=by
 unfold mkB4
 rw [List.drop_append_of_le_length (by rw [fourD.hk_len]; simp),List.drop_of_length_le (by rw [fourD.hk_len]; simp),List.nil_append]
theorem mk4_parse (ttl pr sl dl:Int) (bl:List Int) (h1:0≤ttl∧ttl≤255) (h2:0≤pr∧pr≤255) (h3:0≤sl∧sl≤4294967295) (h4:0≤dl∧dl≤4294967295) (hb:bl.length≤900) :
  pkP (mkB4 ttl pr sl dl bl)=withP false ⟨pr,false,0,sl,false,0,dl,0,0⟩ ttl (20+(bl.length:Int)) bl:=by
 have hln:=mk4_len ttl pr sl dl bl
 have hin:=fourD.hk_in 0 0 0 ttl pr sl dl 0 (20+((0:Nat):Int)+(bl.length:Int)) [] (by omega) (by omega) (by omega) h1 h2 h3 h4 (by omega) (by omega) (by simp) (fun x hx=>by cases hx)
 have hck:=fourHn.hk_chk 0 0 0 ttl pr sl dl (20+((0:Nat):Int)+(bl.length:Int)) [] hin
 obtain ⟨s1,s2,s3,s4,s5,s6,_⟩:=fourHn.hk_says 0 0 0 ttl pr sl dl (65535 - fo (wsum (fourD.hk 0 0 0 ttl pr sl dl 0 (20+((0:Nat):Int)+(bl.length:Int)) []))) (20+((0:Nat):Int)+(bl.length:Int)) [] bl 20 rfl rfl (by omega) (by omega)
 have e12:tcpC.w32 (mkB4 ttl pr sl dl bl) 12=sl:=by
  show (sl / 65536 / 256*256+sl / 65536 % 256)*65536+(sl % 65536 / 256*256+sl % 65536 % 256)=_
  omega
 have e16:tcpC.w32 (mkB4 ttl pr sl dl bl) 16=dl:=by
  show (dl / 65536 / 256*256+dl / 65536 % 256)*65536+(dl % 65536 / 256*256+dl % 65536 % 256)=_
  omega
 have e8:(mkB4 ttl pr sl dl bl).getD 8 0=ttl:=rfl
 have e9:(mkB4 ttl pr sl dl bl).getD 9 0=pr:=rfl
 rw [show fourD.hk 0 0 0 ttl pr sl dl (65535 - fo (wsum (fourD.hk 0 0 0 ttl pr sl dl 0 (20+((0:Nat):Int)+(bl.length:Int)) []))) (20+((0:Nat):Int)+(bl.length:Int)) []++bl=mkB4 ttl pr sl dl bl from rfl] at s1 s2 s3 s4 s5 s6
 generalize mkB4 ttl pr sl dl bl=B at *
 have hS:fourS B=20:=by unfold fourS; rw [s2]; rfl
 have hR:fourR B=bl:=by
  unfold fourR
  rw [hS,s6,s4,List.take_of_length_le (by omega)]
 have hE:fourE B=0:=by
  unfold fourE
  rw [if_neg (by omega),if_neg (by omega),if_neg (by omega),if_neg (by omega),if_neg (by omega),s2,show ((20:Nat):Int).toNat=20 from rfl,s5,if_neg (by omega)]
 unfold pkP
 rw [if_neg (by omega),if_neg (by omega),if_pos s1]
 unfold p4
 rw [if_neg (by omega),s3,if_neg (by decide),e8,e9,e12,e16,hS,hR]
 rfl
def mkB6 (ttl pr sh sl dh dl:Int) (bl:List Int):List Int:=sixK.sixB ⟨0,0,ttl,true,sh,sl,true,dh,dl,pr⟩ [] bl
theorem right6 (ttl pr sh sl dh dl:Int) (h1:0≤ttl∧ttl≤255) (h2:0≤pr∧pr≤255) (h3:isX pr=false):sixH.RightH ⟨0,0,ttl,true,sh,sl,true,dh,dl,pr⟩ [] :=
 ⟨by show (0:Int)≤0; decide,by show (0:Int)≤255; decide,h1.1,h1.2,by show (0:Int)≤0; decide,by show (0:Int)≤1048575; decide,rfl,rfl,h2.1,h2.2,h3,⟨by decide,fun i h=>absurd h (Nat.not_lt_zero i),fun i h=>absurd h (Nat.not_lt_zero i)⟩⟩
theorem mk6_parse (ttl pr sh sl dh dl:Int) (bl:List Int) (h1:0≤ttl∧ttl≤255) (h2:0≤pr∧pr≤255) (h3:isX pr=false) (b1:0≤sh∧sh<18446744073709551616) (b2:0≤sl∧sl<18446744073709551616) (b3:0≤dh∧dh<18446744073709551616) (b4:0≤dl∧dl<18446744073709551616) (hb:bl.length≤900) :
  pkP (mkB6 ttl pr sh sl dh dl bl)=withP true ⟨pr,true,sh,sl,true,dh,dl,0,0⟩ ttl (40+(bl.length:Int)) bl∧(mkB6 ttl pr sh sl dh dl bl).length=40+bl.length:=by
 obtain ⟨_,_,a3,a4,a5,a6,a7⟩:=sixY.put_parse ⟨0,0,ttl,true,sh,sl,true,dh,dl,pr⟩ [] bl [] (right6 ttl pr sh sl dh dl h1 h2 h3) (fun x hx=>by cases hx) (by omega) b1 b2 b3 b4
 obtain ⟨a1,a2,_⟩:=sixY.put_parse ⟨0,0,ttl,true,sh,sl,true,dh,dl,pr⟩ [] bl [] (right6 ttl pr sh sl dh dl h1 h2 h3) (fun x hx=>by cases hx) (by omega) b1 b2 b3 b4
 rw [List.append_nil] at a1 a2
 have hl:(sixK.sixB ⟨0,0,ttl,true,sh,sl,true,dh,dl,pr⟩ [] bl).length=40+bl.length:=by rw [a7]; rfl
 refine ⟨?_,hl⟩
 show pkP (sixK.sixB ⟨0,0,ttl,true,sh,sl,true,dh,dl,pr⟩ [] bl)=_
 generalize sixK.sixB ⟨0,0,ttl,true,sh,sl,true,dh,dl,pr⟩ [] bl=B at *
 have e7:B.getD 7 0=ttl:=congrArg Hs.hop a2
 have a1':sixP B=.inr ([],pr,bl):=a1
 have a2':hdOf B pr=⟨0,0,ttl,true,sh,sl,true,dh,dl,pr⟩:=a2
 unfold pkP
 rw [if_neg (by omega),if_neg (by omega),if_neg (by omega),if_pos a5]
 unfold p6
 rw [a1']
 show (if lies [] / 8≠0∨decide (lies [] % 2=1)=true then (zeroPk,21) else withP true ⟨pr,true,(hdOf B pr).sh,(hdOf B pr).sl,true,(hdOf B pr).dh,(hdOf B pr).dl,0,0⟩ (B.getD 7 0) (((40+extL []:Nat):Int)+(bl.length:Int)) bl)=_
 rw [if_neg (by decide),a2',e7]
 rfl
theorem mk6_drop (ttl pr sh sl dh dl:Int) (bl:List Int):(mkB6 ttl pr sh sl dh dl bl).drop 40=bl:=by
 show (sixK.hdB ⟨0,0,ttl,true,sh,sl,true,dh,dl,pr⟩ _ _++([]++bl)).drop 40=bl
 have hl:∀ p n,(sixK.hdB ⟨0,0,ttl,true,sh,sl,true,dh,dl,pr⟩ p n).length=40:=fun p n=>by
  unfold sixK.hdB
  simp only [List.length_append,pb_len,sixK.hd8,List.length_cons,List.length_nil]
 rw [List.drop_append_of_le_length (by rw [hl]; omega),List.drop_of_length_le (by rw [hl]; omega)]
 rfl
theorem psd_even (s6:Bool) (sh sl dh dl pr sz:Int) (h:pr≠1):(psd s6 sh sl dh dl pr sz).length % 2=0:=by
 unfold psd
 rw [if_neg h]
 split
 ·rw [psd6_len]
 ·rw [psd4_len]
theorem udp_parse (v6 s6:Bool) (sh sl:Int) (d6:Bool) (dh dl sp dp ttl sz:Int) (pl:List Int) (hp:0≤sp∧sp≤65535∧0≤dp∧dp≤65535) (hn:pl.length≤800) (hu:U8 pl) (bs:List Int)
  (hb:bs=udpB.ub sp dp pl (udpB.chkZ (psd s6 sh sl dh dl 17 (8+(pl.length:Int))++udpB.ub sp dp pl 0))) :
  withP v6 ⟨17,s6,sh,sl,d6,dh,dl,0,0⟩ ttl sz bs=(⟨v6,⟨17,s6,sh,sl,d6,dh,dl,sp,dp⟩,ttl,0,false,zeroT,sz⟩,0):=by
 have hps:U8 (psd s6 sh sl dh dl 17 (8+(pl.length:Int))):=by
  unfold psd
  rw [if_neg (show ¬ (17:Int)=1 by decide)]
  split
  ·exact psd6_u8 _ _ _ _ _ _
  ·exact psd4_u8 _ _ _ _
 have he:=psd_even s6 sh sl dh dl 17 (8+(pl.length:Int)) (by decide)
 have hin:∀ x ∈ psd s6 sh sl dh dl 17 (8+(pl.length:Int))++udpB.ub sp dp pl 0,0≤x∧x≤255:=fun x hx=>(List.mem_append.1 hx).elim (hps x) (udpB.ub_in sp dp pl 0 hu x)
 have c:=udpB.chkZ_in _ hin
 have c0:=udpJn.chk_pos _ hin
 have hchk:=udpJn.chk_right sp dp pl _ hp (by omega) hu hps he
 obtain ⟨u1,u2,u3,u4,u5⟩:=udpJn.ub_says sp dp pl _ hp (by omega) c.1 c.2
 have hl:=udpB.ub_len sp dp pl (udpB.chkZ (psd s6 sh sl dh dl 17 (8+(pl.length:Int))++udpB.ub sp dp pl 0))
 rw [← hb] at hchk u1 u2 u3 u4 u5 hl
 have hsz:(bs.length:Int)=8+(pl.length:Int):=by omega
 have hE:udpE_ bs (psd s6 sh sl dh dl 17 (bs.length:Int)) (!v6)=0:=by
  unfold udpE_
  rw [hsz,if_neg (by omega),if_neg (by omega),if_neg (by
   intro h
   rcases h with ⟨h,_⟩ | ⟨_,h⟩
   ·exact c0 (u4 ▸ h)
   ·exact h hchk)]
 unfold withP
 simp only
 rw [if_neg (by decide),if_pos trivial,hE,if_neg (by decide),u1,u2]
theorem tcp_parse (v6 s6:Bool) (sh sl:Int) (d6:Bool) (dh dl sp dp ttl fl sz:Int) (pl:List Int) (hp:0≤sp∧sp≤65535∧0≤dp∧dp≤65535) (hf:0≤fl∧fl≤255) (hn:pl.length≤500) (hu:U8 pl) (bs:List Int)
  (hb:bs=tcpLn.tk sp dp 0 0 fl 1024 0 (65535 - fo (wsum (psd s6 sh sl dh dl 6 (20+(pl.length:Int))++tcpLn.tk sp dp 0 0 fl 1024 0 0 [] pl))) [] pl) :
  withP v6 ⟨6,s6,sh,sl,d6,dh,dl,0,0⟩ ttl sz bs=(⟨v6,⟨6,s6,sh,sl,d6,dh,dl,sp,dp⟩,ttl,fl,false,zeroT,sz⟩,0):=by
 have hps:U8 (psd s6 sh sl dh dl 6 (20+(pl.length:Int))):=by
  unfold psd
  rw [if_neg (show ¬ (6:Int)=1 by decide)]
  split
  ·exact psd6_u8 _ _ _ _ _ _
  ·exact psd4_u8 _ _ _ _
 have he:=psd_even s6 sh sl dh dl 6 (20+(pl.length:Int)) (by decide)
 have hin:∀ x ∈ psd s6 sh sl dh dl 6 (20+(pl.length:Int))++tcpLn.tk sp dp 0 0 fl 1024 0 0 [] pl,0≤x∧x≤255:=fun x hx=>(List.mem_append.1 hx).elim (hps x) (tcpNn.tk_in sp dp 0 0 fl 1024 0 0 [] pl hp.1 hp.2.1 hp.2.2.1 hp.2.2.2 (by omega) (by omega) (by omega) (by omega) hf.1 hf.2 (by omega) (by omega) (by omega) (by omega) (by omega) (by omega) (by simp) (fun x hx=>by cases hx) hu x)
 have hchk:=tcpLn.chk_right sp dp 0 0 fl 1024 0 [] pl _ rfl he hin
 obtain ⟨k1,k2,k3,_,_,k6,k7,k8,_,_,_,_⟩:=tcpLn.tk_says sp dp 0 0 fl 1024 0 (65535 - fo (wsum (psd s6 sh sl dh dl 6 (20+(pl.length:Int))++tcpLn.tk sp dp 0 0 fl 1024 0 0 [] pl))) [] pl rfl
 rw [← hb] at hchk k1 k2 k3 k6 k7 k8
 have k1':bs.length=20+pl.length:=by rw [k1]; rfl
 have hsz:(bs.length:Int)=20+(pl.length:Int):=by omega
 have k6':bs.getD 12 0 / 16*4=20:=k6
 have hE:tcpE bs (psd s6 sh sl dh dl 6 (bs.length:Int))=0:=by
  unfold tcpE
  rw [hsz,if_neg (by omega),if_neg (by omega),if_neg (fun h=>h hchk)]
 unfold withP
 simp only
 rw [if_pos trivial,hE,if_neg (by decide),k2,k3,k8]
end Go.Proofs.Ytnofddbfogilaaa.pktR
namespace Go.Proofs.Ytnofddbfogilaaa.pktL2
end Go.Proofs.Ytnofddbfogilaaa.pktL2
namespace Go.Proofs.Ytnofddbfogilaaa.sixZn
end Go.Proofs.Ytnofddbfogilaaa.sixZn
/- Layer 10: headers that may not be. -/
namespace Go.Proofs.Ytnofddbfogilaaa.tcpKn
set_option maxHeartbeats 1000000
set_option maxRecDepth 100000
open Go.ChangeShapes Go.WideShapes Go.ChangeAt Go.RowKit
open base sumB rdrA
set_option linter.unusedVariables false
def okH (sp dp wn ur fl:Int) (no:Nat):Prop:=(0≤sp∧sp≤65535)∧(0≤dp∧dp≤65535)∧(0≤wn∧wn≤65535)∧(0≤ur∧ur≤65535)∧(0≤fl∧fl≤255)∧no≤40∧no % 4=0
theorem not_ok (sp dp wn ur fl:Int) (no:Nat) (h:¬ okH sp dp wn ur fl no):(sp<0)∨(0≤sp∧65535<sp)∨((0≤sp∧sp≤65535)∧dp<0)∨((0≤sp∧sp≤65535)∧0≤dp∧65535<dp)∨((0≤sp∧sp≤65535)∧(0≤dp∧dp≤65535)∧wn<0)∨((0≤sp∧sp≤65535)∧(0≤dp∧dp≤65535)∧0≤wn∧65535<wn)∨((0≤sp∧sp≤65535)∧(0≤dp∧dp≤65535)∧(0≤wn∧wn≤65535)∧ur<0)∨((0≤sp∧sp≤65535)∧(0≤dp∧dp≤65535)∧(0≤wn∧wn≤65535)∧0≤ur∧65535<ur)∨((0≤sp∧sp≤65535)∧(0≤dp∧dp≤65535)∧(0≤wn∧wn≤65535)∧(0≤ur∧ur≤65535)∧fl<0)∨((0≤sp∧sp≤65535)∧(0≤dp∧dp≤65535)∧(0≤wn∧wn≤65535)∧(0≤ur∧ur≤65535)∧0≤fl∧255<fl)∨((0≤sp∧sp≤65535)∧(0≤dp∧dp≤65535)∧(0≤wn∧wn≤65535)∧(0≤ur∧ur≤65535)∧(0≤fl∧fl≤255)∧40<no)∨((0≤sp∧sp≤65535)∧(0≤dp∧dp≤65535)∧(0≤wn∧wn≤65535)∧(0≤ur∧ur≤65535)∧(0≤fl∧fl≤255)∧no≤40∧no % 4≠0):=by
 have H:=Lib.hid h
 clear h
 by_cases a0:sp<0
 ·exact .inl a0
 by_cases b0:65535<sp
 ·exact .inr (.inl ⟨Int.not_lt.1 a0,b0⟩)
 by_cases a1:dp<0
 ·exact .inr (.inr (.inl ⟨⟨Int.not_lt.1 a0,Int.not_lt.1 b0⟩,a1⟩))
 by_cases b1:65535<dp
 ·exact .inr (.inr (.inr (.inl ⟨⟨Int.not_lt.1 a0,Int.not_lt.1 b0⟩,Int.not_lt.1 a1,b1⟩)))
 by_cases a2:wn<0
 ·exact .inr (.inr (.inr (.inr (.inl ⟨⟨Int.not_lt.1 a0,Int.not_lt.1 b0⟩,⟨Int.not_lt.1 a1,Int.not_lt.1 b1⟩,a2⟩))))
 by_cases b2:65535<wn
 ·exact .inr (.inr (.inr (.inr (.inr (.inl ⟨⟨Int.not_lt.1 a0,Int.not_lt.1 b0⟩,⟨Int.not_lt.1 a1,Int.not_lt.1 b1⟩,Int.not_lt.1 a2,b2⟩)))))
 by_cases a3:ur<0
 ·exact .inr (.inr (.inr (.inr (.inr (.inr (.inl ⟨⟨Int.not_lt.1 a0,Int.not_lt.1 b0⟩,⟨Int.not_lt.1 a1,Int.not_lt.1 b1⟩,⟨Int.not_lt.1 a2,Int.not_lt.1 b2⟩,a3⟩))))))
 by_cases b3:65535<ur
 ·exact .inr (.inr (.inr (.inr (.inr (.inr (.inr (.inl ⟨⟨Int.not_lt.1 a0,Int.not_lt.1 b0⟩,⟨Int.not_lt.1 a1,Int.not_lt.1 b1⟩,⟨Int.not_lt.1 a2,Int.not_lt.1 b2⟩,Int.not_lt.1 a3,b3⟩)))))))
 by_cases a4:fl<0
 ·exact .inr (.inr (.inr (.inr (.inr (.inr (.inr (.inr (.inl ⟨⟨Int.not_lt.1 a0,Int.not_lt.1 b0⟩,⟨Int.not_lt.1 a1,Int.not_lt.1 b1⟩,⟨Int.not_lt.1 a2,Int.not_lt.1 b2⟩,⟨Int.not_lt.1 a3,Int.not_lt.1 b3⟩,a4⟩))))))))
 by_cases b4:255<fl
 ·exact .inr (.inr (.inr (.inr (.inr (.inr (.inr (.inr (.inr (.inl ⟨⟨Int.not_lt.1 a0,Int.not_lt.1 b0⟩,⟨Int.not_lt.1 a1,Int.not_lt.1 b1⟩,⟨Int.not_lt.1 a2,Int.not_lt.1 b2⟩,⟨Int.not_lt.1 a3,Int.not_lt.1 b3⟩,Int.not_lt.1 a4,b4⟩)))))))))
 by_cases c0:40<no
 ·exact .inr (.inr (.inr (.inr (.inr (.inr (.inr (.inr (.inr (.inr (.inl ⟨⟨Int.not_lt.1 a0,Int.not_lt.1 b0⟩,⟨Int.not_lt.1 a1,Int.not_lt.1 b1⟩,⟨Int.not_lt.1 a2,Int.not_lt.1 b2⟩,⟨Int.not_lt.1 a3,Int.not_lt.1 b3⟩,⟨Int.not_lt.1 a4,Int.not_lt.1 b4⟩,c0⟩))))))))))
 exact .inr (.inr (.inr (.inr (.inr (.inr (.inr (.inr (.inr (.inr (.inr (⟨⟨Int.not_lt.1 a0,Int.not_lt.1 b0⟩,⟨Int.not_lt.1 a1,Int.not_lt.1 b1⟩,⟨Int.not_lt.1 a2,Int.not_lt.1 b2⟩,⟨Int.not_lt.1 a3,Int.not_lt.1 b3⟩,⟨Int.not_lt.1 a4,Int.not_lt.1 b4⟩,Nat.not_lt.1 c0,fun e=>H.out ⟨⟨Int.not_lt.1 a0,Int.not_lt.1 b0⟩,⟨Int.not_lt.1 a1,Int.not_lt.1 b1⟩,⟨Int.not_lt.1 a2,Int.not_lt.1 b2⟩,⟨Int.not_lt.1 a3,Int.not_lt.1 b3⟩,⟨Int.not_lt.1 a4,Int.not_lt.1 b4⟩,Nat.not_lt.1 c0,e⟩⟩)))))))))))
theorem right_no0 (sp dp sq ak fl wn ur:Int) (AO:Option Addr) (no co:Nat) (w:World) (h:sp<0) :
  Calls Try.prog 60 #[.agg #[.int .i64 sp,.int .i64 dp,.int .u32 sq,.int .u32 ak,.int .i64 fl,.int .i64 wn,.int .i64 ur,.slice AO no co]] w fun e w'=>e=.returned (.bool false)∧Below w.heap.size w w':=by
 have i0:∀ w,(Instr.index 125 (.agg #[.int .i64 sp,.int .i64 65535,.int .i64 dp,.int .i64 65535,.int .i64 wn,.int .i64 65535,.int .i64 ur,.int .i64 65535,.int .i64 fl,.int .i64 255]) (.int .i64 0)).run Try.prog w=.ok (.agg #[.int .i64 sp,.int .i64 65535]) w:=fun _=>by kernel_rfl
 have q0:decide (sp<0)=true:=decide_eq_true (by omega)
 clear h
 have HBX:=Lib.hid ((Below.refl w.heap.size w).alloc (Nat.le_refl _) (.cells #[.int .i64 sp,.int .i64 dp,.int .u32 sq,.int .u32 ak,.int .i64 fl,.int .i64 wn,.int .i64 ur,.slice AO no co] 72))
 have BOX:=Lib.hid (Blk.new w 72 #[.int .i64 sp,.int .i64 dp,.int .u32 sq,.int .u32 ak,.int .i64 fl,.int .i64 wn,.int .i64 ur,.slice AO no co])
 have HZ:=Lib.hid (show (w.alloc (.cells #[.int .i64 sp,.int .i64 dp,.int .u32 sq,.int .u32 ak,.int .i64 fl,.int .i64 wn,.int .i64 ur,.slice AO no co] 72)).heap.size=w.heap.size+1 by simp)
 go_enter Try.func60,Try.ntmps60
 go_wp2_with fail
 go_loopw [21,4] (fun i _ wr=>∃ j:Nat,j≤0∧i=.int .i64 j∧Below (w.heap.size+1) (w.alloc (.cells #[.int .i64 sp,.int .i64 dp,.int .u32 sq,.int .u32 ak,.int .i64 fl,.int .i64 wn,.int .i64 ur,.slice AO no co] 72)) wr) (fun i _ _=>5 - (intOf i).toNat)
 case atStart=>exact ⟨0,by omega,rfl,Below.refl _ _⟩
 case round =>
  obtain ⟨j,hj,rfl,hbel⟩:=hrel
  have HB:=Lib.hid hbel
  have o7:wr.cell? ⟨w.heap.size,7,none⟩=some (.slice AO no co):=(hbel.cell (p:=⟨w.heap.size,7,none⟩) (Nat.lt_succ_self _)).trans (BOX.out.cell 7)
  have HS:=Lib.hid (show w.heap.size+1≤wr.heap.size from Nat.le_trans (Nat.le_of_eq HZ.out.symm) hbel.size)
  clear hbel
  have hcase:j=0:=by omega
  rcases hcase with rfl
  ·go_wp2_with fail
   go_ret
   exact ⟨rfl,HBX.out.trans ((HB.out.alloc HS.out _:Below (w.heap.size+1) _ _).mono (Nat.le_succ _))⟩
theorem right_no1 (sp dp sq ak fl wn ur:Int) (AO:Option Addr) (no co:Nat) (w:World) (h:0≤sp∧65535<sp) :
  Calls Try.prog 60 #[.agg #[.int .i64 sp,.int .i64 dp,.int .u32 sq,.int .u32 ak,.int .i64 fl,.int .i64 wn,.int .i64 ur,.slice AO no co]] w fun e w'=>e=.returned (.bool false)∧Below w.heap.size w w':=by
 have i0:∀ w,(Instr.index 125 (.agg #[.int .i64 sp,.int .i64 65535,.int .i64 dp,.int .i64 65535,.int .i64 wn,.int .i64 65535,.int .i64 ur,.int .i64 65535,.int .i64 fl,.int .i64 255]) (.int .i64 0)).run Try.prog w=.ok (.agg #[.int .i64 sp,.int .i64 65535]) w:=fun _=>by kernel_rfl
 have q0:decide (sp<0)=false:=decide_eq_false (by omega)
 have p0:decide (65535<sp)=true:=decide_eq_true (by omega)
 clear h
 have HBX:=Lib.hid ((Below.refl w.heap.size w).alloc (Nat.le_refl _) (.cells #[.int .i64 sp,.int .i64 dp,.int .u32 sq,.int .u32 ak,.int .i64 fl,.int .i64 wn,.int .i64 ur,.slice AO no co] 72))
 have BOX:=Lib.hid (Blk.new w 72 #[.int .i64 sp,.int .i64 dp,.int .u32 sq,.int .u32 ak,.int .i64 fl,.int .i64 wn,.int .i64 ur,.slice AO no co])
 have HZ:=Lib.hid (show (w.alloc (.cells #[.int .i64 sp,.int .i64 dp,.int .u32 sq,.int .u32 ak,.int .i64 fl,.int .i64 wn,.int .i64 ur,.slice AO no co] 72)).heap.size=w.heap.size+1 by simp)
 go_enter Try.func60,Try.ntmps60
 go_wp2_with fail
 go_loopw [21,4] (fun i _ wr=>∃ j:Nat,j≤0∧i=.int .i64 j∧Below (w.heap.size+1) (w.alloc (.cells #[.int .i64 sp,.int .i64 dp,.int .u32 sq,.int .u32 ak,.int .i64 fl,.int .i64 wn,.int .i64 ur,.slice AO no co] 72)) wr) (fun i _ _=>5 - (intOf i).toNat)
 case atStart=>exact ⟨0,by omega,rfl,Below.refl _ _⟩
 case round =>
  obtain ⟨j,hj,rfl,hbel⟩:=hrel
  have HB:=Lib.hid hbel
  have o7:wr.cell? ⟨w.heap.size,7,none⟩=some (.slice AO no co):=(hbel.cell (p:=⟨w.heap.size,7,none⟩) (Nat.lt_succ_self _)).trans (BOX.out.cell 7)
  have HS:=Lib.hid (show w.heap.size+1≤wr.heap.size from Nat.le_trans (Nat.le_of_eq HZ.out.symm) hbel.size)
  clear hbel
  have hcase:j=0:=by omega
  rcases hcase with rfl
  ·go_wp2_with fail
   go_ret
   exact ⟨rfl,HBX.out.trans ((HB.out.alloc HS.out _:Below (w.heap.size+1) _ _).mono (Nat.le_succ _))⟩
theorem right_no2 (sp dp sq ak fl wn ur:Int) (AO:Option Addr) (no co:Nat) (w:World) (h:(0≤sp∧sp≤65535)∧dp<0) :
  Calls Try.prog 60 #[.agg #[.int .i64 sp,.int .i64 dp,.int .u32 sq,.int .u32 ak,.int .i64 fl,.int .i64 wn,.int .i64 ur,.slice AO no co]] w fun e w'=>e=.returned (.bool false)∧Below w.heap.size w w':=by
 have i0:∀ w,(Instr.index 125 (.agg #[.int .i64 sp,.int .i64 65535,.int .i64 dp,.int .i64 65535,.int .i64 wn,.int .i64 65535,.int .i64 ur,.int .i64 65535,.int .i64 fl,.int .i64 255]) (.int .i64 0)).run Try.prog w=.ok (.agg #[.int .i64 sp,.int .i64 65535]) w:=fun _=>by kernel_rfl
 have i1:∀ w,(Instr.index 125 (.agg #[.int .i64 sp,.int .i64 65535,.int .i64 dp,.int .i64 65535,.int .i64 wn,.int .i64 65535,.int .i64 ur,.int .i64 65535,.int .i64 fl,.int .i64 255]) (.int .i64 1)).run Try.prog w=.ok (.agg #[.int .i64 dp,.int .i64 65535]) w:=fun _=>by kernel_rfl
 have q0:decide (sp<0)=false:=decide_eq_false (by omega)
 have p0:decide (65535<sp)=false:=decide_eq_false (by omega)
 have q1:decide (dp<0)=true:=decide_eq_true (by omega)
 clear h
 have HBX:=Lib.hid ((Below.refl w.heap.size w).alloc (Nat.le_refl _) (.cells #[.int .i64 sp,.int .i64 dp,.int .u32 sq,.int .u32 ak,.int .i64 fl,.int .i64 wn,.int .i64 ur,.slice AO no co] 72))
 have BOX:=Lib.hid (Blk.new w 72 #[.int .i64 sp,.int .i64 dp,.int .u32 sq,.int .u32 ak,.int .i64 fl,.int .i64 wn,.int .i64 ur,.slice AO no co])
 have HZ:=Lib.hid (show (w.alloc (.cells #[.int .i64 sp,.int .i64 dp,.int .u32 sq,.int .u32 ak,.int .i64 fl,.int .i64 wn,.int .i64 ur,.slice AO no co] 72)).heap.size=w.heap.size+1 by simp)
 go_enter Try.func60,Try.ntmps60
 go_wp2_with fail
 go_loopw [21,4] (fun i _ wr=>∃ j:Nat,j≤1∧i=.int .i64 j∧Below (w.heap.size+1) (w.alloc (.cells #[.int .i64 sp,.int .i64 dp,.int .u32 sq,.int .u32 ak,.int .i64 fl,.int .i64 wn,.int .i64 ur,.slice AO no co] 72)) wr) (fun i _ _=>5 - (intOf i).toNat)
 case atStart=>exact ⟨0,by omega,rfl,Below.refl _ _⟩
 case round =>
  obtain ⟨j,hj,rfl,hbel⟩:=hrel
  have HB:=Lib.hid hbel
  have o7:wr.cell? ⟨w.heap.size,7,none⟩=some (.slice AO no co):=(hbel.cell (p:=⟨w.heap.size,7,none⟩) (Nat.lt_succ_self _)).trans (BOX.out.cell 7)
  have HS:=Lib.hid (show w.heap.size+1≤wr.heap.size from Nat.le_trans (Nat.le_of_eq HZ.out.symm) hbel.size)
  clear hbel
  have hcase:j=0∨j=1:=by omega
  rcases hcase with rfl | rfl
  ·go_wp2_with fail
   go_roundw
   case rel=>exact ⟨1,by omega,by go_num,HB.out.alloc HS.out _⟩
   case measure=>simp [intOf]
  ·go_wp2_with fail
   go_ret
   exact ⟨rfl,HBX.out.trans ((HB.out.alloc HS.out _:Below (w.heap.size+1) _ _).mono (Nat.le_succ _))⟩
theorem right_no3 (sp dp sq ak fl wn ur:Int) (AO:Option Addr) (no co:Nat) (w:World) (h:(0≤sp∧sp≤65535)∧0≤dp∧65535<dp) :
  Calls Try.prog 60 #[.agg #[.int .i64 sp,.int .i64 dp,.int .u32 sq,.int .u32 ak,.int .i64 fl,.int .i64 wn,.int .i64 ur,.slice AO no co]] w fun e w'=>e=.returned (.bool false)∧Below w.heap.size w w':=by
 have i0:∀ w,(Instr.index 125 (.agg #[.int .i64 sp,.int .i64 65535,.int .i64 dp,.int .i64 65535,.int .i64 wn,.int .i64 65535,.int .i64 ur,.int .i64 65535,.int .i64 fl,.int .i64 255]) (.int .i64 0)).run Try.prog w=.ok (.agg #[.int .i64 sp,.int .i64 65535]) w:=fun _=>by kernel_rfl
 have i1:∀ w,(Instr.index 125 (.agg #[.int .i64 sp,.int .i64 65535,.int .i64 dp,.int .i64 65535,.int .i64 wn,.int .i64 65535,.int .i64 ur,.int .i64 65535,.int .i64 fl,.int .i64 255]) (.int .i64 1)).run Try.prog w=.ok (.agg #[.int .i64 dp,.int .i64 65535]) w:=fun _=>by kernel_rfl
 have q0:decide (sp<0)=false:=decide_eq_false (by omega)
 have p0:decide (65535<sp)=false:=decide_eq_false (by omega)
 have q1:decide (dp<0)=false:=decide_eq_false (by omega)
 have p1:decide (65535<dp)=true:=decide_eq_true (by omega)
 clear h
 have HBX:=Lib.hid ((Below.refl w.heap.size w).alloc (Nat.le_refl _) (.cells #[.int .i64 sp,.int .i64 dp,.int .u32 sq,.int .u32 ak,.int .i64 fl,.int .i64 wn,.int .i64 ur,.slice AO no co] 72))
 have BOX:=Lib.hid (Blk.new w 72 #[.int .i64 sp,.int .i64 dp,.int .u32 sq,.int .u32 ak,.int .i64 fl,.int .i64 wn,.int .i64 ur,.slice AO no co])
 have HZ:=Lib.hid (show (w.alloc (.cells #[.int .i64 sp,.int .i64 dp,.int .u32 sq,.int .u32 ak,.int .i64 fl,.int .i64 wn,.int .i64 ur,.slice AO no co] 72)).heap.size=w.heap.size+1 by simp)
 go_enter Try.func60,Try.ntmps60
 go_wp2_with fail
 go_loopw [21,4] (fun i _ wr=>∃ j:Nat,j≤1∧i=.int .i64 j∧Below (w.heap.size+1) (w.alloc (.cells #[.int .i64 sp,.int .i64 dp,.int .u32 sq,.int .u32 ak,.int .i64 fl,.int .i64 wn,.int .i64 ur,.slice AO no co] 72)) wr) (fun i _ _=>5 - (intOf i).toNat)
 case atStart=>exact ⟨0,by omega,rfl,Below.refl _ _⟩
 case round =>
  obtain ⟨j,hj,rfl,hbel⟩:=hrel
  have HB:=Lib.hid hbel
  have o7:wr.cell? ⟨w.heap.size,7,none⟩=some (.slice AO no co):=(hbel.cell (p:=⟨w.heap.size,7,none⟩) (Nat.lt_succ_self _)).trans (BOX.out.cell 7)
  have HS:=Lib.hid (show w.heap.size+1≤wr.heap.size from Nat.le_trans (Nat.le_of_eq HZ.out.symm) hbel.size)
  clear hbel
  have hcase:j=0∨j=1:=by omega
  rcases hcase with rfl | rfl
  ·go_wp2_with fail
   go_roundw
   case rel=>exact ⟨1,by omega,by go_num,HB.out.alloc HS.out _⟩
   case measure=>simp [intOf]
  ·go_wp2_with fail
   go_ret
   exact ⟨rfl,HBX.out.trans ((HB.out.alloc HS.out _:Below (w.heap.size+1) _ _).mono (Nat.le_succ _))⟩
theorem right_no8 (sp dp sq ak fl wn ur:Int) (AO:Option Addr) (no co:Nat) (w:World) (h:(0≤sp∧sp≤65535)∧(0≤dp∧dp≤65535)∧(0≤wn∧wn≤65535)∧(0≤ur∧ur≤65535)∧fl<0) :
  Calls Try.prog 60 #[.agg #[.int .i64 sp,.int .i64 dp,.int .u32 sq,.int .u32 ak,.int .i64 fl,.int .i64 wn,.int .i64 ur,.slice AO no co]] w fun e w'=>e=.returned (.bool false)∧Below w.heap.size w w':=by
 have i0:∀ w,(Instr.index 125 (.agg #[.int .i64 sp,.int .i64 65535,.int .i64 dp,.int .i64 65535,.int .i64 wn,.int .i64 65535,.int .i64 ur,.int .i64 65535,.int .i64 fl,.int .i64 255]) (.int .i64 0)).run Try.prog w=.ok (.agg #[.int .i64 sp,.int .i64 65535]) w:=fun _=>by kernel_rfl
 have i1:∀ w,(Instr.index 125 (.agg #[.int .i64 sp,.int .i64 65535,.int .i64 dp,.int .i64 65535,.int .i64 wn,.int .i64 65535,.int .i64 ur,.int .i64 65535,.int .i64 fl,.int .i64 255]) (.int .i64 1)).run Try.prog w=.ok (.agg #[.int .i64 dp,.int .i64 65535]) w:=fun _=>by kernel_rfl
 have i2:∀ w,(Instr.index 125 (.agg #[.int .i64 sp,.int .i64 65535,.int .i64 dp,.int .i64 65535,.int .i64 wn,.int .i64 65535,.int .i64 ur,.int .i64 65535,.int .i64 fl,.int .i64 255]) (.int .i64 2)).run Try.prog w=.ok (.agg #[.int .i64 wn,.int .i64 65535]) w:=fun _=>by kernel_rfl
 have i3:∀ w,(Instr.index 125 (.agg #[.int .i64 sp,.int .i64 65535,.int .i64 dp,.int .i64 65535,.int .i64 wn,.int .i64 65535,.int .i64 ur,.int .i64 65535,.int .i64 fl,.int .i64 255]) (.int .i64 3)).run Try.prog w=.ok (.agg #[.int .i64 ur,.int .i64 65535]) w:=fun _=>by kernel_rfl
 have i4:∀ w,(Instr.index 125 (.agg #[.int .i64 sp,.int .i64 65535,.int .i64 dp,.int .i64 65535,.int .i64 wn,.int .i64 65535,.int .i64 ur,.int .i64 65535,.int .i64 fl,.int .i64 255]) (.int .i64 4)).run Try.prog w=.ok (.agg #[.int .i64 fl,.int .i64 255]) w:=fun _=>by kernel_rfl
 have q0:decide (sp<0)=false:=decide_eq_false (by omega)
 have p0:decide (65535<sp)=false:=decide_eq_false (by omega)
 have q1:decide (dp<0)=false:=decide_eq_false (by omega)
 have p1:decide (65535<dp)=false:=decide_eq_false (by omega)
 have q2:decide (wn<0)=false:=decide_eq_false (by omega)
 have p2:decide (65535<wn)=false:=decide_eq_false (by omega)
 have q3:decide (ur<0)=false:=decide_eq_false (by omega)
 have p3:decide (65535<ur)=false:=decide_eq_false (by omega)
 have q4:decide (fl<0)=true:=decide_eq_true (by omega)
 clear h
 have HBX:=Lib.hid ((Below.refl w.heap.size w).alloc (Nat.le_refl _) (.cells #[.int .i64 sp,.int .i64 dp,.int .u32 sq,.int .u32 ak,.int .i64 fl,.int .i64 wn,.int .i64 ur,.slice AO no co] 72))
 have BOX:=Lib.hid (Blk.new w 72 #[.int .i64 sp,.int .i64 dp,.int .u32 sq,.int .u32 ak,.int .i64 fl,.int .i64 wn,.int .i64 ur,.slice AO no co])
 have HZ:=Lib.hid (show (w.alloc (.cells #[.int .i64 sp,.int .i64 dp,.int .u32 sq,.int .u32 ak,.int .i64 fl,.int .i64 wn,.int .i64 ur,.slice AO no co] 72)).heap.size=w.heap.size+1 by simp)
 go_enter Try.func60,Try.ntmps60
 go_wp2_with fail
 go_loopw [21,4] (fun i _ wr=>∃ j:Nat,j≤4∧i=.int .i64 j∧Below (w.heap.size+1) (w.alloc (.cells #[.int .i64 sp,.int .i64 dp,.int .u32 sq,.int .u32 ak,.int .i64 fl,.int .i64 wn,.int .i64 ur,.slice AO no co] 72)) wr) (fun i _ _=>5 - (intOf i).toNat)
 case atStart=>exact ⟨0,by omega,rfl,Below.refl _ _⟩
 case round =>
  obtain ⟨j,hj,rfl,hbel⟩:=hrel
  have HB:=Lib.hid hbel
  have o7:wr.cell? ⟨w.heap.size,7,none⟩=some (.slice AO no co):=(hbel.cell (p:=⟨w.heap.size,7,none⟩) (Nat.lt_succ_self _)).trans (BOX.out.cell 7)
  have HS:=Lib.hid (show w.heap.size+1≤wr.heap.size from Nat.le_trans (Nat.le_of_eq HZ.out.symm) hbel.size)
  clear hbel
  have hcase:j=0∨j=1∨j=2∨j=3∨j=4:=by omega
  rcases hcase with rfl | rfl | rfl | rfl | rfl
  ·go_wp2_with fail
   go_roundw
   case rel=>exact ⟨1,by omega,by go_num,HB.out.alloc HS.out _⟩
   case measure=>simp [intOf]
  ·go_wp2_with fail
   go_roundw
   case rel=>exact ⟨2,by omega,by go_num,HB.out.alloc HS.out _⟩
   case measure=>simp [intOf]
  ·go_wp2_with fail
   go_roundw
   case rel=>exact ⟨3,by omega,by go_num,HB.out.alloc HS.out _⟩
   case measure=>simp [intOf]
  ·go_wp2_with fail
   go_roundw
   case rel=>exact ⟨4,by omega,by go_num,HB.out.alloc HS.out _⟩
   case measure=>simp [intOf]
  ·go_wp2_with fail
   go_ret
   exact ⟨rfl,HBX.out.trans ((HB.out.alloc HS.out _:Below (w.heap.size+1) _ _).mono (Nat.le_succ _))⟩
theorem right_no9 (sp dp sq ak fl wn ur:Int) (AO:Option Addr) (no co:Nat) (w:World) (h:(0≤sp∧sp≤65535)∧(0≤dp∧dp≤65535)∧(0≤wn∧wn≤65535)∧(0≤ur∧ur≤65535)∧0≤fl∧255<fl) :
  Calls Try.prog 60 #[.agg #[.int .i64 sp,.int .i64 dp,.int .u32 sq,.int .u32 ak,.int .i64 fl,.int .i64 wn,.int .i64 ur,.slice AO no co]] w fun e w'=>e=.returned (.bool false)∧Below w.heap.size w w':=by
 have i0:∀ w,(Instr.index 125 (.agg #[.int .i64 sp,.int .i64 65535,.int .i64 dp,.int .i64 65535,.int .i64 wn,.int .i64 65535,.int .i64 ur,.int .i64 65535,.int .i64 fl,.int .i64 255]) (.int .i64 0)).run Try.prog w=.ok (.agg #[.int .i64 sp,.int .i64 65535]) w:=fun _=>by kernel_rfl
 have i1:∀ w,(Instr.index 125 (.agg #[.int .i64 sp,.int .i64 65535,.int .i64 dp,.int .i64 65535,.int .i64 wn,.int .i64 65535,.int .i64 ur,.int .i64 65535,.int .i64 fl,.int .i64 255]) (.int .i64 1)).run Try.prog w=.ok (.agg #[.int .i64 dp,.int .i64 65535]) w:=fun _=>by kernel_rfl
 have i2:∀ w,(Instr.index 125 (.agg #[.int .i64 sp,.int .i64 65535,.int .i64 dp,.int .i64 65535,.int .i64 wn,.int .i64 65535,.int .i64 ur,.int .i64 65535,.int .i64 fl,.int .i64 255]) (.int .i64 2)).run Try.prog w=.ok (.agg #[.int .i64 wn,.int .i64 65535]) w:=fun _=>by kernel_rfl
 have i3:∀ w,(Instr.index 125 (.agg #[.int .i64 sp,.int .i64 65535,.int .i64 dp,.int .i64 65535,.int .i64 wn,.int .i64 65535,.int .i64 ur,.int .i64 65535,.int .i64 fl,.int .i64 255]) (.int .i64 3)).run Try.prog w=.ok (.agg #[.int .i64 ur,.int .i64 65535]) w:=fun _=>by kernel_rfl
 have i4:∀ w,(Instr.index 125 (.agg #[.int .i64 sp,.int .i64 65535,.int .i64 dp,.int .i64 65535,.int .i64 wn,.int .i64 65535,.int .i64 ur,.int .i64 65535,.int .i64 fl,.int .i64 255]) (.int .i64 4)).run Try.prog w=.ok (.agg #[.int .i64 fl,.int .i64 255]) w:=fun _=>by kernel_rfl
 have q0:decide (sp<0)=false:=decide_eq_false (by omega)
 have p0:decide (65535<sp)=false:=decide_eq_false (by omega)
 have q1:decide (dp<0)=false:=decide_eq_false (by omega)
 have p1:decide (65535<dp)=false:=decide_eq_false (by omega)
 have q2:decide (wn<0)=false:=decide_eq_false (by omega)
 have p2:decide (65535<wn)=false:=decide_eq_false (by omega)
 have q3:decide (ur<0)=false:=decide_eq_false (by omega)
 have p3:decide (65535<ur)=false:=decide_eq_false (by omega)
 have q4:decide (fl<0)=false:=decide_eq_false (by omega)
 have p4:decide (255<fl)=true:=decide_eq_true (by omega)
 clear h
 have HBX:=Lib.hid ((Below.refl w.heap.size w).alloc (Nat.le_refl _) (.cells #[.int .i64 sp,.int .i64 dp,.int .u32 sq,.int .u32 ak,.int .i64 fl,.int .i64 wn,.int .i64 ur,.slice AO no co] 72))
 have BOX:=Lib.hid (Blk.new w 72 #[.int .i64 sp,.int .i64 dp,.int .u32 sq,.int .u32 ak,.int .i64 fl,.int .i64 wn,.int .i64 ur,.slice AO no co])
 have HZ:=Lib.hid (show (w.alloc (.cells #[.int .i64 sp,.int .i64 dp,.int .u32 sq,.int .u32 ak,.int .i64 fl,.int .i64 wn,.int .i64 ur,.slice AO no co] 72)).heap.size=w.heap.size+1 by simp)
 go_enter Try.func60,Try.ntmps60
 go_wp2_with fail
 go_loopw [21,4] (fun i _ wr=>∃ j:Nat,j≤4∧i=.int .i64 j∧Below (w.heap.size+1) (w.alloc (.cells #[.int .i64 sp,.int .i64 dp,.int .u32 sq,.int .u32 ak,.int .i64 fl,.int .i64 wn,.int .i64 ur,.slice AO no co] 72)) wr) (fun i _ _=>5 - (intOf i).toNat)
 case atStart=>exact ⟨0,by omega,rfl,Below.refl _ _⟩
 case round =>
  obtain ⟨j,hj,rfl,hbel⟩:=hrel
  have HB:=Lib.hid hbel
  have o7:wr.cell? ⟨w.heap.size,7,none⟩=some (.slice AO no co):=(hbel.cell (p:=⟨w.heap.size,7,none⟩) (Nat.lt_succ_self _)).trans (BOX.out.cell 7)
  have HS:=Lib.hid (show w.heap.size+1≤wr.heap.size from Nat.le_trans (Nat.le_of_eq HZ.out.symm) hbel.size)
  clear hbel
  have hcase:j=0∨j=1∨j=2∨j=3∨j=4:=by omega
  rcases hcase with rfl | rfl | rfl | rfl | rfl
  ·go_wp2_with fail
   go_roundw
   case rel=>exact ⟨1,by omega,by go_num,HB.out.alloc HS.out _⟩
   case measure=>simp [intOf]
  ·go_wp2_with fail
   go_roundw
   case rel=>exact ⟨2,by omega,by go_num,HB.out.alloc HS.out _⟩
   case measure=>simp [intOf]
  ·go_wp2_with fail
   go_roundw
   case rel=>exact ⟨3,by omega,by go_num,HB.out.alloc HS.out _⟩
   case measure=>simp [intOf]
  ·go_wp2_with fail
   go_roundw
   case rel=>exact ⟨4,by omega,by go_num,HB.out.alloc HS.out _⟩
   case measure=>simp [intOf]
  ·go_wp2_with fail
   go_ret
   exact ⟨rfl,HBX.out.trans ((HB.out.alloc HS.out _:Below (w.heap.size+1) _ _).mono (Nat.le_succ _))⟩
theorem right_no (sp dp fl:Int) (w:World) (h:¬ okH sp dp 1024 0 fl 0) :
  Calls Try.prog 60 #[.agg #[.int .i64 sp,.int .i64 dp,.int .u32 0,.int .u32 0,.int .i64 fl,.int .i64 1024,.int .i64 0,.slice none 0 0]] w fun e w'=>e=.returned (.bool false)∧Below w.heap.size w w':=by
 rcases not_ok sp dp 1024 0 fl 0 h with h | h | h | h | h | h | h | h | h | h | h | h
 ·exact right_no0 sp dp 0 0 fl 1024 0 none 0 0 w h
 ·exact right_no1 sp dp 0 0 fl 1024 0 none 0 0 w h
 ·exact right_no2 sp dp 0 0 fl 1024 0 none 0 0 w h
 ·exact right_no3 sp dp 0 0 fl 1024 0 none 0 0 w h
 ·omega
 ·omega
 ·omega
 ·omega
 ·exact right_no8 sp dp 0 0 fl 1024 0 none 0 0 w h
 ·exact right_no9 sp dp 0 0 fl 1024 0 none 0 0 w h
 ·omega
 ·omega
end Go.Proofs.Ytnofddbfogilaaa.tcpKn
/- Layer 10: the law and the code on headers that may not be. -/
namespace Go.Proofs.Ytnofddbfogilaaa.tcpMn
open Go.ChangeShapes Go.WideShapes Go.ChangeAt Go.RowKit
open base rdrA tcpKn
set_option linter.unusedVariables false
theorem bytes_wrong (sp dp fl:Int) (A A2:Option Addr) (n c n2 c2:Nat) (w:World) (h:¬ okH sp dp 1024 0 fl 0) :
  Calls Try.prog 43 #[.agg #[.int .i64 sp,.int .i64 dp,.int .u32 0,.int .u32 0,.int .i64 fl,.int .i64 1024,.int .i64 0,.slice none 0 0],.slice A n c,.slice A2 n2 c2] w fun e w'=>e=.returned (.tuple #[.slice none 0 0,.int .i64 1])∧Below w.heap.size w w':=by
 have HB0:=Lib.hid (show Below w.heap.size w (w.alloc (.cells #[.int .i64 sp,.int .i64 dp,.int .u32 0,.int .u32 0,.int .i64 fl,.int .i64 1024,.int .i64 0,.slice none 0 0] 72)) from (Below.refl _ _).alloc (Nat.le_refl _) _)
 have H:=Lib.hid (fun w=>right_no sp dp fl w h)
 clear h
 go_enter Try.func43,Try.ntmps43
 go_wp2_with fail
 refine (H.out _).mono ?_
 rintro e w' ⟨rfl,hb⟩
 have HB:=Lib.hid (bel_call HB0.out hb)
 go_wp2_with fail
 go_ret2
 exact ⟨rfl,HB.out⟩
end Go.Proofs.Ytnofddbfogilaaa.tcpMn
/- Layer 13: Datagram and Segment of any flow. -/
namespace Go.Proofs.Ytnofddbfogilaaa.pktS
set_option maxHeartbeats 4000000
open Go.ChangeShapes Go.WideShapes Go.ChangeAt Go.RowKit
open base rdrA rdrG sumA sumB sixW sixM pktA pktB pktG pktL
set_option linter.unusedVariables false
def tcpM (sp dp fl:Int) (pl ps:List Int):Int × List Int:=if (0≤sp∧sp≤65535∧0≤dp∧dp≤65535)∧(0≤fl∧fl≤255) then (0,tcpLn.tk sp dp 0 0 fl 1024 0 (65535 - fo (wsum (ps++tcpLn.tk sp dp 0 0 fl 1024 0 0 [] pl))) [] pl) else (1,[])
theorem tcp_bytes (sp dp fl:Int) (A A2:Option Addr) (n c n2 c2:Nat) (pl ps:List Int) (w:World) (h:Sl w A n c pl) (h2:Sl w A2 n2 c2 ps) (hn:n≤500) (hn2:n2≤1000) :
  Calls Try.prog 43 #[.agg #[.int .i64 sp,.int .i64 dp,.int .u32 0,.int .u32 0,.int .i64 fl,.int .i64 1024,.int .i64 0,.slice none 0 0],.slice A n c,.slice A2 n2 c2] w (MkP (tcpM sp dp fl pl ps).1 (tcpM sp dp fl pl ps).2 w):=by
 unfold tcpM
 by_cases hp:(0≤sp∧sp≤65535∧0≤dp∧dp≤65535)∧(0≤fl∧fl≤255)
 ·rw [if_pos hp]
  obtain ⟨⟨p1,p2,p3,p4⟩,p5,p6⟩:=hp
  refine (tcpNn.bytes_tk sp dp 0 0 fl 1024 0 none 0 0 [] A A2 n c n2 c2 pl ps w p1 p2 p3 p4 p5 p6 (by omega) (by omega) (by omega) (by omega) (by omega) rfl (by omega) (by omega) (by omega) (by omega) rfl (.inl rfl) (fun _=>rfl) (fun x hx=>by cases hx) h.len hn h.row h.nil h.u8 h2.len hn2 h2.row h2.u8).mono ?_
  rintro o w' ⟨v,rfl,h3,h4⟩
  obtain ⟨B,d,rfl⟩:=own_slice h3
  have hin:∀ x ∈ ps++tcpLn.tk sp dp 0 0 fl 1024 0 0 [] pl,0≤x∧x≤255:=fun x hx=>(List.mem_append.1 hx).elim (h2.u8 x) (tcpNn.tk_in sp dp 0 0 fl 1024 0 0 [] pl p1 p2 p3 p4 (by omega) (by omega) (by omega) (by omega) p5 p6 (by omega) (by omega) (by omega) (by omega) (by omega) (by omega) (by simp) (fun x hx=>by cases hx) h.u8 x)
  have fb:=fo_bd _ (wsum_bd _ hin).1
  refine ⟨h4,B,_,d,rfl,Sl.own h3 ?_ (tcpNn.tk_in sp dp 0 0 fl 1024 0 _ [] pl p1 p2 p3 p4 (by omega) (by omega) (by omega) (by omega) p5 p6 (by omega) (by omega) (by omega) (by omega) (by omega) (by omega) (by simp) (fun x hx=>by cases hx) h.u8)⟩
  rw [(tcpLn.tk_says sp dp 0 0 fl 1024 0 _ [] pl rfl).1,h.len]
  rfl
 ·rw [if_neg hp]
  refine (tcpMn.bytes_wrong sp dp fl A A2 n c n2 c2 w (fun ⟨a,b,_,_,e,_⟩=>hp ⟨⟨a.1,a.2,b.1,b.2⟩,e⟩)).mono ?_
  rintro o w' ⟨rfl,h4⟩
  exact MkP.nil_ h4
theorem sg_closure (pr:Int) (s6:Bool) (sh sl:Int) (d6:Bool) (dh dl sp dp fl:Int) (c1 c2 c3:Nat) (A A2:Option Addr) (n c n2 cc2:Nat) (e:Int) (bs:List Int) (w:World)
  (K1:Blk w c1 39 #[.int .i64 pr,.bool s6,.int .u64 sh,.int .u64 sl,.bool d6,.int .u64 dh,.int .u64 dl,.int .i64 sp,.int .i64 dp]) (K2:Blk w c2 3 #[.int .i64 fl]) (K3:Blk w c3 47 #[.slice A n c])
  (HC:Hid (Calls Try.prog 43 #[.agg #[.int .i64 sp,.int .i64 dp,.int .u32 0,.int .u32 0,.int .i64 fl,.int .i64 1024,.int .i64 0,.slice none 0 0],.slice A n c,.slice A2 n2 cc2] w (MkP e bs w))) :
  Calls Try.prog 42 #[.slice A2 n2 cc2,.pointer (some ⟨c1,0,none⟩),.pointer (some ⟨c2,0,none⟩),.pointer (some ⟨c3,0,none⟩)] w (MkP e bs w):=by
 have p7:=K1.cell 7
 have p8:=K1.cell 8
 have q0:=K2.cell 0
 have r0:=K3.cell 0
 go_enter Try.func42,Try.ntmps42
 go_wp2_with fail
 refine HC.out.mono ?_
 rintro o w4 ⟨hb4,A4,n4,c4,rfl,hs4⟩
 go_wp2_with fail
 go_ret2
 exact ⟨hb4,A4,n4,c4,rfl,hs4⟩
def Made (pr:Int) (s6:Bool) (sh sl:Int) (d6:Bool) (dh dl sp dp ttl fl proto:Int):Prop:=pr=proto∧s6=d6∧(0≤ttl∧ttl≤255)∧(0≤sp∧sp≤65535∧0≤dp∧dp≤65535)∧(0≤fl∧fl≤255)∧(s6=true∨(sh=0∧dh=0∧sl<4294967296∧dl<4294967296))
end Go.Proofs.Ytnofddbfogilaaa.pktS
