/- 8 texts in one. -/
import Derived.Deep.RegionHeld3
import Derived.Test.YtnofddbfogilaaaGq01
import Derived.Test.YtnofddbfogilaaaGq02
import Derived.Test.YtnofddbfogilaaaGq04
import Derived.Test.YtnofddbfogilaaaGq22
import Derived.Test.YtnofddbfogilaaaGq23
import Derived.Test.YtnofddbfogilaaaGq24
/- Layer 13: a datagram that is made. -/
namespace Go.Proofs.Ytnofddbfogilaaa.pktM
set_option maxHeartbeats 4000000
open Go.ChangeShapes Go.WideShapes Go.ChangeAt Go.RowKit
open base rdrA rdrG pktA pktB pktL
set_option linter.unusedVariables false
def udpM (sp dp:Int) (pl ps:List Int):Int × List Int:=if 0≤sp∧sp≤65535∧0≤dp∧dp≤65535 then (0,udpB.ub sp dp pl (udpB.chkZ (ps++udpB.ub sp dp pl 0))) else (1,[])
theorem udp_bytes (sp dp:Int) (A A2:Option Addr) (n c n2 c2:Nat) (pl ps:List Int) (w:World) (h:Sl w A n c pl) (h2:Sl w A2 n2 c2 ps) (hn:n≤1000) (hn2:n2≤1000) :
  Calls Try.prog 41 #[.agg #[.int .i64 sp,.int .i64 dp,.bool false],.slice A n c,.slice A2 n2 c2] w (MkP (udpM sp dp pl ps).1 (udpM sp dp pl ps).2 w):=by
 unfold udpM
 by_cases hp:0≤sp∧sp≤65535∧0≤dp∧dp≤65535
 ·rw [if_pos hp]
  have key:Calls Try.prog 41 #[.agg #[.int .i64 sp,.int .i64 dp,.bool false],.slice A n c,.slice A2 n2 c2] w (udpB.BPost w (8+n) (udpB.ub sp dp pl (udpB.chkZ (ps++udpB.ub sp dp pl 0)))):=by
   by_cases h0:n=0
   ·exact udpC.bytes_eight_sum sp dp A A2 n c n2 c2 pl ps w hp h.len (by omega) h0 h.row h.u8 h2.len hn2 h2.row h2.u8
   ·exact udpC.bytes_far_sum sp dp A A2 n c n2 c2 pl ps w hp h.len (by omega) h0 h.row h.u8 h2.len hn2 h2.row h2.u8
  refine key.mono ?_
  rintro o w' ⟨v,rfl,h3,h4⟩
  obtain ⟨B,d,rfl⟩:=own_slice h3
  exact ⟨h4,B,_,d,rfl,Sl.own h3 (by rw [udpB.ub_len,h.len]) (udpB.ub_in sp dp pl _ h.u8)⟩
 ·rw [if_neg hp]
  refine (udpB.bytes_wrong sp dp false A A2 n c n2 c2 w hp).mono ?_
  rintro o w' ⟨rfl,h4⟩
  exact MkP.nil_ h4
theorem dg_closure (pr:Int) (s6:Bool) (sh sl:Int) (d6:Bool) (dh dl sp dp:Int) (c1 c2:Nat) (A A2:Option Addr) (n c n2 cc2:Nat) (e:Int) (bs:List Int) (w:World)
  (K1:Blk w c1 39 #[.int .i64 pr,.bool s6,.int .u64 sh,.int .u64 sl,.bool d6,.int .u64 dh,.int .u64 dl,.int .i64 sp,.int .i64 dp]) (K2:Blk w c2 47 #[.slice A n c])
  (HC:Hid (Calls Try.prog 41 #[.agg #[.int .i64 sp,.int .i64 dp,.bool false],.slice A n c,.slice A2 n2 cc2] w (MkP e bs w))) :
  Calls Try.prog 40 #[.slice A2 n2 cc2,.pointer (some ⟨c1,0,none⟩),.pointer (some ⟨c2,0,none⟩)] w (MkP e bs w):=by
 have p7:=K1.cell 7
 have p8:=K1.cell 8
 have q0:=K2.cell 0
 go_enter Try.func40,Try.ntmps40
 go_wp2_with fail
 refine HC.out.mono ?_
 rintro o w4 ⟨hb4,A4,n4,c4,rfl,hs4⟩
 go_wp2_with fail
 go_ret2
 exact ⟨hb4,A4,n4,c4,rfl,hs4⟩
end Go.Proofs.Ytnofddbfogilaaa.pktM
/- Layer 8: what bytes that were put say. -/
namespace Go.Proofs.Ytnofddbfogilaaa.fourHn
open Go.ChangeShapes Go.WideShapes Go.ChangeAt Go.RowKit
open base sumA sumB octA rdrA udpA net fourA fourD
set_option linter.unusedVariables false
theorem wsum_hk (tos id fl ttl pr sl dl ck sz:Int) (os:List Int) (c0:0≤ck) (c1:ck≤65535):wsum (hk tos id fl ttl pr sl dl ck sz os)=wsum (hk tos id fl ttl pr sl dl 0 sz os)+ck:=by
 unfold hk
 rw [wsum_app 10 _ os rfl,wsum_app 10 _ os rfl]
 simp only [wsum]
 omega
theorem hk_chk (tos id fl ttl pr sl dl sz:Int) (os:List Int) (hin:∀ x ∈ hk tos id fl ttl pr sl dl 0 sz os,0≤x∧x≤255):fo (wsum (hk tos id fl ttl pr sl dl (65535 - fo (wsum (hk tos id fl ttl pr sl dl 0 sz os))) sz os))=65535:=by
 have s0:=(wsum_bd _ hin).1
 have b:=fo_bd _ s0
 rw [wsum_hk _ _ _ _ _ _ _ _ _ _ (by omega) (by omega)]
 rcases fo_full _ s0 with h | h
 ·exact h
 ·rw [h]; simpa using h
theorem hk_says (tos id fl ttl pr sl dl ck sz:Int) (os t:List Int) (s:Nat) (hs:20+os.length=s) (h4:s % 4=0) (h60:s≤60) (f0:0≤fl) :
  (hk tos id fl ttl pr sl dl ck sz os++t).getD 0 0 / 16=4∧hl (hk tos id fl ttl pr sl dl ck sz os++t)=(s:Int)∧w16 (hk tos id fl ttl pr sl dl ck sz os++t) 6=fl∧w16 (hk tos id fl ttl pr sl dl ck sz os++t) 2=sz ∧
   (hk tos id fl ttl pr sl dl ck sz os++t).take s=hk tos id fl ttl pr sl dl ck sz os∧(hk tos id fl ttl pr sl dl ck sz os++t).drop s=t∧(hk tos id fl ttl pr sl dl ck sz os).drop 20=os:=by
 have hlen:(hk tos id fl ttl pr sl dl ck sz os).length=s:=by rw [hk_len,hs]
 refine ⟨?_,?_,?_,?_,?_,?_,rfl⟩
 ·show (64+(20+(os.length:Int)) / 4) / 16=4
  omega
 ·show (64+(20+(os.length:Int)) / 4) % 16*4=_
  omega
 ·show fl / 256*256+fl % 256=fl
  omega
 ·show sz / 256*256+sz % 256=sz
  omega
 ·rw [List.take_append_of_le_length (by omega),List.take_of_length_le (by omega)]
 ·rw [List.drop_append_of_le_length (by omega),List.drop_of_length_le (by omega),List.nil_append]
end Go.Proofs.Ytnofddbfogilaaa.fourHn
/- Layer 11: what bytes that were put say. -/
namespace Go.Proofs.Ytnofddbfogilaaa.udpJn
open Go.ChangeShapes Go.WideShapes Go.ChangeAt Go.RowKit
open sumA sumB octB rdrA udpA udpB net
set_option linter.unusedVariables false
theorem ub_all (sp dp:Int) (pl:List Int) (ck:Int) (h:ports sp dp) (hn:pl.length≤65527) (c0:0≤ck) (c1:ck≤65535):ub sp dp pl ck=[sp / 256,sp % 256,dp / 256,dp % 256,((8+pl.length:Nat):Int) / 256,((8+pl.length:Nat):Int) % 256,ck / 256,ck % 256]++pl:=by
 obtain ⟨h1,h2,h3,h4⟩:=h
 unfold ub
 simp only [allb,List.flatMap_cons,List.flatMap_nil]
 rw [pb_two sp h1 h2,pb_two dp h3 h4,pb_two _ (by omega) (by omega),pb_two ck c0 c1]
 rfl
theorem ub_says (sp dp:Int) (pl:List Int) (ck:Int) (h:ports sp dp) (hn:pl.length≤65527) (c0:0≤ck) (c1:ck≤65535) :
  w16 (ub sp dp pl ck) 0=sp∧w16 (ub sp dp pl ck) 2=dp∧w16 (ub sp dp pl ck) 4=(ub sp dp pl ck).length∧w16 (ub sp dp pl ck) 6=ck∧(ub sp dp pl ck).drop 8=pl:=by
 rw [ub_len]
 rw [ub_all sp dp pl ck h hn c0 c1]
 refine ⟨?_,?_,?_,?_,rfl⟩
 ·show sp / 256*256+sp % 256=sp; omega
 ·show dp / 256*256+dp % 256=dp; omega
 ·show ((8+pl.length:Nat):Int) / 256*256+((8+pl.length:Nat):Int) % 256=_; omega
 ·show ck / 256*256+ck % 256=ck; omega
theorem wsum_ub (sp dp:Int) (pl:List Int) (ck:Int) (h:ports sp dp) (hn:pl.length≤65527) (c0:0≤ck) (c1:ck≤65535):wsum (ub sp dp pl ck)=wsum (ub sp dp pl 0)+ck:=by
 rw [ub_all sp dp pl ck h hn c0 c1,ub_all sp dp pl 0 h hn (by omega) (by omega)]
 rw [wsum_app 4 _ pl rfl,wsum_app 4 _ pl rfl]
 simp only [wsum]
 omega
theorem fo_full (s:Int) (h:0≤s):fo (s+(if 65535 - fo s=0 then 65535 else 65535 - fo s))=65535:=by
 have a:=fo_bd s h
 have b:=fo_add (x:=s) (t:=if 65535 - fo s=0 then 65535 else 65535 - fo s) h (by split <;> omega)
 rw [← b]
 split
 ·rename_i h0
  rw [show fo s=65535 by omega]
  rfl
 ·rw [show fo s+(65535 - fo s)=65535 by omega]
  rfl
theorem chk_right (sp dp:Int) (pl ps:List Int) (h:ports sp dp) (hn:pl.length≤65527) (hp:∀ x ∈ pl,0≤x∧x≤255) (hq:∀ x ∈ ps,0≤x∧x≤255) (he:ps.length % 2=0) :
  fo (wsum (ps++ub sp dp pl (chkZ (ps++ub sp dp pl 0))))=65535:=by
 have hin:∀ x ∈ ps++ub sp dp pl 0,0≤x∧x≤255:=fun x hx=>(List.mem_append.1 hx).elim (hq x) (ub_in sp dp pl 0 hp x)
 have c:=chkZ_in _ hin
 have e:ps.length=2*(ps.length / 2):=by omega
 rw [wsum_app _ _ _ e,wsum_ub sp dp pl _ h hn c.1 c.2,← Int.add_assoc,← wsum_app _ _ _ e]
 exact fo_full _ (wsum_bd _ hin).1
theorem chk_pos (l:List Int) (hb:∀ x ∈ l,0≤x∧x≤255):chkZ l≠0:=by
 unfold chkZ
 split <;> omega
end Go.Proofs.Ytnofddbfogilaaa.udpJn
/- Layer 10: headers that may be. -/
namespace Go.Proofs.Ytnofddbfogilaaa.tcpIn
set_option maxHeartbeats 1000000
set_option maxRecDepth 100000
open Go.ChangeShapes Go.WideShapes Go.ChangeAt Go.RowKit
open base sumB rdrA net
set_option linter.unusedVariables false
theorem right_yes (sp dp sq ak fl wn ur:Int) (AO:Option Addr) (no co:Nat) (w:World) (h1:0≤sp) (h2:sp≤65535) (h3:0≤dp) (h4:dp≤65535) (h9:0≤fl) (h10:fl≤255) (h11:0≤wn) (h12:wn≤65535) (h13:0≤ur) (h14:ur≤65535) (ho:no≤40) (hm:no % 4=0) :
  Calls Try.prog 60 #[.agg #[.int .i64 sp,.int .i64 dp,.int .u32 sq,.int .u32 ak,.int .i64 fl,.int .i64 wn,.int .i64 ur,.slice AO no co]] w fun e w'=>e=.returned (.bool true)∧Below w.heap.size w w':=by
 have i0:∀ w,(Instr.index 125 (.agg #[.int .i64 sp,.int .i64 65535,.int .i64 dp,.int .i64 65535,.int .i64 wn,.int .i64 65535,.int .i64 ur,.int .i64 65535,.int .i64 fl,.int .i64 255]) (.int .i64 0)).run Try.prog w=.ok (.agg #[.int .i64 sp,.int .i64 65535]) w:=fun _=>by kernel_rfl
 have i1:∀ w,(Instr.index 125 (.agg #[.int .i64 sp,.int .i64 65535,.int .i64 dp,.int .i64 65535,.int .i64 wn,.int .i64 65535,.int .i64 ur,.int .i64 65535,.int .i64 fl,.int .i64 255]) (.int .i64 1)).run Try.prog w=.ok (.agg #[.int .i64 dp,.int .i64 65535]) w:=fun _=>by kernel_rfl
 have i2:∀ w,(Instr.index 125 (.agg #[.int .i64 sp,.int .i64 65535,.int .i64 dp,.int .i64 65535,.int .i64 wn,.int .i64 65535,.int .i64 ur,.int .i64 65535,.int .i64 fl,.int .i64 255]) (.int .i64 2)).run Try.prog w=.ok (.agg #[.int .i64 wn,.int .i64 65535]) w:=fun _=>by kernel_rfl
 have i3:∀ w,(Instr.index 125 (.agg #[.int .i64 sp,.int .i64 65535,.int .i64 dp,.int .i64 65535,.int .i64 wn,.int .i64 65535,.int .i64 ur,.int .i64 65535,.int .i64 fl,.int .i64 255]) (.int .i64 3)).run Try.prog w=.ok (.agg #[.int .i64 ur,.int .i64 65535]) w:=fun _=>by kernel_rfl
 have i4:∀ w,(Instr.index 125 (.agg #[.int .i64 sp,.int .i64 65535,.int .i64 dp,.int .i64 65535,.int .i64 wn,.int .i64 65535,.int .i64 ur,.int .i64 65535,.int .i64 fl,.int .i64 255]) (.int .i64 4)).run Try.prog w=.ok (.agg #[.int .i64 fl,.int .i64 255]) w:=fun _=>by kernel_rfl
 have t0:(((no:Int) % 4) == 0)=true:=eqT (by omega)
 have HBX:=Lib.hid ((Below.refl w.heap.size w).alloc (Nat.le_refl _) (.cells #[.int .i64 sp,.int .i64 dp,.int .u32 sq,.int .u32 ak,.int .i64 fl,.int .i64 wn,.int .i64 ur,.slice AO no co] 72))
 have BOX:=Lib.hid (Blk.new w 72 #[.int .i64 sp,.int .i64 dp,.int .u32 sq,.int .u32 ak,.int .i64 fl,.int .i64 wn,.int .i64 ur,.slice AO no co])
 have HZ:=Lib.hid (show (w.alloc (.cells #[.int .i64 sp,.int .i64 dp,.int .u32 sq,.int .u32 ak,.int .i64 fl,.int .i64 wn,.int .i64 ur,.slice AO no co] 72)).heap.size=w.heap.size+1 by simp)
 go_enter Try.func60,Try.ntmps60
 go_wp2_with fail
 go_loopw [21,4] (fun i _ wr=>∃ j:Nat,j≤5∧i=.int .i64 j∧Below (w.heap.size+1) (w.alloc (.cells #[.int .i64 sp,.int .i64 dp,.int .u32 sq,.int .u32 ak,.int .i64 fl,.int .i64 wn,.int .i64 ur,.slice AO no co] 72)) wr) (fun i _ _=>5 - (intOf i).toNat)
 case atStart=>exact ⟨0,by omega,rfl,Below.refl _ _⟩
 case round =>
  obtain ⟨j,hj,rfl,hbel⟩:=hrel
  have HB:=Lib.hid hbel
  have o7:wr.cell? ⟨w.heap.size,7,none⟩=some (.slice AO no co):=(hbel.cell (p:=⟨w.heap.size,7,none⟩) (Nat.lt_succ_self _)).trans (BOX.out.cell 7)
  have HS:=Lib.hid (show w.heap.size+1≤wr.heap.size from Nat.le_trans (Nat.le_of_eq HZ.out.symm) hbel.size)
  clear hbel
  have hcase:j=0∨j=1∨j=2∨j=3∨j=4∨j=5:=by omega
  rcases hcase with rfl | rfl | rfl | rfl | rfl | rfl
  ·have q1:decide (sp<0)=false:=decide_eq_false (by omega)
   have q2:decide (65535<sp)=false:=decide_eq_false (by omega)
   go_wp2_with fail
   go_roundw
   case rel=>exact ⟨1,by omega,by go_num,HB.out.alloc HS.out _⟩
   case measure=>simp [intOf]
  ·have q1:decide (dp<0)=false:=decide_eq_false (by omega)
   have q2:decide (65535<dp)=false:=decide_eq_false (by omega)
   go_wp2_with fail
   go_roundw
   case rel=>exact ⟨2,by omega,by go_num,HB.out.alloc HS.out _⟩
   case measure=>simp [intOf]
  ·have q1:decide (wn<0)=false:=decide_eq_false (by omega)
   have q2:decide (65535<wn)=false:=decide_eq_false (by omega)
   go_wp2_with fail
   go_roundw
   case rel=>exact ⟨3,by omega,by go_num,HB.out.alloc HS.out _⟩
   case measure=>simp [intOf]
  ·have q1:decide (ur<0)=false:=decide_eq_false (by omega)
   have q2:decide (65535<ur)=false:=decide_eq_false (by omega)
   go_wp2_with fail
   go_roundw
   case rel=>exact ⟨4,by omega,by go_num,HB.out.alloc HS.out _⟩
   case measure=>simp [intOf]
  ·have q1:decide (fl<0)=false:=decide_eq_false (by omega)
   have q2:decide (255<fl)=false:=decide_eq_false (by omega)
   go_wp2_with fail
   go_roundw
   case rel=>exact ⟨5,by omega,by go_num,HB.out.alloc HS.out _⟩
   case measure=>simp [intOf]
  ·go_wp2_with fail
   go_ret
   exact ⟨rfl,HBX.out.trans (HB.out.mono (Nat.le_succ _))⟩
end Go.Proofs.Ytnofddbfogilaaa.tcpIn
/- Layer 4: the law on sums of bytes. -/
namespace Go.Proofs.Ytnofddbfogilaaa.sumI
open Go.ChangeShapes Go.WideShapes Go.ChangeAt Go.RowKit
open base sumB sumC
set_option linter.unusedVariables false
theorem row3 {w:World} {g:Nat} {t:TypeId} {a b c:Value} (h:Blk w g t #[a,b,c]):Row w w.heap.size (some ⟨g,0,none⟩) [a,b,c]:=row_blk h
theorem three {w W:World} {A1 A2 A3:Option Addr} {n1 n2 n3 c1 c2 c3:Nat} {l1 l2 l3:List Int} (h1:l1.length=n1) (h2:l2.length=n2) (h3:l3.length=n3)
  (r1:Row w w.heap.size A1 (l1.map (.int .u8))) (r2:Row w w.heap.size A2 (l2.map (.int .u8))) (r3:Row w w.heap.size A3 (l3.map (.int .u8)))
  (b1:∀ x ∈ l1,0≤x∧x≤255) (b2:∀ x ∈ l2,0≤x∧x≤255) (b3:∀ x ∈ l3,0≤x∧x≤255) (hb:Below w.heap.size w W) (t:TypeId) :
  Row (W.alloc (.cells #[.slice A1 n1 c1,.slice A2 n2 c2,.slice A3 n3 c3] t)) (W.heap.size+1) (some ⟨W.heap.size,0,none⟩) (([⟨A1,c1,l1⟩,⟨A2,c2,l2⟩,⟨A3,c3,l3⟩]:List Part).map Part.val) ∧
   ∀ p ∈ ([⟨A1,c1,l1⟩,⟨A2,c2,l2⟩,⟨A3,c3,l3⟩]:List Part),p.ok (W.alloc (.cells #[.slice A1 n1 c1,.slice A2 n2 c2,.slice A3 n3 c3] t)) (W.heap.size+1):=by
 subst h1 h2 h3
 have hs:=hb.size
 refine ⟨(row3 (Blk.new W t _)).more (by simp),fun p hp=>?_⟩
 have hb2:=hb.alloc hs (.cells #[.slice A1 l1.length c1,.slice A2 l2.length c2,.slice A3 l3.length c3] t)
 simp only [List.mem_cons,List.not_mem_nil,or_false] at hp
 rcases hp with rfl | rfl | rfl
 ·exact ⟨(r1.below hb2).more (by omega),b1⟩
 ·exact ⟨(r2.below hb2).more (by omega),b2⟩
 ·exact ⟨(r3.below hb2).more (by omega),b3⟩
end Go.Proofs.Ytnofddbfogilaaa.sumI
/- Layer 10: a segment as bytes. -/
namespace Go.Proofs.Ytnofddbfogilaaa.tcpJn
set_option maxHeartbeats 4000000
set_option maxRecDepth 100000
open Go.ChangeShapes Go.WideShapes Go.ChangeAt Go.RowKit
open base sumA sumB octA octB octF octK rdrA tcpC octE tcpIn
set_option linter.unusedVariables false
def hd0 (sp dp sq ak fl wn ur:Int) (os:List Int):List Int :=
 allb 2 [sp,dp]++allb 4 [sq,ak]++allb 1 [(20+(os.length:Int)) / 4*16,fl]++allb 2 [wn,0,ur]++os
theorem hd0_len (sp dp sq ak fl wn ur:Int) (os:List Int):(hd0 sp dp sq ak fl wn ur os).length=20+os.length:=by
 simp only [hd0,List.length_append,allb_len,List.length_cons,List.length_nil]
theorem hd0_in (sp dp sq ak fl wn ur:Int) (os:List Int) (h:∀ x ∈ os,0≤x∧x≤255):∀ x ∈ hd0 sp dp sq ak fl wn ur os,0≤x∧x≤255:=by
 intro x hx
 unfold hd0 at hx
 rw [List.mem_append,List.mem_append,List.mem_append,List.mem_append] at hx
 rcases hx with (((hx | hx) | hx) | hx) | hx
 ·exact allb_in _ _ x hx
 ·exact allb_in _ _ x hx
 ·exact allb_in _ _ x hx
 ·exact allb_in _ _ x hx
 ·exact h x hx
def BPost (w:World) (l:List Int) (e:Ending) (w':World):Prop :=
 ∃ v,e=.returned (.tuple #[v,.int .i64 0])∧w'.ownsRow w.heap.size 5 1 v l.length (l.map (.int .u8))∧Below w.heap.size w w'
theorem bytes_any (sp dp sq ak fl wn ur:Int) (AO:Option Addr) (no co:Nat) (os:List Int) (A A2:Option Addr) (n c n2 c2:Nat) (pl ps:List Int) (w:World) (h1:0≤sp) (h2:sp≤65535) (h3:0≤dp) (h4:dp≤65535) (h9:0≤fl) (h10:fl≤255) (h11:0≤wn) (h12:wn≤65535) (h13:0≤ur) (h14:ur≤65535) (ho:no≤40) (hm:no % 4=0) (h5:0≤sq) (h6:sq≤4294967295) (h7:0≤ak) (h8:ak≤4294967295)
  (hol:os.length=no) (hor:Row w w.heap.size AO (os.map (.int .u8))) (hoz:AO=none→co=0) (hox:∀ x ∈ os,0≤x∧x≤255)
  (hl:pl.length=n) (hn:n≤500) (hr:Row w w.heap.size A (pl.map (.int .u8))) (hz:A=none→c=0) (hx:∀ x ∈ pl,0≤x∧x≤255)
  (pll:ps.length=n2) (pn:n2≤1000) (pr:Row w w.heap.size A2 (ps.map (.int .u8))) (px:∀ x ∈ ps,0≤x∧x≤255) :
  Calls Try.prog 43 #[.agg #[.int .i64 sp,.int .i64 dp,.int .u32 sq,.int .u32 ak,.int .i64 fl,.int .i64 wn,.int .i64 ur,.slice AO no co],.slice A n c,.slice A2 n2 c2] w (BPost w (splice (hd0 sp dp sq ak fl wn ur os) 16 (pb (65535 - fo (wsum (ps++hd0 sp dp sq ak fl wn ur os++pl))) 2 2)++pl)):=by
 have HSZ:=Lib.hid (show (w.alloc (.cells #[.int .i64 sp,.int .i64 dp,.int .u32 sq,.int .u32 ak,.int .i64 fl,.int .i64 wn,.int .i64 ur,.slice AO no co] 72)).heap.size=w.heap.size+1 by simp)
 have HB0:=Lib.hid (show Below w.heap.size w (w.alloc (.cells #[.int .i64 sp,.int .i64 dp,.int .u32 sq,.int .u32 ak,.int .i64 fl,.int .i64 wn,.int .i64 ur,.slice AO no co] 72)) from (Below.refl _ _).alloc (Nat.le_refl _) _)
 have BOX:=Lib.hid (Blk.new w 72 #[.int .i64 sp,.int .i64 dp,.int .u32 sq,.int .u32 ak,.int .i64 fl,.int .i64 wn,.int .i64 ur,.slice AO no co])
 have HRT:=Lib.hid (right_yes sp dp sq ak fl wn ur AO no co (w.alloc (.cells #[.int .i64 sp,.int .i64 dp,.int .u32 sq,.int .u32 ak,.int .i64 fl,.int .i64 wn,.int .i64 ur,.slice AO no co] 72)) h1 h2 h3 h4 h9 h10 h11 h12 h13 h14 ho hm)
 have HOR:=Lib.hid hor
 have HOZ:=Lib.hid hoz
 have HOX:=Lib.hid hox
 have HOL:=Lib.hid hol
 have HR:=Lib.hid hr
 have HZ:=Lib.hid hz
 have HX:=Lib.hid hx
 have HL:=Lib.hid hl
 have PR:=Lib.hid pr
 have PX:=Lib.hid px
 have PL:=Lib.hid pll
 have ONE:=Lib.hid (show ∀ l:List Int,∀ u ∈ l.map (Value.int .u8),u.oneCell'=true from by
  intro l u hu
  rw [List.mem_map] at hu
  obtain ⟨x,_,rfl⟩:=hu
  rfl)
 obtain ⟨i0,hi0,hz0,hz1,hz2⟩:=info_parts info_u8
 have HI0:=Lib.hid hi0
 have HZ0:=Lib.hid hz0
 have HZ1:=Lib.hid hz1
 have HZ2:=Lib.hid hz2
 have HQ:=Lib.hid (show (0≤sp∧sp<18446744073709551616)∧(0≤dp∧dp<18446744073709551616)∧(0≤sq∧sq<18446744073709551616)∧(0≤ak∧ak<18446744073709551616)∧(0≤((20+(no:Int)) / 4*16)∧((20+(no:Int)) / 4*16)<18446744073709551616)∧(0≤fl∧fl<18446744073709551616)∧(0≤wn∧wn<18446744073709551616)∧(0≤ur∧ur<18446744073709551616) by omega)
 have HU:=Lib.hid (show IntKind.u64.wrap sp=sp∧IntKind.u64.wrap dp=dp∧IntKind.u64.wrap sq=sq∧IntKind.u64.wrap ak=ak∧IntKind.u64.wrap ((20+(no:Int)) / 4*16)=((20+(no:Int)) / 4*16)∧IntKind.u64.wrap fl=fl∧IntKind.u64.wrap wn=wn∧IntKind.u64.wrap ur=ur by
  refine ⟨?_,?_,?_,?_,?_,?_,?_,?_⟩ <;> (rw [IntKind.wrap_u64]; omega))
 have HS1:=Lib.hid (show hs 1=1 by decide)
 have HS2:=Lib.hid (show hs 2=2 by decide)
 have HS4:=Lib.hid (show hs 4=4 by decide)
 clear hor hoz hox hol hr hz hx hl pr px pll hi0 hz0 hz1 hz2
 go_enter Try.func43,Try.ntmps43
 go_wp2_with fail
 refine HRT.out.mono ?_
 rintro e w1 ⟨rfl,hb⟩
 rw [HSZ.out] at hb
 have HB1:=Lib.hid hb
 clear hb
 have hcs1:w1.heap.size<(w1.alloc (.cells #[.int .u64 sp,.int .u64 dp] 22)).heap.size:=by simp
 have HV1:=Lib.hid (HB1.out.alloc (Nat.le_trans (Nat.le_of_eq HSZ.out.symm) HB1.out.size) (.cells #[.int .u64 sp,.int .u64 dp] 22))
 have HW1:=Lib.hid (show (w1.alloc (.cells #[.int .u64 sp,.int .u64 dp] 22)).ownsRow (w.heap.size+1) 5 1 (.slice none 0 0) 0 [] from World.ownsRow_nil _ _ _ _)
 have hal1:=all_keep w1.heap.size #[.int .u64 sp,.int .u64 dp] (.slice none 0 0) 0 [] 2 2 2 ([sp,dp]:List Int) (w.heap.size+1) (w.heap.size+1) (w.alloc (.cells #[.int .i64 sp,.int .i64 dp,.int .u32 sq,.int .u32 ak,.int .i64 fl,.int .i64 wn,.int .i64 ur,.slice AO no co] 72)) (w1.alloc (.cells #[.int .u64 sp,.int .u64 dp] 22)) HW1.out (Nat.le_trans (Nat.le_of_eq HSZ.out.symm) HV1.out.size) (by omega) HV1.out (Nat.le_refl _) rfl (Blk.new w1 22 #[.int .u64 sp,.int .u64 dp]) rfl (by
  intro x hx
  simp only [List.mem_cons,List.not_mem_nil,or_false] at hx
  rcases hx with rfl | rfl <;> first | exact HQ.out.1 | exact HQ.out.2.1)
 rw [HS2.out] at hal1
 have HAL1:=Lib.hid hal1
 clear hal1 hcs1 HV1 HW1
 have o0:w1.cell? ⟨w.heap.size,0,none⟩=some (.int .i64 sp):=(HB1.out.cell (p:=⟨w.heap.size,0,none⟩) (Nat.lt_succ_self _)).trans (BOX.out.cell 0)
 have o1:w1.cell? ⟨w.heap.size,1,none⟩=some (.int .i64 dp):=(HB1.out.cell (p:=⟨w.heap.size,1,none⟩) (Nat.lt_succ_self _)).trans (BOX.out.cell 1)
 have u0:=HU.out.1
 have u1:=HU.out.2.1
 go_wp2_with fail
 clear u0 u1 o0 o1
 refine HAL1.out.mono ?_
 rintro e w2 ⟨v1,rfl,hown,hbel,_,_⟩
 have HO1:=Lib.hid hown
 have HB2:=Lib.hid hbel
 clear hown hbel HAL1
 have hcs2:w2.heap.size<(w2.alloc (.cells #[.int .u64 sq,.int .u64 ak] 22)).heap.size:=by simp
 have HV2:=Lib.hid (HB2.out.alloc (Nat.le_trans (Nat.le_of_eq HSZ.out.symm) HB2.out.size) (.cells #[.int .u64 sq,.int .u64 ak] 22))
 have HW2:=Lib.hid (show (w2.alloc (.cells #[.int .u64 sq,.int .u64 ak] 22)).ownsRow (w.heap.size+1) 5 1 v1 (0+2*2) ([]++(allb 2 [sp,dp]).map (Value.int .u8)) from HO1.out.alloc _)
 have hal2:=all_keep w2.heap.size #[.int .u64 sq,.int .u64 ak] v1 (0+2*2) ([]++(allb 2 [sp,dp]).map (Value.int .u8)) 4 2 2 ([sq,ak]:List Int) (w.heap.size+1) (w.heap.size+1) (w.alloc (.cells #[.int .i64 sp,.int .i64 dp,.int .u32 sq,.int .u32 ak,.int .i64 fl,.int .i64 wn,.int .i64 ur,.slice AO no co] 72)) (w2.alloc (.cells #[.int .u64 sq,.int .u64 ak] 22)) HW2.out (Nat.le_trans (Nat.le_of_eq HSZ.out.symm) HV2.out.size) (by omega) HV2.out (Nat.le_refl _) rfl (Blk.new w2 22 #[.int .u64 sq,.int .u64 ak]) rfl (by
  intro x hx
  simp only [List.mem_cons,List.not_mem_nil,or_false] at hx
  rcases hx with rfl | rfl <;> first | exact HQ.out.2.2.1 | exact HQ.out.2.2.2.1)
 rw [HS4.out] at hal2
 have HAL2:=Lib.hid hal2
 clear hal2 hcs2 HV2 HW2
 have o2:w2.cell? ⟨w.heap.size,2,none⟩=some (.int .u32 sq):=(HB2.out.cell (p:=⟨w.heap.size,2,none⟩) (Nat.lt_succ_self _)).trans (BOX.out.cell 2)
 have o3:w2.cell? ⟨w.heap.size,3,none⟩=some (.int .u32 ak):=(HB2.out.cell (p:=⟨w.heap.size,3,none⟩) (Nat.lt_succ_self _)).trans (BOX.out.cell 3)
 have u2:=HU.out.2.2.1
 have u3:=HU.out.2.2.2.1
 go_wp2_with fail
 clear u2 u3 o2 o3
 refine HAL2.out.mono ?_
 rintro e w3 ⟨v2,rfl,hown,hbel,_,_⟩
 have HO2:=Lib.hid hown
 have HB3:=Lib.hid hbel
 clear hown hbel HAL2
 have hcs3:w3.heap.size<(w3.alloc (.cells #[.int .u64 ((20+(no:Int)) / 4*16),.int .u64 fl] 22)).heap.size:=by simp
 have HV3:=Lib.hid (HB3.out.alloc (Nat.le_trans (Nat.le_of_eq HSZ.out.symm) HB3.out.size) (.cells #[.int .u64 ((20+(no:Int)) / 4*16),.int .u64 fl] 22))
 have HW3:=Lib.hid (show (w3.alloc (.cells #[.int .u64 ((20+(no:Int)) / 4*16),.int .u64 fl] 22)).ownsRow (w.heap.size+1) 5 1 v2 ((0+2*2)+4*2) (([]++(allb 2 [sp,dp]).map (Value.int .u8))++(allb 4 [sq,ak]).map (Value.int .u8)) from HO2.out.alloc _)
 have hal3:=all_keep w3.heap.size #[.int .u64 ((20+(no:Int)) / 4*16),.int .u64 fl] v2 ((0+2*2)+4*2) (([]++(allb 2 [sp,dp]).map (Value.int .u8))++(allb 4 [sq,ak]).map (Value.int .u8)) 1 2 2 ([((20+(no:Int)) / 4*16),fl]:List Int) (w.heap.size+1) (w.heap.size+1) (w.alloc (.cells #[.int .i64 sp,.int .i64 dp,.int .u32 sq,.int .u32 ak,.int .i64 fl,.int .i64 wn,.int .i64 ur,.slice AO no co] 72)) (w3.alloc (.cells #[.int .u64 ((20+(no:Int)) / 4*16),.int .u64 fl] 22)) HW3.out (Nat.le_trans (Nat.le_of_eq HSZ.out.symm) HV3.out.size) (by omega) HV3.out (Nat.le_refl _) rfl (Blk.new w3 22 #[.int .u64 ((20+(no:Int)) / 4*16),.int .u64 fl]) rfl (by
  intro x hx
  simp only [List.mem_cons,List.not_mem_nil,or_false] at hx
  rcases hx with rfl | rfl <;> first | exact HQ.out.2.2.2.2.1 | exact HQ.out.2.2.2.2.2.1)
 rw [HS1.out] at hal3
 have HAL3:=Lib.hid hal3
 clear hal3 hcs3 HV3 HW3
 have o4:w3.cell? ⟨w.heap.size,4,none⟩=some (.int .i64 fl):=(HB3.out.cell (p:=⟨w.heap.size,4,none⟩) (Nat.lt_succ_self _)).trans (BOX.out.cell 4)
 have o7:w3.cell? ⟨w.heap.size,7,none⟩=some (.slice AO no co):=(HB3.out.cell (p:=⟨w.heap.size,7,none⟩) (Nat.lt_succ_self _)).trans (BOX.out.cell 7)
 have u4:=HU.out.2.2.2.2.1
 have u5:=HU.out.2.2.2.2.2.1
 go_wp2_with fail
 clear u4 u5 o4 o7
 refine HAL3.out.mono ?_
 rintro e w4 ⟨v3,rfl,hown,hbel,_,_⟩
 have HO3:=Lib.hid hown
 have HB4:=Lib.hid hbel
 clear hown hbel HAL3
 have hcs4:w4.heap.size<(w4.alloc (.cells #[.int .u64 wn,.int .u64 0,.int .u64 ur] 22)).heap.size:=by simp
 have HV4:=Lib.hid (HB4.out.alloc (Nat.le_trans (Nat.le_of_eq HSZ.out.symm) HB4.out.size) (.cells #[.int .u64 wn,.int .u64 0,.int .u64 ur] 22))
 have HW4:=Lib.hid (show (w4.alloc (.cells #[.int .u64 wn,.int .u64 0,.int .u64 ur] 22)).ownsRow (w.heap.size+1) 5 1 v3 (((0+2*2)+4*2)+1*2) ((([]++(allb 2 [sp,dp]).map (Value.int .u8))++(allb 4 [sq,ak]).map (Value.int .u8))++(allb 1 [((20+(no:Int)) / 4*16),fl]).map (Value.int .u8)) from HO3.out.alloc _)
 have hal4:=all_keep w4.heap.size #[.int .u64 wn,.int .u64 0,.int .u64 ur] v3 (((0+2*2)+4*2)+1*2) ((([]++(allb 2 [sp,dp]).map (Value.int .u8))++(allb 4 [sq,ak]).map (Value.int .u8))++(allb 1 [((20+(no:Int)) / 4*16),fl]).map (Value.int .u8)) 2 3 3 ([wn,0,ur]:List Int) (w.heap.size+1) (w.heap.size+1) (w.alloc (.cells #[.int .i64 sp,.int .i64 dp,.int .u32 sq,.int .u32 ak,.int .i64 fl,.int .i64 wn,.int .i64 ur,.slice AO no co] 72)) (w4.alloc (.cells #[.int .u64 wn,.int .u64 0,.int .u64 ur] 22)) HW4.out (Nat.le_trans (Nat.le_of_eq HSZ.out.symm) HV4.out.size) (by omega) HV4.out (Nat.le_refl _) rfl (Blk.new w4 22 #[.int .u64 wn,.int .u64 0,.int .u64 ur]) rfl (by
  intro x hx
  simp only [List.mem_cons,List.not_mem_nil,or_false] at hx
  rcases hx with rfl | rfl | rfl <;> first | exact HQ.out.2.2.2.2.2.2.1 | omega | exact HQ.out.2.2.2.2.2.2.2)
 rw [HS2.out] at hal4
 have HAL4:=Lib.hid hal4
 clear hal4 hcs4 HV4 HW4
 have o5:w4.cell? ⟨w.heap.size,5,none⟩=some (.int .i64 wn):=(HB4.out.cell (p:=⟨w.heap.size,5,none⟩) (Nat.lt_succ_self _)).trans (BOX.out.cell 5)
 have o6:w4.cell? ⟨w.heap.size,6,none⟩=some (.int .i64 ur):=(HB4.out.cell (p:=⟨w.heap.size,6,none⟩) (Nat.lt_succ_self _)).trans (BOX.out.cell 6)
 have u6:=HU.out.2.2.2.2.2.2.1
 have u7:=HU.out.2.2.2.2.2.2.2
 go_wp2_with fail
 clear u6 u7 o5 o6
 refine HAL4.out.mono ?_
 rintro e w5 ⟨v4,rfl,hown,hbel,_,_⟩
 have HO4:=Lib.hid hown
 have HB5:=Lib.hid hbel
 clear hown hbel HAL4
 obtain ⟨N0,hN0⟩:∃ N0,N0=20+no:=⟨_,rfl⟩
 have HN0:=Lib.hid hN0
 have N60:N0≤60:=by omega
 have N20:20≤N0:=by omega
 have SZ5:=Lib.hid (Nat.le_trans (Nat.le_of_eq HSZ.out.symm) HB5.out.size)
 have o7:w5.cell? ⟨w.heap.size,7,none⟩=some (.slice AO no co):=(HB5.out.cell (p:=⟨w.heap.size,7,none⟩) (Nat.lt_succ_self _)).trans (BOX.out.cell 7)
 have P1:=Lib.hid (show ((((0+2*2)+4*2)+1*2)+2*3)+no≤maxLen by unfold maxLen; omega)
 have Q1:=Lib.hid (show (((((0+2*2)+4*2)+1*2)+2*3)+no)*1≤140737488355328 by omega)
 have RO:=Lib.hid (HOR.out.below (HB0.out.trans (HB5.out.mono (Nat.le_succ _))))
 have EH:=Lib.hid (show (((([]++(allb 2 [sp,dp]).map (Value.int .u8))++(allb 4 [sq,ak]).map (Value.int .u8))++(allb 1 [((20+(no:Int)) / 4*16),fl]).map (Value.int .u8))++(allb 2 [wn,0,ur]).map (Value.int .u8))++os.map (Value.int .u8)=(hd0 sp dp sq ak fl wn ur os).map (Value.int .u8) by unfold hd0; rw [HOL.out]; simp only [List.map_append,List.nil_append])
 have EM:=Lib.hid (show ((((0+2*2)+4*2)+1*2)+2*3)+no=N0 by omega)
 have HHL:=Lib.hid (show (hd0 sp dp sq ak fl wn ur os).length=N0 by rw [hd0_len,HOL.out,hN0])
 have HHX:=Lib.hid (hd0_in sp dp sq ak fl wn ur os HOX.out)
 have hfin:∀ x ∈ ps++(hd0 sp dp sq ak fl wn ur os)++pl,0≤x∧x≤255:=fun x hx=>by
  rw [List.mem_append,List.mem_append] at hx
  rcases hx with (hx | hx) | hx
  ·exact PX.out x hx
  ·exact HHX.out x hx
  ·exact HX.out x hx
 have HFB:=Lib.hid (fo_bd _ (wsum_bd _ hfin).1)
 clear hfin hN0
 go_wp2_with (at_builtin; refine wpList_append_row rfl (.tmp 51) (.tmp 53) _ rfl (w.heap.size+1) 5 i0 _ 1 Try.underlying47 HI0.out HZ0.out HZ1.out HZ2.out rfl v4 ((((0+2*2)+4*2)+1*2)+2*3) (((([]++(allb 2 [sp,dp]).map (Value.int .u8))++(allb 4 [sq,ak]).map (Value.int .u8))++(allb 1 [((20+(no:Int)) / 4*16),fl]).map (Value.int .u8))++(allb 2 [wn,0,ur]).map (Value.int .u8)) rfl HO4.out AO no co w.heap.size (os.map (.int .u8)) rfl HOZ.out (by rw [List.length_map]; exact HOL.out) RO.out (ONE.out _) P1.out Q1.out SZ5.out ?_; intro va wa owna ga; rw [EH.out,EM.out] at owna; obtain ⟨Aa,ca,rfl⟩:=own_slice owna; have HOa:=Lib.hid owna; have HBa:=Lib.hid (below_grown HB5.out HO4.out (Nat.le_refl _) SZ5.out ga); clear owna ga)
 have hoa:=HOa.out
 have hza:=own_none hoa
 have HBW:=Lib.hid (HB0.out.trans (HBa.out.mono (Nat.le_succ _)))
 have hth:=sumI.three (w:=wa) (W:=wa) (c1:=c2) (c2:=ca) (c3:=c) PL.out HHL.out HL.out ((PR.out.below HBW.out).more HBW.out.size) (own_row hoa) ((HR.out.below HBW.out).more HBW.out.size) PX.out HHX.out HX.out (Below.refl _ _) 47
 have efl:flat [⟨A2,c2,ps⟩,⟨Aa,ca,(hd0 sp dp sq ak fl wn ur os)⟩,⟨A,c,pl⟩]=ps++(hd0 sp dp sq ak fl wn ur os)++pl:=by simp [flat]
 have hck:=sumC.check_any (some ⟨wa.heap.size,0,none⟩) 3 3 _ (wa.alloc (.cells #[.slice A2 n2 c2,.slice Aa N0 ca,.slice A n c] 47)) (wa.heap.size+1) rfl (by omega) (by rw [efl,List.length_append,List.length_append,PL.out,HHL.out,HL.out]; omega) hth.1 hth.2
 rw [efl] at hck
 have HCK:=Lib.hid hck
 have HBX:=Lib.hid (HBW.out.alloc HBW.out.size (.cells #[.slice A2 n2 c2,.slice Aa N0 ca,.slice A n c] 47))
 have HRX:=Lib.hid (own_row (hoa.alloc (.cells #[.slice A2 n2 c2,.slice Aa N0 ca,.slice A n c] 47)))
 have HZA:=Lib.hid hza
 have HSX:=Lib.hid (show (wa.alloc (.cells #[.slice A2 n2 c2,.slice Aa N0 ca,.slice A n c] 47)).heap.size=wa.heap.size+1 by simp)
 clear hth efl hck hza hoa o7 SZ5 P1 Q1 RO
 refine HCK.out.mono ?_
 rintro e wk ⟨rfl,rfl⟩
 have hset:=set_yes Aa N0 ca (hd0 sp dp sq ak fl wn ur os) 16 2 (65535 - fo (wsum (ps++hd0 sp dp sq ak fl wn ur os++pl))) (wa.alloc (.cells #[.slice A2 n2 c2,.slice Aa N0 ca,.slice A n c] 47)) HHL.out (by omega) HZA.out HRX.out (by omega) (by omega) (by have:=HFB.out; omega) (by have:=HFB.out; omega)
 have HSET:=Lib.hid hset
 have HFC:=Lib.hid (show IntKind.u64.wrap (65535 - fo (wsum (ps++hd0 sp dp sq ak fl wn ur os++pl)))=(65535 - fo (wsum (ps++hd0 sp dp sq ak fl wn ur os++pl))) by have:=HFB.out; rw [IntKind.wrap_u64]; omega)
 clear hset
 generalize (65535 - fo (wsum (ps++hd0 sp dp sq ak fl wn ur os++pl)))=ck at *
 generalize (hd0 sp dp sq ak fl wn ur os)=H at *
 have hfc:=HFC.out
 generalize wa.alloc (.cells #[.slice A2 n2 c2,.slice Aa N0 ca,.slice A n c] 47)=X at *
 go_wp2_with fail
 clear hfc
 refine HSET.out.mono ?_
 rintro e w9 ⟨vs,rfl,hown,hbel,hsz⟩
 have HO9:=Lib.hid hown
 have HB9:=Lib.hid hbel
 have HS9:=Lib.hid hsz
 have HBWX:=Lib.hid (HBX.out.trans (hbel.mono HBX.out.size))
 have P2:=Lib.hid (show N0+n≤maxLen by unfold maxLen; omega)
 have Q2:=Lib.hid (show (N0+n)*1≤140737488355328 by omega)
 have RP:=Lib.hid (HR.out.below HBWX.out)
 have LEN:=Lib.hid (show (splice H 16 (pb ck 2 2)++pl).length=N0+n by
  have hs:=hown.1
  rw [List.length_map,Nat.mul_one] at hs
  rw [List.length_append,hs,HL.out])
 clear hown hbel hsz
 go_wp2_with (at_builtin; refine wpList_append_row rfl (.tmp 63) (.tmp 64) _ rfl X.heap.size 5 i0 _ 1 Try.underlying47 HI0.out HZ0.out HZ1.out HZ2.out rfl vs N0 _ rfl HO9.out A n c w.heap.size (pl.map (.int .u8)) rfl HZ.out (by rw [List.length_map]; exact HL.out) RP.out (ONE.out _) P2.out Q2.out HS9.out ?_; intro vd wd ownd gd; have HOd:=Lib.hid ownd; have HBd:=Lib.hid (below_grown HB9.out HO9.out (Nat.le_refl _) HS9.out gd); clear ownd gd)
 go_ret2
 have hfin:=HOd.out
 rw [← List.map_append,← LEN.out] at hfin
 exact ⟨_,rfl,own_base hfin HBX.out.size,HBX.out.trans (HBd.out.mono HBX.out.size)⟩
end Go.Proofs.Ytnofddbfogilaaa.tcpJn
/- Layer 10: what bytes that were put say. -/
namespace Go.Proofs.Ytnofddbfogilaaa.tcpLn
open Go.ChangeShapes Go.WideShapes Go.ChangeAt Go.RowKit
open base sumA sumB octA octB rdrA udpA net tcpC tcpJn
set_option linter.unusedVariables false
theorem pb_four (x:Int) (h0:0≤x) (h1:x≤4294967295):pb x 4 4=[x / 65536 / 256,x / 65536 % 256,x % 65536 / 256,x % 65536 % 256]:=by
 show [byteZ x 3,byteZ x 2,byteZ x 1,byteZ x 0]=_
 unfold byteZ
 have a:x / 2 ^ (8*3)=x / 16777216:=rfl
 have b:x / 2 ^ (8*2)=x / 65536:=rfl
 have c:x / 2 ^ (8*1)=x / 256:=rfl
 have d:x / 2 ^ (8*0)=x:=by show x / 1=x; omega
 rw [a,b,c,d]
 congr 1
 ·omega
 ·congr 1
  congr 1
  ·omega
  ·congr 1
   omega
theorem pb_one (x:Int) (h0:0≤x) (h1:x≤255):pb x 1 1=[x]:=by
 show [byteZ x 0]=_
 unfold byteZ
 have d:x / 2 ^ (8*0)=x:=by show x / 1=x; omega
 rw [d]
 congr 1
 omega
def tk (sp dp sq ak fl wn ur ck:Int) (os pl:List Int):List Int :=
 [sp / 256,sp % 256,dp / 256,dp % 256,sq / 65536 / 256,sq / 65536 % 256,sq % 65536 / 256,sq % 65536 % 256,ak / 65536 / 256,ak / 65536 % 256,ak % 65536 / 256,ak % 65536 % 256,
  (20+(os.length:Int)) / 4*16,fl,wn / 256,wn % 256,ck / 256,ck % 256,ur / 256,ur % 256]++(os++pl)
theorem hd0_eq (sp dp sq ak fl wn ur:Int) (os:List Int) (h1:0≤sp) (h2:sp≤65535) (h3:0≤dp) (h4:dp≤65535) (h5:0≤sq) (h6:sq≤4294967295) (h7:0≤ak) (h8:ak≤4294967295) (h9:0≤fl) (h10:fl≤255) (h11:0≤wn) (h12:wn≤65535) (h13:0≤ur) (h14:ur≤65535) (ho:os.length≤40) :
  hd0 sp dp sq ak fl wn ur os=tk sp dp sq ak fl wn ur 0 os []:=by
 unfold hd0 tk
 simp only [allb,List.flatMap_cons,List.flatMap_nil]
 rw [net.pb_two sp h1 h2,net.pb_two dp h3 h4,pb_four sq h5 h6,pb_four ak h7 h8,pb_one _ (by omega) (by omega),pb_one fl h9 h10,net.pb_two wn h11 h12,net.pb_two 0 (by omega) (by omega),net.pb_two ur h13 h14]
 simp
theorem splice_tk (sp dp sq ak fl wn ur ck:Int) (os pl:List Int) (c0:0≤ck) (c1:ck≤65535):splice (tk sp dp sq ak fl wn ur 0 os []) 16 (pb ck 2 2)++pl=tk sp dp sq ak fl wn ur ck os pl:=by
 rw [net.pb_two ck c0 c1]
 simp [splice,tk]
theorem tk_says (sp dp sq ak fl wn ur ck:Int) (os pl:List Int) (hm:os.length % 4=0) :
  (tk sp dp sq ak fl wn ur ck os pl).length=20+os.length+pl.length∧w16 (tk sp dp sq ak fl wn ur ck os pl) 0=sp∧w16 (tk sp dp sq ak fl wn ur ck os pl) 2=dp∧w32 (tk sp dp sq ak fl wn ur ck os pl) 4=sq∧w32 (tk sp dp sq ak fl wn ur ck os pl) 8=ak ∧
   (tk sp dp sq ak fl wn ur ck os pl).getD 12 0 / 16*4=((20+os.length:Nat):Int)∧(tk sp dp sq ak fl wn ur ck os pl).getD 12 0 % 16=0∧(tk sp dp sq ak fl wn ur ck os pl).getD 13 0=fl∧w16 (tk sp dp sq ak fl wn ur ck os pl) 14=wn∧w16 (tk sp dp sq ak fl wn ur ck os pl) 18=ur ∧
   ((tk sp dp sq ak fl wn ur ck os pl).take (20+os.length)).drop 20=os∧(tk sp dp sq ak fl wn ur ck os pl).drop (20+os.length)=pl:=by
 refine ⟨?_,?_,?_,?_,?_,?_,?_,rfl,?_,?_,?_,?_⟩
 ·simp [tk]; omega
 ·show sp / 256*256+sp % 256=sp; omega
 ·show dp / 256*256+dp % 256=dp; omega
 ·show (sq / 65536 / 256*256+sq / 65536 % 256)*65536+(sq % 65536 / 256*256+sq % 65536 % 256)=sq; omega
 ·show (ak / 65536 / 256*256+ak / 65536 % 256)*65536+(ak % 65536 / 256*256+ak % 65536 % 256)=ak; omega
 ·show (20+(os.length:Int)) / 4*16 / 16*4=_; omega
 ·show (20+(os.length:Int)) / 4*16 % 16=0; omega
 ·show wn / 256*256+wn % 256=wn; omega
 ·show ur / 256*256+ur % 256=ur; omega
 ·rw [List.drop_take]
  have e:(tk sp dp sq ak fl wn ur ck os pl).drop 20=os++pl:=rfl
  rw [e,Nat.add_sub_cancel_left,List.take_left]
 ·have e:(tk sp dp sq ak fl wn ur ck os pl).drop 20=os++pl:=rfl
  rw [← List.drop_drop,e,List.drop_left]
theorem wsum_tk (sp dp sq ak fl wn ur ck:Int) (os pl:List Int) (hm:os.length % 4=0) (c0:0≤ck) (c1:ck≤65535):wsum (tk sp dp sq ak fl wn ur ck os pl)=wsum (tk sp dp sq ak fl wn ur 0 os pl)+ck:=by
 have e:∀ k:Int,wsum (tk sp dp sq ak fl wn ur k os pl)=wsum ((tk sp dp sq ak fl wn ur k [] []).take 20 |>.set 12 ((20+(os.length:Int)) / 4*16))+wsum (os++pl):=fun k=>net.wsum_app 10 _ _ rfl
 rw [e ck,e 0]
 simp only [tk,wsum,List.take,List.set,List.cons_append,List.nil_append]
 omega
theorem fo_full (s:Int) (h:0≤s):fo (s+(65535 - fo s))=65535∨fo s=65535:=by
 have a:=fo_bd s h
 have b:=fo_add (x:=s) (t:=65535 - fo s) h (by omega)
 refine .inl ?_
 rw [← b,show fo s+(65535 - fo s)=65535 by omega]
 rfl
theorem chk_right (sp dp sq ak fl wn ur:Int) (os pl ps:List Int) (hm:os.length % 4=0) (he:ps.length % 2=0) (hin:∀ x ∈ ps++tk sp dp sq ak fl wn ur 0 os pl,0≤x∧x≤255) :
  fo (wsum (ps++tk sp dp sq ak fl wn ur (65535 - fo (wsum (ps++tk sp dp sq ak fl wn ur 0 os pl))) os pl))=65535:=by
 have s0:=(wsum_bd _ hin).1
 have b:=fo_bd _ s0
 have e:ps.length=2*(ps.length / 2):=by omega
 rw [net.wsum_app _ _ _ e,wsum_tk sp dp sq ak fl wn ur _ os pl hm (by omega) (by omega),← Int.add_assoc,← net.wsum_app _ _ _ e]
 rcases fo_full _ s0 with h | h
 ·exact h
 ·rw [h]; simpa using h
end Go.Proofs.Ytnofddbfogilaaa.tcpLn
/- Layer 10: the law on segments that are put: what its walk wants, and headers that may not be. -/
namespace Go.Proofs.Ytnofddbfogilaaa.tcpNn
open Go.ChangeShapes Go.WideShapes Go.ChangeAt Go.RowKit
open base sumA sumB rdrA tcpJn tcpLn
set_option linter.unusedVariables false
theorem tk_in (sp dp sq ak fl wn ur:Int) (ck:Int) (os pl:List Int) (h1:0≤sp) (h2:sp≤65535) (h3:0≤dp) (h4:dp≤65535) (h5:0≤sq) (h6:sq≤4294967295) (h7:0≤ak) (h8:ak≤4294967295) (h9:0≤fl) (h10:fl≤255) (h11:0≤wn) (h12:wn≤65535) (h13:0≤ur) (h14:ur≤65535) (c0:0≤ck) (c1:ck≤65535) (ho:os.length≤40) (b1:∀ x ∈ os,0≤x∧x≤255) (b2:∀ x ∈ pl,0≤x∧x≤255) :
  ∀ x ∈ tk sp dp sq ak fl wn ur ck os pl,0≤x∧x≤255:=by
 intro x hx
 unfold tk at hx
 rcases List.mem_append.1 hx with hx | hx
 ·clear b1 b2
  simp only [List.mem_cons,List.not_mem_nil,or_false] at hx
  rcases hx with rfl | rfl | rfl | rfl | rfl | rfl | rfl | rfl | rfl | rfl | rfl | rfl | rfl | rfl | rfl | rfl | rfl | rfl | rfl | rfl <;> omega
 ·exact (List.mem_append.1 hx).elim (b1 x) (b2 x)
theorem bytes_tk (sp dp sq ak fl wn ur:Int) (AO:Option Addr) (no co:Nat) (os:List Int) (A A2:Option Addr) (n c n2 c2:Nat) (pl ps:List Int) (w:World) (h1:0≤sp) (h2:sp≤65535) (h3:0≤dp) (h4:dp≤65535) (h9:0≤fl) (h10:fl≤255) (h11:0≤wn) (h12:wn≤65535) (h13:0≤ur) (h14:ur≤65535) (ho:no≤40) (hm:no % 4=0) (h5:0≤sq) (h6:sq≤4294967295) (h7:0≤ak) (h8:ak≤4294967295)
  (hol:os.length=no) (hor:Row w w.heap.size AO (os.map (.int .u8))) (hoz:AO=none→co=0) (hox:∀ x ∈ os,0≤x∧x≤255)
  (hl:pl.length=n) (hn:n≤500) (hr:Row w w.heap.size A (pl.map (.int .u8))) (hz:A=none→c=0) (hx:∀ x ∈ pl,0≤x∧x≤255)
  (pll:ps.length=n2) (pn:n2≤1000) (pr:Row w w.heap.size A2 (ps.map (.int .u8))) (px:∀ x ∈ ps,0≤x∧x≤255) :
  Calls Try.prog 43 #[.agg #[.int .i64 sp,.int .i64 dp,.int .u32 sq,.int .u32 ak,.int .i64 fl,.int .i64 wn,.int .i64 ur,.slice AO no co],.slice A n c,.slice A2 n2 c2] w (fun e w'=>∃ v,e=.returned (.tuple #[v,.int .i64 0])∧w'.ownsRow w.heap.size 5 1 v (20+no+n) ((tk sp dp sq ak fl wn ur (65535 - fo (wsum (ps++tk sp dp sq ak fl wn ur 0 os pl))) os pl).map (.int .u8))∧Below w.heap.size w w'):=by
 have hin:∀ x ∈ ps++tk sp dp sq ak fl wn ur 0 os pl,0≤x∧x≤255:=fun x h=>(List.mem_append.1 h).elim (px x) (tk_in sp dp sq ak fl wn ur 0 os pl h1 h2 h3 h4 h5 h6 h7 h8 h9 h10 h11 h12 h13 h14 (by omega) (by omega) (by omega) hox hx x)
 have fb:=fo_bd _ (wsum_bd _ hin).1
 have e:tk sp dp sq ak fl wn ur 0 os []++pl=tk sp dp sq ak fl wn ur 0 os pl:=by simp [tk]
 have H:=bytes_any sp dp sq ak fl wn ur AO no co os A A2 n c n2 c2 pl ps w h1 h2 h3 h4 h9 h10 h11 h12 h13 h14 ho hm h5 h6 h7 h8 hol hor hoz hox hl hn hr hz hx pll pn pr px
 rw [hd0_eq sp dp sq ak fl wn ur os h1 h2 h3 h4 h5 h6 h7 h8 h9 h10 h11 h12 h13 h14 (by omega),List.append_assoc,e,splice_tk sp dp sq ak fl wn ur _ os pl (by omega) (by omega)] at H
 have hlen:=(tk_says sp dp sq ak fl wn ur (65535 - fo (wsum (ps++tk sp dp sq ak fl wn ur 0 os pl))) os pl (by rw [hol]; exact hm)).1
 rw [hol,hl] at hlen
 refine H.mono fun e w' h=>?_
 obtain ⟨v,a,b,c⟩:=h
 rw [hlen] at b
 exact ⟨v,a,b,c⟩
end Go.Proofs.Ytnofddbfogilaaa.tcpNn
