/- 2 texts in one. -/
import Derived.Deep.RegionHeld3
import Derived.Deep.DeepCutAuto
import Derived.Test.YtnofddbfogilaaaGq05
import Derived.Test.YtnofddbfogilaaaGq06
import Derived.Test.YtnofddbfogilaaaGq08
import Derived.Test.YtnofddbfogilaaaGq13
import Derived.Test.YtnofddbfogilaaaGq14
/- Layer 13: what the parsers tell, each by one contract. -/
namespace Go.Proofs.Ytnofddbfogilaaa.pktA
open Go.ChangeShapes Go.WideShapes Go.ChangeAt Go.RowKit
open base octA net rdrA sumA sumB sixW sixM sixE sixF
set_option linter.unusedVariables false
open udpA (w16) in
def tcpE (l ps:List Int):Int:=if l.length<20 then 2 else if l.getD 12 0 / 16*4<20∨(l.length:Int)<l.getD 12 0 / 16*4∨l.getD 12 0 % 16≠0 then 11 else if fo (wsum (ps++l))≠65535 then 13 else 0
def udpE_ (l ps:List Int) (bare:Bool):Int:=if l.length<8 then 2 else if udpA.w16 l 4≠l.length then 12 else if (udpA.w16 l 6=0∧bare=false)∨(udpA.w16 l 6≠0∧fo (wsum (ps++l))≠65535) then 13 else 0
def icmpE (l ps:List Int):Int:=if l.length<8 then 2 else if fo (wsum (ps++l))≠65535 then 13 else 0
def fourE (l:List Int):Int:=if l.length<20 then 2 else if l.getD 0 0 / 16≠4 then 10 else if fourA.hl l<20∨(l.length:Int)<fourA.hl l then 11 else if 32768≤udpA.w16 l 6 then 11 else if udpA.w16 l 2<fourA.hl l∨(l.length:Int)<udpA.w16 l 2 then 12 else if fo (wsum (l.take (fourA.hl l).toNat))≠65535 then 13 else 0
structure Sl (w:World) (A:Option Addr) (n c:Nat) (l:List Int):Prop where
 len:l.length=n
 row:Row w w.heap.size A (l.map (.int .u8))
 nc:n≤c
 mx:c≤9223372036854775807
 nil:A=none→c=0
 u8:U8 l
theorem Sl.below {w w':World} {A:Option Addr} {n c:Nat} {l:List Int} (h:Sl w A n c l) (hb:Below w.heap.size w w'):Sl w' A n c l:=⟨h.len,(h.row.below hb).more hb.size,h.nc,h.mx,h.nil,h.u8⟩
theorem Sl.own {w:World} {B:Nat} {A:Option Addr} {n c:Nat} {l:List Int} (h:w.ownsRow B 5 1 (.slice A n c) n (l.map (.int .u8))) (hl:l.length=n) (hu:U8 l):Sl w A n c l:=by
 have hc:=own_cap h
 exact ⟨hl,own_row h,hc.1,hc.2.1,hc.2.2,hu⟩
theorem Sl.none_ (w:World):Sl w none 0 0 []:=⟨rfl,.inl rfl,Nat.le_refl _,by omega,fun _=>rfl,fun x hx=>by cases hx⟩
def TcpP (l ps:List Int) (w:World) (o:Ending) (w':World):Prop:=Below w.heap.size w w'∧((tcpE l ps≠0∧o=.returned (tcpDn.errt (tcpE l ps)))∨(tcpE l ps=0∧∃ (sq ak wn ur:Int) (A:Option Addr) (m c:Nat) (v:Value),o=.returned (.tuple #[.agg #[.int .i64 (udpA.w16 l 0),.int .i64 (udpA.w16 l 2),.int .u32 sq,.int .u32 ak,.int .i64 (l.getD 13 0),.int .i64 wn,.int .i64 ur,.slice A m c],v,.int .i64 0])))
theorem tcp_any (A A2:Option Addr) (n c n2 c2:Nat) (l ps:List Int) (w:World) (h:Sl w A n c l) (h2:Sl w A2 n2 c2 ps) (hn:n≤1000) (hn2:n2≤1000) :
  Calls Try.prog 68 #[.slice A n c,.slice A2 n2 c2] w (TcpP l ps w):=by
 have hl:=h.len
 by_cases h20:n<20
 ·have e:tcpE l ps=2:=by unfold tcpE; rw [if_pos (by omega)]
  refine (tcpDn.parse_short A A2 n c n2 c2 w h20).mono ?_
  rintro o w' ⟨rfl,hb⟩
  exact ⟨hb,.inl ⟨by omega,by rw [e]⟩⟩
 obtain ⟨b,off,rfl,hb,hs⟩:=lies_of h.row (by omega)
 have k12:=h.u8.get 12
 by_cases hw:l.getD 12 0 / 16*4<20∨(l.length:Int)<l.getD 12 0 / 16*4∨l.getD 12 0 % 16≠0
 ·have e:tcpE l ps=11:=by unfold tcpE; rw [if_neg (by omega),if_pos hw]
  refine (tcpDn.parse_head b off n c n2 c2 A2 l ps w hl (by omega) hn h.nc h.mx hb hs h.u8 h2.len hn2 h2.row h2.u8 (by omega)).mono ?_
  rintro o w' ⟨rfl,hb⟩
  exact ⟨hb,.inl ⟨by omega,by rw [e]⟩⟩
 ·by_cases hS:fo (wsum (ps++l))=65535
  ·have e:tcpE l ps=0:=by unfold tcpE; rw [if_neg (by omega),if_neg hw,if_neg (by omega)]
   obtain ⟨s,hsz⟩:=Int.eq_ofNat_of_zero_le (show 0≤l.getD 12 0 / 16*4 by omega)
   have key:Calls Try.prog 68 #[.slice (some ⟨b,off,none⟩) n c,.slice A2 n2 c2] w (tcpDn.OkPost w l s):=by
    by_cases hcs:c=s
    ·obtain rfl:n=s:=by have:=h.nc; omega
     subst hcs
     exact tcpDn.parse_ok_edge b off c n2 c2 A2 l ps w hl (by omega) hn (by have:=h.mx; omega) hb hs h.u8 h2.len hn2 h2.row h2.u8 (by omega) (by omega) (by omega) hS hsz
    ·exact tcpDn.parse_ok_far b off n c n2 c2 A2 l ps w hl (by omega) hn h.nc h.mx hb hs h.u8 h2.len hn2 h2.row h2.u8 (by omega) (by omega) (by omega) hS s hsz hcs
   refine key.mono ?_
   rintro o w' ⟨AO,co,v,rfl,_,_,_,hb⟩
   exact ⟨hb,.inr ⟨e,_,_,_,_,AO,_,co,v,rfl⟩⟩
  ·have e:tcpE l ps=13:=by unfold tcpE; rw [if_neg (by omega),if_neg hw,if_pos hS]
   refine (tcpDn.parse_sum b off n c n2 c2 A2 l ps w hl (by omega) hn h.nc h.mx hb hs h.u8 h2.len hn2 h2.row h2.u8 (by omega) (by omega) (by omega) hS).mono ?_
   rintro o w' ⟨rfl,hb⟩
   exact ⟨hb,.inl ⟨by omega,by rw [e]⟩⟩
def UdpP (l ps:List Int) (bare:Bool) (w:World) (o:Ending) (w':World):Prop:=Below w.heap.size w w'∧((udpE_ l ps bare≠0∧o=.returned (udpA.errv (udpE_ l ps bare)))∨(udpE_ l ps bare=0∧∃ (b:Bool) (v:Value),o=.returned (.tuple #[.agg #[.int .i64 (udpA.w16 l 0),.int .i64 (udpA.w16 l 2),.bool b],v,.int .i64 0])))
theorem udp_any (A A2:Option Addr) (n c n2 c2:Nat) (l ps:List Int) (bare:Bool) (w:World) (h:Sl w A n c l) (h2:Sl w A2 n2 c2 ps) (hn:n≤1000) (hn2:n2≤1000) :
  Calls Try.prog 69 #[.slice A n c,.slice A2 n2 c2,.bool bare] w (UdpP l ps bare w):=by
 have hl:=h.len
 by_cases h8:n<8
 ·have e:udpE_ l ps bare=2:=by unfold udpE_; rw [if_pos (by omega)]
  refine (udpA.parse_short A A2 n c n2 c2 bare w h8).mono ?_
  rintro o w' ⟨rfl,hb⟩
  exact ⟨hb,.inl ⟨by omega,by rw [e]; rfl⟩⟩
 obtain ⟨b,off,rfl,hb,hs⟩:=lies_of h.row (by omega)
 refine (udpA.parse_any b off n c n2 c2 A2 l ps bare w hl (by omega) hn h.nc h.mx hb hs h.u8 h2.len hn2 h2.row h2.u8).mono ?_
 rintro o w' ⟨p1,p2,p3⟩
 by_cases hn4:udpA.w16 l 4=l.length
 ·by_cases hbd:(udpA.w16 l 6=0∧bare=false)∨(udpA.w16 l 6≠0∧fo (wsum (ps++l))≠65535)
  ·have e:udpE_ l ps bare=13:=by unfold udpE_; rw [if_neg (by omega),if_neg (by omega),if_pos hbd]
   obtain ⟨h1,h2⟩:=p2 hn4 hbd
   exact ⟨h2,.inl ⟨by omega,by rw [e]; exact h1⟩⟩
  ·have e:udpE_ l ps bare=0:=by unfold udpE_; rw [if_neg (by omega),if_neg (by omega),if_neg hbd]
   obtain ⟨v,h1,_,h2⟩:=p3 hn4 hbd
   exact ⟨h2,.inr ⟨e,_,v,h1⟩⟩
 ·have e:udpE_ l ps bare=12:=by unfold udpE_; rw [if_neg (by omega),if_pos hn4]
  obtain ⟨h1,h2⟩:=p1 hn4
  exact ⟨h2,.inl ⟨by omega,by rw [e]; exact h1⟩⟩
def IcmpP (l ps:List Int) (w:World) (o:Ending) (w':World):Prop:=Below w.heap.size w w'∧((icmpE l ps≠0∧o=.returned (.tuple #[.agg #[.int .i64 0,.int .i64 0,.int .u32 0,.slice none 0 0],.int .i64 (icmpE l ps)]))∨(icmpE l ps=0∧∃ (wd:Int) (A:Option Addr) (m c:Nat),o=.returned (.tuple #[.agg #[.int .i64 (l.getD 0 0),.int .i64 (l.getD 1 0),.int .u32 wd,.slice A m c],.int .i64 0])∧Sl w' A m c (l.drop 8)))
theorem icmp_any (A A2:Option Addr) (n c n2 c2:Nat) (l ps:List Int) (w:World) (h:Sl w A n c l) (h2:Sl w A2 n2 c2 ps) (hn:n≤1000) (hn2:n2≤1000) :
  Calls Try.prog 86 #[.slice A n c,.slice A2 n2 c2] w (IcmpP l ps w):=by
 have hl:=h.len
 by_cases h8:n<8
 ·have e:icmpE l ps=2:=by unfold icmpE; rw [if_pos (by omega)]
  refine (icmpC.parse_short A A2 n c n2 c2 w h8).mono ?_
  rintro o w' ⟨rfl,hb⟩
  exact ⟨hb,.inl ⟨by omega,by rw [e]⟩⟩
 obtain ⟨b,off,rfl,hb,hs⟩:=lies_of h.row (by omega)
 by_cases hS:fo (wsum (ps++l))=65535
 ·have e:icmpE l ps=0:=by unfold icmpE; rw [if_neg (by omega),if_neg (by omega)]
  refine (icmpC.parse_ok b off n c n2 c2 A2 l ps w hl (by omega) hn h.nc h.mx hb hs h.u8 h2.len hn2 h2.row h2.u8 hS).mono ?_
  rintro o w' ⟨AO,m,co,hm,rfl,_,ho,hb⟩
  exact ⟨hb,.inr ⟨e,_,AO,m,co,rfl,Sl.own ho (by rw [List.length_drop]; omega) (h.u8.drop 8)⟩⟩
 ·have e:icmpE l ps=13:=by unfold icmpE; rw [if_neg (by omega),if_pos hS]
  refine (icmpC.parse_sum b off n c n2 c2 A2 l ps w hl (by omega) hn hb hs h.u8 h2.len hn2 h2.row h2.u8 hS).mono ?_
  rintro o w' ⟨rfl,hb⟩
  exact ⟨hb,.inl ⟨by omega,by rw [e]⟩⟩
def fourS (l:List Int):Nat:=(fourA.hl l).toNat
def fourR (l:List Int):List Int:=(l.drop (fourS l)).take ((udpA.w16 l 2).toNat - fourS l)
def FourP (l:List Int) (w:World) (o:Ending) (w':World):Prop:=Below w.heap.size w w'∧((fourE l≠0∧o=.returned (fourB.err (fourE l)))∨(fourE l=0∧20≤fourS l∧fourS l≤60∧(fourR l).length≤l.length∧∃ (tos id:Int) (df:Bool) (AO:Option Addr) (co:Nat) (AR:Option Addr) (cr:Nat),o=.returned (.tuple #[.agg #[.int .i64 tos,.int .i64 id,.bool df,.bool (decide (udpA.w16 l 6 / 8192 % 2=1)),.int .i64 (udpA.w16 l 6 % 8192),.int .i64 (l.getD 8 0),.int .i64 (l.getD 9 0),.bool false,.int .u64 0,.int .u64 (tcpC.w32 l 12),.bool false,.int .u64 0,.int .u64 (tcpC.w32 l 16),.slice AO (fourS l - 20) co],.slice AR (fourR l).length cr,.int .i64 0])∧Sl w' AR (fourR l).length cr (fourR l)))
theorem four_begin (A:Option Addr) (n c:Nat) (k:Int) (hk:k≠0) (w:World) (h:∀ W,Below w.heap.size w W→Calls Try.prog 63 #[.slice A n c] W fun e w'=>e=.returned (.tuple #[.int .i64 0,.int .i64 k])∧W=w') :
  Calls Try.prog 44 #[.slice A n c] w fun e w'=>e=.returned (fourB.err k)∧Below w.heap.size w w':=by
 have tk:(k != 0)=true:=bneT hk
 have H:=Lib.hid (h (w.alloc (.cells #[.int .i64 0,.int .i64 0,.bool false,.bool false,.int .i64 0,.int .i64 0,.int .i64 0,.bool false,.int .u64 0,.int .u64 0,.bool false,.int .u64 0,.int .u64 0,.slice none 0 0] 82)) ((Below.refl _ _).alloc (Nat.le_refl _) _))
 clear h hk
 go_enter Try.func44,Try.ntmps44
 go_wp2_with fail
 refine H.out.mono ?_
 rintro e w1 ⟨rfl,hw⟩
 subst hw
 go_wp2_with fail
 exact bodyPost_ret (v:=fourB.err k) (by simp [results,Try.results44,go_sem,fourB.err]) rfl ⟨rfl,(Below.refl _ _).alloc (Nat.le_refl _) _⟩
theorem four_any (A:Option Addr) (n c:Nat) (l:List Int) (w:World) (h:Sl w A n c l) (hn:n≤1000):Calls Try.prog 44 #[.slice A n c] w (FourP l w):=by
 have hl:=h.len
 have bad:∀ k:Int,k≠0→fourE l=k→(Calls Try.prog 44 #[.slice A n c] w fun e w'=>e=.returned (fourB.err k)∧Below w.heap.size w w')→Calls Try.prog 44 #[.slice A n c] w (FourP l w):=fun k hk he hc=>hc.mono fun o w' h=>⟨h.2,.inl ⟨by omega,by rw [he]; exact h.1⟩⟩
 by_cases h20:n<20
 ·exact bad 2 (by omega) (by unfold fourE; rw [if_pos (by omega)]) (fourB.parse_begin A n c 2 (by omega) w (fun W=>fourA.begin_short A n c W h20))
 obtain ⟨b,off,rfl,hb,hs⟩:=lies_of h.row (by omega)
 have BG:∀ k:Int,k≠0→fourE l=k→(∀ W:World,b<W.heap.size→Lies W b off l→Calls Try.prog 63 #[.slice (some ⟨b,off,none⟩) n c] W fun e w'=>e=.returned (.tuple #[.int .i64 0,.int .i64 k])∧W=w')→Calls Try.prog 44 #[.slice (some ⟨b,off,none⟩) n c] w (FourP l w) :=
  fun k hk he h=>bad k hk he (four_begin _ n c k hk w fun W hW=>h W (Nat.lt_of_lt_of_le hb hW.size) (hs.below hW hb))
 have k0:=h.u8.get 0
 by_cases hv:l.getD 0 0 / 16=4
 ·have hsN:0≤fourA.hl l:=by unfold fourA.hl; omega
  have hs60:fourA.hl l≤60:=by unfold fourA.hl; omega
  obtain ⟨s,hsz⟩:=Int.eq_ofNat_of_zero_le hsN
  by_cases h1:s<20
  ·exact BG 11 (by omega) (by unfold fourE; rw [if_neg (by omega),if_neg (by omega),if_pos (by omega)]) fun W a b'=>fourA.begin_no b off n c l W hl (by omega) a b' h.u8 11 (.inr (.inl ⟨hv,by omega,rfl⟩))
  by_cases h2:n<s
  ·exact BG 11 (by omega) (by unfold fourE; rw [if_neg (by omega),if_neg (by omega),if_pos (by omega)]) fun W a b'=>fourA.begin_no b off n c l W hl (by omega) a b' h.u8 11 (.inr (.inr ⟨hv,by omega,by omega,rfl⟩))
  have h6:=udpA.w16_in l h.u8 6
  have h22:=udpA.w16_in l h.u8 2
  by_cases hq:32768≤udpA.w16 l 6
  ·exact bad 11 (by omega) (by unfold fourE; rw [if_neg (by omega),if_neg (by omega),if_neg (by omega),if_pos hq]) (fourB.parse_bit b off n c s l w hl (by omega) hn h.nc h.mx hb hs h.u8 hv (by omega) (by omega) hsz hq)
  by_cases ha:udpA.w16 l 2<s
  ·exact bad 12 (by omega) (by unfold fourE; rw [if_neg (by omega),if_neg (by omega),if_neg (by omega),if_neg hq,if_pos (by omega)]) (fourB.parse_less b off n c s l w hl (by omega) hn h.nc h.mx hb hs h.u8 hv (by omega) (by omega) hsz (by omega) ha)
  by_cases ha2:(n:Int)<udpA.w16 l 2
  ·exact bad 12 (by omega) (by unfold fourE; rw [if_neg (by omega),if_neg (by omega),if_neg (by omega),if_neg hq,if_pos (by omega)]) (fourB.parse_more b off n c s l w hl (by omega) hn h.nc h.mx hb hs h.u8 hv (by omega) (by omega) hsz (by omega) (by omega) ha2)
  obtain ⟨a,haz⟩:=Int.eq_ofNat_of_zero_le h22.1
  have es:fourS l=s:=by unfold fourS; omega
  have et:(fourA.hl l).toNat=s:=es
  by_cases hS:fo (wsum (l.take s))=65535
  ·have e:fourE l=0:=by unfold fourE; rw [if_neg (by omega),if_neg (by omega),if_neg (by omega),if_neg hq,if_neg (by omega),et,if_neg (by omega)]
   have er:fourR l=(l.drop s).take (a - s):=by unfold fourR; rw [es,haz]; rfl
   have key:Calls Try.prog 44 #[.slice (some ⟨b,off,none⟩) n c] w (fourB.OkPost w l ((l.drop s).take (a - s)) s (a - s)):=by
    by_cases hcs:c=s
    ·exact fourB.parse_near b off n c s l w hl (by omega) hn h.nc h.mx hb hs h.u8 hv (by omega) (by omega) hsz (by omega) a haz (by omega) (by omega) hS hcs
    ·exact fourB.parse_far b off n c s l w hl (by omega) hn h.nc h.mx hb hs h.u8 hv (by omega) (by omega) hsz (by omega) a haz (by omega) (by omega) hS hcs
   refine key.mono ?_
   rintro o w' ⟨AO,co,v,h1,h2,h3,h4,h5⟩
   obtain ⟨B,d,rfl⟩:=own_slice h4
   have hln:((l.drop s).take (a - s)).length=a - s:=by rw [List.length_take,List.length_drop]; omega
   refine ⟨h5,.inr ⟨e,by omega,by omega,by rw [er,hln]; omega,l.getD 1 0,udpA.w16 l 4,decide (udpA.w16 l 6 / 16384 % 2=1),AO,co,B,d,?_,?_⟩⟩
   ·rw [er,hln,es]
    exact h1
   ·rw [er,hln]
    exact Sl.own h4 hln ((h.u8.drop s).take (a - s))
  ·exact bad 13 (by omega) (by unfold fourE; rw [if_neg (by omega),if_neg (by omega),if_neg (by omega),if_neg hq,if_neg (by omega),et,if_pos hS]) (fourB.parse_sum b off n c s l w hl (by omega) hn h.nc h.mx hb hs h.u8 hv (by omega) (by omega) hsz (by omega) a haz (by omega) (by omega) hS)
 ·exact BG 10 (by omega) (by unfold fourE; rw [if_neg (by omega),if_pos hv]) fun W a b'=>fourA.begin_no b off n c l W hl (by omega) a b' h.u8 10 (.inl ⟨hv,rfl⟩)
end Go.Proofs.Ytnofddbfogilaaa.pktA
/- Layer 13: what goes into the checks. -/
namespace Go.Proofs.Ytnofddbfogilaaa.pktB
set_option maxHeartbeats 2000000
set_option maxRecDepth 100000
open Go.ChangeShapes Go.WideShapes Go.ChangeAt Go.RowKit
open base octA octB rdrA snK sixW sixM sixE pktA
set_option linter.unusedVariables false
structure PS (w V:World) (v:Value) (k:Nat) (xs:List Int):Prop where
 own:V.ownsRow w.heap.size 5 1 v k (xs.map (.int .u8))
 bel:Below w.heap.size w V
theorem PS.below {w V V':World} {v:Value} {k:Nat} {xs:List Int} (h:PS w V v k xs) (hb:Below V.heap.size V V'):PS w V' v k xs:=⟨own_below2 h.own hb,h.bel.trans (hb.mono h.bel.size)⟩
theorem PS.put {w V:World} {v:Value} {k:Nat} {xs:List Int} (h:PS w V v k xs) (n s:Int) (hk:k≤1000000) (n0:0≤n) (n1:n<18446744073709551616) :
  Calls Try.prog 58 #[v,.int .u64 n,.int .i64 s] V fun o w'=>∃ v',o=.returned v'∧PS w w' v' (k+hs s) (xs++pb n (hs s) (hs s)):=by
 refine (put_t v k (xs.map (.int .u8)) n s w.heap.size w.heap.size w V h.own h.bel.size hk h.bel (Nat.le_refl _) n0 n1).mono ?_
 rintro o w' ⟨v',rfl,h1,h2,h3,h4⟩
 exact ⟨v',rfl,by rw [List.map_append]; exact h1,h2⟩
theorem PS.all {w V:World} {v:Value} {k:Nat} {xs:List Int} (h:PS w V v k xs) (s:Int) (b n c:Nat) (bs:Array Value) (l:List Int) (hk:k+8*n≤1000000) (hl:l.length=n) (hK:Blk V b 22 bs) (hcs:bs.toList=l.map (.int .u64)) (hw:∀ x ∈ l,0≤x∧x<18446744073709551616) :
  Calls Try.prog 57 #[v,.int .i64 s,.slice (some ⟨b,0,none⟩) n c] V fun o w'=>∃ v',o=.returned v'∧PS w w' v' (k+hs s*n) (xs++allb (hs s) l):=by
 refine (all_t b bs v k (xs.map (.int .u8)) s n c l w.heap.size w.heap.size w V h.own h.bel.size hk h.bel (Nat.le_refl _) hl hK hcs hw).mono ?_
 rintro o w' ⟨v',rfl,h1,h2,h3,h4⟩
 exact ⟨v',rfl,by rw [List.map_append]; exact h1,h2⟩
def psd4 (sl dl pr sz:Int):List Int:=allb 4 [sl,dl]++allb 1 [0,pr]++pb sz 2 2
def psd6 (sh sl dh dl pr sz:Int):List Int:=allb 8 [sh,sl,dh,dl]++pb sz 4 4++pb pr 4 4
theorem psd4_len (sl dl pr sz:Int):(psd4 sl dl pr sz).length=12:=by simp [psd4,allb_len,pb_len]
theorem psd6_len (sh sl dh dl pr sz:Int):(psd6 sh sl dh dl pr sz).length=40:=by simp [psd6,allb_len,pb_len]
theorem pb_u8 (n:Int) (k j:Nat):U8 (pb n k j):=fun x hx=>by
 simp only [pb,List.mem_map] at hx
 obtain ⟨t,_,rfl⟩:=hx
 exact byteZ_in n _
theorem allb_u8 (k:Nat):∀ l:List Int,U8 (allb k l)
 | []=>fun x hx=>by simp [allb] at hx
 | n::l=>by
  have e:allb k (n::l)=pb n k k++allb k l:=by simp [allb]
  rw [e]
  exact (pb_u8 n k k).join (allb_u8 k l)
theorem psd4_u8 (sl dl pr sz:Int):U8 (psd4 sl dl pr sz):=((allb_u8 _ _).join (allb_u8 _ _)).join (pb_u8 _ _ _)
theorem psd6_u8 (sh sl dh dl pr sz:Int):U8 (psd6 sh sl dh dl pr sz):=((allb_u8 _ _).join (pb_u8 _ _ _)).join (pb_u8 _ _ _)
def Gives (l:List Int) (w:World) (o:Ending) (w':World):Prop:=Below w.heap.size w w'∧∃ (A:Option Addr) (n c:Nat),o=.returned (.slice A n c)∧Sl w' A n c l∧∀ ad,A=some ad→w.heap.size≤ad.block
theorem own_geo {w:World} {B e:Nat} {ad:Addr} {n c m:Nat} {xs:List Value} (h:w.ownsRow B e 1 (.slice (some ad) n c) m xs):B≤ad.block:=by
 rcases h.2 with ⟨hv,_⟩ | ⟨g,cap,cur,hv,hb,_⟩
 ·injection hv with h1; cases h1
 ·injection hv with h1
  injection h1 with h1
  subst h1
  exact hb
theorem Gives.of {w w':World} {v:Value} {k:Nat} {l:List Int} (h:PS w w' v k l) (hk:l.length=k) (hu:U8 l):Gives l w (.returned v) w':=by
 obtain ⟨A,c,rfl⟩:=own_slice h.own
 exact ⟨h.bel,A,k,c,rfl,Sl.own h.own hk hu,fun ad hA=>by subst hA; exact own_geo h.own⟩
theorem pseudo4_any (s6:Bool) (sh sl:Int) (d6:Bool) (dh dl pr sz:Int) (w:World) (b1:0≤sh∧sh<18446744073709551616) (b2:0≤sl∧sl<18446744073709551616) (b3:0≤dh∧dh<18446744073709551616) (b4:0≤dl∧dl<18446744073709551616) (b5:0≤pr∧pr≤255) (b6:0≤sz∧sz≤100000) :
  Calls Try.prog 75 #[.agg #[.bool s6,.int .u64 sh,.int .u64 sl],.agg #[.bool d6,.int .u64 dh,.int .u64 dl],.int .i64 pr,.int .i64 sz] w (Gives (psd4 sl dl pr sz) w):=by
 obtain ⟨w1,hw1⟩:∃ w1,w1=(w.alloc (.cells #[.bool s6,.int .u64 sh,.int .u64 sl] 24)).alloc (.cells #[.bool d6,.int .u64 dh,.int .u64 dl] 24):=⟨_,rfl⟩
 have E1:=Lib.hid hw1
 have BA:=Lib.hid (show Below w.heap.size w (w.alloc (.cells #[.bool s6,.int .u64 sh,.int .u64 sl] 24)) from (Below.refl _ _).alloc (Nat.le_refl _) _)
 have B1:=Lib.hid (show Below w.heap.size w w1 from by rw [hw1]; exact BA.out.alloc BA.out.size _)
 have K1:=Lib.hid (show Blk w1 w.heap.size 24 #[.bool s6,.int .u64 sh,.int .u64 sl] from by rw [hw1]; exact (Blk.new w _ _).alloc _)
 have K2:=Lib.hid (show Blk w1 (w.heap.size+1) 24 #[.bool d6,.int .u64 dh,.int .u64 dl] from by
  have h9:=Blk.new (w.alloc (.cells #[.bool s6,.int .u64 sh,.int .u64 sl] 24)) 24 #[.bool d6,.int .u64 dh,.int .u64 dl]
  rw [← hw1] at h9
  simpa using h9)
 have wp:IntKind.u64.wrap pr=pr:=by rw [IntKind.wrap_u64]; omega
 have wz:IntKind.u64.wrap sz=sz:=by rw [IntKind.wrap_u64]; omega
 have S0:=Lib.hid (show PS w w1 (.slice none 0 0) 0 [] from ⟨World.ownsRow_nil _ _ _ _,B1.out⟩)
 have s0:=K1.out.cell 0
 have s1:=K1.out.cell 1
 have s2:=K1.out.cell 2
 have d0:=K2.out.cell 0
 have d1:=K2.out.cell 1
 have d2:=K2.out.cell 2
 clear hw1
 have S1:=Lib.hid (S0.out.below ((Below.refl w1.heap.size w1).alloc (Nat.le_refl _) (.cells #[.int .u64 sl,.int .u64 dl] 22)))
 have A1:=Lib.hid (S1.out.all 4 w1.heap.size 2 2 #[.int .u64 sl,.int .u64 dl] [sl,dl] (by omega) rfl (Blk.new w1 22 #[.int .u64 sl,.int .u64 dl]) rfl (fun x hx=>by
  simp only [List.mem_cons,List.not_mem_nil,or_false] at hx
  rcases hx with rfl | rfl
  ·exact b2
  ·exact b4))
 go_enter Try.func75,Try.ntmps75
 go_upto_region 1 with fail
 rw [← E1.out]
 go_wp2_with fail
 refine A1.out.mono ?_
 rintro o w2 ⟨v2,rfl,hs2⟩
 have hs2:PS w w2 v2 8 (allb 4 [sl,dl]):=hs2
 have S2:=Lib.hid (hs2.below ((Below.refl w2.heap.size w2).alloc (Nat.le_refl _) (.cells #[.int .u64 0,.int .u64 pr] 22)))
 have A2:=Lib.hid (S2.out.all 1 w2.heap.size 2 2 #[.int .u64 0,.int .u64 pr] [0,pr] (by omega) rfl (Blk.new w2 22 #[.int .u64 0,.int .u64 pr]) rfl (fun x hx=>by
  simp only [List.mem_cons,List.not_mem_nil,or_false] at hx
  rcases hx with rfl | rfl <;> omega))
 clear hs2 s0 s1 s2 d0 d1 d2
 go_wp2_with fail
 refine A2.out.mono ?_
 rintro o w3 ⟨v3,rfl,hs3⟩
 have hs3:PS w w3 v3 10 (allb 4 [sl,dl]++allb 1 [0,pr]):=hs3
 have P3:=Lib.hid (hs3.put sz 2 (by omega) (by omega) (by omega))
 clear hs3
 go_wp2_with fail
 refine P3.out.mono ?_
 rintro o w4 ⟨v4,rfl,hs4⟩
 have S4:=Lib.hid (show PS w w4 v4 12 (psd4 sl dl pr sz) from hs4)
 clear hs4
 go_wp2_with fail
 go_ret
 exact Gives.of S4.out (psd4_len sl dl pr sz) (psd4_u8 sl dl pr sz)
theorem pseudo6_any (s6:Bool) (sh sl:Int) (d6:Bool) (dh dl pr sz:Int) (w:World) (b1:0≤sh∧sh<18446744073709551616) (b2:0≤sl∧sl<18446744073709551616) (b3:0≤dh∧dh<18446744073709551616) (b4:0≤dl∧dl<18446744073709551616) (b5:0≤pr∧pr≤255) (b6:0≤sz∧sz≤100000) :
  Calls Try.prog 74 #[.agg #[.bool s6,.int .u64 sh,.int .u64 sl],.agg #[.bool d6,.int .u64 dh,.int .u64 dl],.int .i64 pr,.int .i64 sz] w (Gives (psd6 sh sl dh dl pr sz) w):=by
 have ab:bits .and .u64 pr 255=pr:=by
  obtain ⟨n,rfl⟩:=Int.eq_ofNat_of_zero_le b5.1
  have h8:=fourA.u64_and_nat n 255 (by omega) (by omega)
  have h9:=Nat.and_two_pow_sub_one_eq_mod n 8
  rw [show 2 ^ 8 - 1=255 from rfl] at h9
  rw [h9] at h8
  refine h8.trans ?_
  omega
 obtain ⟨w1,hw1⟩:∃ w1,w1=(w.alloc (.cells #[.bool s6,.int .u64 sh,.int .u64 sl] 24)).alloc (.cells #[.bool d6,.int .u64 dh,.int .u64 dl] 24):=⟨_,rfl⟩
 have E1:=Lib.hid hw1
 have BA:=Lib.hid (show Below w.heap.size w (w.alloc (.cells #[.bool s6,.int .u64 sh,.int .u64 sl] 24)) from (Below.refl _ _).alloc (Nat.le_refl _) _)
 have B1:=Lib.hid (show Below w.heap.size w w1 from by rw [hw1]; exact BA.out.alloc BA.out.size _)
 have K1:=Lib.hid (show Blk w1 w.heap.size 24 #[.bool s6,.int .u64 sh,.int .u64 sl] from by rw [hw1]; exact (Blk.new w _ _).alloc _)
 have K2:=Lib.hid (show Blk w1 (w.heap.size+1) 24 #[.bool d6,.int .u64 dh,.int .u64 dl] from by
  have h9:=Blk.new (w.alloc (.cells #[.bool s6,.int .u64 sh,.int .u64 sl] 24)) 24 #[.bool d6,.int .u64 dh,.int .u64 dl]
  rw [← hw1] at h9
  simpa using h9)
 have wp:IntKind.u64.wrap pr=pr:=by rw [IntKind.wrap_u64]; omega
 have wz:IntKind.u64.wrap sz=sz:=by rw [IntKind.wrap_u64]; omega
 have S0:=Lib.hid (show PS w w1 (.slice none 0 0) 0 [] from ⟨World.ownsRow_nil _ _ _ _,B1.out⟩)
 have s0:=K1.out.cell 0
 have s1:=K1.out.cell 1
 have s2:=K1.out.cell 2
 have d0:=K2.out.cell 0
 have d1:=K2.out.cell 1
 have d2:=K2.out.cell 2
 clear hw1
 have S1:=Lib.hid (S0.out.below ((Below.refl w1.heap.size w1).alloc (Nat.le_refl _) (.cells #[.int .u64 sh,.int .u64 sl,.int .u64 dh,.int .u64 dl] 22)))
 have A1:=Lib.hid (S1.out.all 8 w1.heap.size 4 4 #[.int .u64 sh,.int .u64 sl,.int .u64 dh,.int .u64 dl] [sh,sl,dh,dl] (by omega) rfl (Blk.new w1 22 #[.int .u64 sh,.int .u64 sl,.int .u64 dh,.int .u64 dl]) rfl (fun x hx=>by
  simp only [List.mem_cons,List.not_mem_nil,or_false] at hx
  rcases hx with rfl | rfl | rfl | rfl
  ·exact b1
  ·exact b2
  ·exact b3
  ·exact b4))
 go_enter Try.func74,Try.ntmps74
 go_upto_region 1 with fail
 rw [← E1.out]
 go_wp2_with fail
 refine A1.out.mono ?_
 rintro o w2 ⟨v2,rfl,hs2⟩
 have hs2:PS w w2 v2 32 (allb 8 [sh,sl,dh,dl]):=hs2
 have P2:=Lib.hid (hs2.put sz 4 (by omega) (by omega) (by omega))
 clear hs2 s0 s1 s2 d0 d1 d2
 go_wp2_with fail
 refine P2.out.mono ?_
 rintro o w3 ⟨v3,rfl,hs3⟩
 have hs3:PS w w3 v3 36 (allb 8 [sh,sl,dh,dl]++pb sz 4 4):=hs3
 have P3:=Lib.hid (hs3.put pr 4 (by omega) (by omega) (by omega))
 clear hs3
 go_wp2_with fail
 refine P3.out.mono ?_
 rintro o w4 ⟨v4,rfl,hs4⟩
 have S4:=Lib.hid (show PS w w4 v4 40 (psd6 sh sl dh dl pr sz) from hs4)
 clear hs4
 go_wp2_with fail
 go_ret
 exact Gives.of S4.out (psd6_len sh sl dh dl pr sz) (psd6_u8 sh sl dh dl pr sz)
def psd (s6:Bool) (sh sl dh dl pr sz:Int):List Int:=if s6=true then psd6 sh sl dh dl pr sz else if pr=1 then [] else psd4 sl dl pr sz
theorem psd_len (s6:Bool) (sh sl dh dl pr sz:Int):(psd s6 sh sl dh dl pr sz).length≤40:=by
 unfold psd
 split
 ·rw [psd6_len]; omega
 ·split
  ·simp
  ·rw [psd4_len]; omega
theorem psd_any (s6:Bool) (sh sl:Int) (d6:Bool) (dh dl pr sz:Int) (w:World) (b1:0≤sh∧sh<18446744073709551616) (b2:0≤sl∧sl<18446744073709551616) (b3:0≤dh∧dh<18446744073709551616) (b4:0≤dl∧dl<18446744073709551616) (b5:0≤pr∧pr≤255) (b6:0≤sz∧sz≤100000) :
  Calls Try.prog 53 #[.agg #[.bool s6,.int .u64 sh,.int .u64 sl],.agg #[.bool d6,.int .u64 dh,.int .u64 dl],.int .i64 pr,.int .i64 sz] w (Gives (psd s6 sh sl dh dl pr sz) w):=by
 obtain ⟨w1,hw1⟩:∃ w1,w1=(w.alloc (.cells #[.bool s6,.int .u64 sh,.int .u64 sl] 24)).alloc (.cells #[.bool d6,.int .u64 dh,.int .u64 dl] 24):=⟨_,rfl⟩
 have E1:=Lib.hid hw1
 have BA:=Lib.hid (show Below w.heap.size w (w.alloc (.cells #[.bool s6,.int .u64 sh,.int .u64 sl] 24)) from (Below.refl _ _).alloc (Nat.le_refl _) _)
 have B1:=Lib.hid (show Below w.heap.size w w1 from by rw [hw1]; exact BA.out.alloc BA.out.size _)
 have K1:=Lib.hid (show Blk w1 w.heap.size 24 #[.bool s6,.int .u64 sh,.int .u64 sl] from by rw [hw1]; exact (Blk.new w _ _).alloc _)
 have K2:=Lib.hid (show Blk w1 (w.heap.size+1) 24 #[.bool d6,.int .u64 dh,.int .u64 dl] from by
  have h9:=Blk.new (w.alloc (.cells #[.bool s6,.int .u64 sh,.int .u64 sl] 24)) 24 #[.bool d6,.int .u64 dh,.int .u64 dl]
  rw [← hw1] at h9
  simpa using h9)
 have wp:IntKind.u64.wrap pr=pr:=by rw [IntKind.wrap_u64]; omega
 have wz:IntKind.u64.wrap sz=sz:=by rw [IntKind.wrap_u64]; omega
 have S0:=Lib.hid (show PS w w1 (.slice none 0 0) 0 [] from ⟨World.ownsRow_nil _ _ _ _,B1.out⟩)
 have s0:=K1.out.cell 0
 have s1:=K1.out.cell 1
 have s2:=K1.out.cell 2
 have d0:=K2.out.cell 0
 have d1:=K2.out.cell 1
 have d2:=K2.out.cell 2
 clear hw1
 have H4:=Lib.hid (pseudo4_any s6 sh sl d6 dh dl pr sz w1 b1 b2 b3 b4 b5 b6)
 have H6:=Lib.hid (pseudo6_any s6 sh sl d6 dh dl pr sz w1 b1 b2 b3 b4 b5 b6)
 cases s6 with
 | true =>
  go_enter Try.func53,Try.ntmps53
  go_upto_region 1 with fail
  rw [← E1.out]
  go_wp2_with fail
  refine H6.out.mono ?_
  rintro o w2 ⟨hb,A,n,c,rfl,hsl,hge⟩
  have HB:=Lib.hid hb
  have HSL:=Lib.hid hsl
  have HGE:=Lib.hid hge
  clear hb hsl hge
  go_wp2_with fail
  go_ret
  exact ⟨B1.out.trans (HB.out.mono B1.out.size),A,n,c,rfl,HSL.out,fun ad h=>Nat.le_trans B1.out.size (HGE.out ad h)⟩
 | false =>
  by_cases hp:pr=1
  ·have e1:(pr == 1)=true:=by simpa using hp
   have HE:=Lib.hid (show psd false sh sl dh dl pr sz=[] from by unfold psd; rw [if_neg (by decide),if_pos hp])
   clear hp
   go_enter Try.func53,Try.ntmps53
   go_upto_region 1 with fail
   rw [← E1.out]
   go_wp2_with fail
   go_ret
   exact ⟨B1.out,none,0,0,rfl,by rw [HE.out]; exact Sl.none_ w1,fun ad h=>by cases h⟩
  ·have e1:(pr == 1)=false:=by simpa using hp
   have HE:=Lib.hid (show psd false sh sl dh dl pr sz=psd4 sl dl pr sz from by unfold psd; rw [if_neg (by decide),if_neg hp])
   clear hp
   go_enter Try.func53,Try.ntmps53
   go_upto_region 1 with fail
   rw [← E1.out]
   go_wp2_with fail
   refine H4.out.mono ?_
   rintro o w2 ⟨hb,A,n,c,rfl,hsl,hge⟩
   have HB:=Lib.hid hb
   have HSL:=Lib.hid hsl
   have HGE:=Lib.hid hge
   clear hb hsl hge
   go_wp2_with fail
   go_ret
   exact ⟨B1.out.trans (HB.out.mono B1.out.size),A,n,c,rfl,by rw [HE.out]; exact HSL.out,fun ad h=>Nat.le_trans B1.out.size (HGE.out ad h)⟩
end Go.Proofs.Ytnofddbfogilaaa.pktB
