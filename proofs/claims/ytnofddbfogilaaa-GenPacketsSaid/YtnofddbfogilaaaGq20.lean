/- 1 texts in one. -/
import Derived.Deep.RegionHeld3
import Derived.Deep.WholeRow
import Derived.Test.YtnofddbfogilaaaGq19
/- Layer 13: with, parse4. -/
namespace Go.Proofs.Ytnofddbfogilaaa.pktE
open Go.ChangeShapes Go.WideShapes Go.ChangeAt Go.RowKit
open base octA rdrA rdrG sixM pktA pktB pktC pktD
set_option linter.unusedVariables false
structure Pk where
 v6:Bool
 t:Tp
 ttl:Int
 fl:Int
 er:Bool
 ab:Tp
 sz:Int
def Pk.cells (P:Pk):Array Value:=#[.bool P.v6,.int .i64 P.t.pr,.bool P.t.s6,.int .u64 P.t.sh,.int .u64 P.t.sl,.bool P.t.d6,.int .u64 P.t.dh,.int .u64 P.t.dl,.int .i64 P.t.sp,.int .i64 P.t.dp,.int .i64 P.ttl,.int .i64 P.fl,.bool P.er,.int .i64 P.ab.pr,.bool P.ab.s6,.int .u64 P.ab.sh,.int .u64 P.ab.sl,.bool P.ab.d6,.int .u64 P.ab.dh,.int .u64 P.ab.dl,.int .i64 P.ab.sp,.int .i64 P.ab.dp,.int .i64 P.sz]
def zeroPk:Pk:=⟨false,zeroT,0,0,false,zeroT,0⟩
def withP (v6:Bool) (t:Tp) (ttl sz:Int) (l:List Int):Pk × Int :=
 if t.pr=6 then (if tcpE l (psd t.s6 t.sh t.sl t.dh t.dl t.pr l.length)≠0 then (zeroPk,tcpE l (psd t.s6 t.sh t.sl t.dh t.dl t.pr l.length)) else (⟨v6,⟨t.pr,t.s6,t.sh,t.sl,t.d6,t.dh,t.dl,udpA.w16 l 0,udpA.w16 l 2⟩,ttl,l.getD 13 0,false,zeroT,sz⟩,0))
 else if t.pr=17 then (if udpE_ l (psd t.s6 t.sh t.sl t.dh t.dl t.pr l.length) (!v6)≠0 then (zeroPk,udpE_ l (psd t.s6 t.sh t.sl t.dh t.dl t.pr l.length) (!v6)) else (⟨v6,⟨t.pr,t.s6,t.sh,t.sl,t.d6,t.dh,t.dl,udpA.w16 l 0,udpA.w16 l 2⟩,ttl,0,false,zeroT,sz⟩,0))
 else if (t.pr=1∧v6=false)∨(t.pr=58∧v6=true) then (if (abt v6 l (psd t.s6 t.sh t.sl t.dh t.dl t.pr l.length)).2≠0 then (zeroPk,(abt v6 l (psd t.s6 t.sh t.sl t.dh t.dl t.pr l.length)).2) else (⟨v6,⟨t.pr,t.s6,t.sh,t.sl,t.d6,t.dh,t.dl,0,0⟩,ttl,0,true,(abt v6 l (psd t.s6 t.sh t.sl t.dh t.dl t.pr l.length)).1,sz⟩,0))
 else (zeroPk,14)
theorem with_any (v6:Bool) (pr:Int) (s6:Bool) (sh sl:Int) (d6:Bool) (dh dl ttl sz:Int) (A:Option Addr) (n c:Nat) (l:List Int) (w:World) (h:Sl w A n c l) (hn:n≤1000) (b1:0≤sh∧sh<18446744073709551616) (b2:0≤sl∧sl<18446744073709551616) (b3:0≤dh∧dh<18446744073709551616) (b4:0≤dl∧dl<18446744073709551616) (b5:0≤pr∧pr≤255) :
  Calls Try.prog 46 #[.agg #[.bool v6,.int .i64 pr,.bool s6,.int .u64 sh,.int .u64 sl,.bool d6,.int .u64 dh,.int .u64 dl,.int .i64 0,.int .i64 0,.int .i64 ttl,.int .i64 0,.bool false,.int .i64 0,.bool false,.int .u64 0,.int .u64 0,.bool false,.int .u64 0,.int .u64 0,.int .i64 0,.int .i64 0,.int .i64 sz],.slice A n c] w fun o w'=>o=.returned (.tuple #[.agg (withP v6 ⟨pr,s6,sh,sl,d6,dh,dl,0,0⟩ ttl sz l).1.cells,.int .i64 (withP v6 ⟨pr,s6,sh,sl,d6,dh,dl,0,0⟩ ttl sz l).2])∧Below w.heap.size w w':=by
 have hl:=h.len
 obtain ⟨ps,hps⟩:∃ ps,ps=psd s6 sh sl dh dl pr l.length:=⟨_,rfl⟩
 have hp40:ps.length≤1000:=by rw [hps]; have:=psd_len s6 sh sl dh dl pr l.length; omega
 have HPS:=Lib.hid (show ∀ V,Below w.heap.size w V→Calls Try.prog 53 #[.agg #[.bool s6,.int .u64 sh,.int .u64 sl],.agg #[.bool d6,.int .u64 dh,.int .u64 dl],.int .i64 pr,.int .i64 n] V (Gives ps V) from fun V _=>by
  rw [hps,hl]
  exact psd_any s6 sh sl d6 dh dl pr n V b1 b2 b3 b4 b5 (by omega))
 unfold withP
 simp only
 rw [← hps]
 by_cases h6:pr=6
 ·rw [if_pos h6]
  subst h6
  by_cases he:tcpE l ps=0
  ·rw [if_neg (by omega)]
   refine with_tcp_ok v6 _ _ _ s6 sh sl d6 dh dl ttl sz A n c ps w HPS (Lib.hid fun V A2 n2 c2 hV hs=>(tcp_any A A2 n c n2 c2 l ps V (h.below hV) hs hn (by have:=hs.len; omega)).mono fun o w' k=>?_)
   obtain ⟨hb,k⟩:=k
   rcases k with ⟨k1,_⟩ | ⟨_,sq,ak,wn,ur,AO,m,co,v,k2⟩
   ·exact absurd he k1
   ·exact ⟨hb,sq,ak,wn,ur,AO,m,co,v,k2⟩
  ·rw [if_pos he]
   refine with_tcp_no v6 0 0 0 _ he s6 sh sl d6 dh dl ttl sz A n c ps w HPS (Lib.hid fun V A2 n2 c2 hV hs=>(tcp_any A A2 n c n2 c2 l ps V (h.below hV) hs hn (by have:=hs.len; omega)).mono fun o w' k=>?_)
   obtain ⟨hb,k⟩:=k
   rcases k with ⟨k1,k2⟩ | ⟨k1,_⟩
   ·exact ⟨hb,0,0,0,0,none,0,0,_,k2⟩
   ·exact absurd k1 he
 ·rw [if_neg h6]
  by_cases h17:pr=17
  ·rw [if_pos h17]
   subst h17
   by_cases he:udpE_ l ps (!v6)=0
   ·rw [if_neg (by omega)]
    refine with_udp_ok v6 _ _ s6 sh sl d6 dh dl ttl sz A n c ps w HPS (Lib.hid fun V A2 n2 c2 hV hs=>(udp_any A A2 n c n2 c2 l ps (!v6) V (h.below hV) hs hn (by have:=hs.len; omega)).mono fun o w' k=>?_)
    obtain ⟨hb,k⟩:=k
    rcases k with ⟨k1,_⟩ | ⟨_,bb,v,k2⟩
    ·exact absurd he k1
    ·exact ⟨hb,bb,v,k2⟩
   ·rw [if_pos he]
    refine with_udp_no v6 0 0 _ he s6 sh sl d6 dh dl ttl sz A n c ps w HPS (Lib.hid fun V A2 n2 c2 hV hs=>(udp_any A A2 n c n2 c2 l ps (!v6) V (h.below hV) hs hn (by have:=hs.len; omega)).mono fun o w' k=>?_)
    obtain ⟨hb,k⟩:=k
    rcases k with ⟨k1,k2⟩ | ⟨k1,_⟩
    ·exact ⟨hb,false,_,k2⟩
    ·exact absurd k1 he
  ·rw [if_neg h17]
   by_cases hI:(pr=1∧v6=false)∨(pr=58∧v6=true)
   ·rw [if_pos hI]
    have HT:=fun V A2 n2 c2 (hV:Below w.heap.size w V) (hs:Sl V A2 n2 c2 ps)=>about_any v6 A A2 n c n2 c2 l ps V (h.below hV) hs hn (by have:=hs.len; omega)
    generalize abt v6 l ps=z at HT ⊢
    obtain ⟨⟨apr,as6,ash,asl,ad6,adh,adl,asp,adp⟩,e⟩:=z
    simp only at HT ⊢
    by_cases he:e=0
    ·rw [if_neg (by omega)]
     rcases hI with ⟨rfl,rfl⟩ | ⟨rfl,rfl⟩
     ·refine with_icmp4_ok apr as6 ash asl ad6 adh adl asp adp s6 sh sl d6 dh dl ttl sz A n c ps w HPS (Lib.hid fun V A2 n2 c2 hV hs=>?_)
      have h9:=HT V A2 n2 c2 hV hs
      rw [he] at h9
      exact h9
     ·refine with_icmp6_ok apr as6 ash asl ad6 adh adl asp adp s6 sh sl d6 dh dl ttl sz A n c ps w HPS (Lib.hid fun V A2 n2 c2 hV hs=>?_)
      have h9:=HT V A2 n2 c2 hV hs
      rw [he] at h9
      exact h9
    ·rw [if_pos he]
     rcases hI with ⟨rfl,rfl⟩ | ⟨rfl,rfl⟩
     ·exact with_icmp4_no apr as6 ash asl ad6 adh adl asp adp e he s6 sh sl d6 dh dl ttl sz A n c ps w HPS (Lib.hid HT)
     ·exact with_icmp6_no apr as6 ash asl ad6 adh adl asp adp e he s6 sh sl d6 dh dl ttl sz A n c ps w HPS (Lib.hid HT)
   ·rw [if_neg hI]
    exact with_none_no v6 pr h6 h17 (fun e=>hI (.inl e)) (fun e=>hI (.inr e)) s6 sh sl d6 dh dl ttl sz A n c ps w HPS
theorem len4_any (tos id:Int) (df mf:Bool) (fr ttl pr sl dl:Int) (AO:Option Addr) (no co:Nat) (w:World) (hn:no≤1000) :
  Calls Try.prog 45 #[.agg #[.int .i64 tos,.int .i64 id,.bool df,.bool mf,.int .i64 fr,.int .i64 ttl,.int .i64 pr,.bool false,.int .u64 0,.int .u64 sl,.bool false,.int .u64 0,.int .u64 dl,.slice AO no co]] w fun e w'=>e=.returned (.int .i64 (20+(no:Int)))∧Below w.heap.size w w':=by
 go_enter Try.func45,Try.ntmps45
 go_wp2
 go_ret
 exact ⟨rfl,(Below.refl _ _).alloc (Nat.le_refl _) _⟩
end Go.Proofs.Ytnofddbfogilaaa.pktE
