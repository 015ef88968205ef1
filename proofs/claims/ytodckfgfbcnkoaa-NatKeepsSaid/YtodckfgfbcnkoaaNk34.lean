/- 2 texts in one. -/
import Derived.Lib.SmallJoins
import Derived.Deep.Slices
import Derived.Deep.Fields
import Derived.Test.YtodckfgfbcnkoaaNk01
import Derived.Test.YtodckfgfbcnkoaaNk33
set_option linter.unusedVariables false
set_option linter.unusedSimpArgs false
open Go.ChangeShapes Go.WideShapes Go.ChangeAt Go.RowKit
/- Layer 15: what is not turned stays as it was (the whole law). -/
namespace Go.Proofs.Ytodckfgfbcnkoaa.natM
open base octA rdrA rdrG sixW sixM pktA pktB pktC pktE sixE sixF pktG  tunW natZ natA pktL natE pktS pktCut pktS natK natL pktCut
theorem turn_some (B:List Int) (hn:B.length≤1000) (P:Pk) (hP:pkP B=(P,0)) (her:P.er=false) (hsz:P.sz=(B.length:Int)) (hS:(P.v6=false→fourS B=20)∧(P.v6=true→∃ q r,sixP B=.inr ([],q,r))) (s:Int) (t6:Bool) (th tl port:Int) (k1:0≤th∧th<18446744073709551616) (k2:0≤tl∧tl<18446744073709551616) :
  ∃ (f:Int) (X:List Int),(∀ V A2 n2 c2,Sl V A2 n2 c2 B→Calls Try.prog 22 #[.slice A2 n2 c2,.int .i64 s,.agg #[.bool t6,.int .u64 th,.int .u64 tl],.int .i64 port] V (MkP f X V)) ∧
   (f=0→X.length=B.length∧(s=0∨s=1)∧∀ i:Nat,i<B.length→((i:Int)<(if P.v6=true then 8 else 12)+(if s=1 then (if P.v6=true then 16 else 4) else 0)∨(if P.v6=true then 8 else 12)+(if s=1 then (if P.v6=true then 16 else 4) else 0)+(if P.v6=true then 16 else 4)≤(i:Int))→((i:Int)≠(if P.v6=true then 40 else 20)+2*s∧(i:Int)≠(if P.v6=true then 40 else 20)+2*s+1)→((i:Int)≠(if P.v6=true then 40 else 20)+(if P.t.pr=6 then 16 else 6)∧(i:Int)≠(if P.v6=true then 40 else 20)+(if P.t.pr=6 then 16 else 6)+1)→(P.v6=false→i≠10∧i≠11)→X.getD i 0=B.getD i 0):=by
 by_cases hu:U8 B
 case neg=>exact ⟨1,[],fun V A2 n2 c2 h=>absurd h.u8 hu,fun e=>by cases e⟩
 by_cases hG:(s≠0∧s≠1)∨port<0∨65535<port
 ·refine ⟨1,[],fun V A2 n2 c2 h2=>turn_bad B hn s th tl port t6 k2.1 1 (by decide) ?_ A2 n2 c2 V h2,fun e=>by cases e⟩
  rw [hP,if_neg (fun h=>h rfl),if_pos]
  rcases hG with h | h | h
  ·exact .inl h
  ·exact .inr (.inl h)
  ·exact .inr (.inr (.inl h))
 by_cases hR:t6≠P.v6∨okAd t6 th tl=false
 ·refine ⟨18,[],fun V A2 n2 c2 h2=>turn_bad B hn s th tl port t6 k2.1 18 (by decide) ?_ A2 n2 c2 V h2,fun e=>by cases e⟩
  rw [hP,if_neg (fun h=>h rfl),if_neg,if_pos hR]
  rintro (h | h | h | h)
  ·exact hG (.inl h)
  ·exact hG (.inr (.inl h))
  ·exact hG (.inr (.inr h))
  ·rw [her] at h; cases h
 have hv:t6=P.v6:=Classical.byContradiction fun h=>hR (.inl h)
 have hok:okAd P.v6 th tl=true:=by
  cases h:okAd P.v6 th tl with
  | true=>rfl
  | false=>exact absurd (.inr (by rw [hv]; exact h)) hR
 have hs:s=0∨s=1:=by omega
 obtain ⟨q,rfl⟩:∃ q:Nat,s=(q:Int):=⟨s.toNat,by omega⟩
 obtain ⟨X,hXp,hXl,hXu,hXle,hXn,hT⟩:=turn_good B hu hn P hP her q (by omega) th tl port k1.1 k1.2 k2.1 k2.2 (by omega) (by omega) hok
 refine ⟨0,X,fun V A2 n2 c2 h2=>by rw [hv]; exact hT A2 n2 c2 V h2,fun _=>⟨by omega,hs,fun i hi q1 q2 q3 q4=>?_⟩⟩
 refine keep_any B P hS q th tl port X hXn (if P.v6=true then 40 else 20) rfl i (by omega) ?_ ?_ ?_ q4
 ·unfold plc
  rcases hs with h | h
  ·obtain rfl:q=0:=by omega
   cases hp:P.v6 <;> simp [hp] at q1 ⊢ <;> omega
  ·obtain rfl:q=1:=by omega
   cases hp:P.v6 <;> simp [hp] at q1 ⊢ <;> omega
 ·cases hp:P.v6 <;> simp [hp] at q2 ⊢ <;> omega
 ·cases hp:P.v6 <;> by_cases h6:P.t.pr=6 <;> simp [hp,h6] at q3 ⊢ <;> omega
theorem keeps_law (pr:Int) (s6:Bool) (sh sl:Int) (d6:Bool) (dh dl sp dp:Int) (flags:Int) (s:Int) (t6:Bool) (th tl port:Int) (b1:0≤sh∧sh<18446744073709551616) (b2:0≤sl∧sl<18446744073709551616) (b3:0≤dh∧dh<18446744073709551616) (b4:0≤dl∧dl<18446744073709551616) (k1:0≤th∧th<18446744073709551616) (k2:0≤tl∧tl<18446744073709551616) (A:Option Addr) (n0 c:Nat) (l0:List Int) (w:World) (hl0:l0.length=n0) (hr0:Row w w.heap.size A (l0.map (.int .u8))) (hu0:U8 l0) (hnc0:n0≤c) (hc:c≤9223372036854775807) (hnil:A=none→c=0) :
  Calls Try.prog 7 #[.agg #[.int .i64 pr,.bool s6,.int .u64 sh,.int .u64 sl,.bool d6,.int .u64 dh,.int .u64 dl,.int .i64 sp,.int .i64 dp],.int .i64 flags,.slice A n0 c,.int .i64 s,.agg #[.bool t6,.int .u64 th,.int .u64 tl],.int .i64 port] w fun o w'=>o=.returned (.bool true)∧Below w.heap.size w w':=by
 have HC:=Lib.hid fun W=>cut_any A n0 c W (fun h=>by
  obtain ⟨b,off,hA,_,_⟩:=lies_of hr0 (by omega)
  exact ⟨b,off,hA⟩) hnc0 hc
 obtain ⟨n,hn⟩:∃ n,n=min n0 500:=⟨_,rfl⟩
 obtain ⟨pl,hll⟩:∃ pl,pl=l0.take n:=⟨_,rfl⟩
 have hl:pl.length=n:=by rw [hll,List.length_take]; omega
 have hu:U8 pl:=by rw [hll]; exact hu0.take n
 have hr:Row w w.heap.size A (pl.map (.int .u8)):=by
  have:=hr0.take n
  rw [← List.map_take,← hll] at this
  exact this
 have hsl:Sl w A n c pl:=⟨hl,hr,by omega,hc,hnil,hu⟩
 rw [← hn] at HC
 by_cases hM:Made pr s6 sh sl d6 dh dl sp dp 64 flags 6
 case pos =>
  obtain ⟨B,hBl,_,hS4,hP,hD⟩:=segm_madeS pr s6 sh sl d6 dh dl sp dp 64 flags pl (by omega) hu b1 b2 b3 b4 hM
  obtain ⟨f,X,hT,hK⟩:=turn_some B (by rw [hBl]; split <;> omega) _ hP rfl rfl hS4 s t6 th tl port k1 k2
  refine law_all pr s6 sh sl d6 dh dl sp dp t6 th tl port flags s A n0 n c w 0 0 f B B X (.inl ⟨rfl,rfl,rfl⟩) HC (Lib.hid fun V hV=>hD A n c V (hsl.below hV)) (Lib.hid fun _=>hT) (Lib.hid fun _ hf=>?_)
  obtain ⟨m1,m2,m3⟩:=hK hf
  refine ⟨⟨m1,by rw [hBl]; split <;> omega,m2,.inl hM.1⟩,fun i hi q1 q2 q3 q4=>m3 i hi q1 q2 ?_ q4⟩
  have hpr:pr=6:=hM.1
  rw [hpr] at q3
  show ((i:Int)≠_+(if pr=6 then 16 else 6)∧(i:Int)≠_+(if pr=6 then 16 else 6)+1)
  rw [hpr]
  exact q3
 case neg =>
 have hSG:=fun V (hV:Below w.heap.size w V)=>segm_bad pr s6 sh sl d6 dh dl sp dp 64 flags A n c pl V (hsl.below hV) (by omega) b1 b2 b3 b4 hM
 clear hM
 by_cases hM:Made pr s6 sh sl d6 dh dl sp dp 64 0 17
 case pos =>
  obtain ⟨B,hBl,_,hS4,hP,hD⟩:=dgram_madeS pr s6 sh sl d6 dh dl sp dp 64 0 pl (by omega) hu b1 b2 b3 b4 hM
  obtain ⟨f,X,hT,hK⟩:=turn_some B (by rw [hBl]; split <;> omega) _ hP rfl rfl hS4 s t6 th tl port k1 k2
  refine law_all pr s6 sh sl d6 dh dl sp dp t6 th tl port flags s A n0 n c w 1 0 f [] B X (.inr ⟨by decide,fun V hV=>hD A n c V (hsl.below hV)⟩) HC (Lib.hid hSG) (Lib.hid fun _=>hT) (Lib.hid fun _ hf=>?_)
  obtain ⟨m1,m2,m3⟩:=hK hf
  refine ⟨⟨m1,by rw [hBl]; split <;> omega,m2,.inr hM.1⟩,fun i hi q1 q2 q3 q4=>m3 i hi q1 q2 ?_ q4⟩
  have hpr:pr=17:=hM.1
  rw [hpr] at q3
  show ((i:Int)≠_+(if pr=6 then 16 else 6)∧(i:Int)≠_+(if pr=6 then 16 else 6)+1)
  rw [hpr]
  exact q3
 case neg =>
  exact law_all pr s6 sh sl d6 dh dl sp dp t6 th tl port flags s A n0 n c w 1 1 1 [] [] [] (.inr ⟨by decide,fun V hV=>dgram_bad pr s6 sh sl d6 dh dl sp dp 64 0 A n c pl V (hsl.below hV) (by omega) b1 b2 b3 b4 hM⟩) HC (Lib.hid hSG) (Lib.hid fun e=>by cases e) (Lib.hid fun e=>by cases e)
end Go.Proofs.Ytodckfgfbcnkoaa.natM
/- Arguments opened. -/
namespace Go.Proofs.Ytodckfgfbcnkoaa.base
open Go.RowKit Go.WideShapes Go.ChangeShapes Go.Joins Go.Deep
section
variable {H:Type} {enc:TypeId × Value→H} {P:Program} {w:World} {b0 base:Nat} {spare:Nat→Bool} {held:Bool}
theorem open_i64 {r:Reach} {t:TypeId} {v:Value} {d:DataW H} {p:List MemPlace} (he:P.underlying t=some (.int .i64)) (hv:Value.okWide P w r b0 t v) (h:DataW.Trod enc P w base spare held t v d p) :
  ∃ x:Int,v=.int .i64 x∧-9223372036854775808≤x∧x<9223372036854775808:=by
 obtain ⟨x,rfl,rfl,rfl,wx⟩:=open_int he hv h
 have hx:=bounds_i64 wx
 exact ⟨x,rfl,hx.1,by omega⟩
end
end Go.Proofs.Ytodckfgfbcnkoaa.base
