/- 2 texts in one. -/
import Derived.Lib.SmallJoins
import Derived.Deep.Slices
import Derived.Deep.Fields
import Derived.Test.YtnofddbfogilaaaGe01
import Derived.Test.YtnofddbfogilaaaGe31
/- Layer 35: the flows of any plan, one by one. -/
namespace Go.Proofs.Ytnofddbfogilaaa.genL
set_option maxHeartbeats 8000000
set_option maxRecDepth 100000
open Go.ChangeShapes Go.WideShapes Go.ChangeAt Go.RowKit
open base mixB rdrG pktA pktC genW genA genB genC genD genE pktE genG genJ genK
set_option linter.unusedVariables false
set_option linter.unusedSimpArgs false
theorem t_neq (t:Tp) (W:World):(binOp .neq 39 (.agg t.cells) (.agg t.cells)).run Try.prog W=.ok (.bool false) W:=by
  unfold Tp.cells
  go_simp
theorem flows_law (p:Pl) (hin:p.In) (n:Int) (w:World):Calls Try.prog 3 #[.agg p.cells,.int .i64 n] w fun o w'=>o=.returned (.bool true)∧Below w.heap.size w w':=by
  have HAW:=Lib.hid awake_any
  by_cases hp:p.right
  case neg =>
    have HNB:=Lib.hid (fun V=>new_bad p hp hin V)
    clear hp hin
    obtain ⟨key,cl,po,v6,hh,lo,pr,dp,co,nt,mo⟩:=p
    have HNB:=Lib.hid (show ∀ V,Calls Try.prog 6 #[.agg #[.int .u64 key,.int .i64 cl,.int .i64 po,.bool v6,.int .u64 hh,.int .u64 lo,.int .i64 pr,.int .i64 dp,.int .i64 co,.bool nt,.int .i64 mo]] V fun o w'=>o=.returned (.tuple #[.pointer none,.int .i64 1])∧Below V.heap.size V w' from HNB.out)
    have B1:=Lib.hid (al_below w (.cells #[.int .u64 key,.int .i64 cl,.int .i64 po,.bool v6,.int .u64 hh,.int .u64 lo,.int .i64 pr,.int .i64 dp,.int .i64 co,.bool nt,.int .i64 mo] 28))
    show Calls Try.prog 3 #[.agg #[.int .u64 key,.int .i64 cl,.int .i64 po,.bool v6,.int .u64 hh,.int .u64 lo,.int .i64 pr,.int .i64 dp,.int .i64 co,.bool nt,.int .i64 mo],.int .i64 n] w _
    go_enter Try.func3,Try.ntmps3
    go_wp2_with fail
    refine (HNB.out _).mono ?_
    rintro o w2 ⟨rfl,hb2⟩
    have B2:=Lib.hid (B1.out.trans (hb2.mono B1.out.size))
    clear hb2
    go_wp2_with fail
    refine (HAW.out _).mono ?_
    rintro o w9 ⟨rfl,hb9⟩
    go_wp2_with fail
    go_ret
    exact ⟨rfl,B2.out.trans (hb9.mono B2.out.size)⟩
  case pos =>
  have HFS:=Lib.hid (fun V g q a (hV:SM V g q p a (.slice none 0 0))=>flow_src hV hp hin)
  have HFL:=Lib.hid (fun V x a (hV:LM V x p a (.slice none 0 0))=>lflow hV hp)
  have HNG:=Lib.hid (fun V=>new_good p hp hin V)
  clear hp hin
  obtain ⟨key,cl,po,v6,hh,lo,pr,dp,co,nt,mo⟩:=p
  have HNG:=Lib.hid (show ∀ V,Calls Try.prog 6 #[.agg #[.int .u64 key,.int .i64 cl,.int .i64 po,.bool v6,.int .u64 hh,.int .u64 lo,.int .i64 pr,.int .i64 dp,.int .i64 co,.bool nt,.int .i64 mo]] V fun o w'=>∃ g q,o=.returned (.tuple #[.pointer (some ⟨g,0,none⟩),.int .i64 0])∧SM w' g q ⟨key,cl,po,v6,hh,lo,pr,dp,co,nt,mo⟩ key (.slice none 0 0)∧Below V.heap.size V w'∧V.heap.size≤g∧V.heap.size≤q from HNG.out)
  have B1:=Lib.hid (al_below w (.cells #[.int .u64 key,.int .i64 cl,.int .i64 po,.bool v6,.int .u64 hh,.int .u64 lo,.int .i64 pr,.int .i64 dp,.int .i64 co,.bool nt,.int .i64 mo] 28))
  have K1:=Lib.hid (Blk.new w 28 #[.int .u64 key,.int .i64 cl,.int .i64 po,.bool v6,.int .u64 hh,.int .u64 lo,.int .i64 pr,.int .i64 dp,.int .i64 co,.bool nt,.int .i64 mo])
  have NEQ:=Lib.hid t_neq
  show Calls Try.prog 3 #[.agg #[.int .u64 key,.int .i64 cl,.int .i64 po,.bool v6,.int .u64 hh,.int .u64 lo,.int .i64 pr,.int .i64 dp,.int .i64 co,.bool nt,.int .i64 mo],.int .i64 n] w _
  go_enter Try.func3,Try.ntmps3
  go_wp2_with fail
  refine (HNG.out _).mono ?_
  rintro o w2 ⟨g,q,rfl,hs2,hb2,hg2,hq2⟩
  have B2:=Lib.hid (B1.out.trans (hb2.mono B1.out.size))
  have K2:=Lib.hid (K1.out.below hb2 K1.out.lt)
  have S2:=Lib.hid hs2
  have GQ:=Lib.hid (show w.heap.size≤g∧w.heap.size≤q from ⟨Nat.le_trans B1.out.size hg2,Nat.le_trans B1.out.size hq2⟩)
  clear hs2 hb2 hg2 hq2
  have c0:=K2.out.cell 0
  have c1:=K2.out.cell 1
  have c2:=K2.out.cell 2
  have c3:=K2.out.cell 3
  have c4:=K2.out.cell 4
  have c5:=K2.out.cell 5
  have c6:=K2.out.cell 6
  have c7:=K2.out.cell 7
  have c8:=K2.out.cell 8
  have c9:=K2.out.cell 9
  have c10:=K2.out.cell 10
  go_wp2_with fail
  obtain ⟨w3,hw3⟩:∃ w3,w3=w2.alloc (.cells #[.int .u64 key,.int .i64 cl,.int .i64 po,.bool v6,.int .u64 hh,.int .u64 lo,.int .i64 pr,.int .i64 dp,.int .i64 co,.bool nt,.int .i64 mo,.int .u64 key,.slice none 0 0] 37):=⟨_,rfl⟩
  obtain ⟨x,hx⟩:∃ x,x=w2.heap.size:=⟨_,rfl⟩
  rw [← hw3,← hx]
  have D3:=(show Below w2.heap.size w2 w3 from by rw [hw3]; exact al_below _ _)
  have L3:=Lib.hid (show LM w3 x ⟨key,cl,po,v6,hh,lo,pr,dp,co,nt,mo⟩ key (.slice none 0 0) from by rw [hw3,hx]; exact Blk.new w2 _ _)
  have S3:=Lib.hid (S2.out.below D3)
  have B3:=Lib.hid (B2.out.trans (D3.mono B2.out.size))
  have XW:=Lib.hid (show w.heap.size≤x from by rw [hx]; exact B2.out.size)
  clear hw3 hx D3 c0 c1 c2 c3 c4 c5 c6 c7 c8 c9 c10
  go_loopw [8] (fun i wr=>∃ (k:Nat) (a:Int),k≤60∧i=.int .i64 k∧Hid (SM wr g q ⟨key,cl,po,v6,hh,lo,pr,dp,co,nt,mo⟩ a (.slice none 0 0))∧Hid (LM wr x ⟨key,cl,po,v6,hh,lo,pr,dp,co,nt,mo⟩ a (.slice none 0 0))∧Hid (Below w.heap.size w wr)) (fun i _=>60 - (intOf i).toNat)
  case atStart=>exact ⟨0,key,by omega,rfl,S3,L3,B3⟩
  case round =>
  obtain ⟨k,a,hk,rfl,SR,LR,BR⟩:=hrel
  by_cases h1:(k:Int)<n
  case neg =>
    have t1:decide ((k:Int)<n)=false:=decide_eq_false h1
    clear h1
    go_wp2_with fail
    refine (HAW.out _).mono ?_
    rintro o w9 ⟨rfl,hb9⟩
    go_wp2_with fail
    go_ret
    exact ⟨rfl,BR.out.trans (hb9.mono BR.out.size)⟩
  case pos =>
  have t1:decide ((k:Int)<n)=true:=decide_eq_true h1
  by_cases h2:k<60
  case neg =>
    have t2:decide ((k:Int)<60)=false:=decide_eq_false (by omega)
    clear h1 h2
    go_wp2_with fail
    refine (HAW.out _).mono ?_
    rintro o w9 ⟨rfl,hb9⟩
    go_wp2_with fail
    go_ret
    exact ⟨rfl,BR.out.trans (hb9.mono BR.out.size)⟩
  case pos =>
  have t2:decide ((k:Int)<60)=true:=decide_eq_true (by omega)
  have HK:=Lib.hid h2
  have ku:IntKind.i64.wrap ((k:Int)+1)=((k+1:Nat):Int):=by rw [IntWalk.i64_in _ (by omega)]; omega
  clear h1 h2
  obtain ⟨FA,hFA⟩:∃ FA,FA=(gFlow ⟨key,cl,po,v6,hh,lo,pr,dp,co,nt,mo⟩ a).cells:=⟨_,rfl⟩
  have FS:=Lib.hid (show ∀ V,SM V g q ⟨key,cl,po,v6,hh,lo,pr,dp,co,nt,mo⟩ a (.slice none 0 0)→Calls Try.prog 8 #[.pointer (some ⟨g,0,none⟩)] V fun o w'=>o=.returned (.agg FA)∧SM w' g q ⟨key,cl,po,v6,hh,lo,pr,dp,co,nt,mo⟩ (gAt a 2) (.slice none 0 0)∧OnQ q V w' from fun V hV=>by rw [hFA]; exact HFS.out V g q a hV)
  have FL:=Lib.hid (show ∀ V,LM V x ⟨key,cl,po,v6,hh,lo,pr,dp,co,nt,mo⟩ a (.slice none 0 0)→Calls Try.prog 9 #[.pointer (some ⟨x,0,none⟩)] V fun o w'=>o=.returned (.agg FA)∧LM w' x ⟨key,cl,po,v6,hh,lo,pr,dp,co,nt,mo⟩ (gAt a 2) (.slice none 0 0)∧OnQ x V w' from fun V hV=>by rw [hFA]; exact HFL.out V x a hV)
  have NQ:∀ W,(binOp .neq 39 (.agg FA) (.agg FA)).run Try.prog W=.ok (.bool false) W:=fun W=>by rw [hFA]; exact NEQ.out _ W
  clear hFA
  go_wp2_with fail
  refine (FS.out _ SR.out).mono ?_
  rintro o w4 ⟨rfl,hs4,ho4⟩
  have S4:=Lib.hid hs4
  have L4:=Lib.hid (show LM w4 x ⟨key,cl,po,v6,hh,lo,pr,dp,co,nt,mo⟩ a (.slice none 0 0) from ho4.blk LR.out (blk_ne LR.out SR.out.gen (by decide)))
  have B4:=Lib.hid (BR.out.trans (ho4.below GQ.out.2 BR.out.size))
  clear hs4 ho4
  go_wp2_with fail
  refine (FL.out _ L4.out).mono ?_
  rintro o w5 ⟨rfl,hs5,ho5⟩
  have L5:=Lib.hid hs5
  have S5:=Lib.hid (show SM w5 g q ⟨key,cl,po,v6,hh,lo,pr,dp,co,nt,mo⟩ (gAt a 2) (.slice none 0 0) from ⟨ho5.blk S4.out.src (blk_ne S4.out.src L4.out (by decide)),ho5.blk S4.out.gen (blk_ne S4.out.gen L4.out (by decide))⟩)
  have B5:=Lib.hid (B4.out.trans (ho5.below XW.out B4.out.size))
  clear hs5 ho5
  go_wp2_with fail
  go_roundw
  case rel=>exact ⟨k+1,_,HK.out,by simp,S5,L5,B5⟩
  case measure=>have:=HK.out; simp [intOf]; omega
end Go.Proofs.Ytnofddbfogilaaa.genL
/- Arguments opened. -/
namespace Go.Proofs.Ytnofddbfogilaaa.base
open Go.RowKit Go.WideShapes Go.ChangeShapes Go.Joins Go.Deep
set_option linter.unusedVariables false
section
variable {H:Type} {enc:TypeId × Value→H} {P:Program} {w:World} {b0 base:Nat} {spare:Nat→Bool} {held:Bool}
theorem open_i64 {r:Reach} {t:TypeId} {v:Value} {d:DataW H} {p:List MemPlace} (he:P.underlying t=some (.int .i64)) (hv:Value.okWide P w r b0 t v) (h:DataW.Trod enc P w base spare held t v d p) :
    ∃ x:Int,v=.int .i64 x∧-9223372036854775808≤x∧x<9223372036854775808:=by
  obtain ⟨x,rfl,rfl,rfl,wx⟩:=open_int he hv h
  have hx:=bounds_i64 wx
  exact ⟨x,rfl,hx.1,by omega⟩
end
end Go.Proofs.Ytnofddbfogilaaa.base
