/- 2 texts in one. -/
import Derived.Laws.AppendOwn
import Derived.Deep.RegionHeld3
import Derived.Deep.DeepCutAuto
import Derived.Test.YtodckfgfbcnkoaaNu19
import Derived.Test.YtodckfgfbcnkoaaNu22
/- Layer 15: an address's words, a side, a place, how long headers are. -/
namespace Go.Proofs.Ytodckfgfbcnkoaa.natB
set_option maxHeartbeats 4000000
set_option maxRecDepth 100000
open Go.ChangeShapes Go.WideShapes Go.ChangeAt Go.RowKit
open base octA rdrA rdrG sumB sixM pktA pktB pktC pktE sixE  tunB natW natZ sumE natA
set_option linter.unusedVariables false
set_option linter.unusedSimpArgs false
theorem step_append_own {P:Program} {w:World} {ops:Array Oper} {o:Oper} {a:Act} {K:Act→World→Prop} {Q:Exit→Act→World→Prop} {E:Prop} (hgd:o.guard=none) (s x:Operand) (t:TypeId)
    (ho:o.op=.call { callee:=.builtin .append,args:=#[s,x],argTypes:=#[t,t] })
    (base:Nat) (e:TypeId) (i:TypeInfo) (z:Value) (size bytes:Nat) (ht:P.underlying t=some (.slice e)) (hi:P.info? e=some i) (hz:i.zero=some z)
    (hsize:i.size=size) (hby:i.bytes=bytes) (hzs:z.cells.size=size) (hsz:0<size)
    (v:Value) (n:Nat) (xs:List Value) (hs:a.eval s=v) (hown:w.ownsRow base e size v n xs)
    (ad:Addr) (m c:Nat) (news:List Value) (hx:a.eval x=.slice (some ad) m c) (hl:news.length=m*size) (hnews:∀ j u,news[j]?=some u→w.cell? (ad.add j)=some u) (h1:∀ u ∈ news,u.oneCell'=true)
    (h63:n+m≤maxLen) (hbytes:(n+m)*bytes≤140737488355328) (hbase:base≤w.heap.size)
    (h:∀ v' w',w'.ownsRow base e size v' (n+m) (xs++news)→w.grownBy w' v.ownBlock→(v'=.slice none 0 0 ↔ v=.slice none 0 0∧m=0)→K (a.put o.dst v') w') :
    if Region.wanted o (yielded ops a.tmps)=true then Oper.wp P o a w K Q else E:=by
  have hw:Region.wanted o (yielded ops a.tmps)=true:=by simp [Region.wanted,hgd]
  rw [if_pos hw]
  exact wp_append_own w s x t ho base e i z size bytes ht hi hz hsize hby hzs hsz v n xs hs hown ad m c news hx hl hnews h1 h63 hbytes hbase h
theorem words4 (h l:Int) (w:World) (l0:0≤l∧l<18446744073709551616) :
    Calls Try.prog 51 #[.agg #[.bool false,.int .u64 h,.int .u64 l]] w fun o w'=>∃ v,o=.returned v∧w'.ownsRow w.heap.size 97 1 v 2 ((aw false h l).map (.int .u16))∧Below w.heap.size w w':=by
  obtain ⟨w1,hw1⟩:∃ w1,w1=w.alloc (.cells #[.bool false,.int .u64 h,.int .u64 l] 32):=⟨_,rfl⟩
  obtain ⟨g,hg⟩:∃ g,g=w.heap.size:=⟨_,rfl⟩
  have E1:=Lib.hid hw1
  have EG:=Lib.hid hg
  have B1:=Lib.hid (show Below w.heap.size w w1 from by rw [hw1]; exact (Below.refl _ _).alloc (Nat.le_refl _) _)
  have K1:=Lib.hid (show Blk w1 g 32 #[.bool false,.int .u64 h,.int .u64 l] from by rw [hw1,hg]; exact Blk.new w _ _)
  have x0:=K1.out.cell 0
  have x1:=K1.out.cell 1
  have x2:=K1.out.cell 2
  have HSP:=Lib.hid (split_any l 2 l0.1 l0.2 w1)
  clear hw1 hg
  go_enter Try.func51,Try.ntmps51
  go_upto_region 1 with fail
  rw [← E1.out,← EG.out]
  go_wp2_with fail
  refine HSP.out.mono ?_
  rintro o w2 ⟨v,rfl,ho,hb⟩
  obtain ⟨A,c,rfl⟩:=own_slice ho
  have HO:=Lib.hid (own_base ho B1.out.size)
  have B2:=Lib.hid (B1.out.trans (hb.mono B1.out.size))
  clear ho hb
  go_wp2_with fail
  go_ret
  exact ⟨_,rfl,HO.out,B2.out⟩
theorem words6 (h l:Int) (w:World) (h0:0≤h∧h<18446744073709551616) (l0:0≤l∧l<18446744073709551616) :
    Calls Try.prog 51 #[.agg #[.bool true,.int .u64 h,.int .u64 l]] w fun o w'=>∃ v,o=.returned v∧w'.ownsRow w.heap.size 97 1 v 8 ((aw true h l).map (.int .u16))∧Below w.heap.size w w':=by
  obtain ⟨w1,hw1⟩:∃ w1,w1=w.alloc (.cells #[.bool true,.int .u64 h,.int .u64 l] 32):=⟨_,rfl⟩
  obtain ⟨g,hg⟩:∃ g,g=w.heap.size:=⟨_,rfl⟩
  have E1:=Lib.hid hw1
  have EG:=Lib.hid hg
  have B1:=Lib.hid (show Below w.heap.size w w1 from by rw [hw1]; exact (Below.refl _ _).alloc (Nat.le_refl _) _)
  have K1:=Lib.hid (show Blk w1 g 32 #[.bool true,.int .u64 h,.int .u64 l] from by rw [hw1,hg]; exact Blk.new w _ _)
  have x0:=K1.out.cell 0
  have HSF:=Lib.hid (show ∀ V,Below w1.heap.size w1 V→(V.cell? ⟨g,1,none⟩=some (.int .u64 h)∧V.cell? ⟨g,2,none⟩=some (.int .u64 l)) from fun V hV=>⟨(K1.out.below hV K1.out.lt).cell 1,(K1.out.below hV K1.out.lt).cell 2⟩)
  have HS0:=Lib.hid (HSF.out w1.drew (Below.refl _ _).drew)
  have HSP:=Lib.hid (split_any h 4 h0.1 h0.2 w1.drew)
  have HSQ:=Lib.hid (fun V=>split_any l 4 l0.1 l0.2 V)
  obtain ⟨i0,hi0,hz0,hz1,hz2⟩:=info_parts sumE.info_u16
  have HI0:=Lib.hid hi0
  have HZ0:=Lib.hid hz0
  have HZ1:=Lib.hid hz1
  have HZ2:=Lib.hid hz2
  have ONW:=Lib.hid (show ∀ u ∈ (words l 4 4).map (Value.int .u16),u.oneCell'=true from fun u hu=>by
    rw [List.mem_map] at hu
    obtain ⟨x,_,rfl⟩:=hu
    rfl)
  clear hw1 hg h0 l0 hi0 hz0 hz1 hz2
  go_enter Try.func51,Try.ntmps51
  go_upto_region 1 with fail
  rw [← E1.out,← EG.out]
  go_upto_region 2 with fail
  clear x0
  go_region_held3 (fun V=>V.cell? ⟨g,1,none⟩=some (.int .u64 h)∧V.cell? ⟨g,2,none⟩=some (.int .u64 l)) (first | with_reducible assumption | with_reducible exact HS0.out | with_reducible exact HS4.out | with_reducible exact HS3.out | with_reducible exact HS2.out) (first
    | (go_at_call 57; (with_reducible refine HSP.out.mono ?_); rintro o w2 ⟨v2,rfl,ho2,hb2⟩; obtain ⟨A2,c2,rfl⟩:=own_slice ho2; have B2:=Lib.hid ((Below.refl w1.heap.size w1).drew.trans (hb2.mono (Nat.le_refl _))); have O2:=Lib.hid (show w2.ownsRow w1.heap.size 97 1 (.slice A2 4 c2) 4 ((words h 4 4).map (.int .u16)) from ho2); have HS2:=Lib.hid (HSF.out w2 B2.out); clear ho2 hb2)
    | (go_at_call 57; (with_reducible refine (HSQ.out _).mono ?_); rintro o w3 ⟨v3,rfl,ho3,hb3⟩; obtain ⟨A3,c3,rfl⟩:=own_slice ho3; have B3:=Lib.hid (B2.out.trans (hb3.mono B2.out.size)); have HS3:=Lib.hid (HSF.out w3 B3.out); have O3:=Lib.hid (own_below2 O2.out hb3); obtain ⟨b3,of3,rfl,_,hc3⟩:=(own_row (show w3.ownsRow w2.heap.size 97 1 (.slice A3 4 c3) 4 ((words l 4 4).map (.int .u16)) from ho3)).at_ (fun h=>by cases h); have HC3:=Lib.hid (show ∀ j u,((words l 4 4).map (Value.int .u16))[j]?=some u→w3.cell? ((⟨b3,of3,none⟩:Addr).add j)=some u from fun j u hu=>by rw [Addr.add_lit]; exact hc3 j u hu); clear ho3 hb3 hc3)
    | (refine step_append_own rfl (.tmp 7) (.tmp 10) 82 rfl w1.heap.size 97 i0 _ 1 2 Try.underlying82 HI0.out HZ0.out HZ1.out HZ2.out rfl (by omega) (.slice A2 4 c2) 4 _ rfl O3.out ⟨b3,of3,none⟩ 4 c3 ((words l 4 4).map (.int .u16)) rfl rfl HC3.out ONW.out (by unfold maxLen; omega) (by omega) B3.out.size ?_; intro v4 w4 ho4 hg4 hx4; have O4:=Lib.hid ho4; have B4:=Lib.hid (below_grown B3.out O3.out (Nat.le_refl _) B3.out.size hg4); have HS4:=Lib.hid (HSF.out w4 B4.out); clear ho4 hg4 hx4))
  go_wp2_with fail
  go_ret
  exact ⟨_,rfl,own_base (show w4.ownsRow w1.heap.size 97 1 v4 8 ((aw true h l).map (.int .u16)) from O4.out) B1.out.size,B1.out.trans (B4.out.mono B1.out.size)⟩
theorem words_go (v6:Bool) (h l:Int) (w:World) (h0:0≤h∧h<18446744073709551616) (l0:0≤l∧l<18446744073709551616) :
    Calls Try.prog 51 #[.agg #[.bool v6,.int .u64 h,.int .u64 l]] w fun o w'=>∃ v,o=.returned v∧w'.ownsRow w.heap.size 97 1 v (aw v6 h l).length ((aw v6 h l).map (.int .u16))∧Below w.heap.size w w':=by
  cases v6 with
  | true=>exact words6 h l w h0 l0
  | false=>exact words4 h l w l0
theorem place_go (v6:Bool) (s:Nat) (w:World) (hs:s≤1):Calls Try.prog 53 #[.bool v6,.int .i64 s] w fun o w'=>o=.returned (.int .i64 (plc v6 s:Nat))∧w=w':=by
  have hs2:s=0∨s=1:=by omega
  cases v6 with
  | true =>
    rcases hs2 with rfl | rfl
    · go_enter Try.func53,Try.ntmps53
      go_wp2
      go_ret
      exact ⟨rfl,rfl⟩
    · go_enter Try.func53,Try.ntmps53
      go_wp2
      go_ret
      exact ⟨rfl,rfl⟩
  | false =>
    rcases hs2 with rfl | rfl
    · go_enter Try.func53,Try.ntmps53
      go_wp2
      go_ret
      exact ⟨rfl,rfl⟩
    · go_enter Try.func53,Try.ntmps53
      go_wp2
      go_ret
      exact ⟨rfl,rfl⟩
theorem results_side {fn:Func} {p u:Tmp} (h:fn.results=#[.cell p 32,.tmp u]) (tmps:Array Value) (w:World) (g:Nat) (cs:Array Value) (hp:tmps.getD p undef=.pointer (some ⟨g,0,none⟩)) (hg:Blk w g 32 cs) (hs:cs.size=3) :
    (results fn tmps).run Try.prog w=.ok (.tuple #[.agg cs,tmps.getD u undef]) w:=by
  rw [results_cell_tmp h,hp]
  simp only [asAddr,Sem.run_pure,Result.andThen_ok]
  rw [run_loadVar_row w g 32 32 cs (0,0) _ hg Try.underlying32 rfl (by rw [hs]; kernel_rfl)]
  rfl
theorem side_0 (pr:Int) (s6:Bool) (sh sl:Int) (d6:Bool) (dh dl sp dp:Int) (w:World) :
    Calls Try.prog 50 #[.agg #[.int .i64 pr,.bool s6,.int .u64 sh,.int .u64 sl,.bool d6,.int .u64 dh,.int .u64 dl,.int .i64 sp,.int .i64 dp],.int .i64 0] w fun o w'=>o=.returned (.tuple #[.agg #[.bool s6,.int .u64 sh,.int .u64 sl],.int .i64 sp])∧Below w.heap.size w w':=by
  obtain ⟨w0,hw0⟩:∃ w0,w0=w.alloc (.cells #[.int .i64 pr,.bool s6,.int .u64 sh,.int .u64 sl,.bool d6,.int .u64 dh,.int .u64 dl,.int .i64 sp,.int .i64 dp] 34):=⟨_,rfl⟩
  obtain ⟨w1,hw1⟩:∃ w1,w1=w0.alloc (.cells #[.bool false,.int .u64 0,.int .u64 0] 32):=⟨_,rfl⟩
  obtain ⟨g,hg⟩:∃ g,g=w.heap.size:=⟨_,rfl⟩
  obtain ⟨q,hq⟩:∃ q,q=g+1:=⟨_,rfl⟩
  have E0:=Lib.hid hw0
  have E1:=Lib.hid hw1
  have EG:=Lib.hid hg
  have EQ:=Lib.hid hq
  have B0:=Lib.hid (show Below w.heap.size w w0 from by rw [hw0]; exact (Below.refl _ _).alloc (Nat.le_refl _) _)
  have B01:=Lib.hid (show Below w0.heap.size w0 w1 from by rw [hw1]; exact (Below.refl _ _).alloc (Nat.le_refl _) _)
  have B1:=Lib.hid (B0.out.trans (B01.out.mono B0.out.size))
  have K0:=Lib.hid (show Blk w0 g 34 #[.int .i64 pr,.bool s6,.int .u64 sh,.int .u64 sl,.bool d6,.int .u64 dh,.int .u64 dl,.int .i64 sp,.int .i64 dp] from by rw [hw0,hg]; exact Blk.new w _ _)
  have KG:=Lib.hid (K0.out.below B01.out K0.out.lt)
  have KQ:=Lib.hid (show Blk w1 q 32 #[.bool false,.int .u64 0,.int .u64 0] from by
    have e9:q=w0.heap.size:=by rw [hq,hg,hw0]; simp
    rw [hw1,e9]; exact Blk.new w0 _ _)
  have NE:=Lib.hid (show g≠q from by omega)
  clear hw0 hw1 hg hq
  have HSF:=Lib.hid (show ∀ V,Blk V g 34 #[.int .i64 pr,.bool s6,.int .u64 sh,.int .u64 sl,.bool d6,.int .u64 dh,.int .u64 dl,.int .i64 sp,.int .i64 dp]→(V.cell? ⟨g,1,none⟩=some (.bool s6)∧V.cell? ⟨g,2,none⟩=some (.int .u64 sh)∧V.cell? ⟨g,3,none⟩=some (.int .u64 sl)∧V.cell? ⟨g,7,none⟩=some (.int .i64 sp)) from fun V h=>⟨h.cell 1,h.cell 2,h.cell 3,h.cell 7⟩)
  have HS0:=Lib.hid (HSF.out w1.drew KG.out)
  have KGa:=Lib.hid (afar w1 q g (.bool s6) (.int .u64 sh) (.int .u64 sl) _ _ NE.out KG.out)
  have HSa:=Lib.hid (HSF.out (((w1.setCell ⟨q,0,none⟩ (.bool s6)).setCell ⟨q,1,none⟩ (.int .u64 sh)).setCell ⟨q,2,none⟩ (.int .u64 sl)).drew KGa.out)
  have KQa:=Lib.hid (astore w1 q (.bool s6) (.int .u64 sh) (.int .u64 sl) _ _ _ KQ.out)
  have OQ:=Lib.hid ((aonly w1 q (.bool s6) (.int .u64 sh) (.int .u64 sl)).from B1.out (by have:=EG.out; have:=EQ.out; omega))
  have y0:=KQ.out.cell 0
  have f0:=KQ.out.frozen 0
  have y1:=KQ.out.cell 1
  have f1:=KQ.out.frozen 1
  have y2:=KQ.out.cell 2
  have f2:=KQ.out.frozen 2
  go_enter Try.func50,Try.ntmps50
  go_upto_region 1 with fail
  rw [← E0.out,← EG.out,← EQ.out,← E1.out]
  go_upto_region 2 with fail
  go_region_held3 (fun V=>V.cell? ⟨g,1,none⟩=some (.bool s6)∧V.cell? ⟨g,2,none⟩=some (.int .u64 sh)∧V.cell? ⟨g,3,none⟩=some (.int .u64 sl)∧V.cell? ⟨g,7,none⟩=some (.int .i64 sp)) (first | with_reducible assumption | with_reducible exact HS0.out | with_reducible exact HSa.out) (first | fail)
  go_wp2_with fail
  refine bodyPost_ret (results_side rfl _ _ q #[.bool s6,.int .u64 sh,.int .u64 sl] rfl (show Blk (((w1.setCell ⟨q,0,none⟩ (.bool s6)).setCell ⟨q,1,none⟩ (.int .u64 sh)).setCell ⟨q,2,none⟩ (.int .u64 sl)).drew q 32 #[.bool s6,.int .u64 sh,.int .u64 sl] from KQa.out) rfl) rfl ?_
  exact ⟨rfl,OQ.out.drew⟩
theorem side_1 (pr:Int) (s6:Bool) (sh sl:Int) (d6:Bool) (dh dl sp dp:Int) (w:World) :
    Calls Try.prog 50 #[.agg #[.int .i64 pr,.bool s6,.int .u64 sh,.int .u64 sl,.bool d6,.int .u64 dh,.int .u64 dl,.int .i64 sp,.int .i64 dp],.int .i64 1] w fun o w'=>o=.returned (.tuple #[.agg #[.bool d6,.int .u64 dh,.int .u64 dl],.int .i64 dp])∧Below w.heap.size w w':=by
  obtain ⟨w0,hw0⟩:∃ w0,w0=w.alloc (.cells #[.int .i64 pr,.bool s6,.int .u64 sh,.int .u64 sl,.bool d6,.int .u64 dh,.int .u64 dl,.int .i64 sp,.int .i64 dp] 34):=⟨_,rfl⟩
  obtain ⟨w1,hw1⟩:∃ w1,w1=w0.alloc (.cells #[.bool false,.int .u64 0,.int .u64 0] 32):=⟨_,rfl⟩
  obtain ⟨g,hg⟩:∃ g,g=w.heap.size:=⟨_,rfl⟩
  obtain ⟨q,hq⟩:∃ q,q=g+1:=⟨_,rfl⟩
  have E0:=Lib.hid hw0
  have E1:=Lib.hid hw1
  have EG:=Lib.hid hg
  have EQ:=Lib.hid hq
  have B0:=Lib.hid (show Below w.heap.size w w0 from by rw [hw0]; exact (Below.refl _ _).alloc (Nat.le_refl _) _)
  have B01:=Lib.hid (show Below w0.heap.size w0 w1 from by rw [hw1]; exact (Below.refl _ _).alloc (Nat.le_refl _) _)
  have B1:=Lib.hid (B0.out.trans (B01.out.mono B0.out.size))
  have K0:=Lib.hid (show Blk w0 g 34 #[.int .i64 pr,.bool s6,.int .u64 sh,.int .u64 sl,.bool d6,.int .u64 dh,.int .u64 dl,.int .i64 sp,.int .i64 dp] from by rw [hw0,hg]; exact Blk.new w _ _)
  have KG:=Lib.hid (K0.out.below B01.out K0.out.lt)
  have KQ:=Lib.hid (show Blk w1 q 32 #[.bool false,.int .u64 0,.int .u64 0] from by
    have e9:q=w0.heap.size:=by rw [hq,hg,hw0]; simp
    rw [hw1,e9]; exact Blk.new w0 _ _)
  have NE:=Lib.hid (show g≠q from by omega)
  clear hw0 hw1 hg hq
  have HSF:=Lib.hid (show ∀ V,Blk V g 34 #[.int .i64 pr,.bool s6,.int .u64 sh,.int .u64 sl,.bool d6,.int .u64 dh,.int .u64 dl,.int .i64 sp,.int .i64 dp]→(V.cell? ⟨g,4,none⟩=some (.bool d6)∧V.cell? ⟨g,5,none⟩=some (.int .u64 dh)∧V.cell? ⟨g,6,none⟩=some (.int .u64 dl)∧V.cell? ⟨g,8,none⟩=some (.int .i64 dp)) from fun V h=>⟨h.cell 4,h.cell 5,h.cell 6,h.cell 8⟩)
  have HS0:=Lib.hid (HSF.out w1.drew KG.out)
  have KGa:=Lib.hid (afar w1 q g (.bool d6) (.int .u64 dh) (.int .u64 dl) _ _ NE.out KG.out)
  have HSa:=Lib.hid (HSF.out (((w1.setCell ⟨q,0,none⟩ (.bool d6)).setCell ⟨q,1,none⟩ (.int .u64 dh)).setCell ⟨q,2,none⟩ (.int .u64 dl)).drew KGa.out)
  have KQa:=Lib.hid (astore w1 q (.bool d6) (.int .u64 dh) (.int .u64 dl) _ _ _ KQ.out)
  have OQ:=Lib.hid ((aonly w1 q (.bool d6) (.int .u64 dh) (.int .u64 dl)).from B1.out (by have:=EG.out; have:=EQ.out; omega))
  have y0:=KQ.out.cell 0
  have f0:=KQ.out.frozen 0
  have y1:=KQ.out.cell 1
  have f1:=KQ.out.frozen 1
  have y2:=KQ.out.cell 2
  have f2:=KQ.out.frozen 2
  go_enter Try.func50,Try.ntmps50
  go_upto_region 1 with fail
  rw [← E0.out,← EG.out,← EQ.out,← E1.out]
  go_upto_region 3 with fail
  go_region_held3 (fun V=>V.cell? ⟨g,4,none⟩=some (.bool d6)∧V.cell? ⟨g,5,none⟩=some (.int .u64 dh)∧V.cell? ⟨g,6,none⟩=some (.int .u64 dl)∧V.cell? ⟨g,8,none⟩=some (.int .i64 dp)) (first | with_reducible assumption | with_reducible exact HS0.out | with_reducible exact HSa.out) (first | fail)
  go_wp2_with fail
  refine bodyPost_ret (results_side rfl _ _ q #[.bool d6,.int .u64 dh,.int .u64 dl] rfl (show Blk (((w1.setCell ⟨q,0,none⟩ (.bool d6)).setCell ⟨q,1,none⟩ (.int .u64 dh)).setCell ⟨q,2,none⟩ (.int .u64 dl)).drew q 32 #[.bool d6,.int .u64 dh,.int .u64 dl] from KQa.out) rfl) rfl ?_
  exact ⟨rfl,OQ.out.drew⟩
theorem head_4 (b off n c:Nat) (x:Int) (mf:Bool) (fr ttl pr sl dl:Int) (no:Nat) (hno:no≤1000) (r:List Int) (hx:x / 16≠6) (w:World) (j0:0<n) (hb:b<w.heap.size) (hy:w.cell? ⟨b,off,none⟩=some (.int .u8 x)) (x0:0≤x∧x≤255)
    (HC:Hid (∀ V,Below w.heap.size w V→Calls Try.prog 21 #[.slice (some ⟨b,off,none⟩) n c] V fun o w'=>Below V.heap.size V w'∧∃ (tos id:Int) (df:Bool) (AO:Option Addr) (co:Nat) (AR:Option Addr) (cr:Nat),o=.returned (.tuple #[.agg #[.int .i64 tos,.int .i64 id,.bool df,.bool mf,.int .i64 fr,.int .i64 ttl,.int .i64 pr,.bool false,.int .u64 0,.int .u64 sl,.bool false,.int .u64 0,.int .u64 dl,.slice AO no co],.slice AR r.length cr,.int .i64 0])∧Sl w' AR r.length cr r)) :
    Calls Try.prog 52 #[.slice (some ⟨b,off,none⟩) n c] w fun o w'=>o=.returned (.int .i64 (20+(no:Int)))∧Below w.heap.size w w':=by
  obtain ⟨m,hm0⟩:∃ m,m=r.length:=⟨_,rfl⟩
  rw [← hm0] at HC
  clear hm0
  have t6:(x / 16 == 6)=false:=by simpa using hx
  have j1:(0:Int)<n:=by omega
  have HLN:=Lib.hid (fun (tos id:Int) (df:Bool) (AO:Option Addr) (co:Nat) (V:World)=>len4_any tos id df mf fr ttl pr sl dl AO no co V hno)
  clear hno
  clear hx
  go_enter Try.func52,Try.ntmps52
  go_wp2_with fail
  refine (HC.out _ (Below.refl _ _)).mono ?_
  rintro o w2 ⟨hb2,tos,id,df,AO,co,AR,cr,rfl,hsl⟩
  obtain ⟨w3,hw3⟩:∃ w3,w3=w2.alloc (.cells #[.int .i64 tos,.int .i64 id,.bool df,.bool mf,.int .i64 fr,.int .i64 ttl,.int .i64 pr,.bool false,.int .u64 0,.int .u64 sl,.bool false,.int .u64 0,.int .u64 dl,.slice AO no co] 53):=⟨_,rfl⟩
  obtain ⟨h,hh⟩:∃ h,h=w2.heap.size:=⟨_,rfl⟩
  have EH:=Lib.hid hh
  have E3:=Lib.hid hw3
  have B23:=Lib.hid (show Below w2.heap.size w2 w3 from by rw [hw3]; exact (Below.refl _ _).alloc (Nat.le_refl _) _)
  have KH3:=Lib.hid (show Blk w3 h 53 #[.int .i64 tos,.int .i64 id,.bool df,.bool mf,.int .i64 fr,.int .i64 ttl,.int .i64 pr,.bool false,.int .u64 0,.int .u64 sl,.bool false,.int .u64 0,.int .u64 dl,.slice AO no co] from by rw [hw3,hh]; exact Blk.new w2 _ _)
  have B3:=Lib.hid (hb2.trans (B23.out.mono hb2.size))
  clear hw3 hb2 hh hsl hy hb
  go_upto_region 5 with fail
  rw [← E3.out,← EH.out]
  have k0:=KH3.out.cell 0
  have k1:=KH3.out.cell 1
  have k2:=KH3.out.cell 2
  have k3:=KH3.out.cell 3
  have k4:=KH3.out.cell 4
  have k5:=KH3.out.cell 5
  have k6:=KH3.out.cell 6
  have k7:=KH3.out.cell 7
  have k8:=KH3.out.cell 8
  have k9:=KH3.out.cell 9
  have k10:=KH3.out.cell 10
  have k11:=KH3.out.cell 11
  have k12:=KH3.out.cell 12
  have k13:=KH3.out.cell 13
  go_wp2_with fail
  refine (HLN.out _ _ _ _ _ _).mono ?_
  rintro o w5 ⟨rfl,hb5⟩
  go_wp2_with fail
  go_ret
  exact ⟨rfl,B3.out.trans (hb5.mono B3.out.size)⟩
theorem head_6 (b off n c:Nat) (x:Int) (ttl pr:Int) (s6:Bool) (sh sl:Int) (d6:Bool) (dh dl:Int) (L:Int) (r:List Int) (hx:x / 16=6) (w:World) (j0:0<n) (hb:b<w.heap.size) (hy:w.cell? ⟨b,off,none⟩=some (.int .u8 x)) (x0:0≤x∧x≤255)
    (HC:Hid (∀ V,Below w.heap.size w V→Calls Try.prog 19 #[.slice (some ⟨b,off,none⟩) n c] V fun o w'=>Below V.heap.size V w'∧∃ (cls lab:Int) (AO:Option Addr) (no co:Nat) (AR:Option Addr) (cr:Nat),o=.returned (.tuple #[.agg #[.int .i64 cls,.int .i64 lab,.int .i64 ttl,.bool s6,.int .u64 sh,.int .u64 sl,.bool d6,.int .u64 dh,.int .u64 dl,.slice AO no co,.int .i64 pr],.slice AR r.length cr,.int .i64 0])∧Sl w' AR r.length cr r∧(∀ V2,Below w'.heap.size w' V2→Calls Try.prog 33 #[.agg #[.int .i64 cls,.int .i64 lab,.int .i64 ttl,.bool s6,.int .u64 sh,.int .u64 sl,.bool d6,.int .u64 dh,.int .u64 dl,.slice AO no co,.int .i64 pr]] V2 fun o w'=>o=.returned (.int .i64 L)∧Below V2.heap.size V2 w'))) :
    Calls Try.prog 52 #[.slice (some ⟨b,off,none⟩) n c] w fun o w'=>o=.returned (.int .i64 (L))∧Below w.heap.size w w':=by
  obtain ⟨m,hm0⟩:∃ m,m=r.length:=⟨_,rfl⟩
  rw [← hm0] at HC
  clear hm0
  have t6:(x / 16 == 6)=true:=by simpa using hx
  have j1:(0:Int)<n:=by omega
  clear hx
  go_enter Try.func52,Try.ntmps52
  go_wp2_with fail
  refine (HC.out _ (Below.refl _ _)).mono ?_
  rintro o w2 ⟨hb2,cls,lab,AO,no,co,AR,cr,rfl,hsl,hln⟩
  obtain ⟨w3,hw3⟩:∃ w3,w3=w2.alloc (.cells #[.int .i64 cls,.int .i64 lab,.int .i64 ttl,.bool s6,.int .u64 sh,.int .u64 sl,.bool d6,.int .u64 dh,.int .u64 dl,.slice AO no co,.int .i64 pr] 48):=⟨_,rfl⟩
  obtain ⟨h,hh⟩:∃ h,h=w2.heap.size:=⟨_,rfl⟩
  have EH:=Lib.hid hh
  have E3:=Lib.hid hw3
  have B23:=Lib.hid (show Below w2.heap.size w2 w3 from by rw [hw3]; exact (Below.refl _ _).alloc (Nat.le_refl _) _)
  have KH3:=Lib.hid (show Blk w3 h 48 #[.int .i64 cls,.int .i64 lab,.int .i64 ttl,.bool s6,.int .u64 sh,.int .u64 sl,.bool d6,.int .u64 dh,.int .u64 dl,.slice AO no co,.int .i64 pr] from by rw [hw3,hh]; exact Blk.new w2 _ _)
  have B3:=Lib.hid (hb2.trans (B23.out.mono hb2.size))
  have HLN:=Lib.hid (hln w3 B23.out)
  clear hw3 hb2 hh hsl hln hy hb
  go_upto_region 3 with fail
  rw [← E3.out,← EH.out]
  have k0:=KH3.out.cell 0
  have k1:=KH3.out.cell 1
  have k2:=KH3.out.cell 2
  have k3:=KH3.out.cell 3
  have k4:=KH3.out.cell 4
  have k5:=KH3.out.cell 5
  have k6:=KH3.out.cell 6
  have k7:=KH3.out.cell 7
  have k8:=KH3.out.cell 8
  have k9:=KH3.out.cell 9
  have k10:=KH3.out.cell 10
  go_wp2_with fail
  refine HLN.out.mono ?_
  rintro o w5 ⟨rfl,hb5⟩
  go_wp2_with fail
  go_ret
  exact ⟨rfl,B3.out.trans (hb5.mono B3.out.size)⟩
end Go.Proofs.Ytodckfgfbcnkoaa.natB
/- Layer 15: a packet with another side. -/
namespace Go.Proofs.Ytodckfgfbcnkoaa.natC
set_option maxHeartbeats 4000000
set_option maxRecDepth 100000
open Go.ChangeShapes Go.WideShapes Go.ChangeAt Go.RowKit
open base octA rdrA rdrG sixM pktA pktB pktC pktD pktE sixE  natW sumE natA pktL
set_option linter.unusedVariables false
set_option linter.unusedSimpArgs false
theorem own_type {w:World} {B:Nat} {v:Value} {n:Nat} {xs:List Value} {g:Nat} {cs:Array Value} (h:w.ownsRow B 97 1 v n xs) (hg:Blk w g 5 cs):∀ k,v.ownBlock=some k→k≠g:=by
  intro k hk e
  rcases h.2 with ⟨rfl,_⟩ | ⟨q,cap,cur,rfl,_,hq,_⟩
  · cases hk
  · have:q=k:=by injection hk
    subst this
    subst e
    rw [show w.heap[q]?=some (.cells cs 5 (0,0)) from hg] at hq
    injection hq with hq
    injection hq with _ h2
    revert h2
    decide
theorem own_E {w w':World} {B:Nat} {v:Value} {n:Nat} {xs:List Value} {g:Nat} {cs:Array Value} (h:w.ownsRow B 97 1 v n xs) (hg:Blk w g 5 cs) (o:OnE g w w'):w'.ownsRow B 97 1 v n xs:=by
  have ht:=own_type h hg
  refine ⟨h.1,?_⟩
  rcases h.2 with e | ⟨q,cap,cur,rfl,hb,hq,rest⟩
  · exact .inl e
  · have hlt:q<w.heap.size:=by
      rcases Nat.lt_or_ge q w.heap.size with k | k
      · exact k
      · rw [Array.getElem?_eq_none k] at hq
        cases hq
    exact .inr ⟨q,cap,cur,rfl,hb,(o.els q hlt (ht q rfl)).trans hq,rest⟩
theorem Wd_own {w:World} {B:Nat} {A:Option Addr} {n c:Nat} {l:List Int} {g:Nat} {cs:Array Value} (h:w.ownsRow B 97 1 (.slice A n c) n (l.map (.int .u16))) (hl:l.length=n) (hw:W16 l) (hg:Blk w g 5 cs):Wd w g A n c l:=by
  refine ⟨hl,own_row h,hw,fun b off hA=>?_⟩
  subst hA
  exact own_type h hg b rfl
theorem OnE_grown {w w':World} {B:Nat} {v:Value} {n:Nat} {xs:List Value} {g:Nat} {cs:Array Value} (h:w.ownsRow B 97 1 v n xs) (hg:Blk w g 5 cs) (hk:w.grownBy w' v.ownBlock):Blk w' g 5 cs:=hg.grown hk (by
  intro e
  exact own_type h hg g e.symm rfl)
theorem words1 (n:Int) (h0:0≤n) (h9:n≤65535):words n 1 1=[n]:=by
  show [n / 1 % 65536]=[n]
  simp only [List.cons.injEq,and_true]
  omega
theorem turn_E (A:Option Addr) (n c:Nat) (s:Int) (t6:Bool) (th tl port:Int) (v6:Bool) (pr:Int) (s6:Bool) (sh sl:Int) (d6:Bool) (dh dl sp dp ttl fl:Int) (er:Bool) (apr:Int) (as6:Bool) (ash asl:Int) (ad6:Bool) (adh adl asp adp sz:Int) (e:Int) (he:e≠0) (w:World)
    (HP:Hid (∀ V,Below w.heap.size w V→Calls Try.prog 14 #[.slice A n c] V fun o w'=>o=.returned (.tuple #[.agg #[.bool v6,.int .i64 pr,.bool s6,.int .u64 sh,.int .u64 sl,.bool d6,.int .u64 dh,.int .u64 dl,.int .i64 sp,.int .i64 dp,.int .i64 ttl,.int .i64 fl,.bool er,.int .i64 apr,.bool as6,.int .u64 ash,.int .u64 asl,.bool ad6,.int .u64 adh,.int .u64 adl,.int .i64 asp,.int .i64 adp,.int .i64 sz],.int .i64 e])∧Below V.heap.size V w')) :
    Calls Try.prog 22 #[.slice A n c,.int .i64 s,.agg #[.bool t6,.int .u64 th,.int .u64 tl],.int .i64 port] w (MkP e [] w):=by
  have te:(e != 0)=true:=by simpa using he
  clear he
  obtain ⟨Y,hY⟩:∃ Y:Array Value,Y=#[.bool v6,.int .i64 pr,.bool s6,.int .u64 sh,.int .u64 sl,.bool d6,.int .u64 dh,.int .u64 dl,.int .i64 sp,.int .i64 dp,.int .i64 ttl,.int .i64 fl,.bool er,.int .i64 apr,.bool as6,.int .u64 ash,.int .u64 asl,.bool ad6,.int .u64 adh,.int .u64 adl,.int .i64 asp,.int .i64 adp,.int .i64 sz]:=⟨_,rfl⟩
  have ys:Y.size=23:=by rw [hY]; rfl
  have ONE:=Lib.hid (show Y.all (·.oneCell')=true from by rw [hY]; simp [Value.oneCell'])
  have HIY:=Lib.hid (show (Try.prog.info? 36).map (·.size)=some Y.size from by rw [ys]; exact pk_size)
  have ZY:=Lib.hid (show (#[.bool false,.int .i64 0,.bool false,.int .u64 0,.int .u64 0,.bool false,.int .u64 0,.int .u64 0,.int .i64 0,.int .i64 0,.int .i64 0,.int .i64 0,.bool false,.int .i64 0,.bool false,.int .u64 0,.int .u64 0,.bool false,.int .u64 0,.int .u64 0,.int .i64 0,.int .i64 0,.int .i64 0]:Array Value).size=Y.size from by rw [ys]; rfl)
  rw [← hY] at HP
  have HY:=Lib.hid hY
  clear hY ys
  obtain ⟨w1,hw1⟩:∃ w1,w1=w.alloc (.cells #[.bool t6,.int .u64 th,.int .u64 tl] 32):=⟨_,rfl⟩
  obtain ⟨p,hp⟩:∃ p,p=w.heap.size:=⟨_,rfl⟩
  have E1:=Lib.hid hw1
  have EP:=Lib.hid hp
  have B1:=Lib.hid (show Below w.heap.size w w1 from by rw [hw1]; exact (Below.refl _ _).alloc (Nat.le_refl _) _)
  have KT1:=Lib.hid (show Blk w1 p 32 #[.bool t6,.int .u64 th,.int .u64 tl] from by rw [hw1,hp]; exact Blk.new w _ _)
  clear hw1 hp
  go_enter Try.func22,Try.ntmps22
  go_upto_region 1 with fail
  rw [← E1.out,← EP.out]
  go_wp2_with fail
  refine (HP.out _ B1.out).mono ?_
  rintro o w2 ⟨rfl,hb2⟩
  obtain ⟨w3,hw3⟩:∃ w3,w3=(w2.alloc (.cells #[.bool false,.int .i64 0,.bool false,.int .u64 0,.int .u64 0,.bool false,.int .u64 0,.int .u64 0,.int .i64 0,.int .i64 0,.int .i64 0,.int .i64 0,.bool false,.int .i64 0,.bool false,.int .u64 0,.int .u64 0,.bool false,.int .u64 0,.int .u64 0,.int .i64 0,.int .i64 0,.int .i64 0] 36)).setRow w2.heap.size Y:=⟨_,rfl⟩
  obtain ⟨g,hg⟩:∃ g,g=w2.heap.size:=⟨_,rfl⟩
  have E3:=Lib.hid hw3
  have EG:=Lib.hid hg
  have KP3:=Lib.hid (show Blk w3 g 36 Y from by rw [hw3,hg]; exact blkRow (Blk.new w2 _ _) _)
  have B23:=Lib.hid (show Below w2.heap.size w2 w3 from by rw [hw3]; exact (onlyRow _).from ((Below.refl _ _).alloc (Nat.le_refl _) _) (Nat.le_refl _))
  have B13:=Lib.hid (hb2.trans (B23.out.mono hb2.size))
  have KT3:=Lib.hid (KT1.out.below B13.out KT1.out.lt)
  have B3:=Lib.hid (B1.out.trans (B13.out.mono B1.out.size))
  clear hw3 hg hb2
  go_upto_region 2 with (refine wpList_store_row rfl 36 _ _ rfl w2.heap.size Y rfl rfl 36 #[.bool false,.int .i64 0,.bool false,.int .u64 0,.int .u64 0,.bool false,.int .u64 0,.int .u64 0,.int .i64 0,.int .i64 0,.int .i64 0,.int .i64 0,.bool false,.int .i64 0,.bool false,.int .u64 0,.int .u64 0,.bool false,.int .u64 0,.int .u64 0,.int .i64 0,.int .i64 0,.int .i64 0] (Blk.new w2 _ _) HIY.out ZY.out ONE.out ?_)
  rw [← E3.out,← EG.out]
  go_wp2_with fail
  go_ret2
  exact MkP.nil_ B3.out
theorem turn_G (A:Option Addr) (n c:Nat) (s:Int) (t6:Bool) (th tl port:Int) (v6:Bool) (pr:Int) (s6:Bool) (sh sl:Int) (d6:Bool) (dh dl sp dp ttl fl:Int) (er:Bool) (apr:Int) (as6:Bool) (ash asl:Int) (ad6:Bool) (adh adl asp adp sz:Int) (harg:(s≠0∧s≠1)∨port<0∨65535<port∨er=true) (w:World)
    (HP:Hid (∀ V,Below w.heap.size w V→Calls Try.prog 14 #[.slice A n c] V fun o w'=>o=.returned (.tuple #[.agg #[.bool v6,.int .i64 pr,.bool s6,.int .u64 sh,.int .u64 sl,.bool d6,.int .u64 dh,.int .u64 dl,.int .i64 sp,.int .i64 dp,.int .i64 ttl,.int .i64 fl,.bool er,.int .i64 apr,.bool as6,.int .u64 ash,.int .u64 asl,.bool ad6,.int .u64 adh,.int .u64 adl,.int .i64 asp,.int .i64 adp,.int .i64 sz],.int .i64 0])∧Below V.heap.size V w')) :
    Calls Try.prog 22 #[.slice A n c,.int .i64 s,.agg #[.bool t6,.int .u64 th,.int .u64 tl],.int .i64 port] w (MkP 1 [] w):=by
  obtain ⟨Y,hY⟩:∃ Y:Array Value,Y=#[.bool v6,.int .i64 pr,.bool s6,.int .u64 sh,.int .u64 sl,.bool d6,.int .u64 dh,.int .u64 dl,.int .i64 sp,.int .i64 dp,.int .i64 ttl,.int .i64 fl,.bool er,.int .i64 apr,.bool as6,.int .u64 ash,.int .u64 asl,.bool ad6,.int .u64 adh,.int .u64 adl,.int .i64 asp,.int .i64 adp,.int .i64 sz]:=⟨_,rfl⟩
  have ys:Y.size=23:=by rw [hY]; rfl
  have ONE:=Lib.hid (show Y.all (·.oneCell')=true from by rw [hY]; simp [Value.oneCell'])
  have HIY:=Lib.hid (show (Try.prog.info? 36).map (·.size)=some Y.size from by rw [ys]; exact pk_size)
  have ZY:=Lib.hid (show (#[.bool false,.int .i64 0,.bool false,.int .u64 0,.int .u64 0,.bool false,.int .u64 0,.int .u64 0,.int .i64 0,.int .i64 0,.int .i64 0,.int .i64 0,.bool false,.int .i64 0,.bool false,.int .u64 0,.int .u64 0,.bool false,.int .u64 0,.int .u64 0,.int .i64 0,.int .i64 0,.int .i64 0]:Array Value).size=Y.size from by rw [ys]; rfl)
  rw [← hY] at HP
  have HY:=Lib.hid hY
  clear hY ys
  obtain ⟨w1,hw1⟩:∃ w1,w1=w.alloc (.cells #[.bool t6,.int .u64 th,.int .u64 tl] 32):=⟨_,rfl⟩
  obtain ⟨p,hp⟩:∃ p,p=w.heap.size:=⟨_,rfl⟩
  have E1:=Lib.hid hw1
  have EP:=Lib.hid hp
  have B1:=Lib.hid (show Below w.heap.size w w1 from by rw [hw1]; exact (Below.refl _ _).alloc (Nat.le_refl _) _)
  have KT1:=Lib.hid (show Blk w1 p 32 #[.bool t6,.int .u64 th,.int .u64 tl] from by rw [hw1,hp]; exact Blk.new w _ _)
  clear hw1 hp
  go_enter Try.func22,Try.ntmps22
  go_upto_region 1 with fail
  rw [← E1.out,← EP.out]
  go_wp2_with fail
  refine (HP.out _ B1.out).mono ?_
  rintro o w2 ⟨rfl,hb2⟩
  obtain ⟨w3,hw3⟩:∃ w3,w3=(w2.alloc (.cells #[.bool false,.int .i64 0,.bool false,.int .u64 0,.int .u64 0,.bool false,.int .u64 0,.int .u64 0,.int .i64 0,.int .i64 0,.int .i64 0,.int .i64 0,.bool false,.int .i64 0,.bool false,.int .u64 0,.int .u64 0,.bool false,.int .u64 0,.int .u64 0,.int .i64 0,.int .i64 0,.int .i64 0] 36)).setRow w2.heap.size Y:=⟨_,rfl⟩
  obtain ⟨g,hg⟩:∃ g,g=w2.heap.size:=⟨_,rfl⟩
  have E3:=Lib.hid hw3
  have EG:=Lib.hid hg
  have KP3:=Lib.hid (show Blk w3 g 36 Y from by rw [hw3,hg]; exact blkRow (Blk.new w2 _ _) _)
  have B23:=Lib.hid (show Below w2.heap.size w2 w3 from by rw [hw3]; exact (onlyRow _).from ((Below.refl _ _).alloc (Nat.le_refl _) _) (Nat.le_refl _))
  have B13:=Lib.hid (hb2.trans (B23.out.mono hb2.size))
  have KT3:=Lib.hid (KT1.out.below B13.out KT1.out.lt)
  have B3:=Lib.hid (B1.out.trans (B13.out.mono B1.out.size))
  clear hw3 hg hb2
  go_upto_region 2 with (refine wpList_store_row rfl 36 _ _ rfl w2.heap.size Y rfl rfl 36 #[.bool false,.int .i64 0,.bool false,.int .u64 0,.int .u64 0,.bool false,.int .u64 0,.int .u64 0,.int .i64 0,.int .i64 0,.int .i64 0,.int .i64 0,.bool false,.int .i64 0,.bool false,.int .u64 0,.int .u64 0,.bool false,.int .u64 0,.int .u64 0,.int .i64 0,.int .i64 0,.int .i64 0] (Blk.new w2 _ _) HIY.out ZY.out ONE.out ?_)
  rw [← E3.out,← EG.out]
  have kp:=KP3.out
  rw [HY.out] at kp
  have c0:=kp.cell 0
  have c12:=kp.cell 12
  clear kp
  by_cases h1:s≠0∧s≠1
  · have t0:(s != 0)=true:=by simpa using h1.1
    have t1:(s != 1)=true:=by simpa using h1.2
    clear harg h1
    go_wp2_with fail
    go_ret2
    exact MkP.nil_ B3.out
  have hs:s=0∨s=1:=by omega
  go_upto_region 4 with fail
  go_cut [27] (fun v wx=>v=.bool true∧wx=w3)
  case first =>
    by_cases hp0:port<0
    · have q0:decide (port<0)=true:=decide_eq_true hp0
      rcases hs with h | h
      · have t0:(s != 0)=false:=by simp [h]
        clear h hp0 harg h1
        go_wp2_with fail
        go_meet
        exact ⟨rfl,rfl⟩
      · have t0:(s != 0)=true:=by simp [h]
        have t1:(s != 1)=false:=by simp [h]
        clear h hp0 harg h1
        go_wp2_with fail
        go_meet
        exact ⟨rfl,rfl⟩
    · have q0:decide (port<0)=false:=decide_eq_false hp0
      by_cases hp9:65535<port
      · have q9:decide (65535<port)=true:=decide_eq_true hp9
        rcases hs with h | h
        · have t0:(s != 0)=false:=by simp [h]
          clear h hp0 hp9 harg h1
          go_wp2_with fail
          go_meet
          exact ⟨rfl,rfl⟩
        · have t0:(s != 0)=true:=by simp [h]
          have t1:(s != 1)=false:=by simp [h]
          clear h hp0 hp9 harg h1
          go_wp2_with fail
          go_meet
          exact ⟨rfl,rfl⟩
      · have q9:decide (65535<port)=false:=decide_eq_false hp9
        have her:er=true:=by
          rcases harg with h | h | h | h
          · exact absurd h h1
          · exact absurd h hp0
          · exact absurd h hp9
          · exact h
        subst her
        rcases hs with h | h
        · have t0:(s != 0)=false:=by simp [h]
          clear h hp0 hp9 harg h1
          go_wp2_with fail
          go_meet
          exact ⟨rfl,rfl⟩
        · have t0:(s != 0)=true:=by simp [h]
          have t1:(s != 1)=false:=by simp [h]
          clear h hp0 hp9 harg h1
          go_wp2_with fail
          go_meet
          exact ⟨rfl,rfl⟩
  case rest =>
  obtain ⟨rfl,hwc⟩:=hcut
  rw [hwc]
  clear hwc
  go_wp2_with fail
  go_ret2
  exact MkP.nil_ B3.out
theorem turn_V (A:Option Addr) (n c:Nat) (s:Int) (t6:Bool) (th tl port:Int) (v6:Bool) (pr:Int) (s6:Bool) (sh sl:Int) (d6:Bool) (dh dl sp dp ttl fl:Int) (apr:Int) (as6:Bool) (ash asl:Int) (ad6:Bool) (adh adl asp adp sz:Int) (hs:s=0∨s=1) (p0:0≤port) (p9:port≤65535) (hv:t6≠v6) (w:World)
    (HP:Hid (∀ V,Below w.heap.size w V→Calls Try.prog 14 #[.slice A n c] V fun o w'=>o=.returned (.tuple #[.agg #[.bool v6,.int .i64 pr,.bool s6,.int .u64 sh,.int .u64 sl,.bool d6,.int .u64 dh,.int .u64 dl,.int .i64 sp,.int .i64 dp,.int .i64 ttl,.int .i64 fl,.bool false,.int .i64 apr,.bool as6,.int .u64 ash,.int .u64 asl,.bool ad6,.int .u64 adh,.int .u64 adl,.int .i64 asp,.int .i64 adp,.int .i64 sz],.int .i64 0])∧Below V.heap.size V w')) :
    Calls Try.prog 22 #[.slice A n c,.int .i64 s,.agg #[.bool t6,.int .u64 th,.int .u64 tl],.int .i64 port] w (MkP 18 [] w):=by
  have HSS:=Lib.hid hs
  have P0:=Lib.hid p0
  have P9:=Lib.hid p9
  clear hs p0 p9
  have tv:(t6 != v6)=true:=by simpa using hv
  have tv2:(t6 == v6)=false:=by simpa using hv
  clear hv
  obtain ⟨Y,hY⟩:∃ Y:Array Value,Y=#[.bool v6,.int .i64 pr,.bool s6,.int .u64 sh,.int .u64 sl,.bool d6,.int .u64 dh,.int .u64 dl,.int .i64 sp,.int .i64 dp,.int .i64 ttl,.int .i64 fl,.bool false,.int .i64 apr,.bool as6,.int .u64 ash,.int .u64 asl,.bool ad6,.int .u64 adh,.int .u64 adl,.int .i64 asp,.int .i64 adp,.int .i64 sz]:=⟨_,rfl⟩
  have ys:Y.size=23:=by rw [hY]; rfl
  have ONE:=Lib.hid (show Y.all (·.oneCell')=true from by rw [hY]; simp [Value.oneCell'])
  have HIY:=Lib.hid (show (Try.prog.info? 36).map (·.size)=some Y.size from by rw [ys]; exact pk_size)
  have ZY:=Lib.hid (show (#[.bool false,.int .i64 0,.bool false,.int .u64 0,.int .u64 0,.bool false,.int .u64 0,.int .u64 0,.int .i64 0,.int .i64 0,.int .i64 0,.int .i64 0,.bool false,.int .i64 0,.bool false,.int .u64 0,.int .u64 0,.bool false,.int .u64 0,.int .u64 0,.int .i64 0,.int .i64 0,.int .i64 0]:Array Value).size=Y.size from by rw [ys]; rfl)
  rw [← hY] at HP
  have HY:=Lib.hid hY
  clear hY ys
  obtain ⟨w1,hw1⟩:∃ w1,w1=w.alloc (.cells #[.bool t6,.int .u64 th,.int .u64 tl] 32):=⟨_,rfl⟩
  obtain ⟨p,hp⟩:∃ p,p=w.heap.size:=⟨_,rfl⟩
  have E1:=Lib.hid hw1
  have EP:=Lib.hid hp
  have B1:=Lib.hid (show Below w.heap.size w w1 from by rw [hw1]; exact (Below.refl _ _).alloc (Nat.le_refl _) _)
  have KT1:=Lib.hid (show Blk w1 p 32 #[.bool t6,.int .u64 th,.int .u64 tl] from by rw [hw1,hp]; exact Blk.new w _ _)
  clear hw1 hp
  go_enter Try.func22,Try.ntmps22
  go_upto_region 1 with fail
  rw [← E1.out,← EP.out]
  go_wp2_with fail
  refine (HP.out _ B1.out).mono ?_
  rintro o w2 ⟨rfl,hb2⟩
  obtain ⟨w3,hw3⟩:∃ w3,w3=(w2.alloc (.cells #[.bool false,.int .i64 0,.bool false,.int .u64 0,.int .u64 0,.bool false,.int .u64 0,.int .u64 0,.int .i64 0,.int .i64 0,.int .i64 0,.int .i64 0,.bool false,.int .i64 0,.bool false,.int .u64 0,.int .u64 0,.bool false,.int .u64 0,.int .u64 0,.int .i64 0,.int .i64 0,.int .i64 0] 36)).setRow w2.heap.size Y:=⟨_,rfl⟩
  obtain ⟨g,hg⟩:∃ g,g=w2.heap.size:=⟨_,rfl⟩
  have E3:=Lib.hid hw3
  have EG:=Lib.hid hg
  have KP3:=Lib.hid (show Blk w3 g 36 Y from by rw [hw3,hg]; exact blkRow (Blk.new w2 _ _) _)
  have B23:=Lib.hid (show Below w2.heap.size w2 w3 from by rw [hw3]; exact (onlyRow _).from ((Below.refl _ _).alloc (Nat.le_refl _) _) (Nat.le_refl _))
  have B13:=Lib.hid (hb2.trans (B23.out.mono hb2.size))
  have KT3:=Lib.hid (KT1.out.below B13.out KT1.out.lt)
  have B3:=Lib.hid (B1.out.trans (B13.out.mono B1.out.size))
  clear hw3 hg hb2
  go_upto_region 2 with (refine wpList_store_row rfl 36 _ _ rfl w2.heap.size Y rfl rfl 36 #[.bool false,.int .i64 0,.bool false,.int .u64 0,.int .u64 0,.bool false,.int .u64 0,.int .u64 0,.int .i64 0,.int .i64 0,.int .i64 0,.int .i64 0,.bool false,.int .i64 0,.bool false,.int .u64 0,.int .u64 0,.bool false,.int .u64 0,.int .u64 0,.int .i64 0,.int .i64 0,.int .i64 0] (Blk.new w2 _ _) HIY.out ZY.out ONE.out ?_)
  rw [← E3.out,← EG.out]
  have kp:=KP3.out
  rw [HY.out] at kp
  have c0:=kp.cell 0
  have c12:=kp.cell 12
  clear kp
  go_upto_region 4 with fail
  go_cut [27] (fun v wx=>v=.bool false∧wx=w3)
  case first =>
    have p0:=P0.out
    have p9:=P9.out
    have q0:decide (port<0)=false:=decide_eq_false (by omega)
    have q9:decide (65535<port)=false:=decide_eq_false (by omega)
    clear p0 p9
    rcases HSS.out with h | h
    · have t0:(s != 0)=false:=by simp [h]
      clear h
      go_wp2_with fail
      go_meet
      exact ⟨rfl,rfl⟩
    · have t0:(s != 0)=true:=by simp [h]
      have t1:(s != 1)=false:=by simp [h]
      clear h
      go_wp2_with fail
      go_meet
      exact ⟨rfl,rfl⟩
  case rest =>
  obtain ⟨rfl,hwc⟩:=hcut
  rw [hwc]
  clear hwc
  have x0:=KT3.out.cell 0
  have x1:=KT3.out.cell 1
  have x2:=KT3.out.cell 2
  go_wp2_with fail
  go_ret2
  exact MkP.nil_ B3.out
theorem turn_R (A:Option Addr) (n c:Nat) (s:Int) (t6:Bool) (th tl port:Int) (v6:Bool) (pr:Int) (s6:Bool) (sh sl:Int) (d6:Bool) (dh dl sp dp ttl fl:Int) (apr:Int) (as6:Bool) (ash asl:Int) (ad6:Bool) (adh adl asp adp sz:Int) (hs:s=0∨s=1) (p0:0≤port) (p9:port≤65535) (hv:t6=v6) (w:World)
    (HP:Hid (∀ V,Below w.heap.size w V→Calls Try.prog 14 #[.slice A n c] V fun o w'=>o=.returned (.tuple #[.agg #[.bool v6,.int .i64 pr,.bool s6,.int .u64 sh,.int .u64 sl,.bool d6,.int .u64 dh,.int .u64 dl,.int .i64 sp,.int .i64 dp,.int .i64 ttl,.int .i64 fl,.bool false,.int .i64 apr,.bool as6,.int .u64 ash,.int .u64 asl,.bool ad6,.int .u64 adh,.int .u64 adl,.int .i64 asp,.int .i64 adp,.int .i64 sz],.int .i64 0])∧Below V.heap.size V w'))
    (HRT:Hid (∀ V,Calls Try.prog 16 #[.agg #[.bool t6,.int .u64 th,.int .u64 tl]] V fun o w'=>o=.returned (.bool false)∧Below V.heap.size V w')) :
    Calls Try.prog 22 #[.slice A n c,.int .i64 s,.agg #[.bool t6,.int .u64 th,.int .u64 tl],.int .i64 port] w (MkP 18 [] w):=by
  have HSS:=Lib.hid hs
  have P0:=Lib.hid p0
  have P9:=Lib.hid p9
  clear hs p0 p9
  have tv:(t6 != v6)=false:=by simpa using hv
  have tv2:(t6 == v6)=true:=by simpa using hv
  clear hv
  obtain ⟨Y,hY⟩:∃ Y:Array Value,Y=#[.bool v6,.int .i64 pr,.bool s6,.int .u64 sh,.int .u64 sl,.bool d6,.int .u64 dh,.int .u64 dl,.int .i64 sp,.int .i64 dp,.int .i64 ttl,.int .i64 fl,.bool false,.int .i64 apr,.bool as6,.int .u64 ash,.int .u64 asl,.bool ad6,.int .u64 adh,.int .u64 adl,.int .i64 asp,.int .i64 adp,.int .i64 sz]:=⟨_,rfl⟩
  have ys:Y.size=23:=by rw [hY]; rfl
  have ONE:=Lib.hid (show Y.all (·.oneCell')=true from by rw [hY]; simp [Value.oneCell'])
  have HIY:=Lib.hid (show (Try.prog.info? 36).map (·.size)=some Y.size from by rw [ys]; exact pk_size)
  have ZY:=Lib.hid (show (#[.bool false,.int .i64 0,.bool false,.int .u64 0,.int .u64 0,.bool false,.int .u64 0,.int .u64 0,.int .i64 0,.int .i64 0,.int .i64 0,.int .i64 0,.bool false,.int .i64 0,.bool false,.int .u64 0,.int .u64 0,.bool false,.int .u64 0,.int .u64 0,.int .i64 0,.int .i64 0,.int .i64 0]:Array Value).size=Y.size from by rw [ys]; rfl)
  rw [← hY] at HP
  have HY:=Lib.hid hY
  clear hY ys
  obtain ⟨w1,hw1⟩:∃ w1,w1=w.alloc (.cells #[.bool t6,.int .u64 th,.int .u64 tl] 32):=⟨_,rfl⟩
  obtain ⟨p,hp⟩:∃ p,p=w.heap.size:=⟨_,rfl⟩
  have E1:=Lib.hid hw1
  have EP:=Lib.hid hp
  have B1:=Lib.hid (show Below w.heap.size w w1 from by rw [hw1]; exact (Below.refl _ _).alloc (Nat.le_refl _) _)
  have KT1:=Lib.hid (show Blk w1 p 32 #[.bool t6,.int .u64 th,.int .u64 tl] from by rw [hw1,hp]; exact Blk.new w _ _)
  clear hw1 hp
  go_enter Try.func22,Try.ntmps22
  go_upto_region 1 with fail
  rw [← E1.out,← EP.out]
  go_wp2_with fail
  refine (HP.out _ B1.out).mono ?_
  rintro o w2 ⟨rfl,hb2⟩
  obtain ⟨w3,hw3⟩:∃ w3,w3=(w2.alloc (.cells #[.bool false,.int .i64 0,.bool false,.int .u64 0,.int .u64 0,.bool false,.int .u64 0,.int .u64 0,.int .i64 0,.int .i64 0,.int .i64 0,.int .i64 0,.bool false,.int .i64 0,.bool false,.int .u64 0,.int .u64 0,.bool false,.int .u64 0,.int .u64 0,.int .i64 0,.int .i64 0,.int .i64 0] 36)).setRow w2.heap.size Y:=⟨_,rfl⟩
  obtain ⟨g,hg⟩:∃ g,g=w2.heap.size:=⟨_,rfl⟩
  have E3:=Lib.hid hw3
  have EG:=Lib.hid hg
  have KP3:=Lib.hid (show Blk w3 g 36 Y from by rw [hw3,hg]; exact blkRow (Blk.new w2 _ _) _)
  have B23:=Lib.hid (show Below w2.heap.size w2 w3 from by rw [hw3]; exact (onlyRow _).from ((Below.refl _ _).alloc (Nat.le_refl _) _) (Nat.le_refl _))
  have B13:=Lib.hid (hb2.trans (B23.out.mono hb2.size))
  have KT3:=Lib.hid (KT1.out.below B13.out KT1.out.lt)
  have B3:=Lib.hid (B1.out.trans (B13.out.mono B1.out.size))
  clear hw3 hg hb2
  go_upto_region 2 with (refine wpList_store_row rfl 36 _ _ rfl w2.heap.size Y rfl rfl 36 #[.bool false,.int .i64 0,.bool false,.int .u64 0,.int .u64 0,.bool false,.int .u64 0,.int .u64 0,.int .i64 0,.int .i64 0,.int .i64 0,.int .i64 0,.bool false,.int .i64 0,.bool false,.int .u64 0,.int .u64 0,.bool false,.int .u64 0,.int .u64 0,.int .i64 0,.int .i64 0,.int .i64 0] (Blk.new w2 _ _) HIY.out ZY.out ONE.out ?_)
  rw [← E3.out,← EG.out]
  have kp:=KP3.out
  rw [HY.out] at kp
  have c0:=kp.cell 0
  have c12:=kp.cell 12
  clear kp
  go_upto_region 4 with fail
  go_cut [27] (fun v wx=>v=.bool false∧wx=w3)
  case first =>
    have p0:=P0.out
    have p9:=P9.out
    have q0:decide (port<0)=false:=decide_eq_false (by omega)
    have q9:decide (65535<port)=false:=decide_eq_false (by omega)
    clear p0 p9
    rcases HSS.out with h | h
    · have t0:(s != 0)=false:=by simp [h]
      clear h
      go_wp2_with fail
      go_meet
      exact ⟨rfl,rfl⟩
    · have t0:(s != 0)=true:=by simp [h]
      have t1:(s != 1)=false:=by simp [h]
      clear h
      go_wp2_with fail
      go_meet
      exact ⟨rfl,rfl⟩
  case rest =>
  obtain ⟨rfl,hwc⟩:=hcut
  rw [hwc]
  clear hwc
  have x0:=KT3.out.cell 0
  have x1:=KT3.out.cell 1
  have x2:=KT3.out.cell 2
  go_wp2_with fail
  refine (HRT.out _).mono ?_
  rintro o w4 ⟨rfl,hb4⟩
  go_wp2_with fail
  go_ret2
  exact MkP.nil_ (B3.out.trans (hb4.mono B3.out.size))
end Go.Proofs.Ytodckfgfbcnkoaa.natC
