/- 1 texts in one. -/
import Derived.Deep.RegionHeld3
import Derived.Deep.DeepCutAuto
import Derived.Test.YtodckfgfbcnkoaaNu01
import Derived.Test.YtodckfgfbcnkoaaNu02
import Derived.Test.YtodckfgfbcnkoaaNu03
import Derived.Test.YtodckfgfbcnkoaaNu04
import Derived.Test.YtodckfgfbcnkoaaNu05
import Derived.Test.YtodckfgfbcnkoaaNu06
import Derived.Test.YtodckfgfbcnkoaaNu07
import Derived.Test.YtodckfgfbcnkoaaNu08
import Derived.Test.YtodckfgfbcnkoaaNu09
import Derived.Test.YtodckfgfbcnkoaaNu10
import Derived.Test.YtodckfgfbcnkoaaNu11
import Derived.Test.YtodckfgfbcnkoaaNu12
import Derived.Test.YtodckfgfbcnkoaaNu13
import Derived.Test.YtodckfgfbcnkoaaNu14
import Derived.Test.YtodckfgfbcnkoaaNu15
import Derived.Test.YtodckfgfbcnkoaaNu16
import Derived.Test.YtodckfgfbcnkoaaNu17
import Derived.Test.YtodckfgfbcnkoaaNu18
import Derived.Test.YtodckfgfbcnkoaaNu19
import Derived.Test.YtodckfgfbcnkoaaNu20
import Derived.Test.YtodckfgfbcnkoaaNu21
import Derived.Test.YtodckfgfbcnkoaaNu22
import Derived.Test.YtodckfgfbcnkoaaNu23
import Derived.Test.YtodckfgfbcnkoaaNu24
import Derived.Test.YtodckfgfbcnkoaaNv01
/- Layer 15: a datagram without a check stays so. -/
namespace Go.Proofs.Ytodckfgfbcnkoaa.natJ
set_option maxHeartbeats 8000000
set_option maxRecDepth 100000
open Go.ChangeShapes Go.WideShapes Go.ChangeAt Go.RowKit
open base rdrA rdrG sumB sixW sixM pktA pktB pktC pktD pktE sixE pktG  tunW natA pktL natE pktS pktCut pktS natF natI
set_option linter.unusedVariables false
set_option linter.unusedSimpArgs false
theorem rng_blk {W:World} {g:Nat} {t:TypeId} {cs:Array Value} (h:Blk W g t cs):W.rangeAt g 0 cs.toList:=fun j v hv=>by
  rw [Nat.zero_add,h.cell j,← Array.getElem?_toList]
  exact hv
theorem law_N (pr:Int) (s6:Bool) (sh sl:Int) (d6:Bool) (dh dl sp dp:Int) (t6:Bool) (th tl port:Int) (A:Option Addr) (n0 n c:Nat) (w:World)
    (HC:Hid (∀ W,Calls Try.prog 10 #[.slice A n0 c] W fun o w'=>o=.returned (.slice A n c)∧W=w'))
    (HD:Hid (∀ V,Below w.heap.size w V→Calls Try.prog 26 #[.agg #[.int .i64 pr,.bool s6,.int .u64 sh,.int .u64 sl,.bool d6,.int .u64 dh,.int .u64 dl,.int .i64 sp,.int .i64 dp],.int .i64 64,.slice A n c] V (MkP 1 [] V))) :
    Calls Try.prog 9 #[.agg #[.int .i64 pr,.bool s6,.int .u64 sh,.int .u64 sl,.bool d6,.int .u64 dh,.int .u64 dl,.int .i64 sp,.int .i64 dp],.slice A n0 c,.agg #[.bool t6,.int .u64 th,.int .u64 tl],.int .i64 port] w fun o w'=>o=.returned (.bool true)∧Below w.heap.size w w':=by
  have HAW:=Lib.hid awake_any
  obtain ⟨w1,hw1⟩:∃ w1,w1=(w.alloc (.cells #[.int .i64 pr,.bool s6,.int .u64 sh,.int .u64 sl,.bool d6,.int .u64 dh,.int .u64 dl,.int .i64 sp,.int .i64 dp] 34)).alloc (.cells #[.bool t6,.int .u64 th,.int .u64 tl] 32):=⟨_,rfl⟩
  have E1:=Lib.hid hw1
  have B1:=Lib.hid (show Below w.heap.size w w1 from by rw [hw1]; exact ((Below.refl _ _).alloc (Nat.le_refl _) _).alloc (by simp) _)
  obtain ⟨g,hg⟩:∃ g,g=w.heap.size:=⟨_,rfl⟩
  obtain ⟨h,hh⟩:∃ h,h=w.heap.size+1:=⟨_,rfl⟩
  have EG:=Lib.hid hg
  have EH:=Lib.hid hh
  have K1:=Lib.hid (show Blk w1 g 34 #[.int .i64 pr,.bool s6,.int .u64 sh,.int .u64 sl,.bool d6,.int .u64 dh,.int .u64 dl,.int .i64 sp,.int .i64 dp] from by rw [hw1,hg]; exact (Blk.new w _ _).below ((Below.refl _ _).alloc (Nat.le_refl _) _) (Blk.new w _ _).lt)
  have H1:=Lib.hid (show Blk w1 h 32 #[.bool t6,.int .u64 th,.int .u64 tl] from by
    have h9:=Blk.new (w.alloc (.cells #[.int .i64 pr,.bool s6,.int .u64 sh,.int .u64 sl,.bool d6,.int .u64 dh,.int .u64 dl,.int .i64 sp,.int .i64 dp] 34)) 32 #[.bool t6,.int .u64 th,.int .u64 tl]
    rw [← hw1] at h9
    rw [hh]
    simpa using h9)
  have HV:=Lib.hid Try.underlying34
  have HIT:=Lib.hid (show (Try.prog.info? 34).map (·.size)=some 9 from by kernel_rfl)
  clear hw1 hg hh
  go_enter Try.func9,Try.ntmps9
  go_upto_region 1 with fail
  rw [← E1.out,← EH.out,← EG.out]
  have D0:=Lib.hid ((Below.refl w1.heap.size w1).drew)
  have HS_:=Lib.hid (show ∀ W,Below w1.heap.size w1 W→W.rangeAt g 0 (#[.int .i64 pr,.bool s6,.int .u64 sh,.int .u64 sl,.bool d6,.int .u64 dh,.int .u64 dl,.int .i64 sp,.int .i64 dp]:Array Value).toList from fun W hW=>rng_blk (K1.out.below hW K1.out.lt))
  have s0:=HS_.out w1.drew D0.out
  refine wp_region_held_drew (S:=fun V=>V.rangeAt g 0 (#[.int .i64 pr,.bool s6,.int .u64 sh,.int .u64 sl,.bool d6,.int .u64 dh,.int .u64 dl,.int .i64 sp,.int .i64 dp]:Array Value).toList) (by kernel_rfl) s0 (fun hHeld=>?_)
  refine wpAnyH_take (i:=0) (v:=.agg #[.int .i64 pr,.bool s6,.int .u64 sh,.int .u64 sl,.bool d6,.int .u64 dh,.int .u64 dl,.int .i64 sp,.int .i64 dp]) rfl (by kernel_rfl) (by kernel_rfl) (by kernel_rfl) (fun _ _ _ h=>h) (yieldsIf_load_mid (by rfl) _ _ rfl g 0 rfl (#[.int .i64 pr,.bool s6,.int .u64 sh,.int .u64 sl,.bool d6,.int .u64 dh,.int .u64 dl,.int .i64 sp,.int .i64 dp]:Array Value).toList _ (fun _ h=>h) HV.out rfl (by first | exact HIT.out | kernel_rfl)) (by assumption) ?_
  try simp only [List.getElem_toArray,List.getElem_cons_zero,Act.put,List.setIfInBounds_toArray,List.set_cons_zero,List.set_cons_succ]
  refine wpAnyH_take (i:=1) (v:=.slice A n0 c) rfl (by kernel_rfl) (by kernel_rfl) (by kernel_rfl) (fun _ _ _ h=>h) (Or.inl ⟨by rfl,?_⟩) (by assumption) ?_
  · intro V hV
    go_simp
  try simp only [List.getElem_toArray,List.getElem_cons_zero,List.getElem_cons_succ,Act.put,List.setIfInBounds_toArray,List.set_cons_zero,List.set_cons_succ]
  refine wpAnyH_ready (rs:=[2]) (by kernel_rfl) (by simp) ?_
  refine AllReadyH.cons rfl (fun K hK=>?_) AllReadyH.nil
  go_simp
  go_at_call 10
  (with_reducible refine (HC.out _).mono ?_)
  rintro o w' ⟨rfl,rfl⟩
  refine hK.out _ _ ?_ (fun hHeld=>?_)
  · exact s0
  clear hK K
  try simp only [List.getElem_toArray,List.getElem_cons_zero,List.getElem_cons_succ,Act.put,List.setIfInBounds_toArray,List.set_cons_zero,List.set_cons_succ]
  refine wpAnyH_ready (rs:=[3]) (by kernel_rfl) (by simp) ?_
  refine AllReadyH.cons rfl (fun K hK=>?_) AllReadyH.nil
  go_simp
  go_at_call 26
  (with_reducible refine (HD.out _ (B1.out.trans (D0.out.mono B1.out.size))).mono ?_)
  rintro o w2 ⟨hb2,A2,n2,c2,rfl,hs2⟩
  clear hs2
  have D1:=Lib.hid (D0.out.trans (hb2.mono D0.out.size))
  have s1:=HS_.out w2 D1.out
  clear hb2
  refine hK.out _ _ ?_ (fun hHeld=>?_)
  · exact s1
  clear hK K
  try simp only [List.getElem_toArray,List.getElem_cons_zero,List.getElem_cons_succ,Act.put,List.setIfInBounds_toArray,List.set_cons_zero,List.set_cons_succ]
  refine wpAnyH_take (i:=4) (v:=.tuple #[.slice A2 n2 c2,.int .i64 1]) rfl (by kernel_rfl) (by kernel_rfl) (by kernel_rfl) (fun _ _ _ h=>h) (Or.inl ⟨by rfl,?_⟩) (by assumption) ?_
  · intro V hV
    go_simp
  try simp only [List.getElem_toArray,List.getElem_cons_zero,List.getElem_cons_succ,Act.put,List.setIfInBounds_toArray,List.set_cons_zero,List.set_cons_succ]
  refine wpAnyH_take (i:=5) (v:=.slice A2 n2 c2) rfl (by kernel_rfl) (by kernel_rfl) (by kernel_rfl) (fun _ _ _ h=>h) (Or.inl ⟨by rfl,?_⟩) (by assumption) ?_
  · intro V hV
    go_simp
  try simp only [List.getElem_toArray,List.getElem_cons_zero,List.getElem_cons_succ,Act.put,List.setIfInBounds_toArray,List.set_cons_zero,List.set_cons_succ]
  refine wpAnyH_take (i:=6) (v:=.int .i64 1) rfl (by kernel_rfl) (by kernel_rfl) (by kernel_rfl) (fun _ _ _ h=>h) (Or.inl ⟨by rfl,?_⟩) (by assumption) ?_
  · intro V hV
    go_simp
  try simp only [List.getElem_toArray,List.getElem_cons_zero,List.getElem_cons_succ,Act.put,List.setIfInBounds_toArray,List.set_cons_zero,List.set_cons_succ]
  refine wpAnyH_take (i:=7) (v:=.slice A2 n2 c2) rfl (by kernel_rfl) (by kernel_rfl) (by kernel_rfl) (fun _ _ _ h=>h) (Or.inl ⟨by rfl,?_⟩) (by assumption) ?_
  · intro V hV
    go_simp
  try simp only [List.getElem_toArray,List.getElem_cons_zero,List.getElem_cons_succ,Act.put,List.setIfInBounds_toArray,List.set_cons_zero,List.set_cons_succ]
  refine wpAnyH_take (i:=8) (v:=.int .i64 1) rfl (by kernel_rfl) (by kernel_rfl) (by kernel_rfl) (fun _ _ _ h=>h) (Or.inl ⟨by rfl,?_⟩) (by assumption) ?_
  · intro V hV
    go_simp
  try simp only [List.getElem_toArray,List.getElem_cons_zero,List.getElem_cons_succ,Act.put,List.setIfInBounds_toArray,List.set_cons_zero,List.set_cons_succ]
  refine wpAnyH_done (by kernel_rfl) ?_ _
  have K2:=Lib.hid (K1.out.below D1.out K1.out.lt)
  have H2:=Lib.hid (H1.out.below D1.out H1.out.lt)
  have B2:=Lib.hid (B1.out.trans (D1.out.mono B1.out.size))
  clear s0 s1 hHeld
  have c1:=K2.out.cell 1
  go_wp2_with fail
  refine (HAW.out _).mono ?_
  rintro o w9 ⟨rfl,hb9⟩
  go_wp2_with fail
  go_ret
  exact ⟨rfl,B2.out.trans (hb9.mono B2.out.size)⟩
theorem law_6 (pr:Int) (sh sl:Int) (d6:Bool) (dh dl sp dp:Int) (t6:Bool) (th tl port:Int) (A:Option Addr) (n0 n c:Nat) (w:World) (B:List Int)
    (HC:Hid (∀ W,Calls Try.prog 10 #[.slice A n0 c] W fun o w'=>o=.returned (.slice A n c)∧W=w'))
    (HD:Hid (∀ V,Below w.heap.size w V→Calls Try.prog 26 #[.agg #[.int .i64 pr,.bool true,.int .u64 sh,.int .u64 sl,.bool d6,.int .u64 dh,.int .u64 dl,.int .i64 sp,.int .i64 dp],.int .i64 64,.slice A n c] V (MkP 0 B V))) :
    Calls Try.prog 9 #[.agg #[.int .i64 pr,.bool true,.int .u64 sh,.int .u64 sl,.bool d6,.int .u64 dh,.int .u64 dl,.int .i64 sp,.int .i64 dp],.slice A n0 c,.agg #[.bool t6,.int .u64 th,.int .u64 tl],.int .i64 port] w fun o w'=>o=.returned (.bool true)∧Below w.heap.size w w':=by
  have HAW:=Lib.hid awake_any
  obtain ⟨w1,hw1⟩:∃ w1,w1=(w.alloc (.cells #[.int .i64 pr,.bool true,.int .u64 sh,.int .u64 sl,.bool d6,.int .u64 dh,.int .u64 dl,.int .i64 sp,.int .i64 dp] 34)).alloc (.cells #[.bool t6,.int .u64 th,.int .u64 tl] 32):=⟨_,rfl⟩
  have E1:=Lib.hid hw1
  have B1:=Lib.hid (show Below w.heap.size w w1 from by rw [hw1]; exact ((Below.refl _ _).alloc (Nat.le_refl _) _).alloc (by simp) _)
  obtain ⟨g,hg⟩:∃ g,g=w.heap.size:=⟨_,rfl⟩
  obtain ⟨h,hh⟩:∃ h,h=w.heap.size+1:=⟨_,rfl⟩
  have EG:=Lib.hid hg
  have EH:=Lib.hid hh
  have K1:=Lib.hid (show Blk w1 g 34 #[.int .i64 pr,.bool true,.int .u64 sh,.int .u64 sl,.bool d6,.int .u64 dh,.int .u64 dl,.int .i64 sp,.int .i64 dp] from by rw [hw1,hg]; exact (Blk.new w _ _).below ((Below.refl _ _).alloc (Nat.le_refl _) _) (Blk.new w _ _).lt)
  have H1:=Lib.hid (show Blk w1 h 32 #[.bool t6,.int .u64 th,.int .u64 tl] from by
    have h9:=Blk.new (w.alloc (.cells #[.int .i64 pr,.bool true,.int .u64 sh,.int .u64 sl,.bool d6,.int .u64 dh,.int .u64 dl,.int .i64 sp,.int .i64 dp] 34)) 32 #[.bool t6,.int .u64 th,.int .u64 tl]
    rw [← hw1] at h9
    rw [hh]
    simpa using h9)
  have HV:=Lib.hid Try.underlying34
  have HIT:=Lib.hid (show (Try.prog.info? 34).map (·.size)=some 9 from by kernel_rfl)
  clear hw1 hg hh
  go_enter Try.func9,Try.ntmps9
  go_upto_region 1 with fail
  rw [← E1.out,← EH.out,← EG.out]
  have D0:=Lib.hid ((Below.refl w1.heap.size w1).drew)
  have HS_:=Lib.hid (show ∀ W,Below w1.heap.size w1 W→W.rangeAt g 0 (#[.int .i64 pr,.bool true,.int .u64 sh,.int .u64 sl,.bool d6,.int .u64 dh,.int .u64 dl,.int .i64 sp,.int .i64 dp]:Array Value).toList from fun W hW=>rng_blk (K1.out.below hW K1.out.lt))
  have s0:=HS_.out w1.drew D0.out
  refine wp_region_held_drew (S:=fun V=>V.rangeAt g 0 (#[.int .i64 pr,.bool true,.int .u64 sh,.int .u64 sl,.bool d6,.int .u64 dh,.int .u64 dl,.int .i64 sp,.int .i64 dp]:Array Value).toList) (by kernel_rfl) s0 (fun hHeld=>?_)
  refine wpAnyH_take (i:=0) (v:=.agg #[.int .i64 pr,.bool true,.int .u64 sh,.int .u64 sl,.bool d6,.int .u64 dh,.int .u64 dl,.int .i64 sp,.int .i64 dp]) rfl (by kernel_rfl) (by kernel_rfl) (by kernel_rfl) (fun _ _ _ h=>h) (yieldsIf_load_mid (by rfl) _ _ rfl g 0 rfl (#[.int .i64 pr,.bool true,.int .u64 sh,.int .u64 sl,.bool d6,.int .u64 dh,.int .u64 dl,.int .i64 sp,.int .i64 dp]:Array Value).toList _ (fun _ h=>h) HV.out rfl (by first | exact HIT.out | kernel_rfl)) (by assumption) ?_
  try simp only [List.getElem_toArray,List.getElem_cons_zero,Act.put,List.setIfInBounds_toArray,List.set_cons_zero,List.set_cons_succ]
  refine wpAnyH_take (i:=1) (v:=.slice A n0 c) rfl (by kernel_rfl) (by kernel_rfl) (by kernel_rfl) (fun _ _ _ h=>h) (Or.inl ⟨by rfl,?_⟩) (by assumption) ?_
  · intro V hV
    go_simp
  try simp only [List.getElem_toArray,List.getElem_cons_zero,List.getElem_cons_succ,Act.put,List.setIfInBounds_toArray,List.set_cons_zero,List.set_cons_succ]
  refine wpAnyH_ready (rs:=[2]) (by kernel_rfl) (by simp) ?_
  refine AllReadyH.cons rfl (fun K hK=>?_) AllReadyH.nil
  go_simp
  go_at_call 10
  (with_reducible refine (HC.out _).mono ?_)
  rintro o w' ⟨rfl,rfl⟩
  refine hK.out _ _ ?_ (fun hHeld=>?_)
  · exact s0
  clear hK K
  try simp only [List.getElem_toArray,List.getElem_cons_zero,List.getElem_cons_succ,Act.put,List.setIfInBounds_toArray,List.set_cons_zero,List.set_cons_succ]
  refine wpAnyH_ready (rs:=[3]) (by kernel_rfl) (by simp) ?_
  refine AllReadyH.cons rfl (fun K hK=>?_) AllReadyH.nil
  go_simp
  go_at_call 26
  (with_reducible refine (HD.out _ (B1.out.trans (D0.out.mono B1.out.size))).mono ?_)
  rintro o w2 ⟨hb2,A2,n2,c2,rfl,hs2⟩
  clear hs2
  have D1:=Lib.hid (D0.out.trans (hb2.mono D0.out.size))
  have s1:=HS_.out w2 D1.out
  clear hb2
  refine hK.out _ _ ?_ (fun hHeld=>?_)
  · exact s1
  clear hK K
  try simp only [List.getElem_toArray,List.getElem_cons_zero,List.getElem_cons_succ,Act.put,List.setIfInBounds_toArray,List.set_cons_zero,List.set_cons_succ]
  refine wpAnyH_take (i:=4) (v:=.tuple #[.slice A2 n2 c2,.int .i64 0]) rfl (by kernel_rfl) (by kernel_rfl) (by kernel_rfl) (fun _ _ _ h=>h) (Or.inl ⟨by rfl,?_⟩) (by assumption) ?_
  · intro V hV
    go_simp
  try simp only [List.getElem_toArray,List.getElem_cons_zero,List.getElem_cons_succ,Act.put,List.setIfInBounds_toArray,List.set_cons_zero,List.set_cons_succ]
  refine wpAnyH_take (i:=5) (v:=.slice A2 n2 c2) rfl (by kernel_rfl) (by kernel_rfl) (by kernel_rfl) (fun _ _ _ h=>h) (Or.inl ⟨by rfl,?_⟩) (by assumption) ?_
  · intro V hV
    go_simp
  try simp only [List.getElem_toArray,List.getElem_cons_zero,List.getElem_cons_succ,Act.put,List.setIfInBounds_toArray,List.set_cons_zero,List.set_cons_succ]
  refine wpAnyH_take (i:=6) (v:=.int .i64 0) rfl (by kernel_rfl) (by kernel_rfl) (by kernel_rfl) (fun _ _ _ h=>h) (Or.inl ⟨by rfl,?_⟩) (by assumption) ?_
  · intro V hV
    go_simp
  try simp only [List.getElem_toArray,List.getElem_cons_zero,List.getElem_cons_succ,Act.put,List.setIfInBounds_toArray,List.set_cons_zero,List.set_cons_succ]
  refine wpAnyH_take (i:=7) (v:=.slice A2 n2 c2) rfl (by kernel_rfl) (by kernel_rfl) (by kernel_rfl) (fun _ _ _ h=>h) (Or.inl ⟨by rfl,?_⟩) (by assumption) ?_
  · intro V hV
    go_simp
  try simp only [List.getElem_toArray,List.getElem_cons_zero,List.getElem_cons_succ,Act.put,List.setIfInBounds_toArray,List.set_cons_zero,List.set_cons_succ]
  refine wpAnyH_take (i:=8) (v:=.int .i64 0) rfl (by kernel_rfl) (by kernel_rfl) (by kernel_rfl) (fun _ _ _ h=>h) (Or.inl ⟨by rfl,?_⟩) (by assumption) ?_
  · intro V hV
    go_simp
  try simp only [List.getElem_toArray,List.getElem_cons_zero,List.getElem_cons_succ,Act.put,List.setIfInBounds_toArray,List.set_cons_zero,List.set_cons_succ]
  refine wpAnyH_done (by kernel_rfl) ?_ _
  have K2:=Lib.hid (K1.out.below D1.out K1.out.lt)
  have H2:=Lib.hid (H1.out.below D1.out H1.out.lt)
  have B2:=Lib.hid (B1.out.trans (D1.out.mono B1.out.size))
  clear s0 s1 hHeld
  have c1:=K2.out.cell 1
  go_wp2_with fail
  refine (HAW.out _).mono ?_
  rintro o w9 ⟨rfl,hb9⟩
  go_wp2_with fail
  go_ret
  exact ⟨rfl,B2.out.trans (hb9.mono B2.out.size)⟩
theorem law_B (pr:Int) (sh sl:Int) (d6:Bool) (dh dl sp dp:Int) (t6:Bool) (th tl port:Int) (A:Option Addr) (n0 n c:Nat) (w:World) (B:List Int) (B0:List Int) (hB28:28≤B.length) (hB0:B0=(B.set 26 0).set 27 0) (hu0:U8 B0) (e:Int) (he:e≠0) (rt:Bool) (hbad:port<0∨65535<port∨t6=true∨rt=false)
    (HC:Hid (∀ W,Calls Try.prog 10 #[.slice A n0 c] W fun o w'=>o=.returned (.slice A n c)∧W=w'))
    (HD:Hid (∀ K V,K≤V.heap.size→Below w.heap.size w V→Calls Try.prog 26 #[.agg #[.int .i64 pr,.bool false,.int .u64 sh,.int .u64 sl,.bool d6,.int .u64 dh,.int .u64 dl,.int .i64 sp,.int .i64 dp],.int .i64 64,.slice A n c] V (MkO K 0 B V)))
    (HT:Hid (∀ V A2 n2 c2,Sl V A2 n2 c2 B0→Calls Try.prog 22 #[.slice A2 n2 c2,.int .i64 1,.agg #[.bool t6,.int .u64 th,.int .u64 tl],.int .i64 port] V (MkP e [] V)))
    (HRT:Hid (∀ V,Calls Try.prog 16 #[.agg #[.bool t6,.int .u64 th,.int .u64 tl]] V fun o w'=>o=.returned (.bool rt)∧Below V.heap.size V w')) :
    Calls Try.prog 9 #[.agg #[.int .i64 pr,.bool false,.int .u64 sh,.int .u64 sl,.bool d6,.int .u64 dh,.int .u64 dl,.int .i64 sp,.int .i64 dp],.slice A n0 c,.agg #[.bool t6,.int .u64 th,.int .u64 tl],.int .i64 port] w fun o w'=>o=.returned (.bool true)∧Below w.heap.size w w':=by
  have HAW:=Lib.hid awake_any
  have HB28:=Lib.hid hB28
  have HB0:=Lib.hid hB0
  have HU0:=Lib.hid hu0
  clear hB28 hB0 hu0
  have te:(e != 0)=true:=by simpa using he
  have HBAD:=Lib.hid hbad
  clear he hbad
  obtain ⟨w1,hw1⟩:∃ w1,w1=(w.alloc (.cells #[.int .i64 pr,.bool false,.int .u64 sh,.int .u64 sl,.bool d6,.int .u64 dh,.int .u64 dl,.int .i64 sp,.int .i64 dp] 34)).alloc (.cells #[.bool t6,.int .u64 th,.int .u64 tl] 32):=⟨_,rfl⟩
  have E1:=Lib.hid hw1
  have B1:=Lib.hid (show Below w.heap.size w w1 from by rw [hw1]; exact ((Below.refl _ _).alloc (Nat.le_refl _) _).alloc (by simp) _)
  obtain ⟨g,hg⟩:∃ g,g=w.heap.size:=⟨_,rfl⟩
  obtain ⟨h,hh⟩:∃ h,h=w.heap.size+1:=⟨_,rfl⟩
  have EG:=Lib.hid hg
  have EH:=Lib.hid hh
  have K1:=Lib.hid (show Blk w1 g 34 #[.int .i64 pr,.bool false,.int .u64 sh,.int .u64 sl,.bool d6,.int .u64 dh,.int .u64 dl,.int .i64 sp,.int .i64 dp] from by rw [hw1,hg]; exact (Blk.new w _ _).below ((Below.refl _ _).alloc (Nat.le_refl _) _) (Blk.new w _ _).lt)
  have H1:=Lib.hid (show Blk w1 h 32 #[.bool t6,.int .u64 th,.int .u64 tl] from by
    have h9:=Blk.new (w.alloc (.cells #[.int .i64 pr,.bool false,.int .u64 sh,.int .u64 sl,.bool d6,.int .u64 dh,.int .u64 dl,.int .i64 sp,.int .i64 dp] 34)) 32 #[.bool t6,.int .u64 th,.int .u64 tl]
    rw [← hw1] at h9
    rw [hh]
    simpa using h9)
  have HV:=Lib.hid Try.underlying34
  have HIT:=Lib.hid (show (Try.prog.info? 34).map (·.size)=some 9 from by kernel_rfl)
  clear hw1 hg hh
  go_enter Try.func9,Try.ntmps9
  go_upto_region 1 with fail
  rw [← E1.out,← EH.out,← EG.out]
  have D0:=Lib.hid ((Below.refl w1.heap.size w1).drew)
  have HS_:=Lib.hid (show ∀ W,Below w1.heap.size w1 W→W.rangeAt g 0 (#[.int .i64 pr,.bool false,.int .u64 sh,.int .u64 sl,.bool d6,.int .u64 dh,.int .u64 dl,.int .i64 sp,.int .i64 dp]:Array Value).toList from fun W hW=>rng_blk (K1.out.below hW K1.out.lt))
  have s0:=HS_.out w1.drew D0.out
  refine wp_region_held_drew (S:=fun V=>V.rangeAt g 0 (#[.int .i64 pr,.bool false,.int .u64 sh,.int .u64 sl,.bool d6,.int .u64 dh,.int .u64 dl,.int .i64 sp,.int .i64 dp]:Array Value).toList) (by kernel_rfl) s0 (fun hHeld=>?_)
  refine wpAnyH_take (i:=0) (v:=.agg #[.int .i64 pr,.bool false,.int .u64 sh,.int .u64 sl,.bool d6,.int .u64 dh,.int .u64 dl,.int .i64 sp,.int .i64 dp]) rfl (by kernel_rfl) (by kernel_rfl) (by kernel_rfl) (fun _ _ _ h=>h) (yieldsIf_load_mid (by rfl) _ _ rfl g 0 rfl (#[.int .i64 pr,.bool false,.int .u64 sh,.int .u64 sl,.bool d6,.int .u64 dh,.int .u64 dl,.int .i64 sp,.int .i64 dp]:Array Value).toList _ (fun _ h=>h) HV.out rfl (by first | exact HIT.out | kernel_rfl)) (by assumption) ?_
  try simp only [List.getElem_toArray,List.getElem_cons_zero,Act.put,List.setIfInBounds_toArray,List.set_cons_zero,List.set_cons_succ]
  refine wpAnyH_take (i:=1) (v:=.slice A n0 c) rfl (by kernel_rfl) (by kernel_rfl) (by kernel_rfl) (fun _ _ _ h=>h) (Or.inl ⟨by rfl,?_⟩) (by assumption) ?_
  · intro V hV
    go_simp
  try simp only [List.getElem_toArray,List.getElem_cons_zero,List.getElem_cons_succ,Act.put,List.setIfInBounds_toArray,List.set_cons_zero,List.set_cons_succ]
  refine wpAnyH_ready (rs:=[2]) (by kernel_rfl) (by simp) ?_
  refine AllReadyH.cons rfl (fun K hK=>?_) AllReadyH.nil
  go_simp
  go_at_call 10
  (with_reducible refine (HC.out _).mono ?_)
  rintro o w' ⟨rfl,rfl⟩
  refine hK.out _ _ ?_ (fun hHeld=>?_)
  · exact s0
  clear hK K
  try simp only [List.getElem_toArray,List.getElem_cons_zero,List.getElem_cons_succ,Act.put,List.setIfInBounds_toArray,List.set_cons_zero,List.set_cons_succ]
  refine wpAnyH_ready (rs:=[3]) (by kernel_rfl) (by simp) ?_
  refine AllReadyH.cons rfl (fun K hK=>?_) AllReadyH.nil
  go_simp
  go_at_call 26
  (with_reducible refine (HD.out w1.heap.size w1.drew (show w1.heap.size≤w1.drew.heap.size from Nat.le_refl _) (B1.out.trans (D0.out.mono B1.out.size))).mono ?_)
  rintro o w2 ⟨hb2,A2,n2,c2,rfl,hs2⟩
  have hn2:B.length=n2:=by have:=hs2.1; simpa using this
  obtain ⟨q,cap,hv,hq1,hq2,_,_,hcell,hfr⟩:=own_form hs2 (by have:=HB28.out; omega)
  injection hv with hv1 hv2 hv3
  subst hv1
  subst hv3
  have N28:=Lib.hid (show 28≤n2 from by have:=HB28.out; omega)
  have HN2:=Lib.hid hn2
  have OWN:=Lib.hid hs2
  have Q1:=Lib.hid hq1
  have CE:=Lib.hid hcell
  have FR:=Lib.hid hfr
  clear hs2 hn2 hq1 hq2 hcell hfr
  have D1:=Lib.hid (D0.out.trans (hb2.mono D0.out.size))
  have s1:=HS_.out w2 D1.out
  clear hb2
  refine hK.out _ _ ?_ (fun hHeld=>?_)
  · exact s1
  clear hK K
  try simp only [List.getElem_toArray,List.getElem_cons_zero,List.getElem_cons_succ,Act.put,List.setIfInBounds_toArray,List.set_cons_zero,List.set_cons_succ]
  refine wpAnyH_take (i:=4) (v:=.tuple #[.slice (some ⟨q,0,none⟩) n2 c2,.int .i64 0]) rfl (by kernel_rfl) (by kernel_rfl) (by kernel_rfl) (fun _ _ _ h=>h) (Or.inl ⟨by rfl,?_⟩) (by assumption) ?_
  · intro V hV
    go_simp
  try simp only [List.getElem_toArray,List.getElem_cons_zero,List.getElem_cons_succ,Act.put,List.setIfInBounds_toArray,List.set_cons_zero,List.set_cons_succ]
  refine wpAnyH_take (i:=5) (v:=.slice (some ⟨q,0,none⟩) n2 c2) rfl (by kernel_rfl) (by kernel_rfl) (by kernel_rfl) (fun _ _ _ h=>h) (Or.inl ⟨by rfl,?_⟩) (by assumption) ?_
  · intro V hV
    go_simp
  try simp only [List.getElem_toArray,List.getElem_cons_zero,List.getElem_cons_succ,Act.put,List.setIfInBounds_toArray,List.set_cons_zero,List.set_cons_succ]
  refine wpAnyH_take (i:=6) (v:=.int .i64 0) rfl (by kernel_rfl) (by kernel_rfl) (by kernel_rfl) (fun _ _ _ h=>h) (Or.inl ⟨by rfl,?_⟩) (by assumption) ?_
  · intro V hV
    go_simp
  try simp only [List.getElem_toArray,List.getElem_cons_zero,List.getElem_cons_succ,Act.put,List.setIfInBounds_toArray,List.set_cons_zero,List.set_cons_succ]
  refine wpAnyH_take (i:=7) (v:=.slice (some ⟨q,0,none⟩) n2 c2) rfl (by kernel_rfl) (by kernel_rfl) (by kernel_rfl) (fun _ _ _ h=>h) (Or.inl ⟨by rfl,?_⟩) (by assumption) ?_
  · intro V hV
    go_simp
  try simp only [List.getElem_toArray,List.getElem_cons_zero,List.getElem_cons_succ,Act.put,List.setIfInBounds_toArray,List.set_cons_zero,List.set_cons_succ]
  refine wpAnyH_take (i:=8) (v:=.int .i64 0) rfl (by kernel_rfl) (by kernel_rfl) (by kernel_rfl) (fun _ _ _ h=>h) (Or.inl ⟨by rfl,?_⟩) (by assumption) ?_
  · intro V hV
    go_simp
  try simp only [List.getElem_toArray,List.getElem_cons_zero,List.getElem_cons_succ,Act.put,List.setIfInBounds_toArray,List.set_cons_zero,List.set_cons_succ]
  refine wpAnyH_done (by kernel_rfl) ?_ _
  have K2:=Lib.hid (K1.out.below D1.out K1.out.lt)
  have H2:=Lib.hid (H1.out.below D1.out H1.out.lt)
  have B2:=Lib.hid (B1.out.trans (D1.out.mono B1.out.size))
  clear s0 s1 hHeld
  have c1:=K2.out.cell 1
  have q28:decide ((n2:Int)<28)=false:=decide_eq_false (by have:=N28.out; omega)
  have j26:(26:Int)<n2:=by have:=N28.out; omega
  have j27:(27:Int)<n2:=by have:=N28.out; omega
  have d26:decide ((26:Int)<n2)=true:=decide_eq_true j26
  have d27:decide ((27:Int)<n2)=true:=decide_eq_true j27
  obtain ⟨x26,y26⟩:∃ x,w2.cell? ⟨q,26,none⟩=some x:=by
    have:=N28.out
    have:=HN2.out
    exact ⟨_,(CE.out 26 (by omega)).trans (List.getElem?_eq_getElem (by simp; omega))⟩
  obtain ⟨x27,z27⟩:∃ x,w2.cell? ⟨q,27,none⟩=some x:=by
    have:=N28.out
    have:=HN2.out
    exact ⟨_,(CE.out 27 (by omega)).trans (List.getElem?_eq_getElem (by simp; omega))⟩
  have f26:=FR.out 26
  obtain ⟨w3,hw3⟩:∃ w3,w3=w2.setCell ⟨q,26,none⟩ (.int .u8 0):=⟨_,rfl⟩
  have E3:=Lib.hid hw3
  have o3:=own_stored OWN.out 26 (.int .u8 0)
  have g3:=(own_form o3 (by have:=N28.out; omega))
  obtain ⟨q',cap',hv,_,_,_,_,hcell,hfr⟩:=g3
  injection hv with hv1 hv2 hv3
  injection hv1 with hv1
  injection hv1 with hv1
  subst hv1
  rw [← hw3] at hcell hfr o3
  obtain ⟨x27',y27⟩:∃ x,w3.cell? ⟨q,27,none⟩=some x:=by
    have:=N28.out
    have:=HN2.out
    exact ⟨_,(hcell 27 (by omega)).trans (List.getElem?_eq_getElem (by simp; omega))⟩
  have f27:=hfr 27
  obtain ⟨w4,hw4⟩:∃ w4,w4=w3.setCell ⟨q,27,none⟩ (.int .u8 0):=⟨_,rfl⟩
  have E4:=Lib.hid hw4
  have o4:=own_stored o3 27 (.int .u8 0)
  rw [← hw4] at o4
  have SL4:=Lib.hid (show Sl w4 (some ⟨q,0,none⟩) n2 c2 B0 from Sl.own (by rw [HB0.out,List.map_set,List.map_set]; exact o4) (by rw [HB0.out,List.length_set,List.length_set]; exact HN2.out) HU0.out)
  have OQ:=Lib.hid (show OnlyG q w2 w4 from by rw [hw4,hw3]; exact ((OnlyG.refl q w2).set 26 _).set 27 _)
  have H4:=Lib.hid (OQ.out.blk H2.out (by have:=Q1.out; have:=H1.out.lt; omega))
  have B4:=Lib.hid (OQ.out.from B2.out (by have:=Q1.out; have:=B1.out.size; omega))
  clear z27 hcell hfr o3 o4 hw3 hw4 hv2 hv3
  go_upto_region 7 with fail
  rw [← E3.out]
  go_upto_region 8 with fail
  rw [← E4.out]
  clear y26 f26 y27 f27 c1 q28
  have x0:=H4.out.cell 0
  have x1:=H4.out.cell 1
  have x2:=H4.out.cell 2
  go_wp2_with fail
  refine (HT.out _ _ _ _ SL4.out).mono ?_
  rintro o w5 ⟨hb5,AX,nx,cx,rfl,hsx⟩
  have H5:=Lib.hid (H4.out.below hb5 H4.out.lt)
  have B5:=Lib.hid (B4.out.trans (hb5.mono B4.out.size))
  clear hb5 hsx x0 x1 x2
  have x0:=H5.out.cell 0
  have x1:=H5.out.cell 1
  have x2:=H5.out.cell 2
  have hbad:=HBAD.out
  by_cases hp0:port<0
  · have q0:decide (port<0)=true:=decide_eq_true hp0
    clear hbad hp0
    go_wp2_with fail
    refine (HAW.out _).mono ?_
    rintro o w9 ⟨rfl,hb9⟩
    go_wp2_with fail
    go_ret
    exact ⟨rfl,B5.out.trans (hb9.mono B5.out.size)⟩
  · have q0:decide (port<0)=false:=decide_eq_false hp0
    by_cases hp9:65535<port
    · have q9:decide (65535<port)=true:=decide_eq_true hp9
      clear hbad hp0 hp9
      go_wp2_with fail
      refine (HAW.out _).mono ?_
      rintro o w9 ⟨rfl,hb9⟩
      go_wp2_with fail
      go_ret
      exact ⟨rfl,B5.out.trans (hb9.mono B5.out.size)⟩
    · have q9:decide (65535<port)=false:=decide_eq_false hp9
      cases t6 with
      | true =>
        clear hbad hp0 hp9
        go_wp2_with fail
        refine (HAW.out _).mono ?_
        rintro o w9 ⟨rfl,hb9⟩
        go_wp2_with fail
        go_ret
        exact ⟨rfl,B5.out.trans (hb9.mono B5.out.size)⟩
      | false =>
        have hrt:rt=false:=by
          rcases hbad with k | k | k | k
          · exact absurd k hp0
          · exact absurd k hp9
          · cases k
          · exact k
        subst hrt
        clear hbad hp0 hp9
        go_wp2_with fail
        refine (HRT.out _).mono ?_
        rintro o w6 ⟨rfl,hb6⟩
        have B6:=Lib.hid (B5.out.trans (hb6.mono B5.out.size))
        clear hb6
        go_wp2_with fail
        refine (HAW.out _).mono ?_
        rintro o w9 ⟨rfl,hb9⟩
        go_wp2_with fail
        go_ret
        exact ⟨rfl,B6.out.trans (hb9.mono B6.out.size)⟩
theorem law_G (pr:Int) (sh sl:Int) (d6:Bool) (dh dl sp dp:Int) (th tl port:Int) (A:Option Addr) (n0 n c:Nat) (w:World) (B:List Int) (B0:List Int) (hB28:28≤B.length) (hB0:B0=(B.set 26 0).set 27 0) (hu0:U8 B0) (X:List Int) (hX28:28≤X.length) (hX9:X.length≤1000) (hX26:X.getD 26 0=0) (hX27:X.getD 27 0=0) (z:Int)
    (HC:Hid (∀ W,Calls Try.prog 10 #[.slice A n0 c] W fun o w'=>o=.returned (.slice A n c)∧W=w'))
    (HD:Hid (∀ K V,K≤V.heap.size→Below w.heap.size w V→Calls Try.prog 26 #[.agg #[.int .i64 pr,.bool false,.int .u64 sh,.int .u64 sl,.bool d6,.int .u64 dh,.int .u64 dl,.int .i64 sp,.int .i64 dp],.int .i64 64,.slice A n c] V (MkO K 0 B V)))
    (HT:Hid (∀ V A2 n2 c2,Sl V A2 n2 c2 B0→Calls Try.prog 22 #[.slice A2 n2 c2,.int .i64 1,.agg #[.bool false,.int .u64 th,.int .u64 tl],.int .i64 port] V (MkP 0 X V)))
    (HP:Hid (∀ V A2 n2 c2,Sl V A2 n2 c2 X→Calls Try.prog 14 #[.slice A2 n2 c2] V fun o w'=>o=.returned (.tuple #[.agg #[.bool false,.int .i64 17,.bool false,.int .u64 0,.int .u64 sl,.bool false,.int .u64 th,.int .u64 tl,.int .i64 sp,.int .i64 port,.int .i64 64,.int .i64 0,.bool false,.int .i64 0,.bool false,.int .u64 0,.int .u64 0,.bool false,.int .u64 0,.int .u64 0,.int .i64 0,.int .i64 0,.int .i64 z],.int .i64 0])∧Below V.heap.size V w')) :
    Calls Try.prog 9 #[.agg #[.int .i64 pr,.bool false,.int .u64 sh,.int .u64 sl,.bool d6,.int .u64 dh,.int .u64 dl,.int .i64 sp,.int .i64 dp],.slice A n0 c,.agg #[.bool false,.int .u64 th,.int .u64 tl],.int .i64 port] w fun o w'=>o=.returned (.bool true)∧Below w.heap.size w w':=by
  have HAW:=Lib.hid awake_any
  have HB28:=Lib.hid hB28
  have HB0:=Lib.hid hB0
  have HU0:=Lib.hid hu0
  clear hB28 hB0 hu0
  have HX28:=Lib.hid hX28
  have HX9:=Lib.hid hX9
  have HX26:=Lib.hid hX26
  have HX27:=Lib.hid hX27
  clear hX28 hX9 hX26 hX27
  obtain ⟨Y,hY⟩:∃ Y:Array Value,Y=#[.bool false,.int .i64 17,.bool false,.int .u64 0,.int .u64 sl,.bool false,.int .u64 th,.int .u64 tl,.int .i64 sp,.int .i64 port,.int .i64 64,.int .i64 0,.bool false,.int .i64 0,.bool false,.int .u64 0,.int .u64 0,.bool false,.int .u64 0,.int .u64 0,.int .i64 0,.int .i64 0,.int .i64 z]:=⟨_,rfl⟩
  have ys:Y.size=23:=by rw [hY]; rfl
  have ONE:=Lib.hid (show Y.all (·.oneCell')=true from by rw [hY]; simp [Value.oneCell'])
  have HIY:=Lib.hid (show (Try.prog.info? 36).map (·.size)=some Y.size from by rw [ys]; exact pk_size)
  have ZY:=Lib.hid (show (#[.bool false,.int .i64 0,.bool false,.int .u64 0,.int .u64 0,.bool false,.int .u64 0,.int .u64 0,.int .i64 0,.int .i64 0,.int .i64 0,.int .i64 0,.bool false,.int .i64 0,.bool false,.int .u64 0,.int .u64 0,.bool false,.int .u64 0,.int .u64 0,.int .i64 0,.int .i64 0,.int .i64 0]:Array Value).size=Y.size from by rw [ys]; rfl)
  rw [← hY] at HP
  have HY:=Lib.hid hY
  have AQ:∀ W:World,(binOp .eql 32 (.agg #[.bool false,.int .u64 th,.int .u64 tl]) (.agg #[.bool false,.int .u64 th,.int .u64 tl])).run Try.prog W=.ok (.bool true) W:=fun W=>by go_simp
  clear hY ys
  obtain ⟨w1,hw1⟩:∃ w1,w1=(w.alloc (.cells #[.int .i64 pr,.bool false,.int .u64 sh,.int .u64 sl,.bool d6,.int .u64 dh,.int .u64 dl,.int .i64 sp,.int .i64 dp] 34)).alloc (.cells #[.bool false,.int .u64 th,.int .u64 tl] 32):=⟨_,rfl⟩
  have E1:=Lib.hid hw1
  have B1:=Lib.hid (show Below w.heap.size w w1 from by rw [hw1]; exact ((Below.refl _ _).alloc (Nat.le_refl _) _).alloc (by simp) _)
  obtain ⟨g,hg⟩:∃ g,g=w.heap.size:=⟨_,rfl⟩
  obtain ⟨h,hh⟩:∃ h,h=w.heap.size+1:=⟨_,rfl⟩
  have EG:=Lib.hid hg
  have EH:=Lib.hid hh
  have K1:=Lib.hid (show Blk w1 g 34 #[.int .i64 pr,.bool false,.int .u64 sh,.int .u64 sl,.bool d6,.int .u64 dh,.int .u64 dl,.int .i64 sp,.int .i64 dp] from by rw [hw1,hg]; exact (Blk.new w _ _).below ((Below.refl _ _).alloc (Nat.le_refl _) _) (Blk.new w _ _).lt)
  have H1:=Lib.hid (show Blk w1 h 32 #[.bool false,.int .u64 th,.int .u64 tl] from by
    have h9:=Blk.new (w.alloc (.cells #[.int .i64 pr,.bool false,.int .u64 sh,.int .u64 sl,.bool d6,.int .u64 dh,.int .u64 dl,.int .i64 sp,.int .i64 dp] 34)) 32 #[.bool false,.int .u64 th,.int .u64 tl]
    rw [← hw1] at h9
    rw [hh]
    simpa using h9)
  have HV:=Lib.hid Try.underlying34
  have HIT:=Lib.hid (show (Try.prog.info? 34).map (·.size)=some 9 from by kernel_rfl)
  clear hw1 hg hh
  go_enter Try.func9,Try.ntmps9
  go_upto_region 1 with fail
  rw [← E1.out,← EH.out,← EG.out]
  have D0:=Lib.hid ((Below.refl w1.heap.size w1).drew)
  have HS_:=Lib.hid (show ∀ W,Below w1.heap.size w1 W→W.rangeAt g 0 (#[.int .i64 pr,.bool false,.int .u64 sh,.int .u64 sl,.bool d6,.int .u64 dh,.int .u64 dl,.int .i64 sp,.int .i64 dp]:Array Value).toList from fun W hW=>rng_blk (K1.out.below hW K1.out.lt))
  have s0:=HS_.out w1.drew D0.out
  refine wp_region_held_drew (S:=fun V=>V.rangeAt g 0 (#[.int .i64 pr,.bool false,.int .u64 sh,.int .u64 sl,.bool d6,.int .u64 dh,.int .u64 dl,.int .i64 sp,.int .i64 dp]:Array Value).toList) (by kernel_rfl) s0 (fun hHeld=>?_)
  refine wpAnyH_take (i:=0) (v:=.agg #[.int .i64 pr,.bool false,.int .u64 sh,.int .u64 sl,.bool d6,.int .u64 dh,.int .u64 dl,.int .i64 sp,.int .i64 dp]) rfl (by kernel_rfl) (by kernel_rfl) (by kernel_rfl) (fun _ _ _ h=>h) (yieldsIf_load_mid (by rfl) _ _ rfl g 0 rfl (#[.int .i64 pr,.bool false,.int .u64 sh,.int .u64 sl,.bool d6,.int .u64 dh,.int .u64 dl,.int .i64 sp,.int .i64 dp]:Array Value).toList _ (fun _ h=>h) HV.out rfl (by first | exact HIT.out | kernel_rfl)) (by assumption) ?_
  try simp only [List.getElem_toArray,List.getElem_cons_zero,Act.put,List.setIfInBounds_toArray,List.set_cons_zero,List.set_cons_succ]
  refine wpAnyH_take (i:=1) (v:=.slice A n0 c) rfl (by kernel_rfl) (by kernel_rfl) (by kernel_rfl) (fun _ _ _ h=>h) (Or.inl ⟨by rfl,?_⟩) (by assumption) ?_
  · intro V hV
    go_simp
  try simp only [List.getElem_toArray,List.getElem_cons_zero,List.getElem_cons_succ,Act.put,List.setIfInBounds_toArray,List.set_cons_zero,List.set_cons_succ]
  refine wpAnyH_ready (rs:=[2]) (by kernel_rfl) (by simp) ?_
  refine AllReadyH.cons rfl (fun K hK=>?_) AllReadyH.nil
  go_simp
  go_at_call 10
  (with_reducible refine (HC.out _).mono ?_)
  rintro o w' ⟨rfl,rfl⟩
  refine hK.out _ _ ?_ (fun hHeld=>?_)
  · exact s0
  clear hK K
  try simp only [List.getElem_toArray,List.getElem_cons_zero,List.getElem_cons_succ,Act.put,List.setIfInBounds_toArray,List.set_cons_zero,List.set_cons_succ]
  refine wpAnyH_ready (rs:=[3]) (by kernel_rfl) (by simp) ?_
  refine AllReadyH.cons rfl (fun K hK=>?_) AllReadyH.nil
  go_simp
  go_at_call 26
  (with_reducible refine (HD.out w1.heap.size w1.drew (show w1.heap.size≤w1.drew.heap.size from Nat.le_refl _) (B1.out.trans (D0.out.mono B1.out.size))).mono ?_)
  rintro o w2 ⟨hb2,A2,n2,c2,rfl,hs2⟩
  have hn2:B.length=n2:=by have:=hs2.1; simpa using this
  obtain ⟨q,cap,hv,hq1,hq2,_,_,hcell,hfr⟩:=own_form hs2 (by have:=HB28.out; omega)
  injection hv with hv1 hv2 hv3
  subst hv1
  subst hv3
  have N28:=Lib.hid (show 28≤n2 from by have:=HB28.out; omega)
  have HN2:=Lib.hid hn2
  have OWN:=Lib.hid hs2
  have Q1:=Lib.hid hq1
  have CE:=Lib.hid hcell
  have FR:=Lib.hid hfr
  clear hs2 hn2 hq1 hq2 hcell hfr
  have D1:=Lib.hid (D0.out.trans (hb2.mono D0.out.size))
  have s1:=HS_.out w2 D1.out
  clear hb2
  refine hK.out _ _ ?_ (fun hHeld=>?_)
  · exact s1
  clear hK K
  try simp only [List.getElem_toArray,List.getElem_cons_zero,List.getElem_cons_succ,Act.put,List.setIfInBounds_toArray,List.set_cons_zero,List.set_cons_succ]
  refine wpAnyH_take (i:=4) (v:=.tuple #[.slice (some ⟨q,0,none⟩) n2 c2,.int .i64 0]) rfl (by kernel_rfl) (by kernel_rfl) (by kernel_rfl) (fun _ _ _ h=>h) (Or.inl ⟨by rfl,?_⟩) (by assumption) ?_
  · intro V hV
    go_simp
  try simp only [List.getElem_toArray,List.getElem_cons_zero,List.getElem_cons_succ,Act.put,List.setIfInBounds_toArray,List.set_cons_zero,List.set_cons_succ]
  refine wpAnyH_take (i:=5) (v:=.slice (some ⟨q,0,none⟩) n2 c2) rfl (by kernel_rfl) (by kernel_rfl) (by kernel_rfl) (fun _ _ _ h=>h) (Or.inl ⟨by rfl,?_⟩) (by assumption) ?_
  · intro V hV
    go_simp
  try simp only [List.getElem_toArray,List.getElem_cons_zero,List.getElem_cons_succ,Act.put,List.setIfInBounds_toArray,List.set_cons_zero,List.set_cons_succ]
  refine wpAnyH_take (i:=6) (v:=.int .i64 0) rfl (by kernel_rfl) (by kernel_rfl) (by kernel_rfl) (fun _ _ _ h=>h) (Or.inl ⟨by rfl,?_⟩) (by assumption) ?_
  · intro V hV
    go_simp
  try simp only [List.getElem_toArray,List.getElem_cons_zero,List.getElem_cons_succ,Act.put,List.setIfInBounds_toArray,List.set_cons_zero,List.set_cons_succ]
  refine wpAnyH_take (i:=7) (v:=.slice (some ⟨q,0,none⟩) n2 c2) rfl (by kernel_rfl) (by kernel_rfl) (by kernel_rfl) (fun _ _ _ h=>h) (Or.inl ⟨by rfl,?_⟩) (by assumption) ?_
  · intro V hV
    go_simp
  try simp only [List.getElem_toArray,List.getElem_cons_zero,List.getElem_cons_succ,Act.put,List.setIfInBounds_toArray,List.set_cons_zero,List.set_cons_succ]
  refine wpAnyH_take (i:=8) (v:=.int .i64 0) rfl (by kernel_rfl) (by kernel_rfl) (by kernel_rfl) (fun _ _ _ h=>h) (Or.inl ⟨by rfl,?_⟩) (by assumption) ?_
  · intro V hV
    go_simp
  try simp only [List.getElem_toArray,List.getElem_cons_zero,List.getElem_cons_succ,Act.put,List.setIfInBounds_toArray,List.set_cons_zero,List.set_cons_succ]
  refine wpAnyH_done (by kernel_rfl) ?_ _
  have K2:=Lib.hid (K1.out.below D1.out K1.out.lt)
  have H2:=Lib.hid (H1.out.below D1.out H1.out.lt)
  have B2:=Lib.hid (B1.out.trans (D1.out.mono B1.out.size))
  clear s0 s1 hHeld
  have c1:=K2.out.cell 1
  have q28:decide ((n2:Int)<28)=false:=decide_eq_false (by have:=N28.out; omega)
  have j26:(26:Int)<n2:=by have:=N28.out; omega
  have j27:(27:Int)<n2:=by have:=N28.out; omega
  have d26:decide ((26:Int)<n2)=true:=decide_eq_true j26
  have d27:decide ((27:Int)<n2)=true:=decide_eq_true j27
  obtain ⟨x26,y26⟩:∃ x,w2.cell? ⟨q,26,none⟩=some x:=by
    have:=N28.out
    have:=HN2.out
    exact ⟨_,(CE.out 26 (by omega)).trans (List.getElem?_eq_getElem (by simp; omega))⟩
  obtain ⟨x27,z27⟩:∃ x,w2.cell? ⟨q,27,none⟩=some x:=by
    have:=N28.out
    have:=HN2.out
    exact ⟨_,(CE.out 27 (by omega)).trans (List.getElem?_eq_getElem (by simp; omega))⟩
  have f26:=FR.out 26
  obtain ⟨w3,hw3⟩:∃ w3,w3=w2.setCell ⟨q,26,none⟩ (.int .u8 0):=⟨_,rfl⟩
  have E3:=Lib.hid hw3
  have o3:=own_stored OWN.out 26 (.int .u8 0)
  have g3:=(own_form o3 (by have:=N28.out; omega))
  obtain ⟨q',cap',hv,_,_,_,_,hcell,hfr⟩:=g3
  injection hv with hv1 hv2 hv3
  injection hv1 with hv1
  injection hv1 with hv1
  subst hv1
  rw [← hw3] at hcell hfr o3
  obtain ⟨x27',y27⟩:∃ x,w3.cell? ⟨q,27,none⟩=some x:=by
    have:=N28.out
    have:=HN2.out
    exact ⟨_,(hcell 27 (by omega)).trans (List.getElem?_eq_getElem (by simp; omega))⟩
  have f27:=hfr 27
  obtain ⟨w4,hw4⟩:∃ w4,w4=w3.setCell ⟨q,27,none⟩ (.int .u8 0):=⟨_,rfl⟩
  have E4:=Lib.hid hw4
  have o4:=own_stored o3 27 (.int .u8 0)
  rw [← hw4] at o4
  have SL4:=Lib.hid (show Sl w4 (some ⟨q,0,none⟩) n2 c2 B0 from Sl.own (by rw [HB0.out,List.map_set,List.map_set]; exact o4) (by rw [HB0.out,List.length_set,List.length_set]; exact HN2.out) HU0.out)
  have OQ:=Lib.hid (show OnlyG q w2 w4 from by rw [hw4,hw3]; exact ((OnlyG.refl q w2).set 26 _).set 27 _)
  have H4:=Lib.hid (OQ.out.blk H2.out (by have:=Q1.out; have:=H1.out.lt; omega))
  have B4:=Lib.hid (OQ.out.from B2.out (by have:=Q1.out; have:=B1.out.size; omega))
  clear z27 hcell hfr o3 o4 hw3 hw4 hv2 hv3
  go_upto_region 7 with fail
  rw [← E3.out]
  go_upto_region 8 with fail
  rw [← E4.out]
  clear y26 f26 y27 f27 c1 q28
  have x0:=H4.out.cell 0
  have x1:=H4.out.cell 1
  have x2:=H4.out.cell 2
  go_wp2_with fail
  refine (HT.out _ _ _ _ SL4.out).mono ?_
  rintro o w5 ⟨hb5,AX,nx,cx,rfl,hsx⟩
  have hnx:=hsx.len
  obtain ⟨b,off,rfl,hb,hc⟩:=lies_of hsx.row (by have:=HX28.out; omega)
  have u26:=hc 26 (by have:=HX28.out; omega)
  have u27:=hc 27 (by have:=HX28.out; omega)
  rw [HX26.out] at u26
  rw [HX27.out] at u27
  have U26:=Lib.hid u26
  have U27:=Lib.hid u27
  have HBB:=Lib.hid hb
  have SX5:=Lib.hid hsx
  have H5:=Lib.hid (H4.out.below hb5 H4.out.lt)
  have B5:=Lib.hid (B4.out.trans (hb5.mono B4.out.size))
  have NX:=Lib.hid (show 28≤nx from by have:=HX28.out; omega)
  clear hb5 hsx hc u26 u27 hb hnx x0 x1 x2 j26 j27 d26 d27
  go_wp2_with fail
  refine (HP.out _ _ _ _ SX5.out).mono ?_
  rintro o w6 ⟨rfl,hb6⟩
  obtain ⟨w7,hw7⟩:∃ w7,w7=(w6.alloc (.cells #[.bool false,.int .i64 0,.bool false,.int .u64 0,.int .u64 0,.bool false,.int .u64 0,.int .u64 0,.int .i64 0,.int .i64 0,.int .i64 0,.int .i64 0,.bool false,.int .i64 0,.bool false,.int .u64 0,.int .u64 0,.bool false,.int .u64 0,.int .u64 0,.int .i64 0,.int .i64 0,.int .i64 0] 36)).setRow w6.heap.size Y:=⟨_,rfl⟩
  obtain ⟨g5,hg5⟩:∃ g5,g5=w6.heap.size:=⟨_,rfl⟩
  have E7:=Lib.hid hw7
  have EG5:=Lib.hid hg5
  have KY7:=Lib.hid (show Blk w7 g5 36 Y from by rw [hw7,hg5]; exact blkRow (Blk.new w6 _ _) _)
  have B67:=Lib.hid (show Below w6.heap.size w6 w7 from by rw [hw7]; exact (onlyRow _).from ((Below.refl _ _).alloc (Nat.le_refl _) _) (Nat.le_refl _))
  have B57:=Lib.hid (hb6.trans (B67.out.mono hb6.size))
  have H7:=Lib.hid (H5.out.below B57.out H5.out.lt)
  have SX7:=Lib.hid (SX5.out.below B57.out)
  have B7:=Lib.hid (B5.out.trans (B57.out.mono B5.out.size))
  have u26:w7.cell? ⟨b,off+26,none⟩=some (.int .u8 0):=(B57.out.cell HBB.out).trans U26.out
  have u27:w7.cell? ⟨b,off+27,none⟩=some (.int .u8 0):=(B57.out.cell HBB.out).trans U27.out
  clear hw7 hg5 hb6
  go_upto_region 12 with (refine wpList_store_row rfl 36 _ _ rfl w6.heap.size Y rfl rfl 36 #[.bool false,.int .i64 0,.bool false,.int .u64 0,.int .u64 0,.bool false,.int .u64 0,.int .u64 0,.int .i64 0,.int .i64 0,.int .i64 0,.int .i64 0,.bool false,.int .i64 0,.bool false,.int .u64 0,.int .u64 0,.bool false,.int .u64 0,.int .u64 0,.int .i64 0,.int .i64 0,.int .i64 0] (Blk.new w6 _ _) HIY.out ZY.out ONE.out ?_)
  rw [← E7.out,← EG5.out]
  have kp:=KY7.out
  rw [HY.out] at kp
  have c5:=kp.cell 5
  have c6:=kp.cell 6
  have c7:=kp.cell 7
  have c9:=kp.cell 9
  clear kp
  have x0:=H7.out.cell 0
  have x1:=H7.out.cell 1
  have x2:=H7.out.cell 2
  have j26:(26:Int)<nx:=by have:=NX.out; omega
  have j27:(27:Int)<nx:=by have:=NX.out; omega
  have d26:decide ((26:Int)<nx)=true:=decide_eq_true j26
  have d27:decide ((27:Int)<nx)=true:=decide_eq_true j27
  have qp:(port == port)=true:=by simp
  go_wp2_with fail
  refine (HAW.out _).mono ?_
  rintro o w9 ⟨rfl,hb9⟩
  go_wp2_with fail
  go_ret
  exact ⟨rfl,B7.out.trans (hb9.mono B7.out.size)⟩
theorem bare_law (pr:Int) (s6:Bool) (sh sl:Int) (d6:Bool) (dh dl sp dp:Int) (t6:Bool) (th tl port:Int) (b1:0≤sh∧sh<18446744073709551616) (b2:0≤sl∧sl<18446744073709551616) (b3:0≤dh∧dh<18446744073709551616) (b4:0≤dl∧dl<18446744073709551616) (k1:0≤th∧th<18446744073709551616) (k2:0≤tl∧tl<18446744073709551616) (A:Option Addr) (n0 c:Nat) (l0:List Int) (w:World) (hl0:l0.length=n0) (hr0:Row w w.heap.size A (l0.map (.int .u8))) (hu0:U8 l0) (hnc0:n0≤c) (hc:c≤9223372036854775807) (hnil:A=none→c=0) :
    Calls Try.prog 9 #[.agg #[.int .i64 pr,.bool s6,.int .u64 sh,.int .u64 sl,.bool d6,.int .u64 dh,.int .u64 dl,.int .i64 sp,.int .i64 dp],.slice A n0 c,.agg #[.bool t6,.int .u64 th,.int .u64 tl],.int .i64 port] w fun o w'=>o=.returned (.bool true)∧Below w.heap.size w w':=by
  have HC:=Lib.hid fun W=>cut_any A n0 c W (fun h=>by
    obtain ⟨b,off,hA,_,_⟩:=lies_of hr0 (by omega)
    exact ⟨b,off,hA⟩) hnc0 hc
  obtain ⟨n,hn⟩:∃ n,n=min n0 500:=⟨_,rfl⟩
  obtain ⟨pl,hll⟩:∃ pl,pl=l0.take n:=⟨_,rfl⟩
  have hl:pl.length=n:=by rw [hll,List.length_take]; omega
  have hu:U8 pl:=by rw [hll]; exact hu0.take n
  have hr:Row w w.heap.size A (pl.map (.int .u8)):=by
    have:=hr0.take n
    rw [← List.map_take,← hll] at this
    exact this
  have hsl:Sl w A n c pl:=⟨hl,hr,by omega,hc,hnil,hu⟩
  rw [← hn] at HC
  by_cases hM:Made pr s6 sh sl d6 dh dl sp dp 64 0 17
  case neg=>exact law_N pr s6 sh sl d6 dh dl sp dp t6 th tl port A n0 n c w HC (Lib.hid fun V hV=>dgram_bad pr s6 sh sl d6 dh dl sp dp 64 0 A n c pl V (hsl.below hV) (by omega) b1 b2 b3 b4 hM)
  case pos =>
    cases s6 with
    | true =>
      obtain ⟨B,_,_,_,hD⟩:=dgram_made pr true sh sl d6 dh dl sp dp 64 0 pl (by omega) hu b1 b2 b3 b4 hM
      exact law_6 pr sh sl d6 dh dl sp dp t6 th tl port A n0 n c w B HC (Lib.hid fun V hV=>hD A n c V (hsl.below hV))
    | false =>
      clear hu0
      obtain ⟨B,B0,hBl,hu0,hB0,hP,hX,hD⟩:=bare_made pr sh sl d6 dh dl sp dp 64 pl (by omega) hu b1 b2 b3 b4 hM
      have hB0l:B0.length=B.length:=by rw [hB0,List.length_set,List.length_set]
      by_cases hp0:port<0
      · exact law_B pr sh sl d6 dh dl sp dp t6 th tl port A n0 n c w B B0 (by omega) hB0 hu0 1 (by decide) (okAd t6 th tl) (.inl hp0) HC (Lib.hid fun K V hK hV=>hD K A n c V hK (hsl.below hV)) (Lib.hid fun V A2 n2 c2 h2=>turn_bad B0 (by omega) 1 th tl port t6 k2.1 1 (by decide) (by rw [hP,if_neg (fun h=>h rfl),if_pos (.inr (.inl hp0))]) A2 n2 c2 V h2) (Lib.hid fun V=>aright_any t6 th tl V k2.1)
      by_cases hp9:65535<port
      · exact law_B pr sh sl d6 dh dl sp dp t6 th tl port A n0 n c w B B0 (by omega) hB0 hu0 1 (by decide) (okAd t6 th tl) (.inr (.inl hp9)) HC (Lib.hid fun K V hK hV=>hD K A n c V hK (hsl.below hV)) (Lib.hid fun V A2 n2 c2 h2=>turn_bad B0 (by omega) 1 th tl port t6 k2.1 1 (by decide) (by rw [hP,if_neg (fun h=>h rfl),if_pos (.inr (.inr (.inl hp9)))]) A2 n2 c2 V h2) (Lib.hid fun V=>aright_any t6 th tl V k2.1)
      have hG:¬ (((1:Int)≠0∧(1:Int)≠1)∨port<0∨65535<port∨false=true):=by
        rintro (⟨_,k⟩ | k | k | k)
        · exact k rfl
        · exact hp0 k
        · exact hp9 k
        · cases k
      cases t6 with
      | true=>exact law_B pr sh sl d6 dh dl sp dp true th tl port A n0 n c w B B0 (by omega) hB0 hu0 18 (by decide) (okAd true th tl) (.inr (.inr (.inl rfl))) HC (Lib.hid fun K V hK hV=>hD K A n c V hK (hsl.below hV)) (Lib.hid fun V A2 n2 c2 h2=>turn_bad B0 (by omega) 1 th tl port true k2.1 18 (by decide) (by rw [hP,if_neg (fun h=>h rfl),if_neg hG,if_pos (.inl (show true≠false by decide))]) A2 n2 c2 V h2) (Lib.hid fun V=>aright_any true th tl V k2.1)
      | false =>
        cases hok:okAd false th tl with
        | false=>exact law_B pr sh sl d6 dh dl sp dp false th tl port A n0 n c w B B0 (by omega) hB0 hu0 18 (by decide) (okAd false th tl) (.inr (.inr (.inr hok))) HC (Lib.hid fun K V hK hV=>hD K A n c V hK (hsl.below hV)) (Lib.hid fun V A2 n2 c2 h2=>turn_bad B0 (by omega) 1 th tl port false k2.1 18 (by decide) (by rw [hP,if_neg (fun h=>h rfl),if_neg hG,if_pos (.inr hok)]) A2 n2 c2 V h2) (Lib.hid fun V=>aright_any false th tl V k2.1)
        | true =>
          obtain ⟨X,hXp,hXl,hXu,hXle,hXn,hT⟩:=turn_good B0 hu0 (by omega) _ hP rfl 1 (by omega) th tl port k1.1 k1.2 k2.1 k2.2 (by omega) (by omega) hok
          have hXB:X.length=B.length:=by simp only at hXl; omega
          obtain ⟨x26,x27⟩:=hX X th tl port hXn
          exact law_G pr sh sl d6 dh dl sp dp th tl port A n0 n c w B B0 (by omega) hB0 hu0 X (by omega) (by omega) x26 x27 _ HC (Lib.hid fun K V hK hV=>hD K A n c V hK (hsl.below hV)) (Lib.hid fun V A2 n2 c2 h2=>hT A2 n2 c2 V h2) (Lib.hid fun V A2 n2 c2 h2=>by
            have:=parse_any A2 n2 c2 X V h2 (by have:=h2.len; omega)
            rw [hXp] at this
            exact this)
end Go.Proofs.Ytodckfgfbcnkoaa.natJ
