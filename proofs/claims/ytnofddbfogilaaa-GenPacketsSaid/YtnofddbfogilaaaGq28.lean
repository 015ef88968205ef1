/- 2 texts in one. -/
import Derived.Deep.RegionWith
import Derived.Deep.RegionHeld3
import Derived.Deep.DeepCutAuto
import Derived.Deep.WholeRow
import Derived.Test.YtnofddbfogilaaaGq27
/- Layer 35: traffic made, and its next flow. -/
namespace Go.Proofs.Ytnofddbfogilaaa.genD
set_option maxHeartbeats 4000000
open Go.ChangeShapes Go.WideShapes Go.ChangeAt Go.RowKit
open base mixB mixC rdrG pktA pktC genW genA genB genC
set_option linter.unusedVariables false
set_option linter.unusedSimpArgs false
theorem made_src {w:World} {g q:Nat} {p:Pl} {a:Int} {v:Value} (h:SM w g q p a v) (hp:p.right) (hin:p.In) :
  Calls Try.prog 20 #[.pointer (some ⟨g,0,none⟩)] w fun o w'=>o=.returned (.bool true)∧Below w.heap.size w w':=by
 obtain ⟨key,cl,po,v6,hh,lo,pr,dp,co,nt,mo⟩:=p
 have HR:=Lib.hid (show ∀ V,Calls Try.prog 14 #[.agg #[.int .u64 key,.int .i64 cl,.int .i64 po,.bool v6,.int .u64 hh,.int .u64 lo,.int .i64 pr,.int .i64 dp,.int .i64 co,.bool nt,.int .i64 mo]] V fun o w'=>o=.returned (.bool true)∧Below V.heap.size V w' from fun V=>by
  have h9:=right_any ⟨key,cl,po,v6,hh,lo,pr,dp,co,nt,mo⟩ hin V
  rw [decide_eq_true hp] at h9
  exact h9)
 have K:Blk w g 44 #[.pointer (some ⟨q,0,none⟩),.int .u64 key,.int .i64 cl,.int .i64 po,.bool v6,.int .u64 hh,.int .u64 lo,.int .i64 pr,.int .i64 dp,.int .i64 co,.bool nt,.int .i64 mo,v]:=h.src
 have c1:=K.cell 1
 have c2:=K.cell 2
 have c3:=K.cell 3
 have c4:=K.cell 4
 have c5:=K.cell 5
 have c6:=K.cell 6
 have c7:=K.cell 7
 have c8:=K.cell 8
 have c9:=K.cell 9
 have c10:=K.cell 10
 have c11:=K.cell 11
 clear hp hin h K
 go_enter Try.func20,Try.ntmps20
 go_wp2_with fail
 refine (HR.out _).mono ?_
 rintro o w2 ⟨rfl,hb2⟩
 have B2:=Lib.hid hb2
 clear hb2
 go_wp2_with fail
 go_ret
 exact ⟨rfl,B2.out⟩
theorem new_bad (p:Pl) (hp:¬ p.right) (hin:p.In) (w:World):Calls Try.prog 6 #[.agg p.cells] w fun o w'=>o=.returned (.tuple #[.pointer none,.int .i64 1])∧Below w.heap.size w w':=by
 obtain ⟨key,cl,po,v6,hh,lo,pr,dp,co,nt,mo⟩:=p
 have HR:=Lib.hid (show ∀ V,Calls Try.prog 14 #[.agg #[.int .u64 key,.int .i64 cl,.int .i64 po,.bool v6,.int .u64 hh,.int .u64 lo,.int .i64 pr,.int .i64 dp,.int .i64 co,.bool nt,.int .i64 mo]] V fun o w'=>o=.returned (.bool false)∧Below V.heap.size V w' from fun V=>by
  have h9:=right_any ⟨key,cl,po,v6,hh,lo,pr,dp,co,nt,mo⟩ hin V
  rw [decide_eq_false hp] at h9
  exact h9)
 have B1:=Lib.hid (show Below w.heap.size w (w.alloc (.cells #[.int .u64 key,.int .i64 cl,.int .i64 po,.bool v6,.int .u64 hh,.int .u64 lo,.int .i64 pr,.int .i64 dp,.int .i64 co,.bool nt,.int .i64 mo] 28)) from (Below.refl _ _).alloc (Nat.le_refl _) _)
 clear hp hin
 show Calls Try.prog 6 #[.agg #[.int .u64 key,.int .i64 cl,.int .i64 po,.bool v6,.int .u64 hh,.int .u64 lo,.int .i64 pr,.int .i64 dp,.int .i64 co,.bool nt,.int .i64 mo]] w _
 go_enter Try.func6,Try.ntmps6
 go_wp2_with fail
 refine (HR.out _).mono ?_
 rintro o w2 ⟨rfl,hb2⟩
 have B2:=Lib.hid (B1.out.trans (hb2.mono B1.out.size))
 clear hb2
 go_wp2_with fail
 go_ret2
 exact ⟨rfl,B2.out⟩
theorem new_good (p:Pl) (hp:p.right) (hin:p.In) (w:World):Calls Try.prog 6 #[.agg p.cells] w fun o w'=>∃ g q,o=.returned (.tuple #[.pointer (some ⟨g,0,none⟩),.int .i64 0])∧SM w' g q p p.key (.slice none 0 0)∧Below w.heap.size w w'∧w.heap.size≤g∧w.heap.size≤q:=by
 obtain ⟨key,cl,po,v6,hh,lo,pr,dp,co,nt,mo⟩:=p
 have HR:=Lib.hid (show ∀ V,Calls Try.prog 14 #[.agg #[.int .u64 key,.int .i64 cl,.int .i64 po,.bool v6,.int .u64 hh,.int .u64 lo,.int .i64 pr,.int .i64 dp,.int .i64 co,.bool nt,.int .i64 mo]] V fun o w'=>o=.returned (.bool true)∧Below V.heap.size V w' from fun V=>by
  have h9:=right_any ⟨key,cl,po,v6,hh,lo,pr,dp,co,nt,mo⟩ hin V
  rw [decide_eq_true hp] at h9
  exact h9)
 have B1:=Lib.hid (show Below w.heap.size w (w.alloc (.cells #[.int .u64 key,.int .i64 cl,.int .i64 po,.bool v6,.int .u64 hh,.int .u64 lo,.int .i64 pr,.int .i64 dp,.int .i64 co,.bool nt,.int .i64 mo] 28)) from (Below.refl _ _).alloc (Nat.le_refl _) _)
 have K1:=Lib.hid (Blk.new w 28 #[.int .u64 key,.int .i64 cl,.int .i64 po,.bool v6,.int .u64 hh,.int .u64 lo,.int .i64 pr,.int .i64 dp,.int .i64 co,.bool nt,.int .i64 mo])
 clear hp hin
 show Calls Try.prog 6 #[.agg #[.int .u64 key,.int .i64 cl,.int .i64 po,.bool v6,.int .u64 hh,.int .u64 lo,.int .i64 pr,.int .i64 dp,.int .i64 co,.bool nt,.int .i64 mo]] w _
 go_enter Try.func6,Try.ntmps6
 go_wp2_with fail
 refine (HR.out _).mono ?_
 rintro o w2 ⟨rfl,hb2⟩
 have B2:=Lib.hid (B1.out.trans (hb2.mono B1.out.size))
 have K2:=Lib.hid (K1.out.below hb2 K1.out.lt)
 clear hb2
 have k0:=K2.out.cell 0
 have HGN:=Lib.hid (fun V=>newGen_any key V)
 go_upto_region 3 with fail
 have HS_:=Lib.hid (show ∀ W,Below w2.heap.size w2 W→World.cell? W ⟨w.heap.size,0,none⟩=some (.int .u64 key)∧World.cell? W ⟨w.heap.size,1,none⟩=some (.int .i64 cl)∧World.cell? W ⟨w.heap.size,2,none⟩=some (.int .i64 po)∧World.cell? W ⟨w.heap.size,3,none⟩=some (.bool v6)∧World.cell? W ⟨w.heap.size,4,none⟩=some (.int .u64 hh)∧World.cell? W ⟨w.heap.size,5,none⟩=some (.int .u64 lo)∧World.cell? W ⟨w.heap.size,6,none⟩=some (.int .i64 pr)∧World.cell? W ⟨w.heap.size,7,none⟩=some (.int .i64 dp)∧World.cell? W ⟨w.heap.size,8,none⟩=some (.int .i64 co)∧World.cell? W ⟨w.heap.size,9,none⟩=some (.bool nt)∧World.cell? W ⟨w.heap.size,10,none⟩=some (.int .i64 mo) from fun W hW=>have k:=K2.out.below hW K2.out.lt; ⟨k.cell 0,k.cell 1,k.cell 2,k.cell 3,k.cell 4,k.cell 5,k.cell 6,k.cell 7,k.cell 8,k.cell 9,k.cell 10⟩)
 have D0:=Lib.hid ((Below.refl w2.heap.size w2).drew)
 have D1:=Lib.hid (show Below w2.heap.size w2 (w2.alloc (.cells #[.int .u64 key] 66)).drew from ((Below.refl w2.heap.size w2).alloc (Nat.le_refl _) _).drew)
 obtain ⟨w4,hw4⟩:∃ w4,w4=(w2.alloc (.cells #[.int .u64 key] 66)).alloc (.cells #[.pointer (some ⟨w2.heap.size,0,none⟩),.int .u64 key,.int .i64 cl,.int .i64 po,.bool v6,.int .u64 hh,.int .u64 lo,.int .i64 pr,.int .i64 dp,.int .i64 co,.bool nt,.int .i64 mo,.slice none 0 0] 44):=⟨_,rfl⟩
 have E4:=Lib.hid hw4
 have D4:=Lib.hid (show Below w2.heap.size w2 w4 from by rw [hw4]; exact ((Below.refl _ _).alloc (Nat.le_refl _) _).alloc (by simp) _)
 have KG:=Lib.hid (show Blk w4 w2.heap.size 66 #[.int .u64 key] from by rw [hw4]; exact (Blk.new w2 _ _).below ((Below.refl _ _).alloc (Nat.le_refl _) _) (Blk.new w2 _ _).lt)
 have KS:=Lib.hid (show Blk w4 (w2.heap.size+1) 44 #[.pointer (some ⟨w2.heap.size,0,none⟩),.int .u64 key,.int .i64 cl,.int .i64 po,.bool v6,.int .u64 hh,.int .u64 lo,.int .i64 pr,.int .i64 dp,.int .i64 co,.bool nt,.int .i64 mo,.slice none 0 0] from by
  have h9:=Blk.new (w2.alloc (.cells #[.int .u64 key] 66)) 44 #[.pointer (some ⟨w2.heap.size,0,none⟩),.int .u64 key,.int .i64 cl,.int .i64 po,.bool v6,.int .u64 hh,.int .u64 lo,.int .i64 pr,.int .i64 dp,.int .i64 co,.bool nt,.int .i64 mo,.slice none 0 0]
  rw [← hw4] at h9
  simpa using h9)
 have s4:=Lib.hid (HS_.out _ D4.out.drew)
 rw [hw4] at s4
 clear hw4
 have s0:=Lib.hid (HS_.out _ D0.out)
 have s1:=Lib.hid (HS_.out _ D1.out)
 go_region_held3 (fun W=>World.cell? W ⟨w.heap.size,0,none⟩=some (.int .u64 key)∧World.cell? W ⟨w.heap.size,1,none⟩=some (.int .i64 cl)∧World.cell? W ⟨w.heap.size,2,none⟩=some (.int .i64 po)∧World.cell? W ⟨w.heap.size,3,none⟩=some (.bool v6)∧World.cell? W ⟨w.heap.size,4,none⟩=some (.int .u64 hh)∧World.cell? W ⟨w.heap.size,5,none⟩=some (.int .u64 lo)∧World.cell? W ⟨w.heap.size,6,none⟩=some (.int .i64 pr)∧World.cell? W ⟨w.heap.size,7,none⟩=some (.int .i64 dp)∧World.cell? W ⟨w.heap.size,8,none⟩=some (.int .i64 co)∧World.cell? W ⟨w.heap.size,9,none⟩=some (.bool nt)∧World.cell? W ⟨w.heap.size,10,none⟩=some (.int .i64 mo)) (first | with_reducible exact s0.out | with_reducible exact s1.out | with_reducible exact s4.out)
  (first | (go_at_call 18
            (with_reducible refine (HGN.out _).mono ?_)
            rintro o w' ⟨rfl,rfl⟩))
 rw [← E4.out]
 go_wp2_with fail
 go_ret2
 have D5:=D4.out.drew
 have N4:=(Below.refl w4.heap.size w4).drew
 exact ⟨_,_,rfl,⟨KS.out.below N4 KS.out.lt,KG.out.below N4 KG.out.lt⟩,B2.out.trans (D5.mono B2.out.size),Nat.le_succ_of_le B2.out.size,B2.out.size⟩
end Go.Proofs.Ytnofddbfogilaaa.genD
/- Layer 35: the next flow. -/
namespace Go.Proofs.Ytnofddbfogilaaa.genE
set_option maxHeartbeats 4000000
set_option maxRecDepth 100000
open Go.ChangeShapes Go.WideShapes Go.ChangeAt Go.RowKit
open base mixA mixB rdrG pktA pktC pktD genW genA genB genC genD
set_option linter.unusedVariables false
set_option linter.unusedSimpArgs false
def OnQ (q:Nat) (w w':World):Prop:=Frg q q (.slice none 0 0) w w'
theorem OnQ.blk {q:Nat} {w w':World} (h:OnQ q w w') {k:Nat} {T:TypeId} {cs:Array Value} (hb:Blk w k T cs) (h1:k≠q):Blk w' k T cs:=Frg.blk h hb h1 h1 (by simp [Value.ownBlock])
theorem OnQ.of_below {q:Nat} {w w':World} (h:Below w.heap.size w w'):OnQ q w w':=Frg.of_below h
theorem OnQ.of_only {q:Nat} {w w':World} (h:OnlyG q w w'):OnQ q w w':=⟨h.bel.os,h.bel.tape,h.bel.output,h.bel.size,fun k hk h1 _ _=>h.els k h1⟩
theorem OnQ.then {q:Nat} {a b c:World} (h:OnQ q a b) (h2:OnQ q b c):OnQ q a c:=Frg.then h h2
theorem OnQ.below {q B:Nat} {w w':World} (h:OnQ q w w') (h1:B≤q) (hs:B≤w.heap.size):Below B w w':=Frg.below h h1 h1 (fun x e=>by simp [Value.ownBlock] at e) hs
theorem OnQ.put {q r:Nat} {w W W':World} (h:OnQ q w W) (ho:OnlyG r W W') (hr:w.heap.size≤r):OnQ q w W':=⟨ho.bel.os.trans h.os,ho.bel.tape.trans h.tape,ho.bel.output.trans h.output,Nat.le_trans h.size ho.bel.size,fun k hk k1 k2 k3=>(ho.els k (by omega)).trans (h.block k hk k1 k2 k3)⟩
theorem al_below (w:World) (o:Obj):Below w.heap.size w (w.alloc o):=(Below.refl _ _).alloc (Nat.le_refl _) _
theorem dr_below (w:World):Below w.heap.size w w.drew:=(Below.refl _ _).drew
structure JF (w:World) (r z g q:Nat) (p:Pl) (v:Value) (V:Array Value) (W:World) (a:Int):Prop where
 sm:SM W g q p a v
 vip:Blk W z 26 V
 res:Blk W r 39 #[.int .i64 0,.bool false,.int .u64 0,.int .u64 0,.bool false,.int .u64 0,.int .u64 0,.int .i64 0,.int .i64 0]
 onq:OnQ q w W
 nz:z≠q
 nr:r≠q
theorem JF.below {w:World} {r z g q:Nat} {p:Pl} {v:Value} {V:Array Value} {W W':World} {a:Int} (h:JF w r z g q p v V W a) (hb:Below W.heap.size W W'):JF w r z g q p v V W' a :=
 ⟨h.sm.below hb,h.vip.below hb h.vip.lt,h.res.below hb h.res.lt,h.onq.then (OnQ.of_below hb),h.nz,h.nr⟩
theorem JF.only {w:World} {r z g q:Nat} {p:Pl} {v:Value} {V:Array Value} {W W':World} {a b:Int} (h:JF w r z g q p v V W a) (hs:SM W' g q p b v) (ho:OnlyG q W W'):JF w r z g q p v V W' b :=
 ⟨hs,ho.blk h.vip h.nz,ho.blk h.res h.nr,h.onq.then (OnQ.of_only ho),h.nz,h.nr⟩
theorem tput (W:World) (r:Nat) (v0 v1 v2 v3 v4 v5 v6 v7 v8:Value) (h:Blk W r 39 #[.int .i64 0,.bool false,.int .u64 0,.int .u64 0,.bool false,.int .u64 0,.int .u64 0,.int .i64 0,.int .i64 0]):Blk (((((((((W.setCell ⟨r,0,none⟩ v0).setCell ⟨r,1,none⟩ v1).setCell ⟨r,2,none⟩ v2).setCell ⟨r,3,none⟩ v3).setCell ⟨r,4,none⟩ v4).setCell ⟨r,5,none⟩ v5).setCell ⟨r,6,none⟩ v6).setCell ⟨r,7,none⟩ v7).setCell ⟨r,8,none⟩ v8) r 39 #[v0,v1,v2,v3,v4,v5,v6,v7,v8]∧OnlyG r W (((((((((W.setCell ⟨r,0,none⟩ v0).setCell ⟨r,1,none⟩ v1).setCell ⟨r,2,none⟩ v2).setCell ⟨r,3,none⟩ v3).setCell ⟨r,4,none⟩ v4).setCell ⟨r,5,none⟩ v5).setCell ⟨r,6,none⟩ v6).setCell ⟨r,7,none⟩ v7).setCell ⟨r,8,none⟩ v8):=by
 have h1:Blk (W.setCell ⟨r,0,none⟩ v0) r 39 #[v0,.bool false,.int .u64 0,.int .u64 0,.bool false,.int .u64 0,.int .u64 0,.int .i64 0,.int .i64 0]:=h.set_ 0 v0
 have h2:Blk ((W.setCell ⟨r,0,none⟩ v0).setCell ⟨r,1,none⟩ v1) r 39 #[v0,v1,.int .u64 0,.int .u64 0,.bool false,.int .u64 0,.int .u64 0,.int .i64 0,.int .i64 0]:=h1.set_ 1 v1
 have h3:Blk (((W.setCell ⟨r,0,none⟩ v0).setCell ⟨r,1,none⟩ v1).setCell ⟨r,2,none⟩ v2) r 39 #[v0,v1,v2,.int .u64 0,.bool false,.int .u64 0,.int .u64 0,.int .i64 0,.int .i64 0]:=h2.set_ 2 v2
 have h4:Blk ((((W.setCell ⟨r,0,none⟩ v0).setCell ⟨r,1,none⟩ v1).setCell ⟨r,2,none⟩ v2).setCell ⟨r,3,none⟩ v3) r 39 #[v0,v1,v2,v3,.bool false,.int .u64 0,.int .u64 0,.int .i64 0,.int .i64 0]:=h3.set_ 3 v3
 have h5:Blk (((((W.setCell ⟨r,0,none⟩ v0).setCell ⟨r,1,none⟩ v1).setCell ⟨r,2,none⟩ v2).setCell ⟨r,3,none⟩ v3).setCell ⟨r,4,none⟩ v4) r 39 #[v0,v1,v2,v3,v4,.int .u64 0,.int .u64 0,.int .i64 0,.int .i64 0]:=h4.set_ 4 v4
 have h6:Blk ((((((W.setCell ⟨r,0,none⟩ v0).setCell ⟨r,1,none⟩ v1).setCell ⟨r,2,none⟩ v2).setCell ⟨r,3,none⟩ v3).setCell ⟨r,4,none⟩ v4).setCell ⟨r,5,none⟩ v5) r 39 #[v0,v1,v2,v3,v4,v5,.int .u64 0,.int .i64 0,.int .i64 0]:=h5.set_ 5 v5
 have h7:Blk (((((((W.setCell ⟨r,0,none⟩ v0).setCell ⟨r,1,none⟩ v1).setCell ⟨r,2,none⟩ v2).setCell ⟨r,3,none⟩ v3).setCell ⟨r,4,none⟩ v4).setCell ⟨r,5,none⟩ v5).setCell ⟨r,6,none⟩ v6) r 39 #[v0,v1,v2,v3,v4,v5,v6,.int .i64 0,.int .i64 0]:=h6.set_ 6 v6
 have h8:Blk ((((((((W.setCell ⟨r,0,none⟩ v0).setCell ⟨r,1,none⟩ v1).setCell ⟨r,2,none⟩ v2).setCell ⟨r,3,none⟩ v3).setCell ⟨r,4,none⟩ v4).setCell ⟨r,5,none⟩ v5).setCell ⟨r,6,none⟩ v6).setCell ⟨r,7,none⟩ v7) r 39 #[v0,v1,v2,v3,v4,v5,v6,v7,.int .i64 0]:=h7.set_ 7 v7
 have h9:Blk (((((((((W.setCell ⟨r,0,none⟩ v0).setCell ⟨r,1,none⟩ v1).setCell ⟨r,2,none⟩ v2).setCell ⟨r,3,none⟩ v3).setCell ⟨r,4,none⟩ v4).setCell ⟨r,5,none⟩ v5).setCell ⟨r,6,none⟩ v6).setCell ⟨r,7,none⟩ v7).setCell ⟨r,8,none⟩ v8) r 39 #[v0,v1,v2,v3,v4,v5,v6,v7,v8]:=h8.set_ 8 v8
 exact ⟨h9,((((((((((OnlyG.refl r W).set 0 v0).set 1 v1).set 2 v2).set 3 v3).set 4 v4).set 5 v5).set 6 v6).set 7 v7).set 8 v8)⟩
theorem blk_ne {W:World} {b k:Nat} {T U:TypeId} {cs ds:Array Value} (h:Blk W b T cs) (h2:Blk W k U ds) (hT:T≠U):b≠k:=by
 rintro rfl
 have:=h.symm.trans h2
 injection this with this
 injection this with _ this _
 exact hT this
theorem JF.put {w:World} {r z g q:Nat} {p:Pl} {v:Value} {V:Array Value} {W:World} {a:Int} (h:JF w r z g q p v V W a) {b:Nat} {x0 x1 x2:Value} (hb:Blk W b 24 #[x0,x1,x2]) (hs:w.heap.size≤b) (x y u:Value) :
  JF w r z g q p v V (((W.setCell ⟨b,0,none⟩ x).setCell ⟨b,1,none⟩ y).setCell ⟨b,2,none⟩ u) a∧Blk (((W.setCell ⟨b,0,none⟩ x).setCell ⟨b,1,none⟩ y).setCell ⟨b,2,none⟩ u) b 24 #[x,y,u]:=by
 have h1:=hb.set_ 0 x
 have h2:=h1.set_ 1 y
 have h3:=h2.set_ 2 u
 have ho:OnlyG b W (((W.setCell ⟨b,0,none⟩ x).setCell ⟨b,1,none⟩ y).setCell ⟨b,2,none⟩ u):=(((OnlyG.refl b W).set 0 x).set 1 y).set 2 u
 have n1:=(blk_ne hb h.sm.src (by decide)).symm
 have n2:=(blk_ne hb h.sm.gen (by decide)).symm
 have n3:=(blk_ne hb h.vip (by decide)).symm
 have n4:=(blk_ne hb h.res (by decide)).symm
 exact ⟨⟨⟨ho.blk h.sm.src n1,ho.blk h.sm.gen n2⟩,ho.blk h.vip n3,ho.blk h.res n4,⟨ho.bel.os.trans h.onq.os,ho.bel.tape.trans h.onq.tape,ho.bel.output.trans h.onq.output,Nat.le_trans h.onq.size ho.bel.size,fun k hk k1 k2 k3=>(ho.els k (by omega)).trans (h.onq.block k hk k1 k2 k3)⟩,h.nz,h.nr⟩,h3⟩
theorem flow_src {w:World} {g q:Nat} {p:Pl} {a:Int} {v:Value} (h:SM w g q p a v) (hp:p.right) (hin:p.In) :
  Calls Try.prog 8 #[.pointer (some ⟨g,0,none⟩)] w fun o w'=>o=.returned (.agg (gFlow p a).cells)∧SM w' g q p (gAt a 2) v∧OnQ q w w':=by
 have hm1:=fun V (hV:SM V g q p a v)=>made_src hV hp hin
 have b1:=below_in a 0 p.cl hp.1.1
 have b2:=below_in a 1 p.po hp.1.2.2.1
 have EF:=Lib.hid (show gFlow p a=⟨p.pr,p.v6,if p.v6=true then 2306139568115548160 else 0,if p.v6=true then below (gNum a 0) p.cl+1 else 167772161+below (gNum a 0) p.cl,p.v6,p.hi,p.lo,32768+below (gNum a 1) p.po,p.dp⟩ from rfl)
 obtain ⟨F,hF⟩:∃ F,F=gFlow p a:=⟨_,rfl⟩
 rw [← hF] at EF ⊢
 clear hF
 obtain ⟨key,cl,po,v6,hh,lo,pr,dp,co,nt,mo⟩:=p
 obtain ⟨n1,hn1⟩:∃ n,n=below (gNum a 0) cl:=⟨_,rfl⟩
 obtain ⟨n2,hn2⟩:∃ n,n=below (gNum a 1) po:=⟨_,rfl⟩
 have HM:=Lib.hid hm1
 have HC:=Lib.hid (show 1≤cl∧cl≤65536 from ⟨hp.1.1,hp.1.2.1⟩)
 have HP:=Lib.hid (show 1≤po∧po≤32768 from ⟨hp.1.2.2.1,hp.1.2.2.2.1⟩)
 have N1:=Lib.hid (show 0≤n1∧n1<cl from by rw [hn1]; exact b1)
 have N2:=Lib.hid (show 0≤n2∧n2<po from by rw [hn2]; exact b2)
 obtain ⟨n3,hn3⟩:∃ n,n=32768+n2:=⟨_,rfl⟩
 have u3:IntKind.i64.wrap (32768+n2)=n3:=by rw [hn3]; exact IntWalk.i64_in _ (by have:=N2.out; have:=HP.out; omega)
 have EN1:=Lib.hid hn1
 have EN2:=Lib.hid hn2
 have hcl:=(fun V=>client_any v6 n1 N1.out.1 (by have:=N1.out; have:=HC.out; omega) V)
 obtain ⟨ch,hch⟩:∃ x:Int,x=if v6=true then 2306139568115548160 else 0:=⟨_,rfl⟩
 obtain ⟨cw,hcw⟩:∃ x:Int,x=if v6=true then n1+1 else 167772161+n1:=⟨_,rfl⟩
 rw [← hch,← hcw] at hcl
 have CL:=Lib.hid hcl
 have EF2:=Lib.hid (show F=⟨pr,v6,ch,cw,v6,hh,lo,n3,dp⟩ from by rw [EF.out,hch,hcw,hn3,hn2,hn1])
 have BL1:=Lib.hid (show ∀ W,SM W g q ⟨key,cl,po,v6,hh,lo,pr,dp,co,nt,mo⟩ a v→Calls Try.prog 22 #[.pointer (some ⟨g,0,none⟩),.int .i64 cl] W fun o w'=>o=.returned (.int .i64 n1)∧SM w' g q ⟨key,cl,po,v6,hh,lo,pr,dp,co,nt,mo⟩ (gAt a 1) v∧OnlyG q W w' from fun W hW=>by rw [hn1]; exact below_src hW cl (by have:=HC.out; omega) (by have:=HC.out; omega))
 have BL2:=Lib.hid (show ∀ W,SM W g q ⟨key,cl,po,v6,hh,lo,pr,dp,co,nt,mo⟩ (gAt a 1) v→Calls Try.prog 22 #[.pointer (some ⟨g,0,none⟩),.int .i64 po] W fun o w'=>o=.returned (.int .i64 n2)∧SM w' g q ⟨key,cl,po,v6,hh,lo,pr,dp,co,nt,mo⟩ (gAt a 2) v∧OnlyG q W w' from fun W hW=>by rw [hn2]; exact below_src hW po (by have:=HP.out; omega) (by have:=HP.out; omega))
 have SM0:=Lib.hid h
 have B1:=Lib.hid (al_below w (.cells #[.int .i64 0,.bool false,.int .u64 0,.int .u64 0,.bool false,.int .u64 0,.int .u64 0,.int .i64 0,.int .i64 0] 39))
 have R1:=Lib.hid (Blk.new w 39 #[.int .i64 0,.bool false,.int .u64 0,.int .u64 0,.bool false,.int .u64 0,.int .u64 0,.int .i64 0,.int .i64 0])
 clear hm1 b1 b2 hp hin hn1 hn2 h hcl hch hcw hn3 EF
 have S1:=Lib.hid (SM0.out.below B1.out)
 have HVT:=Lib.hid Try.underlying39
 go_enter Try.func8,Try.ntmps8
 go_wp2_with fail
 refine (HM.out _ S1.out).mono ?_
 rintro o w2 ⟨rfl,hb2⟩
 have S2:=Lib.hid (S1.out.below hb2)
 have B2:=Lib.hid (B1.out.trans (hb2.mono B1.out.size))
 have R2:=Lib.hid (R1.out.below hb2 R1.out.lt)
 clear hb2
 have K:Blk w2 g 44 #[.pointer (some ⟨q,0,none⟩),.int .u64 key,.int .i64 cl,.int .i64 po,.bool v6,.int .u64 hh,.int .u64 lo,.int .i64 pr,.int .i64 dp,.int .i64 co,.bool nt,.int .i64 mo,v]:=S2.out.src
 have c4:=K.cell 4
 have c5:=K.cell 5
 have c6:=K.cell 6
 have c7:=K.cell 7
 have c8:=K.cell 8
 have c9:=K.cell 9
 have c10:=K.cell 10
 clear K
 go_upto_region 4 with fail
 obtain ⟨w3,hw3⟩:∃ w3,w3=w2.alloc (.cells #[.bool v6,.int .u64 hh,.int .u64 lo,.int .i64 pr,.int .i64 dp,.int .i64 co,.bool nt] 26):=⟨_,rfl⟩
 obtain ⟨z,hz⟩:∃ z,z=w2.heap.size:=⟨_,rfl⟩
 obtain ⟨r,hr⟩:∃ r,r=w.heap.size:=⟨_,rfl⟩
 rw [← hw3,← hz,← hr]
 have J3:=Lib.hid (show JF w r z g q ⟨key,cl,po,v6,hh,lo,pr,dp,co,nt,mo⟩ v #[.bool v6,.int .u64 hh,.int .u64 lo,.int .i64 pr,.int .i64 dp,.int .i64 co,.bool nt] w3 a from by
  have D3:Below w2.heap.size w2 w3:=by rw [hw3]; exact al_below _ _
  refine ⟨S2.out.below D3,by rw [hw3,hz]; exact Blk.new w2 _ _,by rw [hr]; exact R2.out.below D3 R2.out.lt,OnQ.of_below (B2.out.trans (D3.mono B2.out.size)),?_,?_⟩
  ·have:=S2.out.gen.lt; omega
  ·have:=SM0.out.gen.lt; omega)
 have RW:=Lib.hid (show w.heap.size≤r∧r<w2.heap.size from by have:=R2.out.lt; omega)
 clear hw3 hz hr c4 c5 c6 c7 c8 c9 c10
 have HSS:=Lib.hid (show ∀ W x,JF w r z g q ⟨key,cl,po,v6,hh,lo,pr,dp,co,nt,mo⟩ v #[.bool v6,.int .u64 hh,.int .u64 lo,.int .i64 pr,.int .i64 dp,.int .i64 co,.bool nt] W x→World.cell? W ⟨z,0,none⟩=some (.bool v6)∧World.cell? W ⟨g,2,none⟩=some (.int .i64 cl) from fun W x h1=>⟨h1.vip.cell 0,h1.sm.src.cell 2⟩)
 have J3d:=Lib.hid (J3.out.below (dr_below w3))
 have J3a:=Lib.hid (J3.out.below ((al_below w3 (.cells #[.bool false,.int .u64 0,.int .u64 0] 24)).drew))
 have A3a:=Lib.hid ((Blk.new w3 24 #[.bool false,.int .u64 0,.int .u64 0]).below (dr_below _) (Blk.new w3 _ _).lt)
 have NA:=Lib.hid (show w3.heap.size≠q from by have:=J3.out.sm.gen.lt; omega)
 have LB3:=Lib.hid J3.out.onq.size
 have sA:=Lib.hid (HSS.out _ _ J3d.out)
 have sAa:=Lib.hid (HSS.out _ _ J3a.out)
 go_cut [4] (fun x wx=>∃ b,x=.pointer (some ⟨b,0,none⟩)∧Hid (JF w r z g q ⟨key,cl,po,v6,hh,lo,pr,dp,co,nt,mo⟩ v #[.bool v6,.int .u64 hh,.int .u64 lo,.int .i64 pr,.int .i64 dp,.int .i64 co,.bool nt] wx (gAt a 1))∧Hid (Blk wx b 24 #[.bool v6,.int .u64 ch,.int .u64 cw]))
 case first =>
  go_region_held3 (fun W=>World.cell? W ⟨z,0,none⟩=some (.bool v6)∧World.cell? W ⟨g,2,none⟩=some (.int .i64 cl)) (first | with_reducible exact sA.out | with_reducible exact sAa.out | with_reducible exact sB.out | with_reducible exact sBa.out | with_reducible exact sC.out | with_reducible exact sD.out | with_reducible exact sE.out | with_reducible exact sF.out)
   (first | (go_at_call 22
             (with_reducible refine (BL1.out _ (by first | with_reducible exact J3d.out.sm | with_reducible exact J3a.out.sm)).mono ?_)
             rintro o w5 ⟨rfl,hs5,ho5⟩
             have J5:=Lib.hid (by first | with_reducible exact J3d.out.only hs5 ho5 | with_reducible exact J3a.out.only hs5 ho5)
             have sB:=Lib.hid (HSS.out _ _ J5.out)
             try (have A5:=Lib.hid (ho5.blk A3a.out NA.out))
             have J5a:=Lib.hid (J5.out.below (al_below w5 (.cells #[.bool false,.int .u64 0,.int .u64 0] 24)))
             have sBa:=Lib.hid (HSS.out _ _ J5a.out)
             have A5a:=Lib.hid (Blk.new w5 24 #[.bool false,.int .u64 0,.int .u64 0])
             have LB5:=Lib.hid J5.out.onq.size
             clear hs5 ho5)
          | (go_at_call 21
             (with_reducible refine (CL.out _).mono ?_)
             rintro o w6 ⟨rfl,hb6⟩
             have J6:=Lib.hid (by first | with_reducible exact J5.out.below hb6 | with_reducible exact J5a.out.below hb6)
             have sC:=Lib.hid (HSS.out _ _ J6.out)
             try (have A6:=Lib.hid (by first | with_reducible exact A5.out.below hb6 A5.out.lt | with_reducible exact A5a.out.below hb6 A5a.out.lt))
             try (have y0:=A6.out.cell 0; have y1:=A6.out.cell 1; have y2:=A6.out.cell 2; have f0:=A6.out.frozen 0; have f1:=A6.out.frozen 1; have f2:=A6.out.frozen 2)
             try (have J8:=Lib.hid (J6.out.put A6.out (by first | with_reducible exact LB3.out | with_reducible exact LB5.out) (.bool v6) (.int .u64 ch) (.int .u64 cw)))
             try (have sF:=Lib.hid (HSS.out _ _ J8.out.1))
             have J7:=Lib.hid (J6.out.below (al_below w6 (.cells #[.bool false,.int .u64 0,.int .u64 0] 24)))
             have sD:=Lib.hid (HSS.out _ _ J7.out)
             have J9:=Lib.hid (J6.out.below (al_below w6 (.cells #[.bool v6,.int .u64 ch,.int .u64 cw] 24)))
             have A9:=Lib.hid (Blk.new w6 24 #[.bool v6,.int .u64 ch,.int .u64 cw])
             have sE:=Lib.hid (HSS.out _ _ J9.out)
             clear hb6))
  all_goals go_wp2_with fail
  all_goals go_meet
  all_goals first | exact ⟨_,rfl,Lib.hid J9.out,Lib.hid A9.out⟩ | exact ⟨_,rfl,Lib.hid J8.out.1,Lib.hid J8.out.2⟩
 case rest =>
  obtain ⟨b,rfl,J7,A7⟩:=hcut
  have HS5:=Lib.hid (show ∀ W,Blk W g 44 #[.pointer (some ⟨q,0,none⟩),.int .u64 key,.int .i64 cl,.int .i64 po,.bool v6,.int .u64 hh,.int .u64 lo,.int .i64 pr,.int .i64 dp,.int .i64 co,.bool nt,.int .i64 mo,v]→Blk W z 26 #[.bool v6,.int .u64 hh,.int .u64 lo,.int .i64 pr,.int .i64 dp,.int .i64 co,.bool nt]→Blk W b 24 #[.bool v6,.int .u64 ch,.int .u64 cw]→World.cell? W ⟨z,0,none⟩=some (.bool v6)∧World.cell? W ⟨z,1,none⟩=some (.int .u64 hh)∧World.cell? W ⟨z,2,none⟩=some (.int .u64 lo)∧World.cell? W ⟨z,3,none⟩=some (.int .i64 pr)∧World.cell? W ⟨z,4,none⟩=some (.int .i64 dp)∧World.cell? W ⟨b,0,none⟩=some (.bool v6)∧World.cell? W ⟨b,1,none⟩=some (.int .u64 ch)∧World.cell? W ⟨b,2,none⟩=some (.int .u64 cw)∧World.cell? W ⟨g,3,none⟩=some (.int .i64 po) from fun W h0 h1 h2=>⟨h1.cell 0,h1.cell 1,h1.cell 2,h1.cell 3,h1.cell 4,h2.cell 0,h2.cell 1,h2.cell 2,h0.cell 3⟩)
  have J7d:=Lib.hid (J7.out.below (dr_below wc))
  have A7d:=Lib.hid (A7.out.below (dr_below wc) A7.out.lt)
  have NB:=Lib.hid (blk_ne A7.out J7.out.sm.gen (by decide))
  have NR:=Lib.hid (blk_ne A7.out J7.out.res (by decide))
  have sG:=Lib.hid (HS5.out _ J7d.out.sm.src J7d.out.vip A7d.out)
  go_upto_region 5 with fail
  go_region_held3 (fun W=>World.cell? W ⟨z,0,none⟩=some (.bool v6)∧World.cell? W ⟨z,1,none⟩=some (.int .u64 hh)∧World.cell? W ⟨z,2,none⟩=some (.int .u64 lo)∧World.cell? W ⟨z,3,none⟩=some (.int .i64 pr)∧World.cell? W ⟨z,4,none⟩=some (.int .i64 dp)∧World.cell? W ⟨b,0,none⟩=some (.bool v6)∧World.cell? W ⟨b,1,none⟩=some (.int .u64 ch)∧World.cell? W ⟨b,2,none⟩=some (.int .u64 cw)∧World.cell? W ⟨g,3,none⟩=some (.int .i64 po)) (first | with_reducible exact sG.out | with_reducible exact sH.out | with_reducible exact sI.out)
   (first | (go_at_call 22
             (with_reducible refine (BL2.out _ J7d.out.sm).mono ?_)
             rintro o w8 ⟨rfl,hs8,ho8⟩
             have J8:=Lib.hid (J7d.out.only hs8 ho8)
             have A8:=Lib.hid (ho8.blk A7d.out NB.out)
             have sH:=Lib.hid (HS5.out _ J8.out.sm.src J8.out.vip A8.out)
             have TP:=Lib.hid (tput w8 r (.int .i64 pr) (.bool v6) (.int .u64 ch) (.int .u64 cw) (.bool v6) (.int .u64 hh) (.int .u64 lo) (.int .i64 n3) (.int .i64 dp) J8.out.res)
             have NG:=Lib.hid (blk_ne J8.out.sm.src J8.out.res (by decide))
             have sI:=Lib.hid (HS5.out _ (TP.out.2.blk J8.out.sm.src NG.out) (TP.out.2.blk J8.out.vip (blk_ne J8.out.vip J8.out.res (by decide))) (TP.out.2.blk A8.out (blk_ne A8.out J8.out.res (by decide))))
             have y0:=J8.out.res.cell 0
             have f0:=J8.out.res.frozen 0
             have y1:=J8.out.res.cell 1
             have f1:=J8.out.res.frozen 1
             have y2:=J8.out.res.cell 2
             have f2:=J8.out.res.frozen 2
             have y3:=J8.out.res.cell 3
             have f3:=J8.out.res.frozen 3
             have y4:=J8.out.res.cell 4
             have f4:=J8.out.res.frozen 4
             have y5:=J8.out.res.cell 5
             have f5:=J8.out.res.frozen 5
             have y6:=J8.out.res.cell 6
             have f6:=J8.out.res.frozen 6
             have y7:=J8.out.res.cell 7
             have f7:=J8.out.res.frozen 7
             have y8:=J8.out.res.cell 8
             have f8:=J8.out.res.frozen 8
             clear hs8 ho8))
  go_wp2_with fail
  refine bodyPost_ret (v:=.agg #[.int .i64 pr,.bool v6,.int .u64 ch,.int .u64 cw,.bool v6,.int .u64 hh,.int .u64 lo,.int .i64 n3,.int .i64 dp]) (results_cell_row rfl _ _ r 39 #[.int .i64 pr,.bool v6,.int .u64 ch,.int .u64 cw,.bool v6,.int .u64 hh,.int .u64 lo,.int .i64 n3,.int .i64 dp] (0,0) _ rfl TP.out.1 Try.underlying39 rfl (by kernel_rfl)) rfl ?_
  exact ⟨by rw [EF2.out]; rfl,⟨TP.out.2.blk J8.out.sm.src NG.out,TP.out.2.blk J8.out.sm.gen (blk_ne J8.out.sm.gen J8.out.res (by decide))⟩,J8.out.onq.put TP.out.2 RW.out.1⟩
end Go.Proofs.Ytnofddbfogilaaa.genE
