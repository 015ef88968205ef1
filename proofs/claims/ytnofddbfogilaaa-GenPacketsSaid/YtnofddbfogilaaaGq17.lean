/- 1 texts in one. -/
import Derived.Test.YtnofddbfogilaaaGq05
import Derived.Test.YtnofddbfogilaaaGq16
/- Layer 12: Error, Quoted. -/
namespace Go.Proofs.Ytnofddbfogilaaa.icmpI
set_option maxHeartbeats 4000000
set_option maxRecDepth 100000
open Go.ChangeShapes Go.WideShapes Go.ChangeAt Go.RowKit
open base octA rdrA rdrG sumB sixW sixM sixA sixE icmpH
set_option linter.unusedVariables false
def tellsB (v:Bool) (k:Int):Bool:=if v=true then decide (1≤k∧k≤4) else decide (3≤k∧k≤5∨k=11∨k=12)
theorem error_all (v:Bool) (k:Int) (w:World):Calls Try.prog 97 #[.bool v,.int .i64 k] w fun e w'=>e=.returned (.bool (tellsB v k))∧w=w':=by
 cases v with
 | true =>
  rcases Int.lt_or_le k 1 with h | h
  ·have e:tellsB true k=false:=by unfold tellsB; rw [if_pos rfl]; exact decide_eq_false (by omega)
   rw [e]
   have t:decide (1≤k)=false:=decide_eq_false (by omega)
   go_enter Try.func97,Try.ntmps97
   go_wp2_with fail
   go_ret
   exact ⟨rfl,rfl⟩
  ·have t:decide (1≤k)=true:=decide_eq_true h
   rcases Int.lt_or_le 4 k with h2 | h2
   ·have e:tellsB true k=false:=by unfold tellsB; rw [if_pos rfl]; exact decide_eq_false (by omega)
    rw [e]
    have t2:decide (k≤4)=false:=decide_eq_false (by omega)
    go_enter Try.func97,Try.ntmps97
    go_wp2_with fail
    go_ret
    exact ⟨rfl,rfl⟩
   ·have e:tellsB true k=true:=by unfold tellsB; rw [if_pos rfl]; exact decide_eq_true ⟨h,h2⟩
    rw [e]
    have t2:decide (k≤4)=true:=decide_eq_true h2
    go_enter Try.func97,Try.ntmps97
    go_wp2_with fail
    go_ret
    exact ⟨rfl,rfl⟩
 | false =>
  have key:∀ (a b:Bool) (r:Bool),decide (3≤k)=a→decide (k≤5)=b→(a=true∧b=true→r=true)→(¬ (a=true∧b=true)→r=(k == 11 || k == 12))→Calls Try.prog 97 #[.bool false,.int .i64 k] w fun e w'=>e=.returned (.bool r)∧w=w':=fun a b r ha hb h1 h2=>by
   cases a with
   | false =>
    have h3:=h2 (by simp)
    subst h3
    clear h1 h2
    cases c1:(k == 11) <;> cases c2:(k == 12) <;>
     (go_enter Try.func97,Try.ntmps97
      go_wp2_with fail
      go_ret
      exact ⟨rfl,rfl⟩)
   | true =>
    cases b with
    | true =>
     have h3:=h1 ⟨rfl,rfl⟩
     subst h3
     clear h1 h2
     go_enter Try.func97,Try.ntmps97
     go_wp2_with fail
     go_ret
     exact ⟨rfl,rfl⟩
    | false =>
     have h3:=h2 (by simp)
     subst h3
     clear h1 h2
     cases c1:(k == 11) <;> cases c2:(k == 12) <;>
      (go_enter Try.func97,Try.ntmps97
       go_wp2_with fail
       go_ret
       exact ⟨rfl,rfl⟩)
  refine key _ _ _ rfl rfl (fun h=>?_) (fun h=>?_)
  ·have h1:=of_decide_eq_true h.1
   have h2:=of_decide_eq_true h.2
   unfold tellsB
   rw [if_neg (by decide)]
   exact decide_eq_true (.inl ⟨h1,h2⟩)
  ·unfold tellsB
   rw [if_neg (by decide)]
   rw [decide_eq_true_iff,decide_eq_true_iff] at h
   by_cases c1:k=11
   ·subst c1; decide
   ·by_cases c2:k=12
    ·subst c2; decide
    ·rw [decide_eq_false (by omega)]
     simp [c1,c2]
theorem results_two_q {fn:Func} {p u:Tmp} (h:fn.results=#[.cell p 39,.tmp u]) (tmps:Array Value) (w:World) (g:Nat) (cs:Array Value) (hp:tmps.getD p undef=.pointer (some ⟨g,0,none⟩)) (hg:Blk w g 39 cs) (hs:cs.size=9) :
  (results fn tmps).run Try.prog w=.ok (.tuple #[.agg cs,tmps.getD u undef]) w:=by
 have e:(results fn tmps).run Try.prog w=((asAddr (tmps.getD p undef)).run Try.prog w).andThen fun a w1=>((loadVar 39 a).run Try.prog w1).andThen fun y w2=>.ok (.tuple #[y,tmps.getD u undef]) w2:=by
  simp only [results,h]
  simp [Sem.run_bind,Result.andThen]
 rw [e,hp]
 simp only [asAddr,Sem.run_pure,Result.andThen_ok]
 rw [run_loadVar_row w g 39 39 cs (0,0) _ hg Try.underlying39 rfl (by rw [hs]; kernel_rfl)]
 rfl
theorem quoted4_not (ty co wd:Int) (A:Option Addr) (n c:Nat) (f fr pr:Int) (s6:Bool) (sh sl:Int) (d6:Bool) (dh dl:Int) (r:List Int) (w:World) (ht:tellsB false ty=false) :
  Calls Try.prog 87 #[.bool false,.agg #[.int .i64 ty,.int .i64 co,.int .u32 wd,.slice A n c]] w fun o w'=>o=.returned (.tuple #[.agg #[.int .i64 0,.bool false,.int .u64 0,.int .u64 0,.bool false,.int .u64 0,.int .u64 0,.int .i64 0,.int .i64 0],.int .i64 24])∧Below w.heap.size w w':=by
 obtain ⟨w1,hw1⟩:∃ w1,w1=(w.alloc (.cells #[.int .i64 ty,.int .i64 co,.int .u32 wd,.slice A n c] 131)).alloc (.cells #[.int .i64 0,.bool false,.int .u64 0,.int .u64 0,.bool false,.int .u64 0,.int .u64 0,.int .i64 0,.int .i64 0] 39):=⟨_,rfl⟩
 have E1:=Lib.hid hw1
 have BA:=Lib.hid (show Below w.heap.size w (w.alloc (.cells #[.int .i64 ty,.int .i64 co,.int .u32 wd,.slice A n c] 131)) from (Below.refl _ _).alloc (Nat.le_refl _) _)
 have B1:=Lib.hid (show Below w.heap.size w w1 from by rw [hw1]; exact BA.out.alloc BA.out.size _)
 have K0:=Lib.hid (show Blk w1 w.heap.size 131 #[.int .i64 ty,.int .i64 co,.int .u32 wd,.slice A n c] from by rw [hw1]; exact (Blk.new w _ _).alloc _)
 have K1:=Lib.hid (show Blk w1 (w.heap.size+1) 39 #[.int .i64 0,.bool false,.int .u64 0,.int .u64 0,.bool false,.int .u64 0,.int .u64 0,.int .i64 0,.int .i64 0] from by
  have h9:=Blk.new (w.alloc (.cells #[.int .i64 ty,.int .i64 co,.int .u32 wd,.slice A n c] 131)) 39 #[.int .i64 0,.bool false,.int .u64 0,.int .u64 0,.bool false,.int .u64 0,.int .u64 0,.int .i64 0,.int .i64 0]
  rw [← hw1] at h9
  simpa using h9)
 have SZ1:=Lib.hid (show w1.heap.size=w.heap.size+2 from by rw [hw1]; simp)
 have TE:=Lib.hid (error_all false ty w1)
 rw [ht] at TE
 obtain ⟨g4,hg4⟩:∃ g4,g4=w.heap.size+1:=⟨_,rfl⟩
 have EG4:=Lib.hid hg4
 rw [← hg4] at K1
 clear hw1 ht hg4
 have m0:=K0.out.cell 0
 have m3:=K0.out.cell 3
 have r0:=K1.out.cell 0
 have z0:=K1.out.frozen 0
 have r1:=K1.out.cell 1
 have z1:=K1.out.frozen 1
 have r2:=K1.out.cell 2
 have z2:=K1.out.frozen 2
 have r3:=K1.out.cell 3
 have z3:=K1.out.frozen 3
 have r4:=K1.out.cell 4
 have z4:=K1.out.frozen 4
 have r5:=K1.out.cell 5
 have z5:=K1.out.frozen 5
 have r6:=K1.out.cell 6
 have z6:=K1.out.frozen 6
 have r7:=K1.out.cell 7
 have z7:=K1.out.frozen 7
 have r8:=K1.out.cell 8
 have z8:=K1.out.frozen 8
 go_enter Try.func87,Try.ntmps87
 go_upto_region 1 with fail
 rw [← E1.out]
 rw [← EG4.out]
 go_wp2_with fail
 refine TE.out.mono ?_
 rintro o w' ⟨rfl,rfl⟩
 go_wp2_with fail
 have OG:=tonly w1 g4 (.int .i64 0) (.bool false) (.int .u64 0) (.int .u64 0) (.bool false) (.int .u64 0) (.int .u64 0) (.int .i64 0) (.int .i64 0)
 have KT:=tstore w1 g4 (.int .i64 0) (.bool false) (.int .u64 0) (.int .u64 0) (.bool false) (.int .u64 0) (.int .u64 0) (.int .i64 0) (.int .i64 0) _ _ _ _ _ _ _ _ _ K1.out
 refine bodyPost_ret (results_two_q rfl _ _ g4 #[.int .i64 0,.bool false,.int .u64 0,.int .u64 0,.bool false,.int .u64 0,.int .u64 0,.int .i64 0,.int .i64 0] rfl KT rfl) rfl ?_
 exact ⟨rfl,OG.from B1.out (by have:=EG4.out; omega)⟩
theorem quoted4_err (ty co wd:Int) (A:Option Addr) (n c:Nat) (f fr pr:Int) (s6:Bool) (sh sl:Int) (d6:Bool) (dh dl:Int) (r:List Int) (w:World) (ht:tellsB false ty=true) (he:f≠0)
  (HQ:Hid (∀ V,Below w.heap.size w V→Calls Try.prog 98 #[.slice A n c] V (QT f fr pr s6 sh sl d6 dh dl r V))) :
  Calls Try.prog 87 #[.bool false,.agg #[.int .i64 ty,.int .i64 co,.int .u32 wd,.slice A n c]] w fun o w'=>o=.returned (.tuple #[.agg #[.int .i64 0,.bool false,.int .u64 0,.int .u64 0,.bool false,.int .u64 0,.int .u64 0,.int .i64 0,.int .i64 0],.int .i64 f])∧Below w.heap.size w w':=by
 obtain ⟨w1,hw1⟩:∃ w1,w1=(w.alloc (.cells #[.int .i64 ty,.int .i64 co,.int .u32 wd,.slice A n c] 131)).alloc (.cells #[.int .i64 0,.bool false,.int .u64 0,.int .u64 0,.bool false,.int .u64 0,.int .u64 0,.int .i64 0,.int .i64 0] 39):=⟨_,rfl⟩
 have E1:=Lib.hid hw1
 have BA:=Lib.hid (show Below w.heap.size w (w.alloc (.cells #[.int .i64 ty,.int .i64 co,.int .u32 wd,.slice A n c] 131)) from (Below.refl _ _).alloc (Nat.le_refl _) _)
 have B1:=Lib.hid (show Below w.heap.size w w1 from by rw [hw1]; exact BA.out.alloc BA.out.size _)
 have K0:=Lib.hid (show Blk w1 w.heap.size 131 #[.int .i64 ty,.int .i64 co,.int .u32 wd,.slice A n c] from by rw [hw1]; exact (Blk.new w _ _).alloc _)
 have K1:=Lib.hid (show Blk w1 (w.heap.size+1) 39 #[.int .i64 0,.bool false,.int .u64 0,.int .u64 0,.bool false,.int .u64 0,.int .u64 0,.int .i64 0,.int .i64 0] from by
  have h9:=Blk.new (w.alloc (.cells #[.int .i64 ty,.int .i64 co,.int .u32 wd,.slice A n c] 131)) 39 #[.int .i64 0,.bool false,.int .u64 0,.int .u64 0,.bool false,.int .u64 0,.int .u64 0,.int .i64 0,.int .i64 0]
  rw [← hw1] at h9
  simpa using h9)
 have SZ1:=Lib.hid (show w1.heap.size=w.heap.size+2 from by rw [hw1]; simp)
 have TE:=Lib.hid (error_all false ty w1)
 rw [ht] at TE
 obtain ⟨g4,hg4⟩:∃ g4,g4=w.heap.size+1:=⟨_,rfl⟩
 have EG4:=Lib.hid hg4
 rw [← hg4] at K1
 clear hw1 ht hg4
 have te:(f != 0)=true:=by simpa using he
 clear he
 have m0:=K0.out.cell 0
 have m3:=K0.out.cell 3
 have r0:=K1.out.cell 0
 have z0:=K1.out.frozen 0
 have r1:=K1.out.cell 1
 have z1:=K1.out.frozen 1
 have r2:=K1.out.cell 2
 have z2:=K1.out.frozen 2
 have r3:=K1.out.cell 3
 have z3:=K1.out.frozen 3
 have r4:=K1.out.cell 4
 have z4:=K1.out.frozen 4
 have r5:=K1.out.cell 5
 have z5:=K1.out.frozen 5
 have r6:=K1.out.cell 6
 have z6:=K1.out.frozen 6
 have r7:=K1.out.cell 7
 have z7:=K1.out.frozen 7
 have r8:=K1.out.cell 8
 have z8:=K1.out.frozen 8
 go_enter Try.func87,Try.ntmps87
 go_upto_region 1 with fail
 rw [← E1.out]
 rw [← EG4.out]
 go_wp2_with fail
 refine TE.out.mono ?_
 rintro o w' ⟨rfl,rfl⟩
 go_wp2_with fail
 refine (HQ.out _ B1.out).mono ?_
 rintro o w2 ⟨hb2,AR,nr,cr,rfl,hnr,hrow⟩
 obtain ⟨w3,hw3⟩:∃ w3,w3=w2.alloc (.cells #[.int .i64 pr,.bool s6,.int .u64 sh,.int .u64 sl,.bool d6,.int .u64 dh,.int .u64 dl,.int .i64 0,.int .i64 0] 39):=⟨_,rfl⟩
 have E3:=Lib.hid hw3
 have B23:=Lib.hid (show Below w2.heap.size w2 w3 from by rw [hw3]; exact (Below.refl _ _).alloc (Nat.le_refl _) _)
 have B13:=Lib.hid (hb2.trans (B23.out.mono hb2.size))
 have K3:=Lib.hid (show Blk w3 w2.heap.size 39 #[.int .i64 pr,.bool s6,.int .u64 sh,.int .u64 sl,.bool d6,.int .u64 dh,.int .u64 dl,.int .i64 0,.int .i64 0] from by rw [hw3]; exact Blk.new w2 _ _)
 have K13:=Lib.hid (K1.out.below B13.out K1.out.lt)
 have B12:=Lib.hid hb2.size
 have BW3:=Lib.hid (B1.out.trans (B13.out.mono B1.out.size))
 have HNR:=Lib.hid hnr
 have HNE:=Lib.hid (show g4≠w2.heap.size from by have:=hb2.size; have:=SZ1.out; have:=EG4.out; omega)
 have HG4:=Lib.hid (show w.heap.size≤g4 from by have:=EG4.out; omega)
 have HRW:=Lib.hid (own_below2 hrow B23.out)
 clear hw3 hb2 hrow hnr
 clear r0 r1 r2 r3 r4 r5 r6 r7 r8 z0 z1 z2 z3 z4 z5 z6 z7 z8
 go_upto_region 7 with fail
 rw [← E3.out]
 have r0:=K13.out.cell 0
 have z0:=K13.out.frozen 0
 have r1:=K13.out.cell 1
 have z1:=K13.out.frozen 1
 have r2:=K13.out.cell 2
 have z2:=K13.out.frozen 2
 have r3:=K13.out.cell 3
 have z3:=K13.out.frozen 3
 have r4:=K13.out.cell 4
 have z4:=K13.out.frozen 4
 have r5:=K13.out.cell 5
 have z5:=K13.out.frozen 5
 have r6:=K13.out.cell 6
 have z6:=K13.out.frozen 6
 have r7:=K13.out.cell 7
 have z7:=K13.out.frozen 7
 have r8:=K13.out.cell 8
 have z8:=K13.out.frozen 8
 go_wp2_with fail
 have OG:=tonly w3 g4 (.int .i64 0) (.bool false) (.int .u64 0) (.int .u64 0) (.bool false) (.int .u64 0) (.int .u64 0) (.int .i64 0) (.int .i64 0)
 have KT:=tstore w3 g4 (.int .i64 0) (.bool false) (.int .u64 0) (.int .u64 0) (.bool false) (.int .u64 0) (.int .u64 0) (.int .i64 0) (.int .i64 0) _ _ _ _ _ _ _ _ _ K13.out
 refine bodyPost_ret (results_two_q rfl _ _ g4 #[.int .i64 0,.bool false,.int .u64 0,.int .u64 0,.bool false,.int .u64 0,.int .u64 0,.int .i64 0,.int .i64 0] rfl KT rfl) rfl ?_
 exact ⟨rfl,OG.from BW3.out HG4.out⟩
theorem quoted4_frag (ty co wd:Int) (A:Option Addr) (n c:Nat) (f fr pr:Int) (s6:Bool) (sh sl:Int) (d6:Bool) (dh dl:Int) (r:List Int) (w:World) (ht:tellsB false ty=true) (he:f=0) (hf:fr≠0)
  (HQ:Hid (∀ V,Below w.heap.size w V→Calls Try.prog 98 #[.slice A n c] V (QT f fr pr s6 sh sl d6 dh dl r V))) :
  Calls Try.prog 87 #[.bool false,.agg #[.int .i64 ty,.int .i64 co,.int .u32 wd,.slice A n c]] w fun o w'=>o=.returned (.tuple #[.agg #[.int .i64 0,.bool false,.int .u64 0,.int .u64 0,.bool false,.int .u64 0,.int .u64 0,.int .i64 0,.int .i64 0],.int .i64 21])∧Below w.heap.size w w':=by
 obtain ⟨w1,hw1⟩:∃ w1,w1=(w.alloc (.cells #[.int .i64 ty,.int .i64 co,.int .u32 wd,.slice A n c] 131)).alloc (.cells #[.int .i64 0,.bool false,.int .u64 0,.int .u64 0,.bool false,.int .u64 0,.int .u64 0,.int .i64 0,.int .i64 0] 39):=⟨_,rfl⟩
 have E1:=Lib.hid hw1
 have BA:=Lib.hid (show Below w.heap.size w (w.alloc (.cells #[.int .i64 ty,.int .i64 co,.int .u32 wd,.slice A n c] 131)) from (Below.refl _ _).alloc (Nat.le_refl _) _)
 have B1:=Lib.hid (show Below w.heap.size w w1 from by rw [hw1]; exact BA.out.alloc BA.out.size _)
 have K0:=Lib.hid (show Blk w1 w.heap.size 131 #[.int .i64 ty,.int .i64 co,.int .u32 wd,.slice A n c] from by rw [hw1]; exact (Blk.new w _ _).alloc _)
 have K1:=Lib.hid (show Blk w1 (w.heap.size+1) 39 #[.int .i64 0,.bool false,.int .u64 0,.int .u64 0,.bool false,.int .u64 0,.int .u64 0,.int .i64 0,.int .i64 0] from by
  have h9:=Blk.new (w.alloc (.cells #[.int .i64 ty,.int .i64 co,.int .u32 wd,.slice A n c] 131)) 39 #[.int .i64 0,.bool false,.int .u64 0,.int .u64 0,.bool false,.int .u64 0,.int .u64 0,.int .i64 0,.int .i64 0]
  rw [← hw1] at h9
  simpa using h9)
 have SZ1:=Lib.hid (show w1.heap.size=w.heap.size+2 from by rw [hw1]; simp)
 have TE:=Lib.hid (error_all false ty w1)
 rw [ht] at TE
 obtain ⟨g4,hg4⟩:∃ g4,g4=w.heap.size+1:=⟨_,rfl⟩
 have EG4:=Lib.hid hg4
 rw [← hg4] at K1
 clear hw1 ht hg4
 subst he
 have tf:(fr != 0)=true:=by simpa using hf
 clear hf
 have m0:=K0.out.cell 0
 have m3:=K0.out.cell 3
 have r0:=K1.out.cell 0
 have z0:=K1.out.frozen 0
 have r1:=K1.out.cell 1
 have z1:=K1.out.frozen 1
 have r2:=K1.out.cell 2
 have z2:=K1.out.frozen 2
 have r3:=K1.out.cell 3
 have z3:=K1.out.frozen 3
 have r4:=K1.out.cell 4
 have z4:=K1.out.frozen 4
 have r5:=K1.out.cell 5
 have z5:=K1.out.frozen 5
 have r6:=K1.out.cell 6
 have z6:=K1.out.frozen 6
 have r7:=K1.out.cell 7
 have z7:=K1.out.frozen 7
 have r8:=K1.out.cell 8
 have z8:=K1.out.frozen 8
 go_enter Try.func87,Try.ntmps87
 go_upto_region 1 with fail
 rw [← E1.out]
 rw [← EG4.out]
 go_wp2_with fail
 refine TE.out.mono ?_
 rintro o w' ⟨rfl,rfl⟩
 go_wp2_with fail
 refine (HQ.out _ B1.out).mono ?_
 rintro o w2 ⟨hb2,AR,nr,cr,rfl,hnr,hrow⟩
 obtain ⟨w3,hw3⟩:∃ w3,w3=w2.alloc (.cells #[.int .i64 pr,.bool s6,.int .u64 sh,.int .u64 sl,.bool d6,.int .u64 dh,.int .u64 dl,.int .i64 0,.int .i64 0] 39):=⟨_,rfl⟩
 have E3:=Lib.hid hw3
 have B23:=Lib.hid (show Below w2.heap.size w2 w3 from by rw [hw3]; exact (Below.refl _ _).alloc (Nat.le_refl _) _)
 have B13:=Lib.hid (hb2.trans (B23.out.mono hb2.size))
 have K3:=Lib.hid (show Blk w3 w2.heap.size 39 #[.int .i64 pr,.bool s6,.int .u64 sh,.int .u64 sl,.bool d6,.int .u64 dh,.int .u64 dl,.int .i64 0,.int .i64 0] from by rw [hw3]; exact Blk.new w2 _ _)
 have K13:=Lib.hid (K1.out.below B13.out K1.out.lt)
 have B12:=Lib.hid hb2.size
 have BW3:=Lib.hid (B1.out.trans (B13.out.mono B1.out.size))
 have HNR:=Lib.hid hnr
 have HNE:=Lib.hid (show g4≠w2.heap.size from by have:=hb2.size; have:=SZ1.out; have:=EG4.out; omega)
 have HG4:=Lib.hid (show w.heap.size≤g4 from by have:=EG4.out; omega)
 have HRW:=Lib.hid (own_below2 hrow B23.out)
 clear hw3 hb2 hrow hnr
 clear r0 r1 r2 r3 r4 r5 r6 r7 r8 z0 z1 z2 z3 z4 z5 z6 z7 z8
 go_upto_region 7 with fail
 rw [← E3.out]
 have r0:=K13.out.cell 0
 have z0:=K13.out.frozen 0
 have r1:=K13.out.cell 1
 have z1:=K13.out.frozen 1
 have r2:=K13.out.cell 2
 have z2:=K13.out.frozen 2
 have r3:=K13.out.cell 3
 have z3:=K13.out.frozen 3
 have r4:=K13.out.cell 4
 have z4:=K13.out.frozen 4
 have r5:=K13.out.cell 5
 have z5:=K13.out.frozen 5
 have r6:=K13.out.cell 6
 have z6:=K13.out.frozen 6
 have r7:=K13.out.cell 7
 have z7:=K13.out.frozen 7
 have r8:=K13.out.cell 8
 have z8:=K13.out.frozen 8
 go_wp2_with fail
 have OG:=tonly w3 g4 (.int .i64 0) (.bool false) (.int .u64 0) (.int .u64 0) (.bool false) (.int .u64 0) (.int .u64 0) (.int .i64 0) (.int .i64 0)
 have KT:=tstore w3 g4 (.int .i64 0) (.bool false) (.int .u64 0) (.int .u64 0) (.bool false) (.int .u64 0) (.int .u64 0) (.int .i64 0) (.int .i64 0) _ _ _ _ _ _ _ _ _ K13.out
 refine bodyPost_ret (results_two_q rfl _ _ g4 #[.int .i64 0,.bool false,.int .u64 0,.int .u64 0,.bool false,.int .u64 0,.int .u64 0,.int .i64 0,.int .i64 0] rfl KT rfl) rfl ?_
 exact ⟨rfl,OG.from BW3.out HG4.out⟩
theorem quoted4_proto (ty co wd:Int) (A:Option Addr) (n c:Nat) (f fr pr:Int) (s6:Bool) (sh sl:Int) (d6:Bool) (dh dl:Int) (r:List Int) (w:World) (ht:tellsB false ty=true) (he:f=0) (hf:fr=0) (hp:pr≠6∧pr≠17)
  (HQ:Hid (∀ V,Below w.heap.size w V→Calls Try.prog 98 #[.slice A n c] V (QT f fr pr s6 sh sl d6 dh dl r V))) :
  Calls Try.prog 87 #[.bool false,.agg #[.int .i64 ty,.int .i64 co,.int .u32 wd,.slice A n c]] w fun o w'=>o=.returned (.tuple #[.agg #[.int .i64 0,.bool false,.int .u64 0,.int .u64 0,.bool false,.int .u64 0,.int .u64 0,.int .i64 0,.int .i64 0],.int .i64 14])∧Below w.heap.size w w':=by
 obtain ⟨w1,hw1⟩:∃ w1,w1=(w.alloc (.cells #[.int .i64 ty,.int .i64 co,.int .u32 wd,.slice A n c] 131)).alloc (.cells #[.int .i64 0,.bool false,.int .u64 0,.int .u64 0,.bool false,.int .u64 0,.int .u64 0,.int .i64 0,.int .i64 0] 39):=⟨_,rfl⟩
 have E1:=Lib.hid hw1
 have BA:=Lib.hid (show Below w.heap.size w (w.alloc (.cells #[.int .i64 ty,.int .i64 co,.int .u32 wd,.slice A n c] 131)) from (Below.refl _ _).alloc (Nat.le_refl _) _)
 have B1:=Lib.hid (show Below w.heap.size w w1 from by rw [hw1]; exact BA.out.alloc BA.out.size _)
 have K0:=Lib.hid (show Blk w1 w.heap.size 131 #[.int .i64 ty,.int .i64 co,.int .u32 wd,.slice A n c] from by rw [hw1]; exact (Blk.new w _ _).alloc _)
 have K1:=Lib.hid (show Blk w1 (w.heap.size+1) 39 #[.int .i64 0,.bool false,.int .u64 0,.int .u64 0,.bool false,.int .u64 0,.int .u64 0,.int .i64 0,.int .i64 0] from by
  have h9:=Blk.new (w.alloc (.cells #[.int .i64 ty,.int .i64 co,.int .u32 wd,.slice A n c] 131)) 39 #[.int .i64 0,.bool false,.int .u64 0,.int .u64 0,.bool false,.int .u64 0,.int .u64 0,.int .i64 0,.int .i64 0]
  rw [← hw1] at h9
  simpa using h9)
 have SZ1:=Lib.hid (show w1.heap.size=w.heap.size+2 from by rw [hw1]; simp)
 have TE:=Lib.hid (error_all false ty w1)
 rw [ht] at TE
 obtain ⟨g4,hg4⟩:∃ g4,g4=w.heap.size+1:=⟨_,rfl⟩
 have EG4:=Lib.hid hg4
 rw [← hg4] at K1
 clear hw1 ht hg4
 subst he
 subst hf
 have p6:(pr != 6)=true:=by simpa using hp.1
 have p17:(pr != 17)=true:=by simpa using hp.2
 clear hp
 have m0:=K0.out.cell 0
 have m3:=K0.out.cell 3
 have r0:=K1.out.cell 0
 have z0:=K1.out.frozen 0
 have r1:=K1.out.cell 1
 have z1:=K1.out.frozen 1
 have r2:=K1.out.cell 2
 have z2:=K1.out.frozen 2
 have r3:=K1.out.cell 3
 have z3:=K1.out.frozen 3
 have r4:=K1.out.cell 4
 have z4:=K1.out.frozen 4
 have r5:=K1.out.cell 5
 have z5:=K1.out.frozen 5
 have r6:=K1.out.cell 6
 have z6:=K1.out.frozen 6
 have r7:=K1.out.cell 7
 have z7:=K1.out.frozen 7
 have r8:=K1.out.cell 8
 have z8:=K1.out.frozen 8
 go_enter Try.func87,Try.ntmps87
 go_upto_region 1 with fail
 rw [← E1.out]
 rw [← EG4.out]
 go_wp2_with fail
 refine TE.out.mono ?_
 rintro o w' ⟨rfl,rfl⟩
 go_wp2_with fail
 refine (HQ.out _ B1.out).mono ?_
 rintro o w2 ⟨hb2,AR,nr,cr,rfl,hnr,hrow⟩
 obtain ⟨w3,hw3⟩:∃ w3,w3=w2.alloc (.cells #[.int .i64 pr,.bool s6,.int .u64 sh,.int .u64 sl,.bool d6,.int .u64 dh,.int .u64 dl,.int .i64 0,.int .i64 0] 39):=⟨_,rfl⟩
 have E3:=Lib.hid hw3
 have B23:=Lib.hid (show Below w2.heap.size w2 w3 from by rw [hw3]; exact (Below.refl _ _).alloc (Nat.le_refl _) _)
 have B13:=Lib.hid (hb2.trans (B23.out.mono hb2.size))
 have K3:=Lib.hid (show Blk w3 w2.heap.size 39 #[.int .i64 pr,.bool s6,.int .u64 sh,.int .u64 sl,.bool d6,.int .u64 dh,.int .u64 dl,.int .i64 0,.int .i64 0] from by rw [hw3]; exact Blk.new w2 _ _)
 have K13:=Lib.hid (K1.out.below B13.out K1.out.lt)
 have B12:=Lib.hid hb2.size
 have BW3:=Lib.hid (B1.out.trans (B13.out.mono B1.out.size))
 have HNR:=Lib.hid hnr
 have HNE:=Lib.hid (show g4≠w2.heap.size from by have:=hb2.size; have:=SZ1.out; have:=EG4.out; omega)
 have HG4:=Lib.hid (show w.heap.size≤g4 from by have:=EG4.out; omega)
 have HRW:=Lib.hid (own_below2 hrow B23.out)
 clear hw3 hb2 hrow hnr
 clear r0 r1 r2 r3 r4 r5 r6 r7 r8 z0 z1 z2 z3 z4 z5 z6 z7 z8
 go_upto_region 7 with fail
 rw [← E3.out]
 have q0:=K3.out.cell 0
 have r0:=K13.out.cell 0
 have z0:=K13.out.frozen 0
 have r1:=K13.out.cell 1
 have z1:=K13.out.frozen 1
 have r2:=K13.out.cell 2
 have z2:=K13.out.frozen 2
 have r3:=K13.out.cell 3
 have z3:=K13.out.frozen 3
 have r4:=K13.out.cell 4
 have z4:=K13.out.frozen 4
 have r5:=K13.out.cell 5
 have z5:=K13.out.frozen 5
 have r6:=K13.out.cell 6
 have z6:=K13.out.frozen 6
 have r7:=K13.out.cell 7
 have z7:=K13.out.frozen 7
 have r8:=K13.out.cell 8
 have z8:=K13.out.frozen 8
 go_wp2_with fail
 have OG:=tonly w3 g4 (.int .i64 0) (.bool false) (.int .u64 0) (.int .u64 0) (.bool false) (.int .u64 0) (.int .u64 0) (.int .i64 0) (.int .i64 0)
 have KT:=tstore w3 g4 (.int .i64 0) (.bool false) (.int .u64 0) (.int .u64 0) (.bool false) (.int .u64 0) (.int .u64 0) (.int .i64 0) (.int .i64 0) _ _ _ _ _ _ _ _ _ K13.out
 refine bodyPost_ret (results_two_q rfl _ _ g4 #[.int .i64 0,.bool false,.int .u64 0,.int .u64 0,.bool false,.int .u64 0,.int .u64 0,.int .i64 0,.int .i64 0] rfl KT rfl) rfl ?_
 exact ⟨rfl,OG.from BW3.out HG4.out⟩
theorem quoted4_short (ty co wd:Int) (A:Option Addr) (n c:Nat) (f fr pr:Int) (s6:Bool) (sh sl:Int) (d6:Bool) (dh dl:Int) (r:List Int) (w:World) (ht:tellsB false ty=true) (he:f=0) (hf:fr=0) (hp:pr=6∨pr=17) (hr:r.length<4)
  (HQ:Hid (∀ V,Below w.heap.size w V→Calls Try.prog 98 #[.slice A n c] V (QT f fr pr s6 sh sl d6 dh dl r V))) :
  Calls Try.prog 87 #[.bool false,.agg #[.int .i64 ty,.int .i64 co,.int .u32 wd,.slice A n c]] w fun o w'=>o=.returned (.tuple #[.agg #[.int .i64 0,.bool false,.int .u64 0,.int .u64 0,.bool false,.int .u64 0,.int .u64 0,.int .i64 0,.int .i64 0],.int .i64 2])∧Below w.heap.size w w':=by
 obtain ⟨w1,hw1⟩:∃ w1,w1=(w.alloc (.cells #[.int .i64 ty,.int .i64 co,.int .u32 wd,.slice A n c] 131)).alloc (.cells #[.int .i64 0,.bool false,.int .u64 0,.int .u64 0,.bool false,.int .u64 0,.int .u64 0,.int .i64 0,.int .i64 0] 39):=⟨_,rfl⟩
 have E1:=Lib.hid hw1
 have BA:=Lib.hid (show Below w.heap.size w (w.alloc (.cells #[.int .i64 ty,.int .i64 co,.int .u32 wd,.slice A n c] 131)) from (Below.refl _ _).alloc (Nat.le_refl _) _)
 have B1:=Lib.hid (show Below w.heap.size w w1 from by rw [hw1]; exact BA.out.alloc BA.out.size _)
 have K0:=Lib.hid (show Blk w1 w.heap.size 131 #[.int .i64 ty,.int .i64 co,.int .u32 wd,.slice A n c] from by rw [hw1]; exact (Blk.new w _ _).alloc _)
 have K1:=Lib.hid (show Blk w1 (w.heap.size+1) 39 #[.int .i64 0,.bool false,.int .u64 0,.int .u64 0,.bool false,.int .u64 0,.int .u64 0,.int .i64 0,.int .i64 0] from by
  have h9:=Blk.new (w.alloc (.cells #[.int .i64 ty,.int .i64 co,.int .u32 wd,.slice A n c] 131)) 39 #[.int .i64 0,.bool false,.int .u64 0,.int .u64 0,.bool false,.int .u64 0,.int .u64 0,.int .i64 0,.int .i64 0]
  rw [← hw1] at h9
  simpa using h9)
 have SZ1:=Lib.hid (show w1.heap.size=w.heap.size+2 from by rw [hw1]; simp)
 have TE:=Lib.hid (error_all false ty w1)
 rw [ht] at TE
 obtain ⟨g4,hg4⟩:∃ g4,g4=w.heap.size+1:=⟨_,rfl⟩
 have EG4:=Lib.hid hg4
 rw [← hg4] at K1
 clear hw1 ht hg4
 subst he
 subst hf
 have m0:=K0.out.cell 0
 have m3:=K0.out.cell 3
 have r0:=K1.out.cell 0
 have z0:=K1.out.frozen 0
 have r1:=K1.out.cell 1
 have z1:=K1.out.frozen 1
 have r2:=K1.out.cell 2
 have z2:=K1.out.frozen 2
 have r3:=K1.out.cell 3
 have z3:=K1.out.frozen 3
 have r4:=K1.out.cell 4
 have z4:=K1.out.frozen 4
 have r5:=K1.out.cell 5
 have z5:=K1.out.frozen 5
 have r6:=K1.out.cell 6
 have z6:=K1.out.frozen 6
 have r7:=K1.out.cell 7
 have z7:=K1.out.frozen 7
 have r8:=K1.out.cell 8
 have z8:=K1.out.frozen 8
 go_enter Try.func87,Try.ntmps87
 go_upto_region 1 with fail
 rw [← E1.out]
 rw [← EG4.out]
 go_wp2_with fail
 refine TE.out.mono ?_
 rintro o w' ⟨rfl,rfl⟩
 go_wp2_with fail
 refine (HQ.out _ B1.out).mono ?_
 rintro o w2 ⟨hb2,AR,nr,cr,rfl,hnr,hrow⟩
 obtain ⟨w3,hw3⟩:∃ w3,w3=w2.alloc (.cells #[.int .i64 pr,.bool s6,.int .u64 sh,.int .u64 sl,.bool d6,.int .u64 dh,.int .u64 dl,.int .i64 0,.int .i64 0] 39):=⟨_,rfl⟩
 have E3:=Lib.hid hw3
 have B23:=Lib.hid (show Below w2.heap.size w2 w3 from by rw [hw3]; exact (Below.refl _ _).alloc (Nat.le_refl _) _)
 have B13:=Lib.hid (hb2.trans (B23.out.mono hb2.size))
 have K3:=Lib.hid (show Blk w3 w2.heap.size 39 #[.int .i64 pr,.bool s6,.int .u64 sh,.int .u64 sl,.bool d6,.int .u64 dh,.int .u64 dl,.int .i64 0,.int .i64 0] from by rw [hw3]; exact Blk.new w2 _ _)
 have K13:=Lib.hid (K1.out.below B13.out K1.out.lt)
 have B12:=Lib.hid hb2.size
 have BW3:=Lib.hid (B1.out.trans (B13.out.mono B1.out.size))
 have HNR:=Lib.hid hnr
 have HNE:=Lib.hid (show g4≠w2.heap.size from by have:=hb2.size; have:=SZ1.out; have:=EG4.out; omega)
 have HG4:=Lib.hid (show w.heap.size≤g4 from by have:=EG4.out; omega)
 have HRW:=Lib.hid (own_below2 hrow B23.out)
 clear hw3 hb2 hrow hnr
 clear r0 r1 r2 r3 r4 r5 r6 r7 r8 z0 z1 z2 z3 z4 z5 z6 z7 z8
 go_upto_region 7 with fail
 rw [← E3.out]
 have q0:=K3.out.cell 0
 have tn:decide ((nr:Int)<4)=true:=decide_eq_true (by have:=HNR.out; omega)
 have tnn:decide (nr<4)=true:=decide_eq_true (by have:=HNR.out; omega)
 have r0:=K13.out.cell 0
 have z0:=K13.out.frozen 0
 have r1:=K13.out.cell 1
 have z1:=K13.out.frozen 1
 have r2:=K13.out.cell 2
 have z2:=K13.out.frozen 2
 have r3:=K13.out.cell 3
 have z3:=K13.out.frozen 3
 have r4:=K13.out.cell 4
 have z4:=K13.out.frozen 4
 have r5:=K13.out.cell 5
 have z5:=K13.out.frozen 5
 have r6:=K13.out.cell 6
 have z6:=K13.out.frozen 6
 have r7:=K13.out.cell 7
 have z7:=K13.out.frozen 7
 have r8:=K13.out.cell 8
 have z8:=K13.out.frozen 8
 rcases hp with rfl | rfl
 ·go_wp2_with fail
  have OG:=tonly w3 g4 (.int .i64 0) (.bool false) (.int .u64 0) (.int .u64 0) (.bool false) (.int .u64 0) (.int .u64 0) (.int .i64 0) (.int .i64 0)
  have KT:=tstore w3 g4 (.int .i64 0) (.bool false) (.int .u64 0) (.int .u64 0) (.bool false) (.int .u64 0) (.int .u64 0) (.int .i64 0) (.int .i64 0) _ _ _ _ _ _ _ _ _ K13.out
  refine bodyPost_ret (results_two_q rfl _ _ g4 #[.int .i64 0,.bool false,.int .u64 0,.int .u64 0,.bool false,.int .u64 0,.int .u64 0,.int .i64 0,.int .i64 0] rfl KT rfl) rfl ?_
  exact ⟨rfl,OG.from BW3.out HG4.out⟩
 ·go_wp2_with fail
  have OG:=tonly w3 g4 (.int .i64 0) (.bool false) (.int .u64 0) (.int .u64 0) (.bool false) (.int .u64 0) (.int .u64 0) (.int .i64 0) (.int .i64 0)
  have KT:=tstore w3 g4 (.int .i64 0) (.bool false) (.int .u64 0) (.int .u64 0) (.bool false) (.int .u64 0) (.int .u64 0) (.int .i64 0) (.int .i64 0) _ _ _ _ _ _ _ _ _ K13.out
  refine bodyPost_ret (results_two_q rfl _ _ g4 #[.int .i64 0,.bool false,.int .u64 0,.int .u64 0,.bool false,.int .u64 0,.int .u64 0,.int .i64 0,.int .i64 0] rfl KT rfl) rfl ?_
  exact ⟨rfl,OG.from BW3.out HG4.out⟩
theorem quoted4_good (ty co wd:Int) (A:Option Addr) (n c:Nat) (f fr pr:Int) (s6:Bool) (sh sl:Int) (d6:Bool) (dh dl:Int) (r:List Int) (w:World) (ht:tellsB false ty=true) (he:f=0) (hf:fr=0) (hp:pr=6∨pr=17) (hr:4≤r.length) (hr2:r.length≤1000) (hu:U8 r)
  (HQ:Hid (∀ V,Below w.heap.size w V→Calls Try.prog 98 #[.slice A n c] V (QT f fr pr s6 sh sl d6 dh dl r V))) :
  Calls Try.prog 87 #[.bool false,.agg #[.int .i64 ty,.int .i64 co,.int .u32 wd,.slice A n c]] w fun o w'=>o=.returned (.tuple #[.agg #[.int .i64 pr,.bool s6,.int .u64 sh,.int .u64 sl,.bool d6,.int .u64 dh,.int .u64 dl,.int .i64 (256*r.getD 0 0+r.getD 1 0),.int .i64 (256*r.getD 2 0+r.getD 3 0)],.int .i64 0])∧Below w.heap.size w w':=by
 obtain ⟨w1,hw1⟩:∃ w1,w1=(w.alloc (.cells #[.int .i64 ty,.int .i64 co,.int .u32 wd,.slice A n c] 131)).alloc (.cells #[.int .i64 0,.bool false,.int .u64 0,.int .u64 0,.bool false,.int .u64 0,.int .u64 0,.int .i64 0,.int .i64 0] 39):=⟨_,rfl⟩
 have E1:=Lib.hid hw1
 have BA:=Lib.hid (show Below w.heap.size w (w.alloc (.cells #[.int .i64 ty,.int .i64 co,.int .u32 wd,.slice A n c] 131)) from (Below.refl _ _).alloc (Nat.le_refl _) _)
 have B1:=Lib.hid (show Below w.heap.size w w1 from by rw [hw1]; exact BA.out.alloc BA.out.size _)
 have K0:=Lib.hid (show Blk w1 w.heap.size 131 #[.int .i64 ty,.int .i64 co,.int .u32 wd,.slice A n c] from by rw [hw1]; exact (Blk.new w _ _).alloc _)
 have K1:=Lib.hid (show Blk w1 (w.heap.size+1) 39 #[.int .i64 0,.bool false,.int .u64 0,.int .u64 0,.bool false,.int .u64 0,.int .u64 0,.int .i64 0,.int .i64 0] from by
  have h9:=Blk.new (w.alloc (.cells #[.int .i64 ty,.int .i64 co,.int .u32 wd,.slice A n c] 131)) 39 #[.int .i64 0,.bool false,.int .u64 0,.int .u64 0,.bool false,.int .u64 0,.int .u64 0,.int .i64 0,.int .i64 0]
  rw [← hw1] at h9
  simpa using h9)
 have SZ1:=Lib.hid (show w1.heap.size=w.heap.size+2 from by rw [hw1]; simp)
 have TE:=Lib.hid (error_all false ty w1)
 rw [ht] at TE
 obtain ⟨g4,hg4⟩:∃ g4,g4=w.heap.size+1:=⟨_,rfl⟩
 have EG4:=Lib.hid hg4
 rw [← hg4] at K1
 clear hw1 ht hg4
 subst he
 subst hf
 have m0:=K0.out.cell 0
 have m3:=K0.out.cell 3
 have r0:=K1.out.cell 0
 have z0:=K1.out.frozen 0
 have r1:=K1.out.cell 1
 have z1:=K1.out.frozen 1
 have r2:=K1.out.cell 2
 have z2:=K1.out.frozen 2
 have r3:=K1.out.cell 3
 have z3:=K1.out.frozen 3
 have r4:=K1.out.cell 4
 have z4:=K1.out.frozen 4
 have r5:=K1.out.cell 5
 have z5:=K1.out.frozen 5
 have r6:=K1.out.cell 6
 have z6:=K1.out.frozen 6
 have r7:=K1.out.cell 7
 have z7:=K1.out.frozen 7
 have r8:=K1.out.cell 8
 have z8:=K1.out.frozen 8
 go_enter Try.func87,Try.ntmps87
 go_upto_region 1 with fail
 rw [← E1.out]
 rw [← EG4.out]
 go_wp2_with fail
 refine TE.out.mono ?_
 rintro o w' ⟨rfl,rfl⟩
 go_wp2_with fail
 refine (HQ.out _ B1.out).mono ?_
 rintro o w2 ⟨hb2,AR,nr,cr,rfl,hnr,hrow⟩
 obtain ⟨w3,hw3⟩:∃ w3,w3=w2.alloc (.cells #[.int .i64 pr,.bool s6,.int .u64 sh,.int .u64 sl,.bool d6,.int .u64 dh,.int .u64 dl,.int .i64 0,.int .i64 0] 39):=⟨_,rfl⟩
 have E3:=Lib.hid hw3
 have B23:=Lib.hid (show Below w2.heap.size w2 w3 from by rw [hw3]; exact (Below.refl _ _).alloc (Nat.le_refl _) _)
 have B13:=Lib.hid (hb2.trans (B23.out.mono hb2.size))
 have K3:=Lib.hid (show Blk w3 w2.heap.size 39 #[.int .i64 pr,.bool s6,.int .u64 sh,.int .u64 sl,.bool d6,.int .u64 dh,.int .u64 dl,.int .i64 0,.int .i64 0] from by rw [hw3]; exact Blk.new w2 _ _)
 have K13:=Lib.hid (K1.out.below B13.out K1.out.lt)
 have B12:=Lib.hid hb2.size
 have BW3:=Lib.hid (B1.out.trans (B13.out.mono B1.out.size))
 have HNR:=Lib.hid hnr
 have HNE:=Lib.hid (show g4≠w2.heap.size from by have:=hb2.size; have:=SZ1.out; have:=EG4.out; omega)
 have HG4:=Lib.hid (show w.heap.size≤g4 from by have:=EG4.out; omega)
 have HRW:=Lib.hid (own_below2 hrow B23.out)
 clear hw3 hb2 hrow hnr
 clear r0 r1 r2 r3 r4 r5 r6 r7 r8 z0 z1 z2 z3 z4 z5 z6 z7 z8
 go_upto_region 7 with fail
 rw [← E3.out]
 have q0:=K3.out.cell 0
 have tn:decide ((nr:Int)<4)=false:=decide_eq_false (by have:=HNR.out; omega)
 have tnn:decide (nr<4)=false:=decide_eq_false (by have:=HNR.out; omega)
 have u0:=hu.get 0; have u1:=hu.get 1; have u2:=hu.get 2; have u3:=hu.get 3
 obtain ⟨sp,hsp⟩:∃ sp,sp=256*r.getD 0 0+r.getD 1 0:=⟨_,rfl⟩
 obtain ⟨dp,hdp⟩:∃ dp,dp=256*r.getD 2 0+r.getD 3 0:=⟨_,rfl⟩
 have HSP:=Lib.hid hsp
 have HDP:=Lib.hid hdp
 have HW2:=Lib.hid (show w.heap.size≤w2.heap.size from by have:=B1.out.size; have:=B12.out; omega)
 have hcap:=own_cap HRW.out
 have A0:=Lib.hid (show Calls Try.prog 64 #[.slice AR nr cr,.int .i64 0,.int .i64 2] w3 fun e w'=>e=.returned (.int .u64 sp)∧w3=w' from by
  rw [hsp]
  exact at_2 0 AR nr cr r w3 HNR.out.symm (by have:=HNR.out; omega) hcap.1 hcap.2.1 hcap.2.2 (own_row HRW.out) hu (by omega))
 have A2:=Lib.hid (show Calls Try.prog 64 #[.slice AR nr cr,.int .i64 2,.int .i64 2] w3 fun e w'=>e=.returned (.int .u64 dp)∧w3=w' from by
  rw [hdp]
  exact at_2 2 AR nr cr r w3 HNR.out.symm (by have:=HNR.out; omega) hcap.1 hcap.2.1 hcap.2.2 (own_row HRW.out) hu (by omega))
 have wsp:IntKind.i64.wrap sp=sp:=IntWalk.i64_in _ (by omega)
 have wdp:IntKind.i64.wrap dp=dp:=IntWalk.i64_in _ (by omega)
 clear hsp hdp hu hcap u0 u1 u2 u3 hr hr2 q0
 rcases hp with rfl | rfl
 ·have q0:=K3.out.cell 0
  have s0_:=K3.out.frozen 0
  have q1:=K3.out.cell 1
  have s1_:=K3.out.frozen 1
  have q2:=K3.out.cell 2
  have s2_:=K3.out.frozen 2
  have q3:=K3.out.cell 3
  have s3_:=K3.out.frozen 3
  have q4:=K3.out.cell 4
  have s4_:=K3.out.frozen 4
  have q5:=K3.out.cell 5
  have s5_:=K3.out.frozen 5
  have q6:=K3.out.cell 6
  have s6_:=K3.out.frozen 6
  have q7:=K3.out.cell 7
  have s7_:=K3.out.frozen 7
  have q8:=K3.out.cell 8
  have s8_:=K3.out.frozen 8
  go_wp2_with fail
  refine A0.out.mono ?_
  rintro o w' ⟨rfl,rfl⟩
  go_wp2_with fail
  refine A2.out.mono ?_
  rintro o w' ⟨rfl,rfl⟩
  have OS:OnlyG w2.heap.size w3 ((w3.setCell ⟨w2.heap.size,7,none⟩ (.int .i64 sp)).setCell ⟨w2.heap.size,8,none⟩ (.int .i64 dp)):=((OnlyG.refl _ _).set 7 _).set 8 _
  have KP:Blk ((w3.setCell ⟨w2.heap.size,7,none⟩ (.int .i64 sp)).setCell ⟨w2.heap.size,8,none⟩ (.int .i64 dp)) w2.heap.size 39 #[.int .i64 6,.bool s6,.int .u64 sh,.int .u64 sl,.bool d6,.int .u64 dh,.int .u64 dl,.int .i64 sp,.int .i64 dp]:=(K3.out.set_ 7 (.int .i64 sp)).set_ 8 (.int .i64 dp)
  have KQ:=OS.blk K13.out HNE.out
  go_upto_region 16 with fail
  obtain ⟨w5,hw5⟩:∃ w5,w5=(w3.setCell ⟨w2.heap.size,7,none⟩ (.int .i64 sp)).setCell ⟨w2.heap.size,8,none⟩ (.int .i64 dp):=⟨_,rfl⟩
  have E5:=Lib.hid hw5
  rw [← hw5] at OS KP KQ
  have B5:=Lib.hid (OS.from BW3.out (by have:=B23.out.size; have:=HG4.out; have:=HW2.out; omega))
  have KP5:=Lib.hid KP
  have KQ5:=Lib.hid KQ
  clear hw5 OS KP KQ q0 q1 q2 q3 q4 q5 q6 q7 q8 s0_ s1_ s2_ s3_ s4_ s5_ s6_ s7_ s8_
  rw [← E5.out]
  have q0:=KP5.out.cell 0
  have t_0:=KP5.out.frozen 0
  have q1:=KP5.out.cell 1
  have t_1:=KP5.out.frozen 1
  have q2:=KP5.out.cell 2
  have t_2:=KP5.out.frozen 2
  have q3:=KP5.out.cell 3
  have t_3:=KP5.out.frozen 3
  have q4:=KP5.out.cell 4
  have t_4:=KP5.out.frozen 4
  have q5:=KP5.out.cell 5
  have t_5:=KP5.out.frozen 5
  have q6:=KP5.out.cell 6
  have t_6:=KP5.out.frozen 6
  have q7:=KP5.out.cell 7
  have t_7:=KP5.out.frozen 7
  have q8:=KP5.out.cell 8
  have t_8:=KP5.out.frozen 8
  have r0:=KQ5.out.cell 0
  have z0:=KQ5.out.frozen 0
  have r1:=KQ5.out.cell 1
  have z1:=KQ5.out.frozen 1
  have r2:=KQ5.out.cell 2
  have z2:=KQ5.out.frozen 2
  have r3:=KQ5.out.cell 3
  have z3:=KQ5.out.frozen 3
  have r4:=KQ5.out.cell 4
  have z4:=KQ5.out.frozen 4
  have r5:=KQ5.out.cell 5
  have z5:=KQ5.out.frozen 5
  have r6:=KQ5.out.cell 6
  have z6:=KQ5.out.frozen 6
  have r7:=KQ5.out.cell 7
  have z7:=KQ5.out.frozen 7
  have r8:=KQ5.out.cell 8
  have z8:=KQ5.out.frozen 8
  go_wp2_with fail
  have OG:=tonly w5 g4 (.int .i64 6) (.bool s6) (.int .u64 sh) (.int .u64 sl) (.bool d6) (.int .u64 dh) (.int .u64 dl) (.int .i64 sp) (.int .i64 dp)
  have KT:=tstore w5 g4 (.int .i64 6) (.bool s6) (.int .u64 sh) (.int .u64 sl) (.bool d6) (.int .u64 dh) (.int .u64 dl) (.int .i64 sp) (.int .i64 dp) _ _ _ _ _ _ _ _ _ KQ5.out
  refine bodyPost_ret (results_two_q rfl _ _ g4 #[.int .i64 6,.bool s6,.int .u64 sh,.int .u64 sl,.bool d6,.int .u64 dh,.int .u64 dl,.int .i64 sp,.int .i64 dp] rfl KT rfl) rfl ?_
  exact ⟨by rw [HSP.out,HDP.out]; rfl,OG.from B5.out HG4.out⟩
 ·have q0:=K3.out.cell 0
  have s0_:=K3.out.frozen 0
  have q1:=K3.out.cell 1
  have s1_:=K3.out.frozen 1
  have q2:=K3.out.cell 2
  have s2_:=K3.out.frozen 2
  have q3:=K3.out.cell 3
  have s3_:=K3.out.frozen 3
  have q4:=K3.out.cell 4
  have s4_:=K3.out.frozen 4
  have q5:=K3.out.cell 5
  have s5_:=K3.out.frozen 5
  have q6:=K3.out.cell 6
  have s6_:=K3.out.frozen 6
  have q7:=K3.out.cell 7
  have s7_:=K3.out.frozen 7
  have q8:=K3.out.cell 8
  have s8_:=K3.out.frozen 8
  go_wp2_with fail
  refine A0.out.mono ?_
  rintro o w' ⟨rfl,rfl⟩
  go_wp2_with fail
  refine A2.out.mono ?_
  rintro o w' ⟨rfl,rfl⟩
  have OS:OnlyG w2.heap.size w3 ((w3.setCell ⟨w2.heap.size,7,none⟩ (.int .i64 sp)).setCell ⟨w2.heap.size,8,none⟩ (.int .i64 dp)):=((OnlyG.refl _ _).set 7 _).set 8 _
  have KP:Blk ((w3.setCell ⟨w2.heap.size,7,none⟩ (.int .i64 sp)).setCell ⟨w2.heap.size,8,none⟩ (.int .i64 dp)) w2.heap.size 39 #[.int .i64 17,.bool s6,.int .u64 sh,.int .u64 sl,.bool d6,.int .u64 dh,.int .u64 dl,.int .i64 sp,.int .i64 dp]:=(K3.out.set_ 7 (.int .i64 sp)).set_ 8 (.int .i64 dp)
  have KQ:=OS.blk K13.out HNE.out
  go_upto_region 16 with fail
  obtain ⟨w5,hw5⟩:∃ w5,w5=(w3.setCell ⟨w2.heap.size,7,none⟩ (.int .i64 sp)).setCell ⟨w2.heap.size,8,none⟩ (.int .i64 dp):=⟨_,rfl⟩
  have E5:=Lib.hid hw5
  rw [← hw5] at OS KP KQ
  have B5:=Lib.hid (OS.from BW3.out (by have:=B23.out.size; have:=HG4.out; have:=HW2.out; omega))
  have KP5:=Lib.hid KP
  have KQ5:=Lib.hid KQ
  clear hw5 OS KP KQ q0 q1 q2 q3 q4 q5 q6 q7 q8 s0_ s1_ s2_ s3_ s4_ s5_ s6_ s7_ s8_
  rw [← E5.out]
  have q0:=KP5.out.cell 0
  have t_0:=KP5.out.frozen 0
  have q1:=KP5.out.cell 1
  have t_1:=KP5.out.frozen 1
  have q2:=KP5.out.cell 2
  have t_2:=KP5.out.frozen 2
  have q3:=KP5.out.cell 3
  have t_3:=KP5.out.frozen 3
  have q4:=KP5.out.cell 4
  have t_4:=KP5.out.frozen 4
  have q5:=KP5.out.cell 5
  have t_5:=KP5.out.frozen 5
  have q6:=KP5.out.cell 6
  have t_6:=KP5.out.frozen 6
  have q7:=KP5.out.cell 7
  have t_7:=KP5.out.frozen 7
  have q8:=KP5.out.cell 8
  have t_8:=KP5.out.frozen 8
  have r0:=KQ5.out.cell 0
  have z0:=KQ5.out.frozen 0
  have r1:=KQ5.out.cell 1
  have z1:=KQ5.out.frozen 1
  have r2:=KQ5.out.cell 2
  have z2:=KQ5.out.frozen 2
  have r3:=KQ5.out.cell 3
  have z3:=KQ5.out.frozen 3
  have r4:=KQ5.out.cell 4
  have z4:=KQ5.out.frozen 4
  have r5:=KQ5.out.cell 5
  have z5:=KQ5.out.frozen 5
  have r6:=KQ5.out.cell 6
  have z6:=KQ5.out.frozen 6
  have r7:=KQ5.out.cell 7
  have z7:=KQ5.out.frozen 7
  have r8:=KQ5.out.cell 8
  have z8:=KQ5.out.frozen 8
  go_wp2_with fail
  have OG:=tonly w5 g4 (.int .i64 17) (.bool s6) (.int .u64 sh) (.int .u64 sl) (.bool d6) (.int .u64 dh) (.int .u64 dl) (.int .i64 sp) (.int .i64 dp)
  have KT:=tstore w5 g4 (.int .i64 17) (.bool s6) (.int .u64 sh) (.int .u64 sl) (.bool d6) (.int .u64 dh) (.int .u64 dl) (.int .i64 sp) (.int .i64 dp) _ _ _ _ _ _ _ _ _ KQ5.out
  refine bodyPost_ret (results_two_q rfl _ _ g4 #[.int .i64 17,.bool s6,.int .u64 sh,.int .u64 sl,.bool d6,.int .u64 dh,.int .u64 dl,.int .i64 sp,.int .i64 dp] rfl KT rfl) rfl ?_
  exact ⟨by rw [HSP.out,HDP.out]; rfl,OG.from B5.out HG4.out⟩
theorem quoted6_not (ty co wd:Int) (A:Option Addr) (n c:Nat) (f fr pr:Int) (s6:Bool) (sh sl:Int) (d6:Bool) (dh dl:Int) (r:List Int) (w:World) (ht:tellsB true ty=false) :
  Calls Try.prog 87 #[.bool true,.agg #[.int .i64 ty,.int .i64 co,.int .u32 wd,.slice A n c]] w fun o w'=>o=.returned (.tuple #[.agg #[.int .i64 0,.bool false,.int .u64 0,.int .u64 0,.bool false,.int .u64 0,.int .u64 0,.int .i64 0,.int .i64 0],.int .i64 24])∧Below w.heap.size w w':=by
 obtain ⟨w1,hw1⟩:∃ w1,w1=(w.alloc (.cells #[.int .i64 ty,.int .i64 co,.int .u32 wd,.slice A n c] 131)).alloc (.cells #[.int .i64 0,.bool false,.int .u64 0,.int .u64 0,.bool false,.int .u64 0,.int .u64 0,.int .i64 0,.int .i64 0] 39):=⟨_,rfl⟩
 have E1:=Lib.hid hw1
 have BA:=Lib.hid (show Below w.heap.size w (w.alloc (.cells #[.int .i64 ty,.int .i64 co,.int .u32 wd,.slice A n c] 131)) from (Below.refl _ _).alloc (Nat.le_refl _) _)
 have B1:=Lib.hid (show Below w.heap.size w w1 from by rw [hw1]; exact BA.out.alloc BA.out.size _)
 have K0:=Lib.hid (show Blk w1 w.heap.size 131 #[.int .i64 ty,.int .i64 co,.int .u32 wd,.slice A n c] from by rw [hw1]; exact (Blk.new w _ _).alloc _)
 have K1:=Lib.hid (show Blk w1 (w.heap.size+1) 39 #[.int .i64 0,.bool false,.int .u64 0,.int .u64 0,.bool false,.int .u64 0,.int .u64 0,.int .i64 0,.int .i64 0] from by
  have h9:=Blk.new (w.alloc (.cells #[.int .i64 ty,.int .i64 co,.int .u32 wd,.slice A n c] 131)) 39 #[.int .i64 0,.bool false,.int .u64 0,.int .u64 0,.bool false,.int .u64 0,.int .u64 0,.int .i64 0,.int .i64 0]
  rw [← hw1] at h9
  simpa using h9)
 have SZ1:=Lib.hid (show w1.heap.size=w.heap.size+2 from by rw [hw1]; simp)
 have TE:=Lib.hid (error_all true ty w1)
 rw [ht] at TE
 obtain ⟨g4,hg4⟩:∃ g4,g4=w.heap.size+1:=⟨_,rfl⟩
 have EG4:=Lib.hid hg4
 rw [← hg4] at K1
 clear hw1 ht hg4
 have m0:=K0.out.cell 0
 have m3:=K0.out.cell 3
 have r0:=K1.out.cell 0
 have z0:=K1.out.frozen 0
 have r1:=K1.out.cell 1
 have z1:=K1.out.frozen 1
 have r2:=K1.out.cell 2
 have z2:=K1.out.frozen 2
 have r3:=K1.out.cell 3
 have z3:=K1.out.frozen 3
 have r4:=K1.out.cell 4
 have z4:=K1.out.frozen 4
 have r5:=K1.out.cell 5
 have z5:=K1.out.frozen 5
 have r6:=K1.out.cell 6
 have z6:=K1.out.frozen 6
 have r7:=K1.out.cell 7
 have z7:=K1.out.frozen 7
 have r8:=K1.out.cell 8
 have z8:=K1.out.frozen 8
 go_enter Try.func87,Try.ntmps87
 go_upto_region 1 with fail
 rw [← E1.out]
 rw [← EG4.out]
 go_wp2_with fail
 refine TE.out.mono ?_
 rintro o w' ⟨rfl,rfl⟩
 go_wp2_with fail
 have OG:=tonly w1 g4 (.int .i64 0) (.bool false) (.int .u64 0) (.int .u64 0) (.bool false) (.int .u64 0) (.int .u64 0) (.int .i64 0) (.int .i64 0)
 have KT:=tstore w1 g4 (.int .i64 0) (.bool false) (.int .u64 0) (.int .u64 0) (.bool false) (.int .u64 0) (.int .u64 0) (.int .i64 0) (.int .i64 0) _ _ _ _ _ _ _ _ _ K1.out
 refine bodyPost_ret (results_two_q rfl _ _ g4 #[.int .i64 0,.bool false,.int .u64 0,.int .u64 0,.bool false,.int .u64 0,.int .u64 0,.int .i64 0,.int .i64 0] rfl KT rfl) rfl ?_
 exact ⟨rfl,OG.from B1.out (by have:=EG4.out; omega)⟩
theorem quoted6_err (ty co wd:Int) (A:Option Addr) (n c:Nat) (f fr pr:Int) (s6:Bool) (sh sl:Int) (d6:Bool) (dh dl:Int) (r:List Int) (w:World) (ht:tellsB true ty=true) (he:f≠0)
  (HQ:Hid (∀ V,Below w.heap.size w V→Calls Try.prog 99 #[.slice A n c] V (QT f fr pr s6 sh sl d6 dh dl r V))) :
  Calls Try.prog 87 #[.bool true,.agg #[.int .i64 ty,.int .i64 co,.int .u32 wd,.slice A n c]] w fun o w'=>o=.returned (.tuple #[.agg #[.int .i64 0,.bool false,.int .u64 0,.int .u64 0,.bool false,.int .u64 0,.int .u64 0,.int .i64 0,.int .i64 0],.int .i64 f])∧Below w.heap.size w w':=by
 obtain ⟨w1,hw1⟩:∃ w1,w1=(w.alloc (.cells #[.int .i64 ty,.int .i64 co,.int .u32 wd,.slice A n c] 131)).alloc (.cells #[.int .i64 0,.bool false,.int .u64 0,.int .u64 0,.bool false,.int .u64 0,.int .u64 0,.int .i64 0,.int .i64 0] 39):=⟨_,rfl⟩
 have E1:=Lib.hid hw1
 have BA:=Lib.hid (show Below w.heap.size w (w.alloc (.cells #[.int .i64 ty,.int .i64 co,.int .u32 wd,.slice A n c] 131)) from (Below.refl _ _).alloc (Nat.le_refl _) _)
 have B1:=Lib.hid (show Below w.heap.size w w1 from by rw [hw1]; exact BA.out.alloc BA.out.size _)
 have K0:=Lib.hid (show Blk w1 w.heap.size 131 #[.int .i64 ty,.int .i64 co,.int .u32 wd,.slice A n c] from by rw [hw1]; exact (Blk.new w _ _).alloc _)
 have K1:=Lib.hid (show Blk w1 (w.heap.size+1) 39 #[.int .i64 0,.bool false,.int .u64 0,.int .u64 0,.bool false,.int .u64 0,.int .u64 0,.int .i64 0,.int .i64 0] from by
  have h9:=Blk.new (w.alloc (.cells #[.int .i64 ty,.int .i64 co,.int .u32 wd,.slice A n c] 131)) 39 #[.int .i64 0,.bool false,.int .u64 0,.int .u64 0,.bool false,.int .u64 0,.int .u64 0,.int .i64 0,.int .i64 0]
  rw [← hw1] at h9
  simpa using h9)
 have SZ1:=Lib.hid (show w1.heap.size=w.heap.size+2 from by rw [hw1]; simp)
 have TE:=Lib.hid (error_all true ty w1)
 rw [ht] at TE
 obtain ⟨g4,hg4⟩:∃ g4,g4=w.heap.size+1:=⟨_,rfl⟩
 have EG4:=Lib.hid hg4
 rw [← hg4] at K1
 clear hw1 ht hg4
 have te:(f != 0)=true:=by simpa using he
 clear he
 have m0:=K0.out.cell 0
 have m3:=K0.out.cell 3
 have r0:=K1.out.cell 0
 have z0:=K1.out.frozen 0
 have r1:=K1.out.cell 1
 have z1:=K1.out.frozen 1
 have r2:=K1.out.cell 2
 have z2:=K1.out.frozen 2
 have r3:=K1.out.cell 3
 have z3:=K1.out.frozen 3
 have r4:=K1.out.cell 4
 have z4:=K1.out.frozen 4
 have r5:=K1.out.cell 5
 have z5:=K1.out.frozen 5
 have r6:=K1.out.cell 6
 have z6:=K1.out.frozen 6
 have r7:=K1.out.cell 7
 have z7:=K1.out.frozen 7
 have r8:=K1.out.cell 8
 have z8:=K1.out.frozen 8
 go_enter Try.func87,Try.ntmps87
 go_upto_region 1 with fail
 rw [← E1.out]
 rw [← EG4.out]
 go_wp2_with fail
 refine TE.out.mono ?_
 rintro o w' ⟨rfl,rfl⟩
 go_wp2_with fail
 refine (HQ.out _ B1.out).mono ?_
 rintro o w2 ⟨hb2,AR,nr,cr,rfl,hnr,hrow⟩
 obtain ⟨w3,hw3⟩:∃ w3,w3=w2.alloc (.cells #[.int .i64 pr,.bool s6,.int .u64 sh,.int .u64 sl,.bool d6,.int .u64 dh,.int .u64 dl,.int .i64 0,.int .i64 0] 39):=⟨_,rfl⟩
 have E3:=Lib.hid hw3
 have B23:=Lib.hid (show Below w2.heap.size w2 w3 from by rw [hw3]; exact (Below.refl _ _).alloc (Nat.le_refl _) _)
 have B13:=Lib.hid (hb2.trans (B23.out.mono hb2.size))
 have K3:=Lib.hid (show Blk w3 w2.heap.size 39 #[.int .i64 pr,.bool s6,.int .u64 sh,.int .u64 sl,.bool d6,.int .u64 dh,.int .u64 dl,.int .i64 0,.int .i64 0] from by rw [hw3]; exact Blk.new w2 _ _)
 have K13:=Lib.hid (K1.out.below B13.out K1.out.lt)
 have B12:=Lib.hid hb2.size
 have BW3:=Lib.hid (B1.out.trans (B13.out.mono B1.out.size))
 have HNR:=Lib.hid hnr
 have HNE:=Lib.hid (show g4≠w2.heap.size from by have:=hb2.size; have:=SZ1.out; have:=EG4.out; omega)
 have HG4:=Lib.hid (show w.heap.size≤g4 from by have:=EG4.out; omega)
 have HRW:=Lib.hid (own_below2 hrow B23.out)
 clear hw3 hb2 hrow hnr
 clear r0 r1 r2 r3 r4 r5 r6 r7 r8 z0 z1 z2 z3 z4 z5 z6 z7 z8
 go_upto_region 7 with fail
 rw [← E3.out]
 have r0:=K13.out.cell 0
 have z0:=K13.out.frozen 0
 have r1:=K13.out.cell 1
 have z1:=K13.out.frozen 1
 have r2:=K13.out.cell 2
 have z2:=K13.out.frozen 2
 have r3:=K13.out.cell 3
 have z3:=K13.out.frozen 3
 have r4:=K13.out.cell 4
 have z4:=K13.out.frozen 4
 have r5:=K13.out.cell 5
 have z5:=K13.out.frozen 5
 have r6:=K13.out.cell 6
 have z6:=K13.out.frozen 6
 have r7:=K13.out.cell 7
 have z7:=K13.out.frozen 7
 have r8:=K13.out.cell 8
 have z8:=K13.out.frozen 8
 go_wp2_with fail
 have OG:=tonly w3 g4 (.int .i64 0) (.bool false) (.int .u64 0) (.int .u64 0) (.bool false) (.int .u64 0) (.int .u64 0) (.int .i64 0) (.int .i64 0)
 have KT:=tstore w3 g4 (.int .i64 0) (.bool false) (.int .u64 0) (.int .u64 0) (.bool false) (.int .u64 0) (.int .u64 0) (.int .i64 0) (.int .i64 0) _ _ _ _ _ _ _ _ _ K13.out
 refine bodyPost_ret (results_two_q rfl _ _ g4 #[.int .i64 0,.bool false,.int .u64 0,.int .u64 0,.bool false,.int .u64 0,.int .u64 0,.int .i64 0,.int .i64 0] rfl KT rfl) rfl ?_
 exact ⟨rfl,OG.from BW3.out HG4.out⟩
theorem quoted6_frag (ty co wd:Int) (A:Option Addr) (n c:Nat) (f fr pr:Int) (s6:Bool) (sh sl:Int) (d6:Bool) (dh dl:Int) (r:List Int) (w:World) (ht:tellsB true ty=true) (he:f=0) (hf:fr≠0)
  (HQ:Hid (∀ V,Below w.heap.size w V→Calls Try.prog 99 #[.slice A n c] V (QT f fr pr s6 sh sl d6 dh dl r V))) :
  Calls Try.prog 87 #[.bool true,.agg #[.int .i64 ty,.int .i64 co,.int .u32 wd,.slice A n c]] w fun o w'=>o=.returned (.tuple #[.agg #[.int .i64 0,.bool false,.int .u64 0,.int .u64 0,.bool false,.int .u64 0,.int .u64 0,.int .i64 0,.int .i64 0],.int .i64 21])∧Below w.heap.size w w':=by
 obtain ⟨w1,hw1⟩:∃ w1,w1=(w.alloc (.cells #[.int .i64 ty,.int .i64 co,.int .u32 wd,.slice A n c] 131)).alloc (.cells #[.int .i64 0,.bool false,.int .u64 0,.int .u64 0,.bool false,.int .u64 0,.int .u64 0,.int .i64 0,.int .i64 0] 39):=⟨_,rfl⟩
 have E1:=Lib.hid hw1
 have BA:=Lib.hid (show Below w.heap.size w (w.alloc (.cells #[.int .i64 ty,.int .i64 co,.int .u32 wd,.slice A n c] 131)) from (Below.refl _ _).alloc (Nat.le_refl _) _)
 have B1:=Lib.hid (show Below w.heap.size w w1 from by rw [hw1]; exact BA.out.alloc BA.out.size _)
 have K0:=Lib.hid (show Blk w1 w.heap.size 131 #[.int .i64 ty,.int .i64 co,.int .u32 wd,.slice A n c] from by rw [hw1]; exact (Blk.new w _ _).alloc _)
 have K1:=Lib.hid (show Blk w1 (w.heap.size+1) 39 #[.int .i64 0,.bool false,.int .u64 0,.int .u64 0,.bool false,.int .u64 0,.int .u64 0,.int .i64 0,.int .i64 0] from by
  have h9:=Blk.new (w.alloc (.cells #[.int .i64 ty,.int .i64 co,.int .u32 wd,.slice A n c] 131)) 39 #[.int .i64 0,.bool false,.int .u64 0,.int .u64 0,.bool false,.int .u64 0,.int .u64 0,.int .i64 0,.int .i64 0]
  rw [← hw1] at h9
  simpa using h9)
 have SZ1:=Lib.hid (show w1.heap.size=w.heap.size+2 from by rw [hw1]; simp)
 have TE:=Lib.hid (error_all true ty w1)
 rw [ht] at TE
 obtain ⟨g4,hg4⟩:∃ g4,g4=w.heap.size+1:=⟨_,rfl⟩
 have EG4:=Lib.hid hg4
 rw [← hg4] at K1
 clear hw1 ht hg4
 subst he
 have tf:(fr != 0)=true:=by simpa using hf
 clear hf
 have m0:=K0.out.cell 0
 have m3:=K0.out.cell 3
 have r0:=K1.out.cell 0
 have z0:=K1.out.frozen 0
 have r1:=K1.out.cell 1
 have z1:=K1.out.frozen 1
 have r2:=K1.out.cell 2
 have z2:=K1.out.frozen 2
 have r3:=K1.out.cell 3
 have z3:=K1.out.frozen 3
 have r4:=K1.out.cell 4
 have z4:=K1.out.frozen 4
 have r5:=K1.out.cell 5
 have z5:=K1.out.frozen 5
 have r6:=K1.out.cell 6
 have z6:=K1.out.frozen 6
 have r7:=K1.out.cell 7
 have z7:=K1.out.frozen 7
 have r8:=K1.out.cell 8
 have z8:=K1.out.frozen 8
 go_enter Try.func87,Try.ntmps87
 go_upto_region 1 with fail
 rw [← E1.out]
 rw [← EG4.out]
 go_wp2_with fail
 refine TE.out.mono ?_
 rintro o w' ⟨rfl,rfl⟩
 go_wp2_with fail
 refine (HQ.out _ B1.out).mono ?_
 rintro o w2 ⟨hb2,AR,nr,cr,rfl,hnr,hrow⟩
 obtain ⟨w3,hw3⟩:∃ w3,w3=w2.alloc (.cells #[.int .i64 pr,.bool s6,.int .u64 sh,.int .u64 sl,.bool d6,.int .u64 dh,.int .u64 dl,.int .i64 0,.int .i64 0] 39):=⟨_,rfl⟩
 have E3:=Lib.hid hw3
 have B23:=Lib.hid (show Below w2.heap.size w2 w3 from by rw [hw3]; exact (Below.refl _ _).alloc (Nat.le_refl _) _)
 have B13:=Lib.hid (hb2.trans (B23.out.mono hb2.size))
 have K3:=Lib.hid (show Blk w3 w2.heap.size 39 #[.int .i64 pr,.bool s6,.int .u64 sh,.int .u64 sl,.bool d6,.int .u64 dh,.int .u64 dl,.int .i64 0,.int .i64 0] from by rw [hw3]; exact Blk.new w2 _ _)
 have K13:=Lib.hid (K1.out.below B13.out K1.out.lt)
 have B12:=Lib.hid hb2.size
 have BW3:=Lib.hid (B1.out.trans (B13.out.mono B1.out.size))
 have HNR:=Lib.hid hnr
 have HNE:=Lib.hid (show g4≠w2.heap.size from by have:=hb2.size; have:=SZ1.out; have:=EG4.out; omega)
 have HG4:=Lib.hid (show w.heap.size≤g4 from by have:=EG4.out; omega)
 have HRW:=Lib.hid (own_below2 hrow B23.out)
 clear hw3 hb2 hrow hnr
 clear r0 r1 r2 r3 r4 r5 r6 r7 r8 z0 z1 z2 z3 z4 z5 z6 z7 z8
 go_upto_region 7 with fail
 rw [← E3.out]
 have r0:=K13.out.cell 0
 have z0:=K13.out.frozen 0
 have r1:=K13.out.cell 1
 have z1:=K13.out.frozen 1
 have r2:=K13.out.cell 2
 have z2:=K13.out.frozen 2
 have r3:=K13.out.cell 3
 have z3:=K13.out.frozen 3
 have r4:=K13.out.cell 4
 have z4:=K13.out.frozen 4
 have r5:=K13.out.cell 5
 have z5:=K13.out.frozen 5
 have r6:=K13.out.cell 6
 have z6:=K13.out.frozen 6
 have r7:=K13.out.cell 7
 have z7:=K13.out.frozen 7
 have r8:=K13.out.cell 8
 have z8:=K13.out.frozen 8
 go_wp2_with fail
 have OG:=tonly w3 g4 (.int .i64 0) (.bool false) (.int .u64 0) (.int .u64 0) (.bool false) (.int .u64 0) (.int .u64 0) (.int .i64 0) (.int .i64 0)
 have KT:=tstore w3 g4 (.int .i64 0) (.bool false) (.int .u64 0) (.int .u64 0) (.bool false) (.int .u64 0) (.int .u64 0) (.int .i64 0) (.int .i64 0) _ _ _ _ _ _ _ _ _ K13.out
 refine bodyPost_ret (results_two_q rfl _ _ g4 #[.int .i64 0,.bool false,.int .u64 0,.int .u64 0,.bool false,.int .u64 0,.int .u64 0,.int .i64 0,.int .i64 0] rfl KT rfl) rfl ?_
 exact ⟨rfl,OG.from BW3.out HG4.out⟩
theorem quoted6_proto (ty co wd:Int) (A:Option Addr) (n c:Nat) (f fr pr:Int) (s6:Bool) (sh sl:Int) (d6:Bool) (dh dl:Int) (r:List Int) (w:World) (ht:tellsB true ty=true) (he:f=0) (hf:fr=0) (hp:pr≠6∧pr≠17)
  (HQ:Hid (∀ V,Below w.heap.size w V→Calls Try.prog 99 #[.slice A n c] V (QT f fr pr s6 sh sl d6 dh dl r V))) :
  Calls Try.prog 87 #[.bool true,.agg #[.int .i64 ty,.int .i64 co,.int .u32 wd,.slice A n c]] w fun o w'=>o=.returned (.tuple #[.agg #[.int .i64 0,.bool false,.int .u64 0,.int .u64 0,.bool false,.int .u64 0,.int .u64 0,.int .i64 0,.int .i64 0],.int .i64 14])∧Below w.heap.size w w':=by
 obtain ⟨w1,hw1⟩:∃ w1,w1=(w.alloc (.cells #[.int .i64 ty,.int .i64 co,.int .u32 wd,.slice A n c] 131)).alloc (.cells #[.int .i64 0,.bool false,.int .u64 0,.int .u64 0,.bool false,.int .u64 0,.int .u64 0,.int .i64 0,.int .i64 0] 39):=⟨_,rfl⟩
 have E1:=Lib.hid hw1
 have BA:=Lib.hid (show Below w.heap.size w (w.alloc (.cells #[.int .i64 ty,.int .i64 co,.int .u32 wd,.slice A n c] 131)) from (Below.refl _ _).alloc (Nat.le_refl _) _)
 have B1:=Lib.hid (show Below w.heap.size w w1 from by rw [hw1]; exact BA.out.alloc BA.out.size _)
 have K0:=Lib.hid (show Blk w1 w.heap.size 131 #[.int .i64 ty,.int .i64 co,.int .u32 wd,.slice A n c] from by rw [hw1]; exact (Blk.new w _ _).alloc _)
 have K1:=Lib.hid (show Blk w1 (w.heap.size+1) 39 #[.int .i64 0,.bool false,.int .u64 0,.int .u64 0,.bool false,.int .u64 0,.int .u64 0,.int .i64 0,.int .i64 0] from by
  have h9:=Blk.new (w.alloc (.cells #[.int .i64 ty,.int .i64 co,.int .u32 wd,.slice A n c] 131)) 39 #[.int .i64 0,.bool false,.int .u64 0,.int .u64 0,.bool false,.int .u64 0,.int .u64 0,.int .i64 0,.int .i64 0]
  rw [← hw1] at h9
  simpa using h9)
 have SZ1:=Lib.hid (show w1.heap.size=w.heap.size+2 from by rw [hw1]; simp)
 have TE:=Lib.hid (error_all true ty w1)
 rw [ht] at TE
 obtain ⟨g4,hg4⟩:∃ g4,g4=w.heap.size+1:=⟨_,rfl⟩
 have EG4:=Lib.hid hg4
 rw [← hg4] at K1
 clear hw1 ht hg4
 subst he
 subst hf
 have p6:(pr != 6)=true:=by simpa using hp.1
 have p17:(pr != 17)=true:=by simpa using hp.2
 clear hp
 have m0:=K0.out.cell 0
 have m3:=K0.out.cell 3
 have r0:=K1.out.cell 0
 have z0:=K1.out.frozen 0
 have r1:=K1.out.cell 1
 have z1:=K1.out.frozen 1
 have r2:=K1.out.cell 2
 have z2:=K1.out.frozen 2
 have r3:=K1.out.cell 3
 have z3:=K1.out.frozen 3
 have r4:=K1.out.cell 4
 have z4:=K1.out.frozen 4
 have r5:=K1.out.cell 5
 have z5:=K1.out.frozen 5
 have r6:=K1.out.cell 6
 have z6:=K1.out.frozen 6
 have r7:=K1.out.cell 7
 have z7:=K1.out.frozen 7
 have r8:=K1.out.cell 8
 have z8:=K1.out.frozen 8
 go_enter Try.func87,Try.ntmps87
 go_upto_region 1 with fail
 rw [← E1.out]
 rw [← EG4.out]
 go_wp2_with fail
 refine TE.out.mono ?_
 rintro o w' ⟨rfl,rfl⟩
 go_wp2_with fail
 refine (HQ.out _ B1.out).mono ?_
 rintro o w2 ⟨hb2,AR,nr,cr,rfl,hnr,hrow⟩
 obtain ⟨w3,hw3⟩:∃ w3,w3=w2.alloc (.cells #[.int .i64 pr,.bool s6,.int .u64 sh,.int .u64 sl,.bool d6,.int .u64 dh,.int .u64 dl,.int .i64 0,.int .i64 0] 39):=⟨_,rfl⟩
 have E3:=Lib.hid hw3
 have B23:=Lib.hid (show Below w2.heap.size w2 w3 from by rw [hw3]; exact (Below.refl _ _).alloc (Nat.le_refl _) _)
 have B13:=Lib.hid (hb2.trans (B23.out.mono hb2.size))
 have K3:=Lib.hid (show Blk w3 w2.heap.size 39 #[.int .i64 pr,.bool s6,.int .u64 sh,.int .u64 sl,.bool d6,.int .u64 dh,.int .u64 dl,.int .i64 0,.int .i64 0] from by rw [hw3]; exact Blk.new w2 _ _)
 have K13:=Lib.hid (K1.out.below B13.out K1.out.lt)
 have B12:=Lib.hid hb2.size
 have BW3:=Lib.hid (B1.out.trans (B13.out.mono B1.out.size))
 have HNR:=Lib.hid hnr
 have HNE:=Lib.hid (show g4≠w2.heap.size from by have:=hb2.size; have:=SZ1.out; have:=EG4.out; omega)
 have HG4:=Lib.hid (show w.heap.size≤g4 from by have:=EG4.out; omega)
 have HRW:=Lib.hid (own_below2 hrow B23.out)
 clear hw3 hb2 hrow hnr
 clear r0 r1 r2 r3 r4 r5 r6 r7 r8 z0 z1 z2 z3 z4 z5 z6 z7 z8
 go_upto_region 7 with fail
 rw [← E3.out]
 have q0:=K3.out.cell 0
 have r0:=K13.out.cell 0
 have z0:=K13.out.frozen 0
 have r1:=K13.out.cell 1
 have z1:=K13.out.frozen 1
 have r2:=K13.out.cell 2
 have z2:=K13.out.frozen 2
 have r3:=K13.out.cell 3
 have z3:=K13.out.frozen 3
 have r4:=K13.out.cell 4
 have z4:=K13.out.frozen 4
 have r5:=K13.out.cell 5
 have z5:=K13.out.frozen 5
 have r6:=K13.out.cell 6
 have z6:=K13.out.frozen 6
 have r7:=K13.out.cell 7
 have z7:=K13.out.frozen 7
 have r8:=K13.out.cell 8
 have z8:=K13.out.frozen 8
 go_wp2_with fail
 have OG:=tonly w3 g4 (.int .i64 0) (.bool false) (.int .u64 0) (.int .u64 0) (.bool false) (.int .u64 0) (.int .u64 0) (.int .i64 0) (.int .i64 0)
 have KT:=tstore w3 g4 (.int .i64 0) (.bool false) (.int .u64 0) (.int .u64 0) (.bool false) (.int .u64 0) (.int .u64 0) (.int .i64 0) (.int .i64 0) _ _ _ _ _ _ _ _ _ K13.out
 refine bodyPost_ret (results_two_q rfl _ _ g4 #[.int .i64 0,.bool false,.int .u64 0,.int .u64 0,.bool false,.int .u64 0,.int .u64 0,.int .i64 0,.int .i64 0] rfl KT rfl) rfl ?_
 exact ⟨rfl,OG.from BW3.out HG4.out⟩
theorem quoted6_short (ty co wd:Int) (A:Option Addr) (n c:Nat) (f fr pr:Int) (s6:Bool) (sh sl:Int) (d6:Bool) (dh dl:Int) (r:List Int) (w:World) (ht:tellsB true ty=true) (he:f=0) (hf:fr=0) (hp:pr=6∨pr=17) (hr:r.length<4)
  (HQ:Hid (∀ V,Below w.heap.size w V→Calls Try.prog 99 #[.slice A n c] V (QT f fr pr s6 sh sl d6 dh dl r V))) :
  Calls Try.prog 87 #[.bool true,.agg #[.int .i64 ty,.int .i64 co,.int .u32 wd,.slice A n c]] w fun o w'=>o=.returned (.tuple #[.agg #[.int .i64 0,.bool false,.int .u64 0,.int .u64 0,.bool false,.int .u64 0,.int .u64 0,.int .i64 0,.int .i64 0],.int .i64 2])∧Below w.heap.size w w':=by
 obtain ⟨w1,hw1⟩:∃ w1,w1=(w.alloc (.cells #[.int .i64 ty,.int .i64 co,.int .u32 wd,.slice A n c] 131)).alloc (.cells #[.int .i64 0,.bool false,.int .u64 0,.int .u64 0,.bool false,.int .u64 0,.int .u64 0,.int .i64 0,.int .i64 0] 39):=⟨_,rfl⟩
 have E1:=Lib.hid hw1
 have BA:=Lib.hid (show Below w.heap.size w (w.alloc (.cells #[.int .i64 ty,.int .i64 co,.int .u32 wd,.slice A n c] 131)) from (Below.refl _ _).alloc (Nat.le_refl _) _)
 have B1:=Lib.hid (show Below w.heap.size w w1 from by rw [hw1]; exact BA.out.alloc BA.out.size _)
 have K0:=Lib.hid (show Blk w1 w.heap.size 131 #[.int .i64 ty,.int .i64 co,.int .u32 wd,.slice A n c] from by rw [hw1]; exact (Blk.new w _ _).alloc _)
 have K1:=Lib.hid (show Blk w1 (w.heap.size+1) 39 #[.int .i64 0,.bool false,.int .u64 0,.int .u64 0,.bool false,.int .u64 0,.int .u64 0,.int .i64 0,.int .i64 0] from by
  have h9:=Blk.new (w.alloc (.cells #[.int .i64 ty,.int .i64 co,.int .u32 wd,.slice A n c] 131)) 39 #[.int .i64 0,.bool false,.int .u64 0,.int .u64 0,.bool false,.int .u64 0,.int .u64 0,.int .i64 0,.int .i64 0]
  rw [← hw1] at h9
  simpa using h9)
 have SZ1:=Lib.hid (show w1.heap.size=w.heap.size+2 from by rw [hw1]; simp)
 have TE:=Lib.hid (error_all true ty w1)
 rw [ht] at TE
 obtain ⟨g4,hg4⟩:∃ g4,g4=w.heap.size+1:=⟨_,rfl⟩
 have EG4:=Lib.hid hg4
 rw [← hg4] at K1
 clear hw1 ht hg4
 subst he
 subst hf
 have m0:=K0.out.cell 0
 have m3:=K0.out.cell 3
 have r0:=K1.out.cell 0
 have z0:=K1.out.frozen 0
 have r1:=K1.out.cell 1
 have z1:=K1.out.frozen 1
 have r2:=K1.out.cell 2
 have z2:=K1.out.frozen 2
 have r3:=K1.out.cell 3
 have z3:=K1.out.frozen 3
 have r4:=K1.out.cell 4
 have z4:=K1.out.frozen 4
 have r5:=K1.out.cell 5
 have z5:=K1.out.frozen 5
 have r6:=K1.out.cell 6
 have z6:=K1.out.frozen 6
 have r7:=K1.out.cell 7
 have z7:=K1.out.frozen 7
 have r8:=K1.out.cell 8
 have z8:=K1.out.frozen 8
 go_enter Try.func87,Try.ntmps87
 go_upto_region 1 with fail
 rw [← E1.out]
 rw [← EG4.out]
 go_wp2_with fail
 refine TE.out.mono ?_
 rintro o w' ⟨rfl,rfl⟩
 go_wp2_with fail
 refine (HQ.out _ B1.out).mono ?_
 rintro o w2 ⟨hb2,AR,nr,cr,rfl,hnr,hrow⟩
 obtain ⟨w3,hw3⟩:∃ w3,w3=w2.alloc (.cells #[.int .i64 pr,.bool s6,.int .u64 sh,.int .u64 sl,.bool d6,.int .u64 dh,.int .u64 dl,.int .i64 0,.int .i64 0] 39):=⟨_,rfl⟩
 have E3:=Lib.hid hw3
 have B23:=Lib.hid (show Below w2.heap.size w2 w3 from by rw [hw3]; exact (Below.refl _ _).alloc (Nat.le_refl _) _)
 have B13:=Lib.hid (hb2.trans (B23.out.mono hb2.size))
 have K3:=Lib.hid (show Blk w3 w2.heap.size 39 #[.int .i64 pr,.bool s6,.int .u64 sh,.int .u64 sl,.bool d6,.int .u64 dh,.int .u64 dl,.int .i64 0,.int .i64 0] from by rw [hw3]; exact Blk.new w2 _ _)
 have K13:=Lib.hid (K1.out.below B13.out K1.out.lt)
 have B12:=Lib.hid hb2.size
 have BW3:=Lib.hid (B1.out.trans (B13.out.mono B1.out.size))
 have HNR:=Lib.hid hnr
 have HNE:=Lib.hid (show g4≠w2.heap.size from by have:=hb2.size; have:=SZ1.out; have:=EG4.out; omega)
 have HG4:=Lib.hid (show w.heap.size≤g4 from by have:=EG4.out; omega)
 have HRW:=Lib.hid (own_below2 hrow B23.out)
 clear hw3 hb2 hrow hnr
 clear r0 r1 r2 r3 r4 r5 r6 r7 r8 z0 z1 z2 z3 z4 z5 z6 z7 z8
 go_upto_region 7 with fail
 rw [← E3.out]
 have q0:=K3.out.cell 0
 have tn:decide ((nr:Int)<4)=true:=decide_eq_true (by have:=HNR.out; omega)
 have tnn:decide (nr<4)=true:=decide_eq_true (by have:=HNR.out; omega)
 have r0:=K13.out.cell 0
 have z0:=K13.out.frozen 0
 have r1:=K13.out.cell 1
 have z1:=K13.out.frozen 1
 have r2:=K13.out.cell 2
 have z2:=K13.out.frozen 2
 have r3:=K13.out.cell 3
 have z3:=K13.out.frozen 3
 have r4:=K13.out.cell 4
 have z4:=K13.out.frozen 4
 have r5:=K13.out.cell 5
 have z5:=K13.out.frozen 5
 have r6:=K13.out.cell 6
 have z6:=K13.out.frozen 6
 have r7:=K13.out.cell 7
 have z7:=K13.out.frozen 7
 have r8:=K13.out.cell 8
 have z8:=K13.out.frozen 8
 rcases hp with rfl | rfl
 ·go_wp2_with fail
  have OG:=tonly w3 g4 (.int .i64 0) (.bool false) (.int .u64 0) (.int .u64 0) (.bool false) (.int .u64 0) (.int .u64 0) (.int .i64 0) (.int .i64 0)
  have KT:=tstore w3 g4 (.int .i64 0) (.bool false) (.int .u64 0) (.int .u64 0) (.bool false) (.int .u64 0) (.int .u64 0) (.int .i64 0) (.int .i64 0) _ _ _ _ _ _ _ _ _ K13.out
  refine bodyPost_ret (results_two_q rfl _ _ g4 #[.int .i64 0,.bool false,.int .u64 0,.int .u64 0,.bool false,.int .u64 0,.int .u64 0,.int .i64 0,.int .i64 0] rfl KT rfl) rfl ?_
  exact ⟨rfl,OG.from BW3.out HG4.out⟩
 ·go_wp2_with fail
  have OG:=tonly w3 g4 (.int .i64 0) (.bool false) (.int .u64 0) (.int .u64 0) (.bool false) (.int .u64 0) (.int .u64 0) (.int .i64 0) (.int .i64 0)
  have KT:=tstore w3 g4 (.int .i64 0) (.bool false) (.int .u64 0) (.int .u64 0) (.bool false) (.int .u64 0) (.int .u64 0) (.int .i64 0) (.int .i64 0) _ _ _ _ _ _ _ _ _ K13.out
  refine bodyPost_ret (results_two_q rfl _ _ g4 #[.int .i64 0,.bool false,.int .u64 0,.int .u64 0,.bool false,.int .u64 0,.int .u64 0,.int .i64 0,.int .i64 0] rfl KT rfl) rfl ?_
  exact ⟨rfl,OG.from BW3.out HG4.out⟩
theorem quoted6_good (ty co wd:Int) (A:Option Addr) (n c:Nat) (f fr pr:Int) (s6:Bool) (sh sl:Int) (d6:Bool) (dh dl:Int) (r:List Int) (w:World) (ht:tellsB true ty=true) (he:f=0) (hf:fr=0) (hp:pr=6∨pr=17) (hr:4≤r.length) (hr2:r.length≤1000) (hu:U8 r)
  (HQ:Hid (∀ V,Below w.heap.size w V→Calls Try.prog 99 #[.slice A n c] V (QT f fr pr s6 sh sl d6 dh dl r V))) :
  Calls Try.prog 87 #[.bool true,.agg #[.int .i64 ty,.int .i64 co,.int .u32 wd,.slice A n c]] w fun o w'=>o=.returned (.tuple #[.agg #[.int .i64 pr,.bool s6,.int .u64 sh,.int .u64 sl,.bool d6,.int .u64 dh,.int .u64 dl,.int .i64 (256*r.getD 0 0+r.getD 1 0),.int .i64 (256*r.getD 2 0+r.getD 3 0)],.int .i64 0])∧Below w.heap.size w w':=by
 obtain ⟨w1,hw1⟩:∃ w1,w1=(w.alloc (.cells #[.int .i64 ty,.int .i64 co,.int .u32 wd,.slice A n c] 131)).alloc (.cells #[.int .i64 0,.bool false,.int .u64 0,.int .u64 0,.bool false,.int .u64 0,.int .u64 0,.int .i64 0,.int .i64 0] 39):=⟨_,rfl⟩
 have E1:=Lib.hid hw1
 have BA:=Lib.hid (show Below w.heap.size w (w.alloc (.cells #[.int .i64 ty,.int .i64 co,.int .u32 wd,.slice A n c] 131)) from (Below.refl _ _).alloc (Nat.le_refl _) _)
 have B1:=Lib.hid (show Below w.heap.size w w1 from by rw [hw1]; exact BA.out.alloc BA.out.size _)
 have K0:=Lib.hid (show Blk w1 w.heap.size 131 #[.int .i64 ty,.int .i64 co,.int .u32 wd,.slice A n c] from by rw [hw1]; exact (Blk.new w _ _).alloc _)
 have K1:=Lib.hid (show Blk w1 (w.heap.size+1) 39 #[.int .i64 0,.bool false,.int .u64 0,.int .u64 0,.bool false,.int .u64 0,.int .u64 0,.int .i64 0,.int .i64 0] from by
  have h9:=Blk.new (w.alloc (.cells #[.int .i64 ty,.int .i64 co,.int .u32 wd,.slice A n c] 131)) 39 #[.int .i64 0,.bool false,.int .u64 0,.int .u64 0,.bool false,.int .u64 0,.int .u64 0,.int .i64 0,.int .i64 0]
  rw [← hw1] at h9
  simpa using h9)
 have SZ1:=Lib.hid (show w1.heap.size=w.heap.size+2 from by rw [hw1]; simp)
 have TE:=Lib.hid (error_all true ty w1)
 rw [ht] at TE
 obtain ⟨g4,hg4⟩:∃ g4,g4=w.heap.size+1:=⟨_,rfl⟩
 have EG4:=Lib.hid hg4
 rw [← hg4] at K1
 clear hw1 ht hg4
 subst he
 subst hf
 have m0:=K0.out.cell 0
 have m3:=K0.out.cell 3
 have r0:=K1.out.cell 0
 have z0:=K1.out.frozen 0
 have r1:=K1.out.cell 1
 have z1:=K1.out.frozen 1
 have r2:=K1.out.cell 2
 have z2:=K1.out.frozen 2
 have r3:=K1.out.cell 3
 have z3:=K1.out.frozen 3
 have r4:=K1.out.cell 4
 have z4:=K1.out.frozen 4
 have r5:=K1.out.cell 5
 have z5:=K1.out.frozen 5
 have r6:=K1.out.cell 6
 have z6:=K1.out.frozen 6
 have r7:=K1.out.cell 7
 have z7:=K1.out.frozen 7
 have r8:=K1.out.cell 8
 have z8:=K1.out.frozen 8
 go_enter Try.func87,Try.ntmps87
 go_upto_region 1 with fail
 rw [← E1.out]
 rw [← EG4.out]
 go_wp2_with fail
 refine TE.out.mono ?_
 rintro o w' ⟨rfl,rfl⟩
 go_wp2_with fail
 refine (HQ.out _ B1.out).mono ?_
 rintro o w2 ⟨hb2,AR,nr,cr,rfl,hnr,hrow⟩
 obtain ⟨w3,hw3⟩:∃ w3,w3=w2.alloc (.cells #[.int .i64 pr,.bool s6,.int .u64 sh,.int .u64 sl,.bool d6,.int .u64 dh,.int .u64 dl,.int .i64 0,.int .i64 0] 39):=⟨_,rfl⟩
 have E3:=Lib.hid hw3
 have B23:=Lib.hid (show Below w2.heap.size w2 w3 from by rw [hw3]; exact (Below.refl _ _).alloc (Nat.le_refl _) _)
 have B13:=Lib.hid (hb2.trans (B23.out.mono hb2.size))
 have K3:=Lib.hid (show Blk w3 w2.heap.size 39 #[.int .i64 pr,.bool s6,.int .u64 sh,.int .u64 sl,.bool d6,.int .u64 dh,.int .u64 dl,.int .i64 0,.int .i64 0] from by rw [hw3]; exact Blk.new w2 _ _)
 have K13:=Lib.hid (K1.out.below B13.out K1.out.lt)
 have B12:=Lib.hid hb2.size
 have BW3:=Lib.hid (B1.out.trans (B13.out.mono B1.out.size))
 have HNR:=Lib.hid hnr
 have HNE:=Lib.hid (show g4≠w2.heap.size from by have:=hb2.size; have:=SZ1.out; have:=EG4.out; omega)
 have HG4:=Lib.hid (show w.heap.size≤g4 from by have:=EG4.out; omega)
 have HRW:=Lib.hid (own_below2 hrow B23.out)
 clear hw3 hb2 hrow hnr
 clear r0 r1 r2 r3 r4 r5 r6 r7 r8 z0 z1 z2 z3 z4 z5 z6 z7 z8
 go_upto_region 7 with fail
 rw [← E3.out]
 have q0:=K3.out.cell 0
 have tn:decide ((nr:Int)<4)=false:=decide_eq_false (by have:=HNR.out; omega)
 have tnn:decide (nr<4)=false:=decide_eq_false (by have:=HNR.out; omega)
 have u0:=hu.get 0; have u1:=hu.get 1; have u2:=hu.get 2; have u3:=hu.get 3
 obtain ⟨sp,hsp⟩:∃ sp,sp=256*r.getD 0 0+r.getD 1 0:=⟨_,rfl⟩
 obtain ⟨dp,hdp⟩:∃ dp,dp=256*r.getD 2 0+r.getD 3 0:=⟨_,rfl⟩
 have HSP:=Lib.hid hsp
 have HDP:=Lib.hid hdp
 have HW2:=Lib.hid (show w.heap.size≤w2.heap.size from by have:=B1.out.size; have:=B12.out; omega)
 have hcap:=own_cap HRW.out
 have A0:=Lib.hid (show Calls Try.prog 64 #[.slice AR nr cr,.int .i64 0,.int .i64 2] w3 fun e w'=>e=.returned (.int .u64 sp)∧w3=w' from by
  rw [hsp]
  exact at_2 0 AR nr cr r w3 HNR.out.symm (by have:=HNR.out; omega) hcap.1 hcap.2.1 hcap.2.2 (own_row HRW.out) hu (by omega))
 have A2:=Lib.hid (show Calls Try.prog 64 #[.slice AR nr cr,.int .i64 2,.int .i64 2] w3 fun e w'=>e=.returned (.int .u64 dp)∧w3=w' from by
  rw [hdp]
  exact at_2 2 AR nr cr r w3 HNR.out.symm (by have:=HNR.out; omega) hcap.1 hcap.2.1 hcap.2.2 (own_row HRW.out) hu (by omega))
 have wsp:IntKind.i64.wrap sp=sp:=IntWalk.i64_in _ (by omega)
 have wdp:IntKind.i64.wrap dp=dp:=IntWalk.i64_in _ (by omega)
 clear hsp hdp hu hcap u0 u1 u2 u3 hr hr2 q0
 rcases hp with rfl | rfl
 ·have q0:=K3.out.cell 0
  have s0_:=K3.out.frozen 0
  have q1:=K3.out.cell 1
  have s1_:=K3.out.frozen 1
  have q2:=K3.out.cell 2
  have s2_:=K3.out.frozen 2
  have q3:=K3.out.cell 3
  have s3_:=K3.out.frozen 3
  have q4:=K3.out.cell 4
  have s4_:=K3.out.frozen 4
  have q5:=K3.out.cell 5
  have s5_:=K3.out.frozen 5
  have q6:=K3.out.cell 6
  have s6_:=K3.out.frozen 6
  have q7:=K3.out.cell 7
  have s7_:=K3.out.frozen 7
  have q8:=K3.out.cell 8
  have s8_:=K3.out.frozen 8
  go_wp2_with fail
  refine A0.out.mono ?_
  rintro o w' ⟨rfl,rfl⟩
  go_wp2_with fail
  refine A2.out.mono ?_
  rintro o w' ⟨rfl,rfl⟩
  have OS:OnlyG w2.heap.size w3 ((w3.setCell ⟨w2.heap.size,7,none⟩ (.int .i64 sp)).setCell ⟨w2.heap.size,8,none⟩ (.int .i64 dp)):=((OnlyG.refl _ _).set 7 _).set 8 _
  have KP:Blk ((w3.setCell ⟨w2.heap.size,7,none⟩ (.int .i64 sp)).setCell ⟨w2.heap.size,8,none⟩ (.int .i64 dp)) w2.heap.size 39 #[.int .i64 6,.bool s6,.int .u64 sh,.int .u64 sl,.bool d6,.int .u64 dh,.int .u64 dl,.int .i64 sp,.int .i64 dp]:=(K3.out.set_ 7 (.int .i64 sp)).set_ 8 (.int .i64 dp)
  have KQ:=OS.blk K13.out HNE.out
  go_upto_region 16 with fail
  obtain ⟨w5,hw5⟩:∃ w5,w5=(w3.setCell ⟨w2.heap.size,7,none⟩ (.int .i64 sp)).setCell ⟨w2.heap.size,8,none⟩ (.int .i64 dp):=⟨_,rfl⟩
  have E5:=Lib.hid hw5
  rw [← hw5] at OS KP KQ
  have B5:=Lib.hid (OS.from BW3.out (by have:=B23.out.size; have:=HG4.out; have:=HW2.out; omega))
  have KP5:=Lib.hid KP
  have KQ5:=Lib.hid KQ
  clear hw5 OS KP KQ q0 q1 q2 q3 q4 q5 q6 q7 q8 s0_ s1_ s2_ s3_ s4_ s5_ s6_ s7_ s8_
  rw [← E5.out]
  have q0:=KP5.out.cell 0
  have t_0:=KP5.out.frozen 0
  have q1:=KP5.out.cell 1
  have t_1:=KP5.out.frozen 1
  have q2:=KP5.out.cell 2
  have t_2:=KP5.out.frozen 2
  have q3:=KP5.out.cell 3
  have t_3:=KP5.out.frozen 3
  have q4:=KP5.out.cell 4
  have t_4:=KP5.out.frozen 4
  have q5:=KP5.out.cell 5
  have t_5:=KP5.out.frozen 5
  have q6:=KP5.out.cell 6
  have t_6:=KP5.out.frozen 6
  have q7:=KP5.out.cell 7
  have t_7:=KP5.out.frozen 7
  have q8:=KP5.out.cell 8
  have t_8:=KP5.out.frozen 8
  have r0:=KQ5.out.cell 0
  have z0:=KQ5.out.frozen 0
  have r1:=KQ5.out.cell 1
  have z1:=KQ5.out.frozen 1
  have r2:=KQ5.out.cell 2
  have z2:=KQ5.out.frozen 2
  have r3:=KQ5.out.cell 3
  have z3:=KQ5.out.frozen 3
  have r4:=KQ5.out.cell 4
  have z4:=KQ5.out.frozen 4
  have r5:=KQ5.out.cell 5
  have z5:=KQ5.out.frozen 5
  have r6:=KQ5.out.cell 6
  have z6:=KQ5.out.frozen 6
  have r7:=KQ5.out.cell 7
  have z7:=KQ5.out.frozen 7
  have r8:=KQ5.out.cell 8
  have z8:=KQ5.out.frozen 8
  go_wp2_with fail
  have OG:=tonly w5 g4 (.int .i64 6) (.bool s6) (.int .u64 sh) (.int .u64 sl) (.bool d6) (.int .u64 dh) (.int .u64 dl) (.int .i64 sp) (.int .i64 dp)
  have KT:=tstore w5 g4 (.int .i64 6) (.bool s6) (.int .u64 sh) (.int .u64 sl) (.bool d6) (.int .u64 dh) (.int .u64 dl) (.int .i64 sp) (.int .i64 dp) _ _ _ _ _ _ _ _ _ KQ5.out
  refine bodyPost_ret (results_two_q rfl _ _ g4 #[.int .i64 6,.bool s6,.int .u64 sh,.int .u64 sl,.bool d6,.int .u64 dh,.int .u64 dl,.int .i64 sp,.int .i64 dp] rfl KT rfl) rfl ?_
  exact ⟨by rw [HSP.out,HDP.out]; rfl,OG.from B5.out HG4.out⟩
 ·have q0:=K3.out.cell 0
  have s0_:=K3.out.frozen 0
  have q1:=K3.out.cell 1
  have s1_:=K3.out.frozen 1
  have q2:=K3.out.cell 2
  have s2_:=K3.out.frozen 2
  have q3:=K3.out.cell 3
  have s3_:=K3.out.frozen 3
  have q4:=K3.out.cell 4
  have s4_:=K3.out.frozen 4
  have q5:=K3.out.cell 5
  have s5_:=K3.out.frozen 5
  have q6:=K3.out.cell 6
  have s6_:=K3.out.frozen 6
  have q7:=K3.out.cell 7
  have s7_:=K3.out.frozen 7
  have q8:=K3.out.cell 8
  have s8_:=K3.out.frozen 8
  go_wp2_with fail
  refine A0.out.mono ?_
  rintro o w' ⟨rfl,rfl⟩
  go_wp2_with fail
  refine A2.out.mono ?_
  rintro o w' ⟨rfl,rfl⟩
  have OS:OnlyG w2.heap.size w3 ((w3.setCell ⟨w2.heap.size,7,none⟩ (.int .i64 sp)).setCell ⟨w2.heap.size,8,none⟩ (.int .i64 dp)):=((OnlyG.refl _ _).set 7 _).set 8 _
  have KP:Blk ((w3.setCell ⟨w2.heap.size,7,none⟩ (.int .i64 sp)).setCell ⟨w2.heap.size,8,none⟩ (.int .i64 dp)) w2.heap.size 39 #[.int .i64 17,.bool s6,.int .u64 sh,.int .u64 sl,.bool d6,.int .u64 dh,.int .u64 dl,.int .i64 sp,.int .i64 dp]:=(K3.out.set_ 7 (.int .i64 sp)).set_ 8 (.int .i64 dp)
  have KQ:=OS.blk K13.out HNE.out
  go_upto_region 16 with fail
  obtain ⟨w5,hw5⟩:∃ w5,w5=(w3.setCell ⟨w2.heap.size,7,none⟩ (.int .i64 sp)).setCell ⟨w2.heap.size,8,none⟩ (.int .i64 dp):=⟨_,rfl⟩
  have E5:=Lib.hid hw5
  rw [← hw5] at OS KP KQ
  have B5:=Lib.hid (OS.from BW3.out (by have:=B23.out.size; have:=HG4.out; have:=HW2.out; omega))
  have KP5:=Lib.hid KP
  have KQ5:=Lib.hid KQ
  clear hw5 OS KP KQ q0 q1 q2 q3 q4 q5 q6 q7 q8 s0_ s1_ s2_ s3_ s4_ s5_ s6_ s7_ s8_
  rw [← E5.out]
  have q0:=KP5.out.cell 0
  have t_0:=KP5.out.frozen 0
  have q1:=KP5.out.cell 1
  have t_1:=KP5.out.frozen 1
  have q2:=KP5.out.cell 2
  have t_2:=KP5.out.frozen 2
  have q3:=KP5.out.cell 3
  have t_3:=KP5.out.frozen 3
  have q4:=KP5.out.cell 4
  have t_4:=KP5.out.frozen 4
  have q5:=KP5.out.cell 5
  have t_5:=KP5.out.frozen 5
  have q6:=KP5.out.cell 6
  have t_6:=KP5.out.frozen 6
  have q7:=KP5.out.cell 7
  have t_7:=KP5.out.frozen 7
  have q8:=KP5.out.cell 8
  have t_8:=KP5.out.frozen 8
  have r0:=KQ5.out.cell 0
  have z0:=KQ5.out.frozen 0
  have r1:=KQ5.out.cell 1
  have z1:=KQ5.out.frozen 1
  have r2:=KQ5.out.cell 2
  have z2:=KQ5.out.frozen 2
  have r3:=KQ5.out.cell 3
  have z3:=KQ5.out.frozen 3
  have r4:=KQ5.out.cell 4
  have z4:=KQ5.out.frozen 4
  have r5:=KQ5.out.cell 5
  have z5:=KQ5.out.frozen 5
  have r6:=KQ5.out.cell 6
  have z6:=KQ5.out.frozen 6
  have r7:=KQ5.out.cell 7
  have z7:=KQ5.out.frozen 7
  have r8:=KQ5.out.cell 8
  have z8:=KQ5.out.frozen 8
  go_wp2_with fail
  have OG:=tonly w5 g4 (.int .i64 17) (.bool s6) (.int .u64 sh) (.int .u64 sl) (.bool d6) (.int .u64 dh) (.int .u64 dl) (.int .i64 sp) (.int .i64 dp)
  have KT:=tstore w5 g4 (.int .i64 17) (.bool s6) (.int .u64 sh) (.int .u64 sl) (.bool d6) (.int .u64 dh) (.int .u64 dl) (.int .i64 sp) (.int .i64 dp) _ _ _ _ _ _ _ _ _ KQ5.out
  refine bodyPost_ret (results_two_q rfl _ _ g4 #[.int .i64 17,.bool s6,.int .u64 sh,.int .u64 sl,.bool d6,.int .u64 dh,.int .u64 dl,.int .i64 sp,.int .i64 dp] rfl KT rfl) rfl ?_
  exact ⟨by rw [HSP.out,HDP.out]; rfl,OG.from B5.out HG4.out⟩
end Go.Proofs.Ytnofddbfogilaaa.icmpI
