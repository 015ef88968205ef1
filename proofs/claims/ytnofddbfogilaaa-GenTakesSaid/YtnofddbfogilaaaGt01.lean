/- 5 texts in one. -/
import Derived.Deep.RegionHeldLaw
import Derived.Deep.RegionWith
import Derived.Deep.RegionHeld3
import Derived.Deep.DeepCutAuto
import Derived.Deep.WholeRow
import Derived.Laws.OwnMore
import Derived.Test.YtnofddbfogilaaaGe01
import Derived.Test.YtnofddbfogilaaaGe02
import Derived.Test.YtnofddbfogilaaaGe03
import Derived.Test.YtnofddbfogilaaaGe04
import Derived.Test.YtnofddbfogilaaaGe05
import Derived.Test.YtnofddbfogilaaaGe06
import Derived.Test.YtnofddbfogilaaaGe07
import Derived.Test.YtnofddbfogilaaaGe08
import Derived.Test.YtnofddbfogilaaaGe09
import Derived.Test.YtnofddbfogilaaaGe10
import Derived.Test.YtnofddbfogilaaaGe11
import Derived.Test.YtnofddbfogilaaaGe12
import Derived.Test.YtnofddbfogilaaaGe13
import Derived.Test.YtnofddbfogilaaaGe14
import Derived.Test.YtnofddbfogilaaaGe15
import Derived.Test.YtnofddbfogilaaaGe16
import Derived.Test.YtnofddbfogilaaaGe17
import Derived.Test.YtnofddbfogilaaaGe18
import Derived.Test.YtnofddbfogilaaaGe19
import Derived.Test.YtnofddbfogilaaaGe20
import Derived.Test.YtnofddbfogilaaaGe21
import Derived.Test.YtnofddbfogilaaaGe22
import Derived.Test.YtnofddbfogilaaaGe23
import Derived.Test.YtnofddbfogilaaaGe24
import Derived.Test.YtnofddbfogilaaaGe25
import Derived.Test.YtnofddbfogilaaaGe26
import Derived.Test.YtnofddbfogilaaaGe27
import Derived.Test.YtnofddbfogilaaaGe28
import Derived.Test.YtnofddbfogilaaaGe29
import Derived.Test.YtnofddbfogilaaaGe30
import Derived.Test.YtnofddbfogilaaaGe31
import Derived.Test.YtnofddbfogilaaaGe32
namespace Go.Proofs.Ytnofddbfogilaaa.sixN
set_option maxRecDepth 100000
open Go.ChangeShapes Go.WideShapes Go.ChangeAt Go.RowKit
open base rdrG sumB sixM sixB
set_option linter.unusedVariables false
theorem conv_zero (w:World) (A:Option Addr) (c:Nat):(convert 47 9 (.slice A 0 c)).run Try.prog w=.ok (.string (strOfNums [])) w:=by
  rw [run_convert_bytes_string w 47 9 5 _ 0 c Try.underlying47 Try.underlying5 Try.underlying9]
  cases A <;> simp [Conv.bytesToString,loadCells]
  all_goals rfl
theorem row_noneL {w:World} {B:Nat} {l:List Int} (h:Row w B none (l.map (.int .u8))):l=[]:=by
  rcases h with h | ⟨_,_,h,_⟩
  · exact List.map_eq_nil_iff.mp h
  · cases h
theorem conv_row {w:World} {B:Nat} {A:Option Addr} {n c:Nat} {l:List Int} (h:Row w B A (l.map (.int .u8))) (hl:l.length=n) :
    (convert 47 9 (.slice A n c)).run Try.prog w=.ok (.string (strOfNums l)) w:=by
  cases A with
  | none =>
    have hl0:l=[]:=row_noneL h
    subst hl0
    exact run_convert_bytes_nil w 47 5 Try.underlying47 Try.underlying5 n c 9 Try.underlying9
  | some ad =>
    rcases Nat.eq_zero_or_pos l.length with h0 | h0
    · have hl0:l=[]:=List.eq_nil_of_length_eq_zero h0
      subst hl0
      obtain rfl:n=0:=by simpa using hl.symm
      exact conv_zero w _ c
    · obtain ⟨b,off,hA,_,hc⟩:=h.at_ (by intro e; rw [List.map_eq_nil_iff] at e; subst e; simp at h0)
      injection hA with hA
      subst hA
      refine run_convert_bytes_arg w 47 5 Try.underlying47 Try.underlying5 b off n c l hl (fun i hi=>?_) 9 Try.underlying9
      exact hc i _ (by rw [List.getElem?_map,List.getElem?_eq_getElem (by omega),List.getD_eq_getElem?_getD,List.getElem?_eq_getElem (by omega)]; rfl)
end Go.Proofs.Ytnofddbfogilaaa.sixN
namespace Go.Proofs.Ytnofddbfogilaaa.genD
open Go.ChangeShapes Go.WideShapes Go.ChangeAt Go.RowKit
open base mixB mixC rdrG pktA pktC genW genA genB genC
set_option linter.unusedVariables false
set_option linter.unusedSimpArgs false
theorem made_none (w:World):Calls Try.prog 20 #[.pointer none] w fun o w'=>o=.returned (.bool false)∧Below w.heap.size w w':=by
  have HB:=Lib.hid (Below.refl w.heap.size w)
  go_enter Try.func20,Try.ntmps20
  go_wp2_with fail
  go_ret
  exact ⟨rfl,HB.out⟩
end Go.Proofs.Ytnofddbfogilaaa.genD
/- Layer 35: sources that nobody made. -/
namespace Go.Proofs.Ytnofddbfogilaaa.genM
set_option maxHeartbeats 1000000
open Go.ChangeShapes Go.WideShapes Go.ChangeAt Go.RowKit
open base mixB rdrG pktA pktC genW genA genB genC genE pktE genG
set_option linter.unusedVariables false
set_option linter.unusedSimpArgs false
theorem take_un {w:World} {P0:Value} (n:Int) (HM:Hid (∀ V,Below w.heap.size w V→Calls Try.prog 20 #[P0] V fun o w'=>o=.returned (.bool false)∧Below V.heap.size V w')) :
    Calls Try.prog 10 #[P0,.int .i64 n] w fun o w'=>o=.returned (.slice none 0 0)∧Below w.heap.size w w':=by
  go_enter Try.func10,Try.ntmps10
  go_wp2_with fail
  refine (HM.out _ (Below.refl _ _)).mono ?_
  rintro o w2 ⟨rfl,hb2⟩
  have B2:=Lib.hid hb2
  clear hb2
  go_wp2_with fail
  go_ret
  exact ⟨rfl,B2.out⟩
theorem packet_un {w:World} {P0:Value} (HM:Hid (∀ V,Below w.heap.size w V→Calls Try.prog 20 #[P0] V fun o w'=>o=.returned (.bool false)∧Below V.heap.size V w')) :
    Calls Try.prog 11 #[P0] w fun o w'=>o=.returned (.slice none 0 0)∧Below w.heap.size w w':=by
  go_enter Try.func11,Try.ntmps11
  go_wp2_with fail
  refine (HM.out _ (Below.refl _ _)).mono ?_
  rintro o w2 ⟨rfl,hb2⟩
  have B2:=Lib.hid hb2
  clear hb2
  go_wp2_with fail
  go_ret
  exact ⟨rfl,B2.out⟩
theorem open_un {w:World} {P0:Value} (HM:Hid (∀ V,Below w.heap.size w V→Calls Try.prog 20 #[P0] V fun o w'=>o=.returned (.bool false)∧Below V.heap.size V w')) :
    Calls Try.prog 12 #[P0] w fun o w'=>o=.returned (.int .i64 0)∧Below w.heap.size w w':=by
  go_enter Try.func12,Try.ntmps12
  go_wp2_with fail
  refine (HM.out _ (Below.refl _ _)).mono ?_
  rintro o w2 ⟨rfl,hb2⟩
  have B2:=Lib.hid hb2
  clear hb2
  go_wp2_with fail
  go_ret
  exact ⟨rfl,B2.out⟩
theorem flow_un {w:World} {P0:Value} (HM:Hid (∀ V,Below w.heap.size w V→Calls Try.prog 20 #[P0] V fun o w'=>o=.returned (.bool false)∧Below V.heap.size V w')) :
    Calls Try.prog 8 #[P0] w fun o w'=>o=.returned (.agg #[.int .i64 0,.bool false,.int .u64 0,.int .u64 0,.bool false,.int .u64 0,.int .u64 0,.int .i64 0,.int .i64 0])∧Below w.heap.size w w':=by
  have B1:=Lib.hid (al_below w (.cells #[.int .i64 0,.bool false,.int .u64 0,.int .u64 0,.bool false,.int .u64 0,.int .u64 0,.int .i64 0,.int .i64 0] 39))
  have R1:=Lib.hid (Blk.new w 39 #[.int .i64 0,.bool false,.int .u64 0,.int .u64 0,.bool false,.int .u64 0,.int .u64 0,.int .i64 0,.int .i64 0])
  go_enter Try.func8,Try.ntmps8
  go_wp2_with fail
  refine (HM.out _ B1.out).mono ?_
  rintro o w2 ⟨rfl,hb2⟩
  have B2:=Lib.hid (B1.out.trans (hb2.mono B1.out.size))
  have R2:=Lib.hid (R1.out.below hb2 R1.out.lt)
  clear hb2
  have TP:=Lib.hid (tput w2 w.heap.size (.int .i64 0) (.bool false) (.int .u64 0) (.int .u64 0) (.bool false) (.int .u64 0) (.int .u64 0) (.int .i64 0) (.int .i64 0) R2.out)
  have y0:=R2.out.cell 0
  have f0:=R2.out.frozen 0
  have y1:=R2.out.cell 1
  have f1:=R2.out.frozen 1
  have y2:=R2.out.cell 2
  have f2:=R2.out.frozen 2
  have y3:=R2.out.cell 3
  have f3:=R2.out.frozen 3
  have y4:=R2.out.cell 4
  have f4:=R2.out.frozen 4
  have y5:=R2.out.cell 5
  have f5:=R2.out.frozen 5
  have y6:=R2.out.cell 6
  have f6:=R2.out.frozen 6
  have y7:=R2.out.cell 7
  have f7:=R2.out.frozen 7
  have y8:=R2.out.cell 8
  have f8:=R2.out.frozen 8
  go_wp2_with fail
  refine bodyPost_ret (v:=.agg #[.int .i64 0,.bool false,.int .u64 0,.int .u64 0,.bool false,.int .u64 0,.int .u64 0,.int .i64 0,.int .i64 0]) (results_cell_row rfl _ _ w.heap.size 39 #[.int .i64 0,.bool false,.int .u64 0,.int .u64 0,.bool false,.int .u64 0,.int .u64 0,.int .i64 0,.int .i64 0] (0,0) _ rfl TP.out.1 Try.underlying39 rfl (by kernel_rfl)) rfl ?_
  exact ⟨rfl,TP.out.2.from B2.out (Nat.le_refl _)⟩
theorem made_zero {w:World} {g:Nat} (h:Blk w g 44 #[.pointer none,.int .u64 0,.int .i64 0,.int .i64 0,.bool false,.int .u64 0,.int .u64 0,.int .i64 0,.int .i64 0,.int .i64 0,.bool false,.int .i64 0,.slice none 0 0]) :
    Calls Try.prog 20 #[.pointer (some ⟨g,0,none⟩)] w fun o w'=>o=.returned (.bool false)∧Below w.heap.size w w':=by
  have HR:=Lib.hid (show ∀ V,Calls Try.prog 14 #[.agg #[.int .u64 0,.int .i64 0,.int .i64 0,.bool false,.int .u64 0,.int .u64 0,.int .i64 0,.int .i64 0,.int .i64 0,.bool false,.int .i64 0]] V fun o w'=>o=.returned (.bool false)∧Below V.heap.size V w' from fun V=>by
    have h9:=right_any ⟨0,0,0,false,0,0,0,0,0,false,0⟩ ⟨by decide,by decide,by decide,by decide,by decide,by decide⟩ V
    rw [show decide (Pl.right ⟨0,0,0,false,0,0,0,0,0,false,0⟩)=false from by decide] at h9
    exact h9)
  have c1:=h.cell 1
  have c2:=h.cell 2
  have c3:=h.cell 3
  have c4:=h.cell 4
  have c5:=h.cell 5
  have c6:=h.cell 6
  have c7:=h.cell 7
  have c8:=h.cell 8
  have c9:=h.cell 9
  have c10:=h.cell 10
  have c11:=h.cell 11
  clear h
  go_enter Try.func20,Try.ntmps20
  go_wp2_with fail
  refine (HR.out _).mono ?_
  rintro o w2 ⟨rfl,hb2⟩
  have B2:=Lib.hid hb2
  clear hb2
  go_wp2_with fail
  go_ret
  exact ⟨rfl,B2.out⟩
end Go.Proofs.Ytnofddbfogilaaa.genM
/- Layer 35: packets taken together. -/
namespace Go.Proofs.Ytnofddbfogilaaa.genN
set_option maxHeartbeats 8000000
set_option maxRecDepth 100000
open Go.ChangeShapes Go.WideShapes Go.ChangeAt Go.RowKit
open base mixB rdrG pktA pktC genO genW genA genB genC genD genE pktE genG genI genK
set_option linter.unusedVariables false
set_option linter.unusedSimpArgs false
def gSt (p:Pl) (a:Int) (op:List Tp):Nat→Int × List Tp
  | 0=>(a,op)
  | k+1=>(gAt (gPk p (gSt p a op k).1 (gSt p a op k).2).a (1+gMany p (gPk p (gSt p a op k).1 (gSt p a op k).2).a),(gPk p (gSt p a op k).1 (gSt p a op k).2).op)
noncomputable def pkN (p:Pl) (a:Int) (op:List Tp) (k:Nat):List Int:=pBy p (gPk p (gSt p a op k).1 (gSt p a op k).2)
noncomputable def pks (p:Pl) (a:Int) (op:List Tp) (m:Nat):List (List Int):=(List.range m).map (pkN p a op)
theorem pks_len (p:Pl) (a:Int) (op:List Tp) (m:Nat):(pks p a op m).length=m:=by simp [pks]
theorem pks_succ (p:Pl) (a:Int) (op:List Tp) (m:Nat):pks p a op (m+1)=pks p a op m++[pkN p a op m]:=by simp [pks,List.range_succ]
theorem pks_get (p:Pl) (a:Int) (op:List Tp) (m i:Nat) (h:i<m):(pks p a op m).getD i []=pkN p a op i:=by
  rw [List.getD_eq_getElem?_getD]
  simp [pks,h]
theorem gSt_ok (p:Pl) (hp:p.right) (a:Int) (op:List Tp) (h:∀ t ∈ op,FOk p t) (hn:op.length≤256):∀ k,(∀ t ∈ (gSt p a op k).2,FOk p t)∧(gSt p a op k).2.length≤256
  | 0=>⟨h,hn⟩
  | k+1=>by
    obtain ⟨h1,h2⟩:=gSt_ok p hp a op h hn k
    obtain ⟨_,k2,k3,_⟩:=gPk_ok p hp (gSt p a op k).1 (gSt p a op k).2 h1 h2
    exact ⟨k2,k3⟩
theorem OwB_keep {W W':World} {K:Nat} {A:Option Addr} {n c:Nat} {l:List Int} (h:OwB W K A n c l) (hk:∀ k cs,Blk W k 5 cs→W'.heap[k]?=W.heap[k]?):OwB W' K A n c l:=by
  refine ⟨⟨h.own.1,?_⟩,h.len,h.u8⟩
  rcases h.own.2 with h1 | ⟨g,cap,cur,h1,h2,h3,h4⟩
  · exact .inl h1
  · exact .inr ⟨g,cap,cur,h1,h2,(hk g cur h3).trans h3,h4⟩
def RowS (W:World) (B:Nat) (v:Value) (ls:List (List Int)):Prop:=∃ vs:List Value,W.ownsRow B 47 1 v ls.length vs∧∀ i,i<ls.length→∃ A n c,vs[i]?=some (.slice A n c)∧OwB W B A n c (ls.getD i [])
theorem RowS_keep {W W':World} {B:Nat} {v:Value} {ls:List (List Int)} (h:RowS W B v ls) (hk:∀ k cs,Blk W k 5 cs→W'.heap[k]?=W.heap[k]?) (hs:∀ k cs,Blk W k 47 cs→W'.heap[k]?=W.heap[k]?):RowS W' B v ls:=by
  obtain ⟨vs,ho,hb⟩:=h
  refine ⟨vs,⟨ho.1,?_⟩,fun i hi=>?_⟩
  · rcases ho.2 with h1 | ⟨g,cap,cur,h1,h2,h3,h4⟩
    · exact .inl h1
    · exact .inr ⟨g,cap,cur,h1,h2,(hs g cur h3).trans h3,h4⟩
  · obtain ⟨A,n,c,h1,h2⟩:=hb i hi
    exact ⟨A,n,c,h1,OwB_keep h2 hk⟩
theorem RowS_below {W W':World} {B:Nat} {v:Value} {ls:List (List Int)} (h:RowS W B v ls) (hb:Below W.heap.size W W'):RowS W' B v ls:=RowS_keep h (fun k cs hk=>hb.block k hk.lt) (fun k cs hk=>hb.block k hk.lt)
theorem frg_type {W W':World} {g q B:Nat} {p:Pl} {a:Int} {v:Value} {op:List Tp} (hs:SM W g q p a v) (ho:OwT W B v op) (hf:Frg g q v W W') {k:Nat} {T:TypeId} {cs:Array Value} (hk:Blk W k T cs) (h1:T≠44) (h2:T≠66) (h3:T≠39):W'.heap[k]?=W.heap[k]? :=
  hf.block k hk.lt (blk_ne hk hs.src h1) (blk_ne hk hs.gen h2) (fun e=>OwT_ne ho hk h3 k e.symm rfl)
theorem info_s:(Try.prog.info? 47).map (fun i=>(i.zero,i.size,i.bytes))=some (some (.slice none 0 0),1,24):=by kernel_rfl
theorem und_s:Try.prog.underlying 45=some (.slice 47):=by kernel_rfl
theorem app_s (W:World) (B:Nat) (v:Value) (ls:List (List Int)) (h:RowS W B v ls) (A:Option Addr) (n c:Nat) (l:List Int) (hl:OwB W B A n c l) (y:Nat) (hy:Blk W y 47 #[.slice A n c]) (hn:ls.length≤100000) (hB:B≤W.heap.size) :
    ∃ v' w',(Builtin.append_ #[45,45] 45 #[v,.slice (some ⟨y,0,none⟩) 1 1]).run Try.prog W=.ok v' w'∧RowS w' B v' (ls++[l])∧W.grownBy w' v.ownBlock∧(∀ x,v.ownBlock=some x→∃ cs,Blk W x 47 cs):=by
  obtain ⟨i,hi,hz,hsize,hby⟩:=info_parts info_s
  obtain ⟨vs,ho,hb⟩:=h
  obtain ⟨v',w',h2,h3,h4,_⟩:=run_append_own (P:=Try.prog) (w:=W) B 45 45 47 i _ 1 24 und_s hi hz hsize hby rfl (by omega) v ls.length vs ho ⟨y,0,none⟩ 1 1 [.slice A n c] rfl (fun j u hu=>by
    rw [add0,hy.cell j]
    simpa using hu) (fun u hu=>by rw [List.mem_singleton.1 hu]; rfl) (by unfold maxLen; omega) (by omega) hB
  have hvb:∀ x,v.ownBlock=some x→∃ cs,Blk W x 47 cs:=fun x hx=>by
    rcases ho.2 with ⟨e,_⟩ | ⟨g,cap,cur,e,_,e3,_⟩
    · rw [e] at hx
      simp [Value.ownBlock] at hx
    · rw [e] at hx
      simp [Value.ownBlock] at hx
      subst hx
      exact ⟨cur,e3⟩
  have hkb:∀ k cs,Blk W k 5 cs→w'.heap[k]?=W.heap[k]?:=fun k cs hk=>h4.block k hk.lt (fun e=>by
    obtain ⟨cs2,h9⟩:=hvb k e.symm
    exact blk_ne hk h9 (by decide) rfl)
  have hlen:=ho.1
  rw [Nat.mul_one] at hlen
  refine ⟨v',w',h2,⟨vs++[.slice A n c],by rw [List.length_append]; exact h3,fun i hi=>?_⟩,h4,hvb⟩
  rw [List.length_append] at hi
  simp only [List.length_cons,List.length_nil] at hi
  by_cases e:i<ls.length
  · obtain ⟨A2,n2,c2,e1,e2⟩:=hb i e
    refine ⟨A2,n2,c2,by rw [List.getElem?_append_left (by omega)]; exact e1,?_⟩
    rw [List.getD_eq_getElem?_getD,List.getElem?_append_left e,← List.getD_eq_getElem?_getD]
    exact OwB_keep e2 hkb
  · obtain rfl:i=ls.length:=by omega
    refine ⟨A,n,c,by rw [List.getElem?_append_right (by omega),hlen]; simp,?_⟩
    rw [List.getD_eq_getElem?_getD,List.getElem?_append_right (Nat.le_refl _),Nat.sub_self]
    exact OwB_keep hl hkb
theorem wp_run {P:Program} {w:World} {ops:Array Oper} {rest:List Oper} {o:Oper} {a:Act} {Q:Exit→Act→World→Prop} (hgd:o.guard=none) (s x:Operand) (t:TypeId)
    (ho:o.op=.call { callee:=.builtin .append,args:=#[s,x],argTypes:=#[t,t] }) (sv xv:Value) (hs:a.eval s=sv) (hx:a.eval x=xv) (ty:TypeId) (hty:o.type=ty) (v':Value) (w':World)
    (hrun:(Builtin.append_ #[t,t] ty #[sv,xv]).run P w=.ok v' w') (h:wpList P ops Q rest (a.put o.dst v') w'):wpList P ops Q (o::rest) a w:=by
  refine wpList_plain hgd fun K hK=>?_
  subst hty
  unfold Oper.wp
  simp [execOp,ho,resolve,invoke,builtin,hs,hx,hrun,Result.andThen]
  exact hK _ _ h
def TakeP (w:World) (g q B:Nat) (p:Pl) (v:Value) (a:Int) (op:List Tp) (m:Nat) (o:Ending) (w':World):Prop:=∃ r,o=.returned r∧RowS w' w.heap.size r (pks p a op m)∧∃ v',SM w' g q p (gSt p a op m).1 v'∧OwT w' B v' (gSt p a op m).2∧Frg g q v w w'∧∀ x,v'.ownBlock=some x→v.ownBlock=some x∨w.heap.size≤x
theorem take_src {w:World} {g q B:Nat} {p:Pl} {a:Int} {v:Value} {op:List Tp} (h:SM w g q p a v) (ho:OwT w B v op) (hp:p.right) (hin:p.In) (hn:op.length≤256) (hB:B≤w.heap.size) (hk:∀ t ∈ op,FOk p t) (hm:p.mo≤400) (n:Int) (hn60:n≤60) (m:Nat) (hmn:m=n.toNat) :
    Calls Try.prog 10 #[.pointer (some ⟨g,0,none⟩),.int .i64 n] w (TakeP w g q B p v a op m):=by
  have HM:=Lib.hid (made_src h hp hin)
  have HPK:=Lib.hid (fun V k v2 (hV:w.heap.size≤V.heap.size) (h1:SM V g q p (gSt p a op k).1 v2) (h2:OwT V B v2 (gSt p a op k).2)=>packet_any h1 h2 hp hin (gSt_ok p hp a op hk hn k).2 (by omega) (gSt_ok p hp a op hk hn k).1 hm)
  have S0:=Lib.hid h
  have O0:=Lib.hid ho
  have HB:=Lib.hid hB
  have HMN:=Lib.hid hmn
  have HN6:=Lib.hid hn60
  have hmin:min n 65536=n:=by omega
  clear h ho hp hin hn hB hk hm hmn hn60
  go_enter Try.func10,Try.ntmps10
  go_wp2_with fail
  refine HM.out.mono ?_
  rintro o w2 ⟨rfl,hb2⟩
  have S2:=Lib.hid (S0.out.below hb2)
  have O2:=Lib.hid (O0.out.below hb2)
  have F2:=Lib.hid (show Frg g q v w w2 from Frg.of_below hb2)
  clear hb2
  go_wp2_with fail
  have D3:=al_below w2 (.cells #[] 47)
  have R3:=Lib.hid (show RowS (w2.alloc (.cells #[] 47)) w.heap.size (.slice (some ⟨w2.heap.size,0,none⟩) 0 0) (pks p a op 0) from ⟨[],⟨rfl,.inr ⟨w2.heap.size,0,#[],rfl,F2.out.size,Blk.new w2 _ _,Nat.le_refl _,by unfold maxLen; omega,rfl,rfl⟩⟩,fun i hi=>absurd hi (by rw [pks_len]; omega)⟩)
  have ST3:=Lib.hid (show ∃ v',SM (w2.alloc (.cells #[] 47)) g q p (gSt p a op 0).1 v'∧OwT (w2.alloc (.cells #[] 47)) B v' (gSt p a op 0).2∧Frg g q v w (w2.alloc (.cells #[] 47))∧∀ x,v'.ownBlock=some x→v.ownBlock=some x∨w.heap.size≤x from ⟨v,S2.out.below D3,O2.out.below D3,F2.out.then (Frg.of_below D3),fun x hx=>.inl hx⟩)
  clear D3 hmin
  go_loopw [5,12] (fun l i wr=>∃ k:Nat,k≤m∧i=.int .i64 k∧Hid (RowS wr w.heap.size l (pks p a op k))∧Hid (∃ v',SM wr g q p (gSt p a op k).1 v'∧OwT wr B v' (gSt p a op k).2∧Frg g q v w wr∧∀ x,v'.ownBlock=some x→v.ownBlock=some x∨w.heap.size≤x)) (fun _ i _=>m - (intOf i).toNat)
  case atStart=>exact ⟨0,by omega,rfl,R3,ST3⟩
  case round =>
  obtain ⟨k,hkm,rfl,RR,SR⟩:=hrel
  by_cases hlt:k<m
  case neg =>
    obtain rfl:m=k:=by omega
    have t1:decide ((m:Int)<n)=false:=decide_eq_false (by have:=HMN.out; omega)
    clear hlt hkm
    go_wp2_with fail
    go_ret
    exact ⟨_,rfl,RR.out,SR.out⟩
  case pos =>
    have t1:decide ((k:Int)<n)=true:=decide_eq_true (by have:=HMN.out; omega)
    have HK:=Lib.hid hlt
    have HM6:=Lib.hid (show m≤60 by have:=HMN.out; have:=HN6.out; omega)
    have ku:IntKind.i64.wrap ((k:Int)+1)=((k+1:Nat):Int):=by have:=HM6.out; rw [IntWalk.i64_in _ (by omega)]; omega
    obtain ⟨v2,hs2,ho2,hf2,hv2⟩:=SR.out
    have SR2:=Lib.hid hs2
    have OR2:=Lib.hid ho2
    have FR2:=Lib.hid hf2
    have VR2:=Lib.hid hv2
    clear hlt hkm hs2 ho2 hf2 hv2
    go_wp2_with fail
    refine (HPK.out _ k v2 FR2.out.size SR2.out OR2.out).mono ?_
    rintro o w4 ⟨A4,n4,c4,rfl,hw4,v4,hs4,ho4,hf4,hv4⟩
    obtain ⟨Al,cl,hul⟩:∃ A c,u5=.slice A (pks p a op k).length c:=by
      obtain ⟨vs,h1,_⟩:=RR.out
      exact own_slice h1
    obtain ⟨nl,hnl⟩:∃ nl,nl=(pks p a op k).length:=⟨_,rfl⟩
    rw [← hnl] at hul
    subst hul
    clear hnl
    have RR4:=Lib.hid (show RowS w4 w.heap.size (.slice Al nl cl) (pks p a op k) from RowS_keep RR.out (fun x cs hx=>frg_type SR2.out OR2.out hf4 hx (by decide) (by decide) (by decide)) (fun x cs hx=>frg_type SR2.out OR2.out hf4 hx (by decide) (by decide) (by decide)))
    have FR4:=Lib.hid (show Frg g q v w w4 from FR2.out.trans hf4 VR2.out)
    have VR4:=Lib.hid (show ∀ x,v4.ownBlock=some x→v.ownBlock=some x∨w.heap.size≤x from fun x hx=>(hv4 x hx).elim (fun e=>VR2.out x e) (fun e=>.inr (Nat.le_trans FR2.out.size e)))
    have W4:=Lib.hid (show OwB w4 w.heap.size A4 n4 c4 (pkN p a op k) from ⟨rdrA.own_base hw4.own FR2.out.size,hw4.len,hw4.u8⟩)
    have S4:=Lib.hid (show SM w4 g q p (gSt p a op (k+1)).1 v4 from hs4)
    have O4:=Lib.hid (show OwT w4 B v4 (gSt p a op (k+1)).2 from ho4)
    clear hw4 hs4 ho4 hf4 hv4
    obtain ⟨w5,hw5⟩:∃ w5,w5=w4.alloc (.cells #[.slice A4 n4 c4] 47):=⟨_,rfl⟩
    have D5:=Lib.hid (show Below w4.heap.size w4 w5 from by rw [hw5]; exact al_below _ _)
    have Y5:=(show Blk w5 w4.heap.size 47 #[.slice A4 n4 c4] from by rw [hw5]; exact Blk.new w4 _ _)
    have F5:=Lib.hid (show Frg g q v w w5 from FR4.out.then (Frg.of_below D5.out))
    have S5:=Lib.hid (S4.out.below D5.out)
    have O5:=Lib.hid (O4.out.below D5.out)
    obtain ⟨v6,w6,hrun,hr6,hg6,hvb⟩:=app_s w5 w.heap.size (.slice Al nl cl) (pks p a op k) (RowS_below RR4.out D5.out) A4 n4 c4 (pkN p a op k) (OwB_keep W4.out fun x cs hx=>D5.out.block x hx.lt) w4.heap.size Y5 (by rw [pks_len]; have:=HM6.out; have:=HK.out; omega) F5.out.size
    rw [← pks_succ] at hr6
    have hrl:∀ x,(Value.slice Al nl cl).ownBlock=some x→w.heap.size≤x:=fun x hx=>by
      obtain ⟨vs,h1,_⟩:=RR4.out
      exact (h1.lt x hx).1
    have KP:∀ k,k<w5.heap.size→(∀ x,(Value.slice Al nl cl).ownBlock=some x→x≠k)→w6.heap[k]?=w5.heap[k]?:=fun k hk hx=>hg6.block k hk (fun e=>hx k e.symm rfl)
    have R6:=Lib.hid hr6
    have S6:=Lib.hid (show SM w6 g q p (gSt p a op (k+1)).1 v4 from ⟨(KP g S5.out.src.lt (fun x hx=>by obtain ⟨cs,h9⟩:=hvb x hx; exact blk_ne h9 S5.out.src (by decide))).trans S5.out.src,(KP q S5.out.gen.lt (fun x hx=>by obtain ⟨cs,h9⟩:=hvb x hx; exact blk_ne h9 S5.out.gen (by decide))).trans S5.out.gen⟩)
    have O6:=Lib.hid (show OwT w6 B v4 (gSt p a op (k+1)).2 from O5.out.keep fun x hx=>KP x (O5.out.lt x hx).2 (fun y hy e=>by
      obtain ⟨cs,h9⟩:=hvb y hy
      exact OwT_ne O5.out h9 (by decide) x hx e.symm))
    have F6:=Lib.hid (show Frg g q v w w6 from ⟨hg6.os.trans F5.out.os,hg6.tape.trans F5.out.tape,hg6.output.trans F5.out.output,Nat.le_trans F5.out.size hg6.size,fun k h1 h3 h4 h5=>(KP k (Nat.lt_of_lt_of_le h1 F5.out.size) (fun x hx e=>by have:=hrl x hx; omega)).trans (F5.out.block k h1 h3 h4 h5)⟩)
    rw [hw5] at hrun
    have HR:=Lib.hid hrun
    clear hrun hw5 Y5 hr6 hg6 hvb hrl KP
    go_wp2_with (at_builtin; refine wp_run rfl (.tmp 14) (.tmp 17) 45 rfl (.slice Al nl cl) (.slice (some ⟨w4.heap.size,0,none⟩) 1 1) rfl rfl 45 rfl v6 w6 HR.out ?_)
    go_roundw
    case rel=>exact ⟨k+1,HK.out,by simp,R6,Lib.hid ⟨v4,S6.out,O6.out,F6.out,VR4.out⟩⟩
    case measure=>have:=HK.out; simp [intOf]; omega
end Go.Proofs.Ytnofddbfogilaaa.genN
/- Layer 35: packets taken together are those taken one by one. -/
namespace Go.Proofs.Ytnofddbfogilaaa.genQ
set_option maxHeartbeats 8000000
set_option maxRecDepth 100000
open Go.ChangeShapes Go.WideShapes Go.ChangeAt Go.RowKit
open base mixB rdrG pktA pktC genO genW genA genB genC genD genE genF pktE genG genK genM genN
set_option linter.unusedVariables false
set_option linter.unusedSimpArgs false
theorem takes_law (p:Pl) (hin:p.In) (n:Int) (w:World):Calls Try.prog 4 #[.agg p.cells,.int .i64 n] w fun o w'=>o=.returned (.bool true)∧Below w.heap.size w w':=by
  have HAW:=Lib.hid awake_any
  have HFB:=Lib.hid (fun V (hp:¬ p.right)=>new_bad p hp hin V)
  have HFG:=Lib.hid (fun V (hp:p.right)=>new_good p hp hin V)
  have HTK:=Lib.hid (fun V g q (hV:SM V g q p p.key (.slice none 0 0)) (hp:p.right) (hm:p.mo≤400) (hn:n≤60)=>take_src hV (OwT.nil_ V V.heap.size) hp hin (by decide) (Nat.le_refl _) (fun t ht=>by cases ht) hm n hn n.toNat rfl)
  have HPK:=Lib.hid (fun V g q B k v2 (hB:B≤V.heap.size) (h1:SM V g q p (gSt p p.key [] k).1 v2) (h2:OwT V B v2 (gSt p p.key [] k).2) (hp:p.right) (hm:p.mo≤400)=>packet_any h1 h2 hp hin (gSt_ok p hp p.key [] (fun t ht=>by cases ht) (by decide) k).2 hB (gSt_ok p hp p.key [] (fun t ht=>by cases ht) (by decide) k).1 hm)
  obtain ⟨PR,hPR⟩:∃ PR:Prop,PR=p.right:=⟨_,rfl⟩
  have HDEC:=Lib.hid (show PR∨¬ PR from Classical.em _)
  rw [← hPR] at HFB HFG HTK HPK
  obtain ⟨ST,hST⟩:∃ ST,ST=gSt p p.key []:=⟨_,rfl⟩
  obtain ⟨PKN,hPKN⟩:∃ f,f=pkN p p.key []:=⟨_,rfl⟩
  have EST:=Lib.hid hST
  have EPK:=Lib.hid hPKN
  have EPR:=Lib.hid hPR
  obtain ⟨q0,hq0⟩:∃ q0,q0=p:=⟨_,rfl⟩
  have EQ0:=Lib.hid hq0
  clear hin hPR hST hPKN hq0
  obtain ⟨key,cl,po,v6,hh,lo,pr,dp,co,nt,mo⟩:=p
  have B1:=Lib.hid (al_below w (.cells #[.int .u64 key,.int .i64 cl,.int .i64 po,.bool v6,.int .u64 hh,.int .u64 lo,.int .i64 pr,.int .i64 dp,.int .i64 co,.bool nt,.int .i64 mo] 28))
  have K1:=Lib.hid (Blk.new w 28 #[.int .u64 key,.int .i64 cl,.int .i64 po,.bool v6,.int .u64 hh,.int .u64 lo,.int .i64 pr,.int .i64 dp,.int .i64 co,.bool nt,.int .i64 mo])
  show Calls Try.prog 4 #[.agg #[.int .u64 key,.int .i64 cl,.int .i64 po,.bool v6,.int .u64 hh,.int .u64 lo,.int .i64 pr,.int .i64 dp,.int .i64 co,.bool nt,.int .i64 mo],.int .i64 n] w _
  go_enter Try.func4,Try.ntmps4
  have NM:=Lib.hid (fun (w:World)=>(Lib.hid fun V (_:Below w.heap.size w V)=>made_none V))
  have T1:=Lib.hid (fun V=>take_un (w:=V) 3 (NM.out V))
  have T2:=Lib.hid (fun V=>packet_un (w:=V) (NM.out V))
  have T3:=Lib.hid (fun V=>open_un (w:=V) (NM.out V))
  have T6:=Lib.hid (fun V=>flow_un (w:=V) (NM.out V))
  go_upto_region 3 with fail
  obtain ⟨w2,hw2⟩:∃ w2,w2=(w.alloc (.cells #[.int .u64 key,.int .i64 cl,.int .i64 po,.bool v6,.int .u64 hh,.int .u64 lo,.int .i64 pr,.int .i64 dp,.int .i64 co,.bool nt,.int .i64 mo] 28)).alloc (.cells #[.pointer none,.int .u64 0,.int .i64 0,.int .i64 0,.bool false,.int .u64 0,.int .u64 0,.int .i64 0,.int .i64 0,.int .i64 0,.bool false,.int .i64 0,.slice none 0 0] 44):=⟨_,rfl⟩
  obtain ⟨z,hz⟩:∃ z,z=w.heap.size+1:=⟨_,rfl⟩
  obtain ⟨pb,hpb⟩:∃ pb,pb=w.heap.size:=⟨_,rfl⟩
  rw [← hw2,← hz,← hpb]
  have A2:=Lib.hid (show Below w.heap.size w w2 from by rw [hw2]; exact B1.out.alloc B1.out.size _)
  have Z2:=Lib.hid (show Blk w2 z 44 #[.pointer none,.int .u64 0,.int .i64 0,.int .i64 0,.bool false,.int .u64 0,.int .u64 0,.int .i64 0,.int .i64 0,.int .i64 0,.bool false,.int .i64 0,.slice none 0 0] from by
    have h9:=Blk.new (w.alloc (.cells #[.int .u64 key,.int .i64 cl,.int .i64 po,.bool v6,.int .u64 hh,.int .u64 lo,.int .i64 pr,.int .i64 dp,.int .i64 co,.bool nt,.int .i64 mo] 28)) 44 #[.pointer none,.int .u64 0,.int .i64 0,.int .i64 0,.bool false,.int .u64 0,.int .u64 0,.int .i64 0,.int .i64 0,.int .i64 0,.bool false,.int .i64 0,.slice none 0 0]
    rw [← hw2] at h9
    rw [hz]
    simpa using h9)
  have P2:=Lib.hid (show Blk w2 pb 28 #[.int .u64 key,.int .i64 cl,.int .i64 po,.bool v6,.int .u64 hh,.int .u64 lo,.int .i64 pr,.int .i64 dp,.int .i64 co,.bool nt,.int .i64 mo] from by rw [hw2,hpb]; exact K1.out.below (al_below _ _) K1.out.lt)
  clear hw2 hz hpb
  have ZM:=Lib.hid (fun (V:World) (hV:Below w2.heap.size w2 V)=>(Lib.hid fun U (hU:Below V.heap.size V U)=>made_zero ((Z2.out.below hV Z2.out.lt).below hU (Z2.out.below hV Z2.out.lt).lt)))
  have T4:=Lib.hid (fun V (hV:Below w2.heap.size w2 V)=>open_un (w:=V) (ZM.out V hV))
  have T5:=Lib.hid (fun V (m:Int) (hV:Below w2.heap.size w2 V)=>take_un (w:=V) m (ZM.out V hV))
  go_wp2_with fail
  refine (T1.out _).mono ?_
  rintro o e1w ⟨rfl,hb⟩
  have C1:=Lib.hid (show Below w2.heap.size w2 e1w from hb)
  clear hb
  go_wp2_with fail
  refine (T2.out _).mono ?_
  rintro o e2w ⟨rfl,hb⟩
  have C2:=Lib.hid (show Below w2.heap.size w2 e2w from C1.out.trans (hb.mono C1.out.size))
  clear hb
  go_wp2_with fail
  refine (T3.out _).mono ?_
  rintro o e3w ⟨rfl,hb⟩
  have C3:=Lib.hid (show Below w2.heap.size w2 e3w from C2.out.trans (hb.mono C2.out.size))
  clear hb
  go_wp2_with fail
  refine (T4.out _ C3.out).mono ?_
  rintro o e4w ⟨rfl,hb⟩
  have C4:=Lib.hid (show Below w2.heap.size w2 e4w from C3.out.trans (hb.mono C3.out.size))
  clear hb
  go_wp2_with fail
  refine (T5.out _ _ C4.out).mono ?_
  rintro o e5w ⟨rfl,hb⟩
  have C5:=Lib.hid (show Below w2.heap.size w2 e5w from C4.out.trans (hb.mono C4.out.size))
  clear hb
  go_wp2_with fail
  refine (T6.out _).mono ?_
  rintro o e6w ⟨rfl,hb⟩
  have C6:=Lib.hid (show Below w2.heap.size w2 e6w from C5.out.trans (hb.mono C5.out.size))
  clear hb
  have P3:=Lib.hid (P2.out.below C6.out P2.out.lt)
  have B3:=Lib.hid (A2.out.trans (C6.out.mono A2.out.size))
  clear P2 Z2 ZM T1 T2 T3 T4 T5 T6 NM C1 C2 C3 C4 C5
  have c0:=P3.out.cell 0
  have c1:=P3.out.cell 1
  have c2:=P3.out.cell 2
  have c3:=P3.out.cell 3
  have c4:=P3.out.cell 4
  have c5:=P3.out.cell 5
  have c6:=P3.out.cell 6
  have c7:=P3.out.cell 7
  have c8:=P3.out.cell 8
  have c9:=P3.out.cell 9
  have c10:=P3.out.cell 10
  rcases HDEC.out with hp | hp
  case inr =>
    have HNB:=Lib.hid (show ∀ V,Calls Try.prog 6 #[.agg #[.int .u64 key,.int .i64 cl,.int .i64 po,.bool v6,.int .u64 hh,.int .u64 lo,.int .i64 pr,.int .i64 dp,.int .i64 co,.bool nt,.int .i64 mo]] V fun o w'=>o=.returned (.tuple #[.pointer none,.int .i64 1])∧Below V.heap.size V w' from fun V=>HFB.out V hp)
    clear hp
    go_wp2_with fail
    refine (HNB.out _).mono ?_
    rintro o w4 ⟨rfl,hb4⟩
    have P4:=P3.out.below hb4 P3.out.lt
    have B4:=Lib.hid (B3.out.trans (hb4.mono B3.out.size))
    clear hb4 c0 c1 c2 c3 c4 c5 c6 c7 c8 c9 c10
    have c0:=P4.cell 0
    have c1:=P4.cell 1
    have c2:=P4.cell 2
    have c3:=P4.cell 3
    have c4:=P4.cell 4
    have c5:=P4.cell 5
    have c6:=P4.cell 6
    have c7:=P4.cell 7
    have c8:=P4.cell 8
    have c9:=P4.cell 9
    have c10:=P4.cell 10
    clear P4
    go_wp2_with fail
    refine (HNB.out _).mono ?_
    rintro o w5 ⟨rfl,hb5⟩
    have B5:=Lib.hid (B4.out.trans (hb5.mono B4.out.size))
    clear hb5 c0 c1 c2 c3 c4 c5 c6 c7 c8 c9 c10
    go_wp2_with fail
    refine (HAW.out _).mono ?_
    rintro o w9 ⟨rfl,hb9⟩
    go_wp2_with fail
    go_ret
    exact ⟨rfl,B5.out.trans (hb9.mono B5.out.size)⟩
  case inl =>
  have HNG:=Lib.hid (show ∀ V,Calls Try.prog 6 #[.agg #[.int .u64 key,.int .i64 cl,.int .i64 po,.bool v6,.int .u64 hh,.int .u64 lo,.int .i64 pr,.int .i64 dp,.int .i64 co,.bool nt,.int .i64 mo]] V fun o w'=>∃ g q,o=.returned (.tuple #[.pointer (some ⟨g,0,none⟩),.int .i64 0])∧SM w' g q ⟨key,cl,po,v6,hh,lo,pr,dp,co,nt,mo⟩ key (.slice none 0 0)∧Below V.heap.size V w'∧V.heap.size≤g∧V.heap.size≤q from fun V=>HFG.out V hp)
  have HPP:=Lib.hid hp
  clear hp
  go_wp2_with fail
  refine (HNG.out _).mono ?_
  rintro o w4 ⟨g,q,rfl,hs4,hb4,hg4,hq4⟩
  have P4:=Lib.hid (P3.out.below hb4 P3.out.lt)
  have B4:=Lib.hid (B3.out.trans (hb4.mono B3.out.size))
  have S4:=Lib.hid hs4
  have GQ:=Lib.hid (show w.heap.size≤g∧w.heap.size≤q from ⟨Nat.le_trans B3.out.size hg4,Nat.le_trans B3.out.size hq4⟩)
  clear hs4 hb4 hg4 hq4 c0 c1 c2 c3 c4 c5 c6 c7 c8 c9 c10
  have c0:=P4.out.cell 0
  have c1:=P4.out.cell 1
  have c2:=P4.out.cell 2
  have c3:=P4.out.cell 3
  have c4:=P4.out.cell 4
  have c5:=P4.out.cell 5
  have c6:=P4.out.cell 6
  have c7:=P4.out.cell 7
  have c8:=P4.out.cell 8
  have c9:=P4.out.cell 9
  have c10:=P4.out.cell 10
  go_wp2_with fail
  refine (HNG.out _).mono ?_
  rintro o w5 ⟨g2,q2,rfl,hs5,hb5,hg5,hq5⟩
  have P5:=Lib.hid (P4.out.below hb5 P4.out.lt)
  have B5:=Lib.hid (B4.out.trans (hb5.mono B4.out.size))
  have S5:=Lib.hid (S4.out.below hb5)
  have Z5:=Lib.hid hs5
  have GQ2:=Lib.hid (show w.heap.size≤g2∧w.heap.size≤q2 from ⟨Nat.le_trans B4.out.size hg5,Nat.le_trans B4.out.size hq5⟩)
  have NE:=Lib.hid (show g2≠g∧q2≠q from by have:=S4.out.src.lt; have:=S4.out.gen.lt; omega)
  clear hs5 hb5 hg5 hq5 c0 c1 c2 c3 c4 c5 c6 c7 c8 c9 c10
  have c10:=P5.out.cell 10
  by_cases h60:60<n
  case pos =>
    have t60:decide (60<n)=true:=decide_eq_true h60
    clear h60 c10
    go_wp2_with fail
    refine (HAW.out _).mono ?_
    rintro o w9 ⟨rfl,hb9⟩
    go_wp2_with fail
    go_ret
    exact ⟨rfl,B5.out.trans (hb9.mono B5.out.size)⟩
  case neg =>
  have t60:decide (60<n)=false:=decide_eq_false h60
  by_cases h100:100<mo
  case pos =>
    have t100:decide (100<mo)=true:=decide_eq_true h100
    clear h60 h100
    go_wp2_with fail
    refine (HAW.out _).mono ?_
    rintro o w9 ⟨rfl,hb9⟩
    go_wp2_with fail
    go_ret
    exact ⟨rfl,B5.out.trans (hb9.mono B5.out.size)⟩
  case neg =>
  have t100:decide (100<mo)=false:=decide_eq_false h100
  have TK:=Lib.hid (fun V (hV:SM V g q ⟨key,cl,po,v6,hh,lo,pr,dp,co,nt,mo⟩ key (.slice none 0 0))=>HTK.out V g q hV HPP.out (show mo≤400 by omega) (show n≤60 by omega))
  have PK:=Lib.hid (fun V B k v2 (hB:B≤V.heap.size) h1 h2=>HPK.out V g2 q2 B k v2 hB h1 h2 HPP.out (show mo≤400 by omega))
  have H60:=Lib.hid (show n≤60 by omega)
  clear h60 h100
  go_upto_region 9 with fail
  clear c10
  go_wp2_with fail
  refine (TK.out _ S5.out).mono ?_
  rintro o w6 ⟨r,rfl,hr6,v6',hs6,ho6,hf6,hv6⟩
  obtain ⟨m,hm⟩:∃ m,m=n.toNat:=⟨_,rfl⟩
  rw [← hm] at hr6 hs6
  obtain ⟨aM,haM⟩:∃ aM,aM=(gSt ⟨key,cl,po,v6,hh,lo,pr,dp,co,nt,mo⟩ key [] m).1:=⟨_,rfl⟩
  rw [← haM] at hs6
  obtain ⟨ls,hls⟩:∃ ls,ls=pks ⟨key,cl,po,v6,hh,lo,pr,dp,co,nt,mo⟩ key [] m:=⟨_,rfl⟩
  rw [← hls] at hr6
  obtain ⟨Ar,cr,hrr⟩:∃ A c,r=.slice A m c:=by
    obtain ⟨vs,h1,_⟩:=hr6
    have h2:=own_slice h1
    rw [hls,pks_len] at h2
    exact h2
  subst hrr
  have R6:=Lib.hid hr6
  have S6:=Lib.hid hs6
  have Z6:=Lib.hid (show SM w6 g2 q2 ⟨key,cl,po,v6,hh,lo,pr,dp,co,nt,mo⟩ key (.slice none 0 0) from ⟨hf6.blk Z5.out.src NE.out.1 (blk_ne Z5.out.src S5.out.gen (by decide)) (by simp [Value.ownBlock]),hf6.blk Z5.out.gen (blk_ne Z5.out.gen S5.out.src (by decide)) NE.out.2 (by simp [Value.ownBlock])⟩)
  have B6:=Lib.hid (B5.out.trans (hf6.below GQ.out.1 GQ.out.2 (fun x hx=>by simp [Value.ownBlock] at hx) B5.out.size))
  have W56:=Lib.hid hf6.size
  have HM:=Lib.hid hm
  have HLS:=Lib.hid hls
  have HAM:=Lib.hid haM
  have M60:=Lib.hid (show m≤60 by have:=H60.out; omega)
  have mm:((m:Int) != (m:Int))=false:=by simp
  clear hr6 hs6 ho6 hf6 hv6 hm haM hls
  go_upto_if 75 with fail
  go_cut [1] (fun x wx=>x=.int .i64 (m:Int)∧wx=w6)
  case first =>
    go_wp2_with fail
    all_goals go_meet
    all_goals exact ⟨by congr 1; have:=HM.out; omega,rfl⟩
  case rest =>
  obtain ⟨rfl,hwc⟩:=hcut
  rw [hwc]
  clear hwc
  go_wp2_with fail
  go_loopw [12] (fun i wr=>∃ k:Nat,k≤m∧i=.int .i64 k∧Hid (RowS wr w5.heap.size (.slice Ar m cr) ls)∧Hid (∃ vk,SM wr g2 q2 ⟨key,cl,po,v6,hh,lo,pr,dp,co,nt,mo⟩ (gSt ⟨key,cl,po,v6,hh,lo,pr,dp,co,nt,mo⟩ key [] k).1 vk∧OwT wr w5.heap.size vk (gSt ⟨key,cl,po,v6,hh,lo,pr,dp,co,nt,mo⟩ key [] k).2)∧Hid (SM wr g q ⟨key,cl,po,v6,hh,lo,pr,dp,co,nt,mo⟩ aM v6')∧Hid (Below w.heap.size w wr)∧Hid (w5.heap.size≤wr.heap.size)) (fun i _=>m - (intOf i).toNat)
  case atStart=>exact ⟨0,by omega,rfl,R6,Lib.hid ⟨_,Z6.out,OwT.nil_ _ _⟩,S6,B6,W56⟩
  case round =>
  obtain ⟨k,hkm,rfl,RR,ZR,SR,BR,WR⟩:=hrel
  by_cases hlt:k<m
  case neg =>
    obtain rfl:m=k:=by omega
    have t1:decide ((m:Int)<(m:Int))=false:=decide_eq_false (by omega)
    obtain ⟨vk,hz,hoz⟩:=ZR.out
    rw [← HAM.out] at hz
    have ZZ:=Lib.hid hz
    clear hlt hkm hz hoz
    go_upto_region 19 with fail
    obtain ⟨x,hx⟩:∃ x,x=gNum aM 0:=⟨_,rfl⟩
    have NX:=Lib.hid (show ∀ V g q v a,a=aM→SM V g q ⟨key,cl,po,v6,hh,lo,pr,dp,co,nt,mo⟩ a v→Calls Try.prog 13 #[.pointer (some ⟨q,0,none⟩)] V fun o w'=>o=.returned (.int .u64 x)∧SM w' g q ⟨key,cl,po,v6,hh,lo,pr,dp,co,nt,mo⟩ (gAdv a) v∧OnlyG q V w' from fun V g q v a ha hV=>by rw [hx,← ha]; exact next_src hV)
    have xx:(x == x)=true:=by simp
    have HS9:=Lib.hid (show ∀ W a b v v2,SM W g q ⟨key,cl,po,v6,hh,lo,pr,dp,co,nt,mo⟩ a v→SM W g2 q2 ⟨key,cl,po,v6,hh,lo,pr,dp,co,nt,mo⟩ b v2→(World.cell? W ⟨g,0,none⟩=some (.pointer (some ⟨q,0,none⟩))∧World.cell? W ⟨g2,0,none⟩=some (.pointer (some ⟨q2,0,none⟩))) from fun W a b v v2 h1 h2=>⟨h1.src.cell 0,h2.src.cell 0⟩)
    have SRd:=Lib.hid (SR.out.below (dr_below _))
    have ZZd:=Lib.hid (ZZ.out.below (dr_below _))
    have BRd:=Lib.hid BR.out.drew
    have sA:=Lib.hid (HS9.out _ _ _ _ _ SRd.out ZZd.out)
    clear hx
    go_region_held3 (fun W=>World.cell? W ⟨g,0,none⟩=some (.pointer (some ⟨q,0,none⟩))∧World.cell? W ⟨g2,0,none⟩=some (.pointer (some ⟨q2,0,none⟩))) (first | with_reducible exact sA.out | with_reducible exact sB.out | with_reducible exact sC.out | with_reducible exact sD.out)
      (first | (go_at_call 13
                (with_reducible refine (NX.out _ g q v6' aM rfl SRd.out).mono ?_)
                rintro o w8 ⟨rfl,hs8,ho8⟩
                have S8:=Lib.hid hs8
                have Z8:=Lib.hid (show SM w8 g2 q2 ⟨key,cl,po,v6,hh,lo,pr,dp,co,nt,mo⟩ aM vk from ⟨ho8.blk ZZd.out.src (blk_ne ZZd.out.src SRd.out.gen (by decide)),ho8.blk ZZd.out.gen NE.out.2⟩)
                have B8:=Lib.hid (ho8.from BRd.out GQ.out.2)
                have sB:=Lib.hid (HS9.out _ _ _ _ _ S8.out Z8.out)
                clear hs8 ho8)
             | (go_at_call 13
                (with_reducible refine (NX.out _ g2 q2 vk aM rfl Z8.out).mono ?_)
                rintro o w9 ⟨rfl,hs9,ho9⟩
                have Z9:=Lib.hid hs9
                have S9:=Lib.hid (show SM w9 g q ⟨key,cl,po,v6,hh,lo,pr,dp,co,nt,mo⟩ (gAdv aM) v6' from ⟨ho9.blk S8.out.src (blk_ne S8.out.src Z8.out.gen (by decide)),ho9.blk S8.out.gen NE.out.2.symm⟩)
                have B9:=Lib.hid (ho9.from B8.out GQ2.out.2)
                have sC:=Lib.hid (HS9.out _ _ _ _ _ S9.out Z9.out)
                clear hs9 ho9)
             | (go_at_call 7
                (with_reducible refine (HAW.out _).mono ?_)
                rintro o w10 ⟨rfl,hb10⟩
                have B10:=Lib.hid (B9.out.trans (hb10.mono B9.out.size))
                have sD:=Lib.hid (HS9.out _ _ _ _ _ (S9.out.below hb10) (Z9.out.below hb10))
                clear hb10))
    go_wp2_with fail
    go_ret
    exact ⟨rfl,B10.out⟩
  case pos =>
    have t1:decide ((k:Int)<(m:Int))=true:=decide_eq_true (by omega)
    have HK:=Lib.hid hlt
    have ku:IntKind.i64.wrap ((k:Int)+1)=((k+1:Nat):Int):=by have:=M60.out; rw [IntWalk.i64_in _ (by omega)]; omega
    have j1:(0:Int)≤(k:Int):=by omega
    have j2:(k:Int)<(m:Int):=by omega
    obtain ⟨vk,hz,hoz⟩:=ZR.out
    have ZK:=Lib.hid hz
    have OK:=Lib.hid hoz
    obtain ⟨vs,hown,hel⟩:=RR.out
    obtain ⟨A,nn,c,hvk,hob⟩:=hel k (by rw [HLS.out,pks_len]; exact hlt)
    rw [HLS.out,pks_get _ _ _ _ _ hlt] at hob
    obtain ⟨gl,hgl⟩:∃ gl,Ar=some ⟨gl,0,none⟩:=by
      rcases hown.2 with ⟨e,e2⟩ | ⟨gl,cap,cur,e,_⟩
      · rw [HLS.out,pks_len] at e2
        omega
      · injection e with e
        exact ⟨gl,e⟩
    subst hgl
    have hck:wr.cell? ⟨gl,k,none⟩=some (.slice A nn c):=by
      have h9:=hown.cells (g:=gl) rfl k _ hvk
      rw [add0] at h9
      exact h9
    obtain ⟨TX,hTX⟩:∃ TX,TX=strOfNums (pkN ⟨key,cl,po,v6,hh,lo,pr,dp,co,nt,mo⟩ key [] k):=⟨_,rfl⟩
    have HTX:=Lib.hid hTX
    have CK:=Lib.hid hck
    have OB:=Lib.hid hob
    clear hlt hkm hz hoz hown hel hvk hob hck hTX
    have PKk:=Lib.hid (PK.out wr.drew w5.heap.size k vk WR.out (ZK.out.below (dr_below _)) (OK.out.below (dr_below _)))
    have HSV:=Lib.hid (show ∀ W,OwB W w5.heap.size A nn c (pkN ⟨key,cl,po,v6,hh,lo,pr,dp,co,nt,mo⟩ key [] k)→World.cell? W ⟨gl,k,none⟩=some (.slice A nn c)→(World.cell? W ⟨gl,k,none⟩=some (.slice A nn c)∧(convert 47 9 (.slice A nn c)).run Try.prog W=.ok (.string TX) W) from fun W h1 h2=>⟨h2,by rw [HTX.out]; exact sixN.conv_row h1.sl.row h1.len⟩)
    have sA:=Lib.hid (HSV.out wr.drew (OwB_keep OB.out fun x cs hx=>rfl) CK.out)
    go_upto_region 17 with fail
    go_region_held_law (fun W=>World.cell? W ⟨gl,k,none⟩=some (.slice A nn c)∧(convert 47 9 (.slice A nn c)).run Try.prog W=.ok (.string TX) W) (first | with_reducible exact sA.out | with_reducible exact sB.out)
      (first | (go_at_call 11
                (with_reducible refine PKk.out.mono ?_)
                rintro o w8 ⟨A8,n8,c8,rfl,hw8,v8,hs8,ho8,hf8,hv8⟩
                have hR:=RowS_keep (RowS_below RR.out (dr_below _)) (fun x cs hx=>frg_type (ZK.out.below (dr_below _)) (OK.out.below (dr_below _)) hf8 hx (by decide) (by decide) (by decide)) (fun x cs hx=>frg_type (ZK.out.below (dr_below _)) (OK.out.below (dr_below _)) hf8 hx (by decide) (by decide) (by decide))
                have R8:=Lib.hid hR
                have OB8:=Lib.hid (OwB_keep OB.out fun x cs hx=>frg_type (ZK.out.below (dr_below _)) (OK.out.below (dr_below _)) hf8 (hx.below (dr_below _) hx.lt) (by decide) (by decide) (by decide))
                have CK8:=Lib.hid (show w8.cell? ⟨gl,k,none⟩=some (.slice A nn c) from by
                  obtain ⟨vs2,hown2,_⟩:=RR.out
                  rcases hown2.2 with ⟨e,_⟩ | ⟨g9,cap,cur,e,_,e3,_⟩
                  · cases e
                  · injection e with e _ _
                    injection e with e
                    injection e with e
                    subst e
                    have hbl:Blk wr gl 47 cur:=e3
                    exact (World.cell?_of_block (w:=wr.drew) (frg_type (ZK.out.below (dr_below _)) (OK.out.below (dr_below _)) hf8 (hbl.below (dr_below _) hbl.lt) (by decide) (by decide) (by decide))).trans CK.out)
                have sB:=Lib.hid (HSV.out w8 OB8.out CK8.out)
                have cv8:(convert 47 9 (.slice A8 n8 c8)).run Try.prog w8=.ok (.string TX) w8:=by rw [HTX.out]; exact sixN.conv_row hw8.sl.row hw8.len
                have ZK8:=Lib.hid (show ∃ vk,SM w8 g2 q2 ⟨key,cl,po,v6,hh,lo,pr,dp,co,nt,mo⟩ (gSt ⟨key,cl,po,v6,hh,lo,pr,dp,co,nt,mo⟩ key [] (k+1)).1 vk∧OwT w8 w5.heap.size vk (gSt ⟨key,cl,po,v6,hh,lo,pr,dp,co,nt,mo⟩ key [] (k+1)).2 from ⟨v8,hs8,ho8⟩)
                have S8:=Lib.hid (show SM w8 g q ⟨key,cl,po,v6,hh,lo,pr,dp,co,nt,mo⟩ aM v6' from ⟨hf8.blk (SR.out.src.below (dr_below _) SR.out.src.lt) NE.out.1.symm (blk_ne SR.out.src ZK.out.gen (by decide)) (fun e=>OwT_ne OK.out SR.out.src (by decide) g e.symm rfl),hf8.blk (SR.out.gen.below (dr_below _) SR.out.gen.lt) (blk_ne SR.out.gen ZK.out.src (by decide)) NE.out.2.symm (fun e=>OwT_ne OK.out SR.out.gen (by decide) q e.symm rfl)⟩)
                have B8:=Lib.hid (BR.out.drew.trans (hf8.below GQ2.out.1 GQ2.out.2 (fun x hx=>Nat.le_trans B5.out.size (OK.out.lt x hx).1) BR.out.drew.size))
                have W8:=Lib.hid (show w5.heap.size≤w8.heap.size from Nat.le_trans WR.out hf8.size)
                clear hw8 hs8 ho8 hf8 hv8 hR))
    go_wp2_with fail
    go_roundw
    case rel=>exact ⟨k+1,HK.out,by simp,R8,ZK8,S8,B8,W8⟩
    case measure=>have:=HK.out; simp [intOf]; omega
end Go.Proofs.Ytnofddbfogilaaa.genQ
