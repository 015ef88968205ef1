/- 4 texts in one. -/
import Derived.Lib.SmallJoins
import Derived.Deep.Slices
import Derived.Deep.Fields
import Derived.Deep.RegionHeld3
import Derived.BigQuiet
import Derived.Test.YtodckfgfbcnkoaaNk01
import Derived.Test.YtodckfgfbcnkoaaNk04
set_option linter.unusedVariables false
open Go.ChangeShapes Go.WideShapes Go.ChangeAt Go.RowKit
/- What the cells of a value of plain data are: leaf by leaf, of structs in structs, arrays, slices. -/
namespace Go.Proofs.Ytodckfgfbcnkoaa.base
open Go.RowKit Go.WideShapes Go.ChangeShapes Go.Joins Go.Deep
inductive Leaf where
 | int (k:IntKind)
 | bool
 | str
 | sl (t:TypeId)
def fieldLeafs (P:Program) (rec:TypeId→Option (List Leaf)):List Field→Nat→Option (List Leaf)
 | [],_=>some []
 | f::fs,off=>match rec f.type with
  | some l=>if f.offset=off∧P.cellsOf f.type=l.length then (fieldLeafs P rec fs (off+l.length)).map (l++·) else none
  | none=>none
def many (l:List Leaf):Nat→List Leaf
 | 0=>[]
 | n+1=>many l n++l
def leafs (P:Program):Nat→TypeId→Option (List Leaf)
 | 0,_=>none
 | n+1,t=>match P.underlying t with
  | some .bool=>some [.bool]
  | some (.int k)=>some [.int k]
  | some .string=>some [.str]
  | some (.slice _)=>some [.sl t]
  | some (.struct fs)=>match fieldLeafs P (leafs P n) fs.toList 0 with
   | some l=>if P.cellsOf t=l.length then some l else none
   | none=>none
  | some (.array m e)=>match leafs P n e with
   | some l=>if P.cellsOf e=l.length∧P.cellsOf t=m*l.length then some (many l m) else none
   | none=>none
  | _=>none
section
variable {H:Type} {enc:TypeId × Value→H} {P:Program} {w:World} {base:Nat} {spare:Nat→Bool} {held:Bool}
def LeafOk (enc:TypeId × Value→H) (P:Program) (w:World) (base:Nat) (spare:Nat→Bool) (held:Bool):Leaf→Value→Prop
 | .int k,c=>∃ x,c=.int k x∧(Lit.int k x).wf=true
 | .bool,c=>∃ b,c=.bool b
 | .str,c=>∃ s,c=.string s∧s.size≤maxLen
 | .sl t,c=>∃ n y,DataW.trod enc P w base spare held n t [c]=some y
def Leaves (enc:TypeId × Value→H) (P:Program) (w:World) (base:Nat) (spare:Nat→Bool) (held:Bool):List Leaf→List Value→Prop
 | [],cs=>cs=[]
 | l::ls,cs=>∃ c cs',cs=c::cs'∧LeafOk enc P w base spare held l c∧Leaves enc P w base spare held ls cs'
theorem Leaves.append {a b:List Leaf} {x y:List Value} (ha:Leaves enc P w base spare held a x) (hb:Leaves enc P w base spare held b y):Leaves enc P w base spare held (a++b) (x++y):=by
 induction a generalizing x with
 | nil=>simp only [Leaves] at ha; subst ha; exact hb
 | cons l ls ih =>
  obtain ⟨c,cs,rfl,h1,h2⟩:=ha
  exact ⟨c,cs++y,rfl,h1,ih h2⟩
theorem fields_leaves {rec:TypeId→Option (List Leaf)} (hrec:∀ t l n cs y,rec t=some l→DataW.trod enc P w base spare held n t cs=some y→Leaves enc P w base spare held l cs) :
  ∀ (fs:List Field) (off:Nat) (ls:List Leaf) (cs:List Value),fieldLeafs P rec fs off=some ls →
   (∀ (i:Nat) (f:Field),fs[i]?=some f→∃ n y,DataW.trod enc P w base spare held n f.type ((cs.drop f.offset).take (P.cellsOf f.type))=some y) →
   Leaves enc P w base spare held ls ((cs.drop off).take ls.length):=by
 intro fs
 induction fs with
 | nil =>
  intro off ls cs h _
  simp only [fieldLeafs,Option.some.injEq] at h
  subst h
  simp [Leaves]
 | cons f fs ih =>
  intro off ls cs h hf
  simp only [fieldLeafs] at h
  split at h
  ·rename_i l hl
   split at h
   ·rename_i hc
    obtain ⟨ho,hs⟩:=hc
    cases hr:fieldLeafs P rec fs (off+l.length) with
    | none=>rw [hr] at h; cases h
    | some r =>
     rw [hr] at h
     simp only [Option.map_some,Option.some.injEq] at h
     subst h
     obtain ⟨n,y,h0⟩:=hf 0 f rfl
     have h1:=hrec _ _ _ _ _ hl h0
     have h2:=ih _ _ cs hr (fun i g hg=>hf (i+1) g hg)
     rw [ho,hs] at h1
     have e:(cs.drop off).take (l++r).length=(cs.drop off).take l.length++(cs.drop (off+l.length)).take r.length:=by
      rw [List.length_append,List.take_add,List.drop_drop]
     rw [e]
     exact h1.append h2
   ·cases h
  ·cases h
theorem many_leaves {l:List Leaf} (m:Nat) (cs:List Value) (h:∀ i,i<m→Leaves enc P w base spare held l ((cs.drop (i*l.length)).take l.length)) :
  Leaves enc P w base spare held (many l m) (cs.take (m*l.length)):=by
 induction m with
 | zero=>simp [many,Leaves]
 | succ m ih =>
  have h1:=ih (fun i hi=>h i (by omega))
  have h2:=h m (by omega)
  rw [Nat.succ_mul,List.take_add]
  exact h1.append h2
theorem leaves_of (m:Nat):∀ (t:TypeId) (ls:List Leaf) (n:Nat) (cs:List Value) (y:DataW H × List MemPlace),leafs P m t=some ls→DataW.trod enc P w base spare held n t cs=some y→Leaves enc P w base spare held ls cs:=by
 induction m with
 | zero=>intro t ls n cs y h; simp [leafs] at h
 | succ m ih =>
  intro t ls n cs y h ht
  unfold leafs at h
  cases hu:P.underlying t with
  | none=>rw [hu] at h; simp at h
  | some u =>
   rw [hu] at h
   cases u with
   | bool =>
    simp only [Option.some.injEq] at h
    subst h
    obtain ⟨b,rfl,_⟩:=DataW.trod_bool hu ht
    exact ⟨_,_,rfl,⟨b,rfl⟩,rfl⟩
   | int k =>
    simp only [Option.some.injEq] at h
    subst h
    obtain ⟨x,rfl,_,hx⟩:=DataW.trod_int hu ht
    exact ⟨_,_,rfl,⟨x,rfl,hx⟩,rfl⟩
   | string =>
    simp only [Option.some.injEq] at h
    subst h
    obtain ⟨x,rfl,_,hx⟩:=DataW.trod_string hu ht
    exact ⟨_,_,rfl,⟨x,rfl,hx⟩,rfl⟩
   | slice e =>
    simp only [Option.some.injEq] at h
    subst h
    obtain ⟨a,l,c,rfl⟩:=slice_form hu ht
    exact ⟨_,_,rfl,⟨n,y,ht⟩,rfl⟩
   | struct fs =>
    simp only at h
    split at h
    ·rename_i l hl
     split at h
     ·rename_i hc
      simp only [Option.some.injEq] at h
      subst h
      obtain ⟨xs,k,_,rfl,hlen,hx,hf⟩:=DataW.trod_struct hu ht
      have:=fields_leaves (enc:=enc) (w:=w) (base:=base) (spare:=spare) (held:=held) (fun t l n cs y=>ih t l n cs y) fs.toList 0 l cs hl (fun i f hi=>by
       have hi':fs[i]?=some f:=by simpa using hi
       have g:=hf i f hi'
       have hlt:i<fs.size:=(Array.getElem?_eq_some_iff.1 hi').1
       rw [List.getElem?_eq_getElem (by omega)] at g
       exact ⟨_,_,g⟩)
      rw [List.drop_zero,List.take_of_length_le (by omega)] at this
      exact this
     ·cases h
    ·cases h
   | array k e =>
    simp only at h
    split at h
    ·rename_i l hl
     split at h
     ·rename_i hc
      simp only [Option.some.injEq] at h
      subst h
      obtain ⟨xs,n',_,rfl,hlen,hx,hf⟩:=DataW.trod_array hu ht
      have:=many_leaves (enc:=enc) (P:=P) (w:=w) (base:=base) (spare:=spare) (held:=held) (l:=l) k cs (fun i hi=>by
       have g:=hf i hi
       rw [List.getElem?_eq_getElem (by omega)] at g
       rw [← hc.1]
       exact ih e l _ _ _ hl g)
      rw [List.take_of_length_le (by omega)] at this
      exact this
     ·cases h
    ·cases h
   | _=>simp at h
theorem open_leaves {r:Reach} {b0:Nat} {t:TypeId} {fs:Array Field} {v:Value} {d:DataW H} {p:List MemPlace} (m:Nat) (ls:List Leaf) (hs:P.underlying t=some (.struct fs)) (hl:leafs P m t=some ls)
  (hv:Value.okWide P w r b0 t v) (h:DataW.Trod enc P w base spare held t v d p):∃ cs:List Value,v=.agg cs.toArray∧Leaves enc P w base spare held ls cs:=by
 obtain ⟨cs,rfl,hsz⟩:=okWide_struct hs hv
 obtain ⟨n,hn⟩:=h
 exact ⟨cs.toList,by simp,leaves_of m t ls n _ _ hl hn⟩
end
end Go.Proofs.Ytodckfgfbcnkoaa.base
/- What the packages over octet and sum share: facts carried over a step, bytes of numbers, what comes in. -/
namespace Go.Proofs.Ytodckfgfbcnkoaa.net
open Go.ChangeShapes Go.WideShapes Go.ChangeAt Go.RowKit Go.Joins Go.Deep
open base sumA sumB octA rdrA
theorem pb_two (x:Int) (h0:0≤x) (h1:x≤65535):pb x 2 2=[x / 256,x % 256]:=by
 show [byteZ x (2 - 1 - 0),byteZ x (2 - 1 - 1)]=_
 unfold byteZ
 have a:x / 2 ^ (8*(2 - 1 - 0))=x / 256:=rfl
 have b:x / 2 ^ (8*(2 - 1 - 1))=x:=by show x / 1=x; omega
 rw [a,b]
 congr 1
 omega
theorem own_keep {w w':World} {base n:Nat} {e:TypeId} {v:Value} {xs:List Value} (h:w.ownsRow base e 1 v n xs) (hb:Below w.heap.size w w'):w'.ownsRow base e 1 v n xs:=by
 refine ⟨h.1,?_⟩
 rcases h.2 with hn | ⟨g,cap,cur,rfl,hg,hgg,rest⟩
 ·exact .inl hn
 ·exact .inr ⟨g,cap,cur,rfl,hg,(hb.block g (Array.getElem?_eq_some_iff.1 hgg).1).trans hgg,rest⟩
theorem bneT {a b:Int} (h:a≠b):(a != b)=true:=by simpa using h
theorem bneF {a b:Int} (h:a=b):(a != b)=false:=by subst h; simp
theorem eqT {a b:Int} (h:a=b):(a == b)=true:=by simpa using h
theorem eqF {a b:Int} (h:a≠b):(a == b)=false:=by simpa using h
theorem wsum_app:∀ (n:Nat) (a b:List Int),a.length=2*n→wsum (a++b)=wsum a+wsum b:=by
 intro n
 induction n with
 | zero=>intro a b h; have e:a=[]:=List.eq_nil_of_length_eq_zero (by omega); subst e; simp [wsum]
 | succ n ih =>
  intro a b h
  match a,h with
  | x::y::a,h =>
   have:=ih a b (by simp at h; omega)
   show wsum (x::y::(a++b))=wsum (x::y::a)+wsum b
   simp only [wsum]
   rw [this]
   omega
theorem pb_four (x:Int) (h0:0≤x) (h1:x≤4294967295):pb x 4 4=[x / 65536 / 256,x / 65536 % 256,x % 65536 / 256,x % 65536 % 256]:=by
 show [byteZ x 3,byteZ x 2,byteZ x 1,byteZ x 0]=_
 unfold byteZ
 have a:x / 2 ^ (8*3)=x / 16777216:=rfl
 have b:x / 2 ^ (8*2)=x / 65536:=rfl
 have c:x / 2 ^ (8*1)=x / 256:=rfl
 have d:x / 2 ^ (8*0)=x:=by show x / 1=x; omega
 rw [a,b,c,d]
 congr 1
 ·omega
 ·congr 1
  congr 1
  ·omega
  ·congr 1
   omega
theorem pb_one (x:Int) (h0:0≤x) (h1:x≤255):pb x 1 1=[x]:=by
 show [byteZ x 0]=_
 unfold byteZ
 have d:x / 2 ^ (8*0)=x:=by show x / 1=x; omega
 rw [d]
 congr 1
 omega
theorem fo_full (s:Int) (h:0≤s):fo (s+(65535 - fo s))=65535∨fo s=65535:=by
 have a:=fo_bd s h
 have b:=fo_add (x:=s) (t:=65535 - fo s) h (by omega)
 refine .inl ?_
 rw [← b,show fo s+(65535 - fo s)=65535 by omega]
 rfl
theorem none_cap {k:IntKind} {w:World} {a:Option Addr} {len cap:Nat} {zs:List Int}
  (h:(a=none∧len=0∧cap=0∧zs=[])∨∃ x,a=some x∧len≤cap∧cap≤maxLen∧zs.length=cap∧(∀ i,i<zs.length→w.cell? (x.add i)=some (.int k (zs.getD i 0)))∧∀ n ∈ zs,(Lit.int k n).wf=true):a=none→cap=0:=by
 rcases h with ⟨_,_,h,_⟩ | ⟨x,rfl,_⟩
 ·exact fun _=>h
 ·intro h; cases h
theorem take_u8 {l:List Int} {m:Nat} (h:∀ x ∈ l,(Lit.int .u8 x).wf=true):∀ x ∈ l.take m,0≤x∧x≤255:=fun x hx=>bounds_u8 (h x (List.mem_of_mem_take hx))
section
variable {H:Type} {enc:TypeId × Value→H} {P:Program} {w:World} {base:Nat} {held:Bool}
theorem open_bytes {r:Reach} {b0:Nat} {t e:TypeId} {k:IntKind} {v:Value} {d:DataW H} {p:List MemPlace} (ht:P.underlying t=some (.slice e)) (he:P.underlying e=some (.int k)) (hc:P.cellsOf e=1)
  (hv:Value.okWide P w r b0 t v) (h:DataW.Trod enc P w base (fun _=>true) held t v d p) :
  ∃ a len cap zs,v=.slice a len cap∧((a=none∧len=0∧cap=0∧zs=[])∨∃ x,a=some x∧len≤cap∧cap≤maxLen∧zs.length=cap∧(∀ i,i<zs.length→w.cell? (x.add i)=some (.int k (zs.getD i 0)))∧∀ n ∈ zs,(Lit.int k n).wf=true):=by
 obtain ⟨a,len,cap,rfl⟩:=okWide_slice ht hv
 obtain ⟨fuel,hf⟩:=h
 rcases open_ints ht he hc hf with ⟨hcs,_⟩ | ⟨x,l,c,zs,hcs,_,hl,hm,hz,_,hcell,hwz⟩
 ·simp [Value.cells] at hcs
  obtain ⟨rfl,rfl,rfl⟩:=hcs
  exact ⟨_,_,_,[],rfl,.inl ⟨rfl,rfl,rfl,rfl⟩⟩
 ·simp [Value.cells] at hcs
  obtain ⟨rfl,rfl,rfl⟩:=hcs
  exact ⟨_,_,_,zs,rfl,.inr ⟨_,rfl,hl,hm,by simpa using hz,hcell,hwz⟩⟩
end
section
variable {w w':World}
theorem Rdr_keep {B g:Nat} {l:List Int} (h:Rdr w B g l) (hB:B≤w.heap.size) (hb:Below w.heap.size w w'):Rdr w' B g l:=h.below hb hB h.lt
end
end Go.Proofs.Ytodckfgfbcnkoaa.net
/- Layer 10: bytes as the segment that they are. -/
namespace Go.Proofs.Ytodckfgfbcnkoaa.tcpDn
set_option maxHeartbeats 4000000
set_option maxRecDepth 100000
open base sumA sumB octA octB octF rdrA udpA net tcpC
theorem and15 (y:Int) (h0:0≤y) (h1:y≤255):bits .and .u8 y 15=y % 16:=by
 obtain ⟨n,rfl⟩:=Int.eq_ofNat_of_zero_le h0
 have hn:n<256:=by omega
 have h:∀ n:Fin 256,bits .and .u8 ((n.val:Nat):Int) 15=((n.val:Nat):Int) % 16:=by decide +kernel
 exact h ⟨n,hn⟩
def errt (k:Int):Value:=.tuple #[.agg #[.int .i64 0,.int .i64 0,.int .u32 0,.int .u32 0,.int .i64 0,.int .i64 0,.int .i64 0,.slice none 0 0],.slice none 0 0,.int .i64 k]
theorem parse_short (A A2:Option Addr) (n c n2 c2:Nat) (w:World) (hn:n<20) :
  Calls Try.prog 90 #[.slice A n c,.slice A2 n2 c2] w fun e w'=>e=.returned (errt 2)∧Below w.heap.size w w':=by
 go_enter Try.func90,Try.ntmps90
 go_wp2
 exact bodyPost_ret (v:=errt 2) (by simp [results,Try.results90,go_sem,errt]) rfl ⟨rfl,(((Below.refl _ _).alloc (Nat.le_refl _) _))⟩
theorem parse_head (b off n c n2 c2:Nat) (A2:Option Addr) (l ps:List Int) (w:World) (hl:l.length=n) (hn:20≤n) (hn2:n≤1000) (hnc:n≤c) (hc:c≤9223372036854775807) (hb:b<w.heap.size) (hs:Lies w b off l) (hx:∀ x ∈ l,0≤x∧x≤255)
  (pl:ps.length=n2) (pn:n2≤1000) (pr:Row w w.heap.size A2 (ps.map (.int .u8))) (px:∀ x ∈ ps,0≤x∧x≤255)
  (hw:l.getD 12 0 / 16*4<20∨(20≤l.getD 12 0 / 16*4∧(n:Int)<l.getD 12 0 / 16*4)∨(20≤l.getD 12 0 / 16*4∧l.getD 12 0 / 16*4≤n∧l.getD 12 0 % 16≠0)) :
  Calls Try.prog 90 #[.slice (some ⟨b,off,none⟩) n c,.slice A2 n2 c2] w fun e w'=>e=.returned (errt 11)∧Below w.heap.size w w':=by
 have hx12:=getD_in l hx 12
 have q12:(w.alloc (.cells #[.int .i64 0,.int .i64 0,.int .u32 0,.int .u32 0,.int .i64 0,.int .i64 0,.int .i64 0,.slice none 0 0] 93)).cell? ⟨b,off+12,none⟩=some (.int .u8 (l.getD 12 0)):=(hs.below ((Below.refl _ _).alloc (Nat.le_refl _) (.cells #[.int .i64 0,.int .i64 0,.int .u32 0,.int .u32 0,.int .i64 0,.int .i64 0,.int .i64 0,.slice none 0 0] 93)) hb) 12 (by omega)
 have hand:=and15 (l.getD 12 0) hx12.1 hx12.2
 have HB0:=Lib.hid (show Below w.heap.size w (w.alloc (.cells #[.int .i64 0,.int .i64 0,.int .u32 0,.int .u32 0,.int .i64 0,.int .i64 0,.int .i64 0,.slice none 0 0] 93)) from (Below.refl _ _).alloc (Nat.le_refl _) _)
 have HRS:=Lib.hid (Blk.new w 93 #[.int .i64 0,.int .i64 0,.int .u32 0,.int .u32 0,.int .i64 0,.int .i64 0,.int .i64 0,.slice none 0 0])
 have y12:(12:Int)<(n:Int):=by omega
 clear hs hx pl pr px hl
 generalize l.getD 12 0=y at *
 obtain ⟨z0,z1⟩:=hx12
 rcases hw with hw | ⟨hw1,hw⟩ | ⟨hw1,hw2,hw⟩
 ·have t1:decide (y / 16*4<20)=true:=decide_eq_true hw
  clear hw
  go_enter Try.func90,Try.ntmps90
  go_wp2_with fail
  exact bodyPost_ret (v:=errt 11) (by simp [results,Try.results90,go_sem,errt]) rfl ⟨rfl,HB0.out⟩
 ·have t1:decide (y / 16*4<20)=false:=decide_eq_false (by omega)
  have t2:decide ((n:Int)<y / 16*4)=true:=decide_eq_true hw
  clear hw hw1
  go_enter Try.func90,Try.ntmps90
  go_wp2_with fail
  exact bodyPost_ret (v:=errt 11) (by simp [results,Try.results90,go_sem,errt]) rfl ⟨rfl,HB0.out⟩
 ·have t1:decide (y / 16*4<20)=false:=decide_eq_false (by omega)
  have t2:decide ((n:Int)<y / 16*4)=false:=decide_eq_false (by omega)
  have t3:(y % 16 != 0)=true:=bneT hw
  clear hw hw1 hw2
  go_enter Try.func90,Try.ntmps90
  go_wp2_with fail
  exact bodyPost_ret (v:=errt 11) (by simp [results,Try.results90,go_sem,errt]) rfl ⟨rfl,HB0.out⟩
theorem parse_sum (b off n c n2 c2:Nat) (A2:Option Addr) (l ps:List Int) (w:World) (hl:l.length=n) (hn:20≤n) (hn2:n≤1000) (hnc:n≤c) (hc:c≤9223372036854775807) (hb:b<w.heap.size) (hs:Lies w b off l) (hx:∀ x ∈ l,0≤x∧x≤255)
  (pl:ps.length=n2) (pn:n2≤1000) (pr:Row w w.heap.size A2 (ps.map (.int .u8))) (px:∀ x ∈ ps,0≤x∧x≤255)
  (h1:20≤l.getD 12 0 / 16*4) (h2:l.getD 12 0 / 16*4≤n) (h3:l.getD 12 0 % 16=0) (hS:¬ fo (wsum (ps++l))=65535) :
  Calls Try.prog 90 #[.slice (some ⟨b,off,none⟩) n c,.slice A2 n2 c2] w fun e w'=>e=.returned (errt 13)∧Below w.heap.size w w':=by
 have hx12:=getD_in l hx 12
 have q12:(w.alloc (.cells #[.int .i64 0,.int .i64 0,.int .u32 0,.int .u32 0,.int .i64 0,.int .i64 0,.int .i64 0,.slice none 0 0] 93)).cell? ⟨b,off+12,none⟩=some (.int .u8 (l.getD 12 0)):=(hs.below ((Below.refl _ _).alloc (Nat.le_refl _) (.cells #[.int .i64 0,.int .i64 0,.int .u32 0,.int .u32 0,.int .i64 0,.int .i64 0,.int .i64 0,.slice none 0 0] 93)) hb) 12 (by omega)
 have hand:=and15 (l.getD 12 0) hx12.1 hx12.2
 have HB0:=Lib.hid (show Below w.heap.size w (w.alloc (.cells #[.int .i64 0,.int .i64 0,.int .u32 0,.int .u32 0,.int .i64 0,.int .i64 0,.int .i64 0,.slice none 0 0] 93)) from (Below.refl _ _).alloc (Nat.le_refl _) _)
 have HRS:=Lib.hid (Blk.new w 93 #[.int .i64 0,.int .i64 0,.int .u32 0,.int .u32 0,.int .i64 0,.int .i64 0,.int .i64 0,.slice none 0 0])
 have y12:(12:Int)<(n:Int):=by omega
 have t1:decide (l.getD 12 0 / 16*4<20)=false:=decide_eq_false (by omega)
 have t2:decide ((n:Int)<l.getD 12 0 / 16*4)=false:=decide_eq_false (by omega)
 have t3:(l.getD 12 0 % 16 != 0)=false:=bneF h3
 have HS:=Lib.hid hs
 have HX:=Lib.hid hx
 have HL:=Lib.hid hl
 have PL:=Lib.hid pl
 have PR:=Lib.hid pr
 have PX:=Lib.hid px
 have HSZ:=Lib.hid (show (w.alloc (.cells #[.int .i64 0,.int .i64 0,.int .u32 0,.int .u32 0,.int .i64 0,.int .i64 0,.int .i64 0,.slice none 0 0] 93)).heap.size=w.heap.size+1 by simp)
 have tS:(fo (wsum (ps++l)) == 65535)=false:=eqF hS
 clear hs hx pl pr px hl hS h3
 generalize l.getD 12 0=y at *
 obtain ⟨z0,z1⟩:=hx12
 go_enter Try.func90,Try.ntmps90
 go_wp2_with fail
 refine (right_at (w.heap.size+1) A2 (some ⟨b,off,none⟩) n2 n c2 c ps l w _ _ HSZ.out PL.out HL.out (by omega) (by omega) PR.out (HS.out.row hb) PX.out HX.out HB0.out).mono ?_
 rintro e w6 ⟨rfl,rfl⟩
 have HRY:=Lib.hid (HRS.out.alloc (.cells #[.slice A2 n2 c2,.slice (some ⟨b,off,none⟩) n c] 22))
 have HBY:=Lib.hid (HB0.out.alloc (by rw [HSZ.out]; omega) (.cells #[.slice A2 n2 c2,.slice (some ⟨b,off,none⟩) n c] 22))
 have HSY:=Lib.hid (show ((w.alloc (.cells #[.int .i64 0,.int .i64 0,.int .u32 0,.int .u32 0,.int .i64 0,.int .i64 0,.int .i64 0,.slice none 0 0] 93)).alloc (.cells #[.slice A2 n2 c2,.slice (some ⟨b,off,none⟩) n c] 22)).heap.size=w.heap.size+1+1 by simp)
 clear HRS HB0 HSZ q12
 generalize (w.alloc (.cells #[.int .i64 0,.int .i64 0,.int .u32 0,.int .u32 0,.int .i64 0,.int .i64 0,.int .i64 0,.slice none 0 0] 93)).alloc (.cells #[.slice A2 n2 c2,.slice (some ⟨b,off,none⟩) n c] 22)=wy at *
 rw [tS]
 clear tS
 have r0:wy.cell? ⟨w.heap.size,0,none⟩=some (.int .i64 0):=HRY.out.cell 0
 have f0:wy.frozen? ⟨w.heap.size,0,none⟩=false:=HRY.out.frozen 0
 have r1:wy.cell? ⟨w.heap.size,1,none⟩=some (.int .i64 0):=HRY.out.cell 1
 have f1:wy.frozen? ⟨w.heap.size,1,none⟩=false:=HRY.out.frozen 1
 have r2:wy.cell? ⟨w.heap.size,2,none⟩=some (.int .u32 0):=HRY.out.cell 2
 have f2:wy.frozen? ⟨w.heap.size,2,none⟩=false:=HRY.out.frozen 2
 have r3:wy.cell? ⟨w.heap.size,3,none⟩=some (.int .u32 0):=HRY.out.cell 3
 have f3:wy.frozen? ⟨w.heap.size,3,none⟩=false:=HRY.out.frozen 3
 have r4:wy.cell? ⟨w.heap.size,4,none⟩=some (.int .i64 0):=HRY.out.cell 4
 have f4:wy.frozen? ⟨w.heap.size,4,none⟩=false:=HRY.out.frozen 4
 have r5:wy.cell? ⟨w.heap.size,5,none⟩=some (.int .i64 0):=HRY.out.cell 5
 have f5:wy.frozen? ⟨w.heap.size,5,none⟩=false:=HRY.out.frozen 5
 have r6:wy.cell? ⟨w.heap.size,6,none⟩=some (.int .i64 0):=HRY.out.cell 6
 have f6:wy.frozen? ⟨w.heap.size,6,none⟩=false:=HRY.out.frozen 6
 have r7:wy.cell? ⟨w.heap.size,7,none⟩=some (.slice none 0 0):=HRY.out.cell 7
 have f7:wy.frozen? ⟨w.heap.size,7,none⟩=false:=HRY.out.frozen 7
 go_wp2_with fail
 have hblk:=(show Blk _ _ 93 #[.int .i64 0,.int .i64 0,.int .u32 0,.int .u32 0,.int .i64 0,.int .i64 0,.int .i64 0,.slice none 0 0] from (show Blk _ _ 93 #[.int .i64 0,.int .i64 0,.int .u32 0,.int .u32 0,.int .i64 0,.int .i64 0,.int .i64 0,.slice none 0 0] from (show Blk _ _ 93 #[.int .i64 0,.int .i64 0,.int .u32 0,.int .u32 0,.int .i64 0,.int .i64 0,.int .i64 0,.slice none 0 0] from (show Blk _ _ 93 #[.int .i64 0,.int .i64 0,.int .u32 0,.int .u32 0,.int .i64 0,.int .i64 0,.int .i64 0,.slice none 0 0] from (show Blk _ _ 93 #[.int .i64 0,.int .i64 0,.int .u32 0,.int .u32 0,.int .i64 0,.int .i64 0,.int .i64 0,.slice none 0 0] from (show Blk _ _ 93 #[.int .i64 0,.int .i64 0,.int .u32 0,.int .u32 0,.int .i64 0,.int .i64 0,.int .i64 0,.slice none 0 0] from (show Blk _ _ 93 #[.int .i64 0,.int .i64 0,.int .u32 0,.int .u32 0,.int .i64 0,.int .i64 0,.int .i64 0,.slice none 0 0] from (show Blk _ _ 93 #[.int .i64 0,.int .i64 0,.int .u32 0,.int .u32 0,.int .i64 0,.int .i64 0,.int .i64 0,.slice none 0 0] from HRY.out.set_ 0 (.int .i64 0)).set_ 1 (.int .i64 0)).set_ 2 (.int .u32 0)).set_ 3 (.int .u32 0)).set_ 4 (.int .i64 0)).set_ 5 (.int .i64 0)).set_ 6 (.int .i64 0)).set_ 7 (.slice none 0 0))
 have HBW:=Lib.hid ((((((((HBY.out.setCell (p:=⟨w.heap.size,0,none⟩) (Nat.le_refl _) (.int .i64 0)).setCell (p:=⟨w.heap.size,1,none⟩) (Nat.le_refl _) (.int .i64 0)).setCell (p:=⟨w.heap.size,2,none⟩) (Nat.le_refl _) (.int .u32 0)).setCell (p:=⟨w.heap.size,3,none⟩) (Nat.le_refl _) (.int .u32 0)).setCell (p:=⟨w.heap.size,4,none⟩) (Nat.le_refl _) (.int .i64 0)).setCell (p:=⟨w.heap.size,5,none⟩) (Nat.le_refl _) (.int .i64 0)).setCell (p:=⟨w.heap.size,6,none⟩) (Nat.le_refl _) (.int .i64 0)).setCell (p:=⟨w.heap.size,7,none⟩) (Nat.le_refl _) (.slice none 0 0))
 clear r0 f0 r1 f1 r2 f2 r3 f3 r4 f4 r5 f5 r6 f6 r7 f7
 generalize ((((((((wy.setCell ⟨w.heap.size,0,none⟩ (.int .i64 0)).setCell ⟨w.heap.size,1,none⟩ (.int .i64 0)).setCell ⟨w.heap.size,2,none⟩ (.int .u32 0)).setCell ⟨w.heap.size,3,none⟩ (.int .u32 0)).setCell ⟨w.heap.size,4,none⟩ (.int .i64 0)).setCell ⟨w.heap.size,5,none⟩ (.int .i64 0)).setCell ⟨w.heap.size,6,none⟩ (.int .i64 0)).setCell ⟨w.heap.size,7,none⟩ (.slice none 0 0))=WW at *
 have z0:WW.cell? ⟨w.heap.size,0,none⟩=some (.int .i64 0):=hblk.cell 0
 have z1:WW.cell? ⟨w.heap.size,1,none⟩=some (.int .i64 0):=hblk.cell 1
 have z2:WW.cell? ⟨w.heap.size,2,none⟩=some (.int .u32 0):=hblk.cell 2
 have z3:WW.cell? ⟨w.heap.size,3,none⟩=some (.int .u32 0):=hblk.cell 3
 have z4:WW.cell? ⟨w.heap.size,4,none⟩=some (.int .i64 0):=hblk.cell 4
 have z5:WW.cell? ⟨w.heap.size,5,none⟩=some (.int .i64 0):=hblk.cell 5
 have z6:WW.cell? ⟨w.heap.size,6,none⟩=some (.int .i64 0):=hblk.cell 6
 have z7:WW.cell? ⟨w.heap.size,7,none⟩=some (.slice none 0 0):=hblk.cell 7
 clear hblk
 exact bodyPost_ret (v:=errt 13) (by simp [results,Try.results90,go_sem,errt,z0,z1,z2,z3,z4,z5,z6,z7]) rfl ⟨rfl,HBW.out⟩
def OkPost (w:World) (l:List Int) (s:Nat) (e:Ending) (w':World):Prop :=
 ∃ A c v,e=.returned (.tuple #[.agg #[.int .i64 (w16 l 0),.int .i64 (w16 l 2),.int .u32 (w32 l 4),.int .u32 (w32 l 8),.int .i64 (l.getD 13 0),.int .i64 (w16 l 14),.int .i64 (w16 l 18),.slice A (s - 20) c],v,.int .i64 0])∧(A=none→c=0)∧w'.ownsRow w.heap.size 5 1 (.slice A (s - 20) c) (s - 20) (((l.take s).drop 20).map (.int .u8))∧w'.ownsRow w.heap.size 5 1 v (l.length - s) ((l.drop s).map (.int .u8))∧Below w.heap.size w w'
theorem getD_take (l:List Int) (s i:Nat) (h:i<s):(l.take s).getD i 0=l.getD i 0:=by
 rw [List.getD_eq_getElem?_getD,List.getD_eq_getElem?_getD,List.getElem?_take,if_pos h]
theorem w16_take (l:List Int) (s i:Nat) (h:i+1<s):w16 (l.take s) i=w16 l i:=by
 unfold w16
 rw [getD_take l s i (by omega),getD_take l s (i+1) h]
theorem w32_take (l:List Int) (s i:Nat) (h:i+3<s):w32 (l.take s) i=w32 l i:=by
 unfold w32
 rw [w16_take l s i (by omega),w16_take l s (i+2) (by omega)]
theorem take_u8 {l:List Int} (h:∀ x ∈ l,0≤x∧x≤255) (k:Nat):∀ x ∈ l.take k,0≤x∧x≤255:=fun x hx=>h x (List.mem_of_mem_take hx)
theorem parse_ok_edge (b off s n2 c2:Nat) (A2:Option Addr) (l ps:List Int) (w:World) (hl:l.length=s) (hn:20≤s) (hn2:s≤1000) (hc:s≤9223372036854775807) (hb:b<w.heap.size) (hs:Lies w b off l) (hx:∀ x ∈ l,0≤x∧x≤255)
  (pl:ps.length=n2) (pn:n2≤1000) (pr:Row w w.heap.size A2 (ps.map (.int .u8))) (px:∀ x ∈ ps,0≤x∧x≤255)
  (h1:20≤l.getD 12 0 / 16*4) (h2:l.getD 12 0 / 16*4≤s) (h3:l.getD 12 0 % 16=0) (hS:fo (wsum (ps++l))=65535) (hsz:l.getD 12 0 / 16*4=(s:Int)) :
  Calls Try.prog 90 #[.slice (some ⟨b,off,none⟩) s s,.slice A2 n2 c2] w (OkPost w l s):=by
 have hx12:=getD_in l hx 12
 have q12:(w.alloc (.cells #[.int .i64 0,.int .i64 0,.int .u32 0,.int .u32 0,.int .i64 0,.int .i64 0,.int .i64 0,.slice none 0 0] 93)).cell? ⟨b,off+12,none⟩=some (.int .u8 (l.getD 12 0)):=(hs.below ((Below.refl _ _).alloc (Nat.le_refl _) (.cells #[.int .i64 0,.int .i64 0,.int .u32 0,.int .u32 0,.int .i64 0,.int .i64 0,.int .i64 0,.slice none 0 0] 93)) hb) 12 (by omega)
 have hand:=and15 (l.getD 12 0) hx12.1 hx12.2
 have HB0:=Lib.hid (show Below w.heap.size w (w.alloc (.cells #[.int .i64 0,.int .i64 0,.int .u32 0,.int .u32 0,.int .i64 0,.int .i64 0,.int .i64 0,.slice none 0 0] 93)) from (Below.refl _ _).alloc (Nat.le_refl _) _)
 have HRS:=Lib.hid (Blk.new w 93 #[.int .i64 0,.int .i64 0,.int .u32 0,.int .u32 0,.int .i64 0,.int .i64 0,.int .i64 0,.slice none 0 0])
 have y12:(12:Int)<(s:Int):=by omega
 have t1:decide (l.getD 12 0 / 16*4<20)=false:=decide_eq_false (by omega)
 have t2:decide ((s:Int)<l.getD 12 0 / 16*4)=false:=decide_eq_false (by omega)
 have t3:(l.getD 12 0 % 16 != 0)=false:=bneF h3
 have HS:=Lib.hid hs
 have HX:=Lib.hid hx
 have HL:=Lib.hid hl
 have PL:=Lib.hid pl
 have PR:=Lib.hid pr
 have PX:=Lib.hid px
 have HSZ:=Lib.hid (show (w.alloc (.cells #[.int .i64 0,.int .i64 0,.int .u32 0,.int .u32 0,.int .i64 0,.int .i64 0,.int .i64 0,.slice none 0 0] 93)).heap.size=w.heap.size+1 by simp)
 have tS:(fo (wsum (ps++l)) == 65535)=true:=eqT hS
 have s20:20≤s:=by omega
 have hnc:s≤s:=Nat.le_refl s
 have sn:s≤s:=by omega
 have HTL:=Lib.hid (show (l.take s).length=s by rw [List.length_take]; omega)
 have HTX:=Lib.hid (take_u8 hx s)
 have H0:=Lib.hid (w16_take l s 0 (by omega))
 have H2:=Lib.hid (w16_take l s 2 (by omega))
 have H4:=Lib.hid (w32_take l s 4 (by omega))
 have H8:=Lib.hid (w32_take l s 8 (by omega))
 have H13:=Lib.hid (getD_take l s 13 (by omega))
 have H14:=Lib.hid (w16_take l s 14 (by omega))
 have H18:=Lib.hid (w16_take l s 18 (by omega))
 have HLN:=Lib.hid (show 0=l.length - s by rw [hl,Nat.sub_self])
 clear hs hx pl pr px hl hS h3 h1 h2
 generalize hy:l.getD 12 0=y at *
 clear hy
 obtain ⟨z0,z1⟩:=hx12
 rw [hsz] at t1 t2
 go_enter Try.func90,Try.ntmps90
 go_wp2_with fail
 refine (right_at (w.heap.size+1) A2 (some ⟨b,off,none⟩) n2 s c2 s ps l w _ _ HSZ.out PL.out HL.out (by omega) (by omega) PR.out (HS.out.row hb) PX.out HX.out HB0.out).mono ?_
 rintro e w6 ⟨rfl,rfl⟩
 have HRY:=Lib.hid (HRS.out.alloc (.cells #[.slice A2 n2 c2,.slice (some ⟨b,off,none⟩) s s] 22))
 have HBY:=Lib.hid (HB0.out.alloc (by rw [HSZ.out]; omega) (.cells #[.slice A2 n2 c2,.slice (some ⟨b,off,none⟩) s s] 22))
 have HSY:=Lib.hid (show ((w.alloc (.cells #[.int .i64 0,.int .i64 0,.int .u32 0,.int .u32 0,.int .i64 0,.int .i64 0,.int .i64 0,.slice none 0 0] 93)).alloc (.cells #[.slice A2 n2 c2,.slice (some ⟨b,off,none⟩) s s] 22)).heap.size=w.heap.size+1+1 by simp)
 clear HRS HB0 HSZ q12
 generalize (w.alloc (.cells #[.int .i64 0,.int .i64 0,.int .u32 0,.int .u32 0,.int .i64 0,.int .i64 0,.int .i64 0,.slice none 0 0] 93)).alloc (.cells #[.slice A2 n2 c2,.slice (some ⟨b,off,none⟩) s s] 22)=wy at *
 rw [tS]
 clear tS
 clear hand t3
 have HBD:=Lib.hid HBY.out.drew
 have HSD:=Lib.hid (show wy.drew.heap.size=w.heap.size+1+1 from HSY.out)
 have HRDX:=Lib.hid (read_any b off s s (l.take s) wy.drew HTL.out s20 (by omega) (by omega) hc (by rw [HSD.out]; omega) ((HS.out.below HBD.out hb).take s) HTX.out)
 have HCX:=Lib.hid (fun (W:World) (hbw:Below w.heap.size w W)=>clone_any (some ⟨b,off,none⟩) 0 0 (l.drop s) W (by rw [List.length_drop,HL.out,Nat.sub_self]) (by omega) (by intro h; cases h) (.inl (by rw [List.drop_eq_nil_of_le (by rw [HL.out]; omega)]; rfl)))
 generalize ha0:w16 l 0=a0 at *
 generalize ha2:w16 l 2=a2 at *
 generalize ha4:w32 l 4=a4 at *
 generalize ha8:w32 l 8=a8 at *
 generalize ha13:l.getD 13 0=a13 at *
 generalize ha14:w16 l 14=a14 at *
 generalize ha18:w16 l 18=a18 at *
 have A0:=Lib.hid ha0
 have A2':=Lib.hid ha2
 have A4:=Lib.hid ha4
 have A8':=Lib.hid ha8
 have A13:=Lib.hid ha13
 have A14:=Lib.hid ha14
 have A18:=Lib.hid ha18
 clear ha0 ha2 ha4 ha8 ha13 ha14 ha18
 have i1:(0:Int)≤(s:Int):=by omega
 have i2:(s:Int)≤(s:Int):=by omega
 have i3:(s:Int)≤(s:Int):=by omega
 go_wp2_with fail
 go_region_held3 (fun w'=>Below w.heap.size w w') (first | with_reducible exact HBZ.out | with_reducible exact HB7.out | with_reducible exact HB6.out | with_reducible exact HBD.out | with_reducible exact HBY.out) (first
  | (go_at_call 100; refine HRDX.out.mono ?_; rintro e w7 ⟨A,m9,c9,he,hm,hnn,hown,hbel⟩; rw [H0.out,H2.out,H4.out,H8.out,H13.out,H14.out,H18.out] at he; rw [HTL.out] at hm; subst hm; subst he; have HNN:=Lib.hid hnn; have HO1a:=Lib.hid (own_base hown (show w.heap.size+1≤_ by rw [HSD.out]; omega)); have HB6:=Lib.hid (bel_call HBD.out hbel); have HR7:=Lib.hid (HRY.out.drew.below hbel HRY.out.drew.lt); have HS7:=Lib.hid (Nat.le_trans (Nat.le_of_eq HSD.out.symm) hbel.size); clear hown hbel hnn)
  | (go_at_call 49; refine (HCX.out w7 HB6.out).mono ?_; rintro e w8 ⟨v8,rfl,hown,hbel,hsz8⟩; have HO1:=Lib.hid (own_keep HO1a.out hbel); have HO2:=Lib.hid (own_base hown (show w.heap.size+1≤_ by have:=HS7.out; omega)); have HB7:=Lib.hid (bel_call HB6.out hbel); have HR8:=Lib.hid (HR7.out.below hbel HR7.out.lt); have r0:w8.cell? ⟨w.heap.size,0,none⟩=some (.int .i64 0):=HR8.out.cell 0; have f0:w8.frozen? ⟨w.heap.size,0,none⟩=false:=HR8.out.frozen 0; have r1:w8.cell? ⟨w.heap.size,1,none⟩=some (.int .i64 0):=HR8.out.cell 1; have f1:w8.frozen? ⟨w.heap.size,1,none⟩=false:=HR8.out.frozen 1; have r2:w8.cell? ⟨w.heap.size,2,none⟩=some (.int .u32 0):=HR8.out.cell 2; have f2:w8.frozen? ⟨w.heap.size,2,none⟩=false:=HR8.out.frozen 2; have r3:w8.cell? ⟨w.heap.size,3,none⟩=some (.int .u32 0):=HR8.out.cell 3; have f3:w8.frozen? ⟨w.heap.size,3,none⟩=false:=HR8.out.frozen 3; have r4:w8.cell? ⟨w.heap.size,4,none⟩=some (.int .i64 0):=HR8.out.cell 4; have f4:w8.frozen? ⟨w.heap.size,4,none⟩=false:=HR8.out.frozen 4; have r5:w8.cell? ⟨w.heap.size,5,none⟩=some (.int .i64 0):=HR8.out.cell 5; have f5:w8.frozen? ⟨w.heap.size,5,none⟩=false:=HR8.out.frozen 5; have r6:w8.cell? ⟨w.heap.size,6,none⟩=some (.int .i64 0):=HR8.out.cell 6; have f6:w8.frozen? ⟨w.heap.size,6,none⟩=false:=HR8.out.frozen 6; have r7:w8.cell? ⟨w.heap.size,7,none⟩=some (.slice none 0 0):=HR8.out.cell 7; have f7:w8.frozen? ⟨w.heap.size,7,none⟩=false:=HR8.out.frozen 7; have HBZ:=Lib.hid ((((((((HB7.out.setCell (p:=⟨w.heap.size,0,none⟩) (Nat.le_refl _) (.int .i64 a0)).setCell (p:=⟨w.heap.size,1,none⟩) (Nat.le_refl _) (.int .i64 a2)).setCell (p:=⟨w.heap.size,2,none⟩) (Nat.le_refl _) (.int .u32 a4)).setCell (p:=⟨w.heap.size,3,none⟩) (Nat.le_refl _) (.int .u32 a8)).setCell (p:=⟨w.heap.size,4,none⟩) (Nat.le_refl _) (.int .i64 a13)).setCell (p:=⟨w.heap.size,5,none⟩) (Nat.le_refl _) (.int .i64 a14)).setCell (p:=⟨w.heap.size,6,none⟩) (Nat.le_refl _) (.int .i64 a18)).setCell (p:=⟨w.heap.size,7,none⟩) (Nat.le_refl _) (.slice A (s - 20) c9)); clear hown hbel hsz8))
 go_wp2_with fail
 have hblk:=(show Blk _ _ 93 #[.int .i64 a0,.int .i64 a2,.int .u32 a4,.int .u32 a8,.int .i64 a13,.int .i64 a14,.int .i64 a18,.slice A (s - 20) c9] from (show Blk _ _ 93 #[.int .i64 a0,.int .i64 a2,.int .u32 a4,.int .u32 a8,.int .i64 a13,.int .i64 a14,.int .i64 a18,.slice none 0 0] from (show Blk _ _ 93 #[.int .i64 a0,.int .i64 a2,.int .u32 a4,.int .u32 a8,.int .i64 a13,.int .i64 a14,.int .i64 0,.slice none 0 0] from (show Blk _ _ 93 #[.int .i64 a0,.int .i64 a2,.int .u32 a4,.int .u32 a8,.int .i64 a13,.int .i64 0,.int .i64 0,.slice none 0 0] from (show Blk _ _ 93 #[.int .i64 a0,.int .i64 a2,.int .u32 a4,.int .u32 a8,.int .i64 0,.int .i64 0,.int .i64 0,.slice none 0 0] from (show Blk _ _ 93 #[.int .i64 a0,.int .i64 a2,.int .u32 a4,.int .u32 0,.int .i64 0,.int .i64 0,.int .i64 0,.slice none 0 0] from (show Blk _ _ 93 #[.int .i64 a0,.int .i64 a2,.int .u32 0,.int .u32 0,.int .i64 0,.int .i64 0,.int .i64 0,.slice none 0 0] from (show Blk _ _ 93 #[.int .i64 a0,.int .i64 0,.int .u32 0,.int .u32 0,.int .i64 0,.int .i64 0,.int .i64 0,.slice none 0 0] from HR8.out.set_ 0 (.int .i64 a0)).set_ 1 (.int .i64 a2)).set_ 2 (.int .u32 a4)).set_ 3 (.int .u32 a8)).set_ 4 (.int .i64 a13)).set_ 5 (.int .i64 a14)).set_ 6 (.int .i64 a18)).set_ 7 (.slice A (s - 20) c9))
 have HOA:=Lib.hid (own_base (own_far (own_far (own_far (own_far (own_far (own_far (own_far (own_far HO1.out ⟨w.heap.size,0,none⟩ (Nat.lt_succ_self _) (.int .i64 a0)) ⟨w.heap.size,1,none⟩ (Nat.lt_succ_self _) (.int .i64 a2)) ⟨w.heap.size,2,none⟩ (Nat.lt_succ_self _) (.int .u32 a4)) ⟨w.heap.size,3,none⟩ (Nat.lt_succ_self _) (.int .u32 a8)) ⟨w.heap.size,4,none⟩ (Nat.lt_succ_self _) (.int .i64 a13)) ⟨w.heap.size,5,none⟩ (Nat.lt_succ_self _) (.int .i64 a14)) ⟨w.heap.size,6,none⟩ (Nat.lt_succ_self _) (.int .i64 a18)) ⟨w.heap.size,7,none⟩ (Nat.lt_succ_self _) (.slice A (s - 20) c9)) (Nat.le_succ _))
 have HOB:=Lib.hid (own_base (own_far (own_far (own_far (own_far (own_far (own_far (own_far (own_far HO2.out ⟨w.heap.size,0,none⟩ (Nat.lt_succ_self _) (.int .i64 a0)) ⟨w.heap.size,1,none⟩ (Nat.lt_succ_self _) (.int .i64 a2)) ⟨w.heap.size,2,none⟩ (Nat.lt_succ_self _) (.int .u32 a4)) ⟨w.heap.size,3,none⟩ (Nat.lt_succ_self _) (.int .u32 a8)) ⟨w.heap.size,4,none⟩ (Nat.lt_succ_self _) (.int .i64 a13)) ⟨w.heap.size,5,none⟩ (Nat.lt_succ_self _) (.int .i64 a14)) ⟨w.heap.size,6,none⟩ (Nat.lt_succ_self _) (.int .i64 a18)) ⟨w.heap.size,7,none⟩ (Nat.lt_succ_self _) (.slice A (s - 20) c9)) (Nat.le_succ _))
 clear r0 f0 r1 f1 r2 f2 r3 f3 r4 f4 r5 f5 r6 f6 r7 f7
 generalize ((((((((w8.setCell ⟨w.heap.size,0,none⟩ (.int .i64 a0)).setCell ⟨w.heap.size,1,none⟩ (.int .i64 a2)).setCell ⟨w.heap.size,2,none⟩ (.int .u32 a4)).setCell ⟨w.heap.size,3,none⟩ (.int .u32 a8)).setCell ⟨w.heap.size,4,none⟩ (.int .i64 a13)).setCell ⟨w.heap.size,5,none⟩ (.int .i64 a14)).setCell ⟨w.heap.size,6,none⟩ (.int .i64 a18)).setCell ⟨w.heap.size,7,none⟩ (.slice A (s - 20) c9))=WW at *
 have y0:WW.cell? ⟨w.heap.size,0,none⟩=some (.int .i64 a0):=hblk.cell 0
 have y1:WW.cell? ⟨w.heap.size,1,none⟩=some (.int .i64 a2):=hblk.cell 1
 have y2:WW.cell? ⟨w.heap.size,2,none⟩=some (.int .u32 a4):=hblk.cell 2
 have y3:WW.cell? ⟨w.heap.size,3,none⟩=some (.int .u32 a8):=hblk.cell 3
 have y4:WW.cell? ⟨w.heap.size,4,none⟩=some (.int .i64 a13):=hblk.cell 4
 have y5:WW.cell? ⟨w.heap.size,5,none⟩=some (.int .i64 a14):=hblk.cell 5
 have y6:WW.cell? ⟨w.heap.size,6,none⟩=some (.int .i64 a18):=hblk.cell 6
 have y7:WW.cell? ⟨w.heap.size,7,none⟩=some (.slice A (s - 20) c9):=hblk.cell 7
 clear hblk
 rw [HLN.out] at HOB
 exact bodyPost_ret (v:=.tuple #[.agg #[.int .i64 a0,.int .i64 a2,.int .u32 a4,.int .u32 a8,.int .i64 a13,.int .i64 a14,.int .i64 a18,.slice A (s - 20) c9],v8,.int .i64 0]) (by simp [results,Try.results90,go_sem,y0,y1,y2,y3,y4,y5,y6,y7]) rfl ⟨A,c9,v8,by rw [A0.out,A2'.out,A4.out,A8'.out,A13.out,A14.out,A18.out],HNN.out,HOA.out,HOB.out,HBZ.out⟩
theorem parse_ok_far (b off n c n2 c2:Nat) (A2:Option Addr) (l ps:List Int) (w:World) (hl:l.length=n) (hn:20≤n) (hn2:n≤1000) (hnc:n≤c) (hc:c≤9223372036854775807) (hb:b<w.heap.size) (hs:Lies w b off l) (hx:∀ x ∈ l,0≤x∧x≤255)
  (pl:ps.length=n2) (pn:n2≤1000) (pr:Row w w.heap.size A2 (ps.map (.int .u8))) (px:∀ x ∈ ps,0≤x∧x≤255)
  (h1:20≤l.getD 12 0 / 16*4) (h2:l.getD 12 0 / 16*4≤n) (h3:l.getD 12 0 % 16=0) (hS:fo (wsum (ps++l))=65535) (s:Nat) (hsz:l.getD 12 0 / 16*4=(s:Int)) (hcs:¬ c=s) :
  Calls Try.prog 90 #[.slice (some ⟨b,off,none⟩) n c,.slice A2 n2 c2] w (OkPost w l s):=by
 have hx12:=getD_in l hx 12
 have q12:(w.alloc (.cells #[.int .i64 0,.int .i64 0,.int .u32 0,.int .u32 0,.int .i64 0,.int .i64 0,.int .i64 0,.slice none 0 0] 93)).cell? ⟨b,off+12,none⟩=some (.int .u8 (l.getD 12 0)):=(hs.below ((Below.refl _ _).alloc (Nat.le_refl _) (.cells #[.int .i64 0,.int .i64 0,.int .u32 0,.int .u32 0,.int .i64 0,.int .i64 0,.int .i64 0,.slice none 0 0] 93)) hb) 12 (by omega)
 have hand:=and15 (l.getD 12 0) hx12.1 hx12.2
 have HB0:=Lib.hid (show Below w.heap.size w (w.alloc (.cells #[.int .i64 0,.int .i64 0,.int .u32 0,.int .u32 0,.int .i64 0,.int .i64 0,.int .i64 0,.slice none 0 0] 93)) from (Below.refl _ _).alloc (Nat.le_refl _) _)
 have HRS:=Lib.hid (Blk.new w 93 #[.int .i64 0,.int .i64 0,.int .u32 0,.int .u32 0,.int .i64 0,.int .i64 0,.int .i64 0,.slice none 0 0])
 have y12:(12:Int)<(n:Int):=by omega
 have t1:decide (l.getD 12 0 / 16*4<20)=false:=decide_eq_false (by omega)
 have t2:decide ((n:Int)<l.getD 12 0 / 16*4)=false:=decide_eq_false (by omega)
 have t3:(l.getD 12 0 % 16 != 0)=false:=bneF h3
 have HS:=Lib.hid hs
 have HX:=Lib.hid hx
 have HL:=Lib.hid hl
 have PL:=Lib.hid pl
 have PR:=Lib.hid pr
 have PX:=Lib.hid px
 have HSZ:=Lib.hid (show (w.alloc (.cells #[.int .i64 0,.int .i64 0,.int .u32 0,.int .u32 0,.int .i64 0,.int .i64 0,.int .i64 0,.slice none 0 0] 93)).heap.size=w.heap.size+1 by simp)
 have tS:(fo (wsum (ps++l)) == 65535)=true:=eqT hS
 have s20:20≤s:=by omega
 have sn:s≤n:=by omega
 have HTL:=Lib.hid (show (l.take s).length=s by rw [List.length_take]; omega)
 have HTX:=Lib.hid (take_u8 hx s)
 have H0:=Lib.hid (w16_take l s 0 (by omega))
 have H2:=Lib.hid (w16_take l s 2 (by omega))
 have H4:=Lib.hid (w32_take l s 4 (by omega))
 have H8:=Lib.hid (w32_take l s 8 (by omega))
 have H13:=Lib.hid (getD_take l s 13 (by omega))
 have H14:=Lib.hid (w16_take l s 14 (by omega))
 have H18:=Lib.hid (w16_take l s 18 (by omega))
 have HLN:=Lib.hid (show n - s=l.length - s by rw [hl])
 clear hs hx pl pr px hl hS h3 h1 h2
 generalize hy:l.getD 12 0=y at *
 clear hy
 obtain ⟨z0,z1⟩:=hx12
 rw [hsz] at t1 t2
 go_enter Try.func90,Try.ntmps90
 go_wp2_with fail
 refine (right_at (w.heap.size+1) A2 (some ⟨b,off,none⟩) n2 n c2 c ps l w _ _ HSZ.out PL.out HL.out (by omega) (by omega) PR.out (HS.out.row hb) PX.out HX.out HB0.out).mono ?_
 rintro e w6 ⟨rfl,rfl⟩
 have HRY:=Lib.hid (HRS.out.alloc (.cells #[.slice A2 n2 c2,.slice (some ⟨b,off,none⟩) n c] 22))
 have HBY:=Lib.hid (HB0.out.alloc (by rw [HSZ.out]; omega) (.cells #[.slice A2 n2 c2,.slice (some ⟨b,off,none⟩) n c] 22))
 have HSY:=Lib.hid (show ((w.alloc (.cells #[.int .i64 0,.int .i64 0,.int .u32 0,.int .u32 0,.int .i64 0,.int .i64 0,.int .i64 0,.slice none 0 0] 93)).alloc (.cells #[.slice A2 n2 c2,.slice (some ⟨b,off,none⟩) n c] 22)).heap.size=w.heap.size+1+1 by simp)
 clear HRS HB0 HSZ q12
 generalize (w.alloc (.cells #[.int .i64 0,.int .i64 0,.int .u32 0,.int .u32 0,.int .i64 0,.int .i64 0,.int .i64 0,.slice none 0 0] 93)).alloc (.cells #[.slice A2 n2 c2,.slice (some ⟨b,off,none⟩) n c] 22)=wy at *
 rw [tS]
 clear tS
 clear hand t3
 have HBD:=Lib.hid HBY.out.drew
 have HSD:=Lib.hid (show wy.drew.heap.size=w.heap.size+1+1 from HSY.out)
 have HRDX:=Lib.hid (read_any b off s c (l.take s) wy.drew HTL.out s20 (by omega) (by omega) hc (by rw [HSD.out]; omega) ((HS.out.below HBD.out hb).take s) HTX.out)
 have HCX:=Lib.hid (fun (W:World) (hbw:Below w.heap.size w W)=>clone_any (some ⟨b,off+s,none⟩) (n - s) (c - s) (l.drop s) W (by rw [List.length_drop,HL.out]) (by omega) (by intro h; cases h) (((HS.out.below hbw hb).drop s).row (by have:=hbw.size; omega)))
 generalize ha0:w16 l 0=a0 at *
 generalize ha2:w16 l 2=a2 at *
 generalize ha4:w32 l 4=a4 at *
 generalize ha8:w32 l 8=a8 at *
 generalize ha13:l.getD 13 0=a13 at *
 generalize ha14:w16 l 14=a14 at *
 generalize ha18:w16 l 18=a18 at *
 have A0:=Lib.hid ha0
 have A2':=Lib.hid ha2
 have A4:=Lib.hid ha4
 have A8':=Lib.hid ha8
 have A13:=Lib.hid ha13
 have A14:=Lib.hid ha14
 have A18:=Lib.hid ha18
 clear ha0 ha2 ha4 ha8 ha13 ha14 ha18
 have i1:(0:Int)≤(s:Int):=by omega
 have i2:(s:Int)≤(n:Int):=by omega
 have i3:(s:Int)≤(c:Int):=by omega
 go_wp2_with fail
 go_region_held3 (fun w'=>Below w.heap.size w w') (first | with_reducible exact HBZ.out | with_reducible exact HB7.out | with_reducible exact HB6.out | with_reducible exact HBD.out | with_reducible exact HBY.out) (first
  | (go_at_call 100; refine HRDX.out.mono ?_; rintro e w7 ⟨A,m9,c9,he,hm,hnn,hown,hbel⟩; rw [H0.out,H2.out,H4.out,H8.out,H13.out,H14.out,H18.out] at he; rw [HTL.out] at hm; subst hm; subst he; have HNN:=Lib.hid hnn; have HO1a:=Lib.hid (own_base hown (show w.heap.size+1≤_ by rw [HSD.out]; omega)); have HB6:=Lib.hid (bel_call HBD.out hbel); have HR7:=Lib.hid (HRY.out.drew.below hbel HRY.out.drew.lt); have HS7:=Lib.hid (Nat.le_trans (Nat.le_of_eq HSD.out.symm) hbel.size); clear hown hbel hnn)
  | (go_at_call 49; refine (HCX.out w7 HB6.out).mono ?_; rintro e w8 ⟨v8,rfl,hown,hbel,hsz8⟩; have HO1:=Lib.hid (own_keep HO1a.out hbel); have HO2:=Lib.hid (own_base hown (show w.heap.size+1≤_ by have:=HS7.out; omega)); have HB7:=Lib.hid (bel_call HB6.out hbel); have HR8:=Lib.hid (HR7.out.below hbel HR7.out.lt); have r0:w8.cell? ⟨w.heap.size,0,none⟩=some (.int .i64 0):=HR8.out.cell 0; have f0:w8.frozen? ⟨w.heap.size,0,none⟩=false:=HR8.out.frozen 0; have r1:w8.cell? ⟨w.heap.size,1,none⟩=some (.int .i64 0):=HR8.out.cell 1; have f1:w8.frozen? ⟨w.heap.size,1,none⟩=false:=HR8.out.frozen 1; have r2:w8.cell? ⟨w.heap.size,2,none⟩=some (.int .u32 0):=HR8.out.cell 2; have f2:w8.frozen? ⟨w.heap.size,2,none⟩=false:=HR8.out.frozen 2; have r3:w8.cell? ⟨w.heap.size,3,none⟩=some (.int .u32 0):=HR8.out.cell 3; have f3:w8.frozen? ⟨w.heap.size,3,none⟩=false:=HR8.out.frozen 3; have r4:w8.cell? ⟨w.heap.size,4,none⟩=some (.int .i64 0):=HR8.out.cell 4; have f4:w8.frozen? ⟨w.heap.size,4,none⟩=false:=HR8.out.frozen 4; have r5:w8.cell? ⟨w.heap.size,5,none⟩=some (.int .i64 0):=HR8.out.cell 5; have f5:w8.frozen? ⟨w.heap.size,5,none⟩=false:=HR8.out.frozen 5; have r6:w8.cell? ⟨w.heap.size,6,none⟩=some (.int .i64 0):=HR8.out.cell 6; have f6:w8.frozen? ⟨w.heap.size,6,none⟩=false:=HR8.out.frozen 6; have r7:w8.cell? ⟨w.heap.size,7,none⟩=some (.slice none 0 0):=HR8.out.cell 7; have f7:w8.frozen? ⟨w.heap.size,7,none⟩=false:=HR8.out.frozen 7; have HBZ:=Lib.hid ((((((((HB7.out.setCell (p:=⟨w.heap.size,0,none⟩) (Nat.le_refl _) (.int .i64 a0)).setCell (p:=⟨w.heap.size,1,none⟩) (Nat.le_refl _) (.int .i64 a2)).setCell (p:=⟨w.heap.size,2,none⟩) (Nat.le_refl _) (.int .u32 a4)).setCell (p:=⟨w.heap.size,3,none⟩) (Nat.le_refl _) (.int .u32 a8)).setCell (p:=⟨w.heap.size,4,none⟩) (Nat.le_refl _) (.int .i64 a13)).setCell (p:=⟨w.heap.size,5,none⟩) (Nat.le_refl _) (.int .i64 a14)).setCell (p:=⟨w.heap.size,6,none⟩) (Nat.le_refl _) (.int .i64 a18)).setCell (p:=⟨w.heap.size,7,none⟩) (Nat.le_refl _) (.slice A (s - 20) c9)); clear hown hbel hsz8))
 go_wp2_with fail
 have hblk:=(show Blk _ _ 93 #[.int .i64 a0,.int .i64 a2,.int .u32 a4,.int .u32 a8,.int .i64 a13,.int .i64 a14,.int .i64 a18,.slice A (s - 20) c9] from (show Blk _ _ 93 #[.int .i64 a0,.int .i64 a2,.int .u32 a4,.int .u32 a8,.int .i64 a13,.int .i64 a14,.int .i64 a18,.slice none 0 0] from (show Blk _ _ 93 #[.int .i64 a0,.int .i64 a2,.int .u32 a4,.int .u32 a8,.int .i64 a13,.int .i64 a14,.int .i64 0,.slice none 0 0] from (show Blk _ _ 93 #[.int .i64 a0,.int .i64 a2,.int .u32 a4,.int .u32 a8,.int .i64 a13,.int .i64 0,.int .i64 0,.slice none 0 0] from (show Blk _ _ 93 #[.int .i64 a0,.int .i64 a2,.int .u32 a4,.int .u32 a8,.int .i64 0,.int .i64 0,.int .i64 0,.slice none 0 0] from (show Blk _ _ 93 #[.int .i64 a0,.int .i64 a2,.int .u32 a4,.int .u32 0,.int .i64 0,.int .i64 0,.int .i64 0,.slice none 0 0] from (show Blk _ _ 93 #[.int .i64 a0,.int .i64 a2,.int .u32 0,.int .u32 0,.int .i64 0,.int .i64 0,.int .i64 0,.slice none 0 0] from (show Blk _ _ 93 #[.int .i64 a0,.int .i64 0,.int .u32 0,.int .u32 0,.int .i64 0,.int .i64 0,.int .i64 0,.slice none 0 0] from HR8.out.set_ 0 (.int .i64 a0)).set_ 1 (.int .i64 a2)).set_ 2 (.int .u32 a4)).set_ 3 (.int .u32 a8)).set_ 4 (.int .i64 a13)).set_ 5 (.int .i64 a14)).set_ 6 (.int .i64 a18)).set_ 7 (.slice A (s - 20) c9))
 have HOA:=Lib.hid (own_base (own_far (own_far (own_far (own_far (own_far (own_far (own_far (own_far HO1.out ⟨w.heap.size,0,none⟩ (Nat.lt_succ_self _) (.int .i64 a0)) ⟨w.heap.size,1,none⟩ (Nat.lt_succ_self _) (.int .i64 a2)) ⟨w.heap.size,2,none⟩ (Nat.lt_succ_self _) (.int .u32 a4)) ⟨w.heap.size,3,none⟩ (Nat.lt_succ_self _) (.int .u32 a8)) ⟨w.heap.size,4,none⟩ (Nat.lt_succ_self _) (.int .i64 a13)) ⟨w.heap.size,5,none⟩ (Nat.lt_succ_self _) (.int .i64 a14)) ⟨w.heap.size,6,none⟩ (Nat.lt_succ_self _) (.int .i64 a18)) ⟨w.heap.size,7,none⟩ (Nat.lt_succ_self _) (.slice A (s - 20) c9)) (Nat.le_succ _))
 have HOB:=Lib.hid (own_base (own_far (own_far (own_far (own_far (own_far (own_far (own_far (own_far HO2.out ⟨w.heap.size,0,none⟩ (Nat.lt_succ_self _) (.int .i64 a0)) ⟨w.heap.size,1,none⟩ (Nat.lt_succ_self _) (.int .i64 a2)) ⟨w.heap.size,2,none⟩ (Nat.lt_succ_self _) (.int .u32 a4)) ⟨w.heap.size,3,none⟩ (Nat.lt_succ_self _) (.int .u32 a8)) ⟨w.heap.size,4,none⟩ (Nat.lt_succ_self _) (.int .i64 a13)) ⟨w.heap.size,5,none⟩ (Nat.lt_succ_self _) (.int .i64 a14)) ⟨w.heap.size,6,none⟩ (Nat.lt_succ_self _) (.int .i64 a18)) ⟨w.heap.size,7,none⟩ (Nat.lt_succ_self _) (.slice A (s - 20) c9)) (Nat.le_succ _))
 clear r0 f0 r1 f1 r2 f2 r3 f3 r4 f4 r5 f5 r6 f6 r7 f7
 generalize ((((((((w8.setCell ⟨w.heap.size,0,none⟩ (.int .i64 a0)).setCell ⟨w.heap.size,1,none⟩ (.int .i64 a2)).setCell ⟨w.heap.size,2,none⟩ (.int .u32 a4)).setCell ⟨w.heap.size,3,none⟩ (.int .u32 a8)).setCell ⟨w.heap.size,4,none⟩ (.int .i64 a13)).setCell ⟨w.heap.size,5,none⟩ (.int .i64 a14)).setCell ⟨w.heap.size,6,none⟩ (.int .i64 a18)).setCell ⟨w.heap.size,7,none⟩ (.slice A (s - 20) c9))=WW at *
 have y0:WW.cell? ⟨w.heap.size,0,none⟩=some (.int .i64 a0):=hblk.cell 0
 have y1:WW.cell? ⟨w.heap.size,1,none⟩=some (.int .i64 a2):=hblk.cell 1
 have y2:WW.cell? ⟨w.heap.size,2,none⟩=some (.int .u32 a4):=hblk.cell 2
 have y3:WW.cell? ⟨w.heap.size,3,none⟩=some (.int .u32 a8):=hblk.cell 3
 have y4:WW.cell? ⟨w.heap.size,4,none⟩=some (.int .i64 a13):=hblk.cell 4
 have y5:WW.cell? ⟨w.heap.size,5,none⟩=some (.int .i64 a14):=hblk.cell 5
 have y6:WW.cell? ⟨w.heap.size,6,none⟩=some (.int .i64 a18):=hblk.cell 6
 have y7:WW.cell? ⟨w.heap.size,7,none⟩=some (.slice A (s - 20) c9):=hblk.cell 7
 clear hblk
 rw [HLN.out] at HOB
 exact bodyPost_ret (v:=.tuple #[.agg #[.int .i64 a0,.int .i64 a2,.int .u32 a4,.int .u32 a8,.int .i64 a13,.int .i64 a14,.int .i64 a18,.slice A (s - 20) c9],v8,.int .i64 0]) (by simp [results,Try.results90,go_sem,y0,y1,y2,y3,y4,y5,y6,y7]) rfl ⟨A,c9,v8,by rw [A0.out,A2'.out,A4.out,A8'.out,A13.out,A14.out,A18.out],HNN.out,HOA.out,HOB.out,HBZ.out⟩
end Go.Proofs.Ytodckfgfbcnkoaa.tcpDn
/- Layer 12: a flow the other way round. -/
namespace Go.Proofs.Ytodckfgfbcnkoaa.icmpA
open base
theorem back_any (p:Int) (s6:Bool) (sh sl:Int) (d6:Bool) (dh dl sp dp:Int) (w:World) :
  Calls Try.prog 103 #[.agg #[.int .i64 p,.bool s6,.int .u64 sh,.int .u64 sl,.bool d6,.int .u64 dh,.int .u64 dl,.int .i64 sp,.int .i64 dp]] w
   fun e w'=>e=.returned (.agg #[.int .i64 p,.bool d6,.int .u64 dh,.int .u64 dl,.bool s6,.int .u64 sh,.int .u64 sl,.int .i64 dp,.int .i64 sp])∧Below w.heap.size w w':=by
 go_enter Try.func103,Try.ntmps103
 go_wp2_with fail
 exact bodyPost_ret (v:=.agg #[.int .i64 p,.bool d6,.int .u64 dh,.int .u64 dl,.bool s6,.int .u64 sh,.int .u64 sl,.int .i64 dp,.int .i64 sp]) (by simp [results,Try.results103,go_sem]) rfl ⟨rfl,((Below.refl _ _).alloc (Nat.le_refl _) _).alloc (by simp) _⟩
end Go.Proofs.Ytodckfgfbcnkoaa.icmpA
