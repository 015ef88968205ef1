/- 14 texts in one. -/
import Derived.Test.YtnofddbfogilaaaRows
import Derived.WalkKit
import Derived.ProofKit
import Derived.OpenShut
import Derived.Lib.Hide
import Derived.Deep.QuietTactic
import Derived.BigQuiet
import Derived.Below
import Derived.ChangeSame
import Derived.Deep.Draws
import Derived.Laws.AppendOwn
import Derived.Laws.OwnMore
import Derived.Laws.Rows
import Derived.Laws.MakeOwn
import Derived.Laws.BytesArg
import Derived.Laws.BitsAllLaws
/- Layer 2, the mixer: contracts of One, its document's answer, and what turns it back. -/
namespace Go.Proofs.Ytnofddbfogilaaa.mixA
open Go.ChangeShapes Go.WideShapes Go.ChangeAt Go.RowKit
set_option linter.unusedVariables false
def xs (x:Nat):Nat:=x ^^^ x / 8589934592
theorem xs_lt {x:Nat} (h:x<18446744073709551616):xs x<18446744073709551616:=by
 unfold xs
 exact Nat.xor_lt_two_pow (n:=64) h (Nat.lt_of_le_of_lt (Nat.div_le_self _ _) h)
def one (x:Nat):Nat:=xs (xs (xs x*18397679294719823053 % 18446744073709551616)*14181476777654086739 % 18446744073709551616)
theorem mod_lt64 (y:Nat):y % 18446744073709551616<18446744073709551616:=Nat.mod_lt _ (by decide)
theorem one_lt (x:Nat):one x<18446744073709551616:=xs_lt (mod_lt64 _)
theorem xsI {x:Nat} (h:x<18446744073709551616):bits .xor .u64 (x:Int) ((x:Int) / 8589934592)=((xs x:Nat):Int):=by
 have:=xorShift_u64 x 8589934592 h
 simpa [xs] using this
theorem mul1 (x:Nat):IntKind.u64.wrap ((x:Int)*18397679294719823053)=((x*18397679294719823053 % 18446744073709551616:Nat):Int):=by
 rw [IntKind.wrap_u64]; omega
theorem mul2 (x:Nat):IntKind.u64.wrap ((x:Int)*14181476777654086739)=((x*14181476777654086739 % 18446744073709551616:Nat):Int):=by
 rw [IntKind.wrap_u64]; omega
def xsZ (x:Int):Int:=bits .xor .u64 x (x / 8589934592)
def oneZ (x:Int):Int:=xsZ (IntKind.u64.wrap (xsZ (IntKind.u64.wrap (xsZ x*18397679294719823053))*14181476777654086739))
theorem oneZ_eq {x:Nat} (h:x<18446744073709551616):oneZ (x:Int)=((one x:Nat):Int):=by
 have e:∀ {y:Nat},y<18446744073709551616→xsZ (y:Int)=((xs y:Nat):Int):=fun h=>xsI h
 unfold oneZ one
 rw [e h,mul1,e (mod_lt64 _),mul2,e (mod_lt64 _)]
theorem ret_int {k:IntKind} {a b:Int} (h:a=b):Ending.returned (.int k a)=.returned (.int k b):=by rw [h]
theorem one_any (x:Int) (w:World) :
  Calls Try.prog 29 #[.int .u64 x] w fun e w'=>e=.returned (.int .u64 (oneZ x))∧w=w':=by
 go_enter Try.func29,Try.ntmps29
 go_wp2
 go_ret
 exact ⟨rfl,rfl⟩
theorem refone_any (x:Int) (w:World) :
  Calls Try.prog 38 #[.int .u64 x] w fun e w'=>e=.returned (.int .u64 (oneZ x))∧w=w':=by
 go_enter Try.func38,Try.ntmps38
 go_wp2
 go_ret
 exact ⟨rfl,rfl⟩
end Go.Proofs.Ytnofddbfogilaaa.mixA
/- Layer 2: numbers below another one, draws, numbers one by one. -/
namespace Go.Proofs.Ytnofddbfogilaaa.mixB
open Go.ChangeShapes Go.WideShapes Go.ChangeAt Go.RowKit
open mixA
set_option linter.unusedVariables false
theorem ret2_u64 {k:IntKind} {a b c d:Int} (h:a=b) (h':c=d):Ending.returned (.tuple #[.int k a,.int k c])=.returned (.tuple #[.int k b,.int k d]):=by rw [h,h']
theorem low_wrap (n:Int):bits .and .u64 (IntKind.u64.wrap n) 4294967295=IntKind.u64.wrap n % 4294967296:=by
 rw [IntKind.wrap_u64]; exact and_low32 _ (by omega) (by omega)
def hiZ (x y:Int):Int:=IntKind.u64.wrap (IntKind.u64.wrap (IntKind.u64.wrap (x / 4294967296*(y / 4294967296))+IntKind.u64.wrap (IntKind.u64.wrap (x / 4294967296*bits BinOp.and IntKind.u64 y 4294967295)+IntKind.u64.wrap (bits BinOp.and IntKind.u64 x 4294967295*bits BinOp.and IntKind.u64 y 4294967295) / 4294967296) / 4294967296)+IntKind.u64.wrap (bits BinOp.and IntKind.u64 (IntKind.u64.wrap (IntKind.u64.wrap (x / 4294967296*bits BinOp.and IntKind.u64 y 4294967295)+IntKind.u64.wrap (bits BinOp.and IntKind.u64 x 4294967295*bits BinOp.and IntKind.u64 y 4294967295) / 4294967296)) 4294967295+IntKind.u64.wrap (bits BinOp.and IntKind.u64 x 4294967295*(y / 4294967296))) / 4294967296)
theorem hiZ_eq {x y:Int} (hx0:0≤x) (hx:x<18446744073709551616) (hy0:0≤y) (hy:y<18446744073709551616):hiZ x y=x*y / 18446744073709551616:=by
 unfold hiZ
 rw [low_wrap,and_low32 x hx0 hx,and_low32 y hy0 hy]
 simp only [IntKind.wrap_u64]
 exact mul64_arith x y hx0 hx hy0 hy
def hiY (x y:Int):Int:=IntKind.u64.wrap (IntKind.u64.wrap (IntKind.u64.wrap (x / 4294967296*(y / 4294967296))+IntKind.u64.wrap (IntKind.u64.wrap (x / 4294967296*bits BinOp.and IntKind.u64 y 4294967295)+IntKind.u64.wrap (bits BinOp.and IntKind.u64 x 4294967295*bits BinOp.and IntKind.u64 y 4294967295) / 4294967296) / 4294967296)+IntKind.u64.wrap (IntKind.u64.wrap (bits BinOp.and IntKind.u64 x 4294967295*(y / 4294967296))+bits BinOp.and IntKind.u64 (IntKind.u64.wrap (IntKind.u64.wrap (x / 4294967296*bits BinOp.and IntKind.u64 y 4294967295)+IntKind.u64.wrap (bits BinOp.and IntKind.u64 x 4294967295*bits BinOp.and IntKind.u64 y 4294967295) / 4294967296)) 4294967295) / 4294967296)
theorem hiY_eq {x y:Int} (hx0:0≤x) (hx:x<18446744073709551616) (hy0:0≤y) (hy:y<18446744073709551616):hiY x y=x*y / 18446744073709551616:=by
 have h:=hiZ_eq hx0 hx hy0 hy
 unfold hiZ at h
 unfold hiY
 rw [Int.add_comm (IntKind.u64.wrap (bits BinOp.and IntKind.u64 x 4294967295*(y / 4294967296)))]
 exact h
theorem mul64_any (x y:Int) (hx0:0≤x) (hx:x<18446744073709551616) (hy0:0≤y) (hy:y<18446744073709551616) (w:World) :
  Calls Try.prog 52 #[.int .u64 x,.int .u64 y] w fun e w'=>e=.returned (.tuple #[.int .u64 (x*y / 18446744073709551616),.int .u64 (x*y % 18446744073709551616)])∧w=w':=by
 go_enter Try.func52,Try.ntmps52
 go_wp2
 go_ret2
 exact ⟨ret2_u64 (hiZ_eq hx0 hx hy0 hy) (IntKind.wrap_u64 _),rfl⟩
def below (h n:Int):Int:=if n<1 then 0 else h*n / 18446744073709551616
theorem mul_lt {h n:Int} (h0:0≤h) (h1:h<18446744073709551616) (hn:1≤n):0≤h*n / 18446744073709551616∧h*n / 18446744073709551616<n:=by
 have a:0≤h*n:=Int.mul_nonneg h0 (by omega)
 have b:h*n<18446744073709551616*n:=Int.mul_lt_mul_of_pos_right h1 (by omega)
 constructor
 ·omega
 ·exact Int.ediv_lt_of_lt_mul (by omega) (by rw [Int.mul_comm n]; exact b)
theorem below_any (h n:Int) (h0:0≤h) (h1:h<18446744073709551616) (n0:-9223372036854775808≤n) (n1:n<9223372036854775808) (w:World) :
  Calls Try.prog 37 #[.int .u64 h,.int .i64 n] w fun e w'=>e=.returned (.int .i64 (below h n))∧w=w':=by
 by_cases hn:n<1
 ·go_enter Try.func37,Try.ntmps37
  go_wp2
  go_ret
  exact ⟨ret_int (by simp [below,hn]),rfl⟩
 ·obtain ⟨b0,b1⟩:=mul_lt h0 h1 (by omega:1≤n)
  have hv:h*n / 18446744073709551616=below h n:=by simp [below,hn]
  go_enter Try.func37,Try.ntmps37
  go_wp2_with (go_at_call 52; refine (mul64_any _ _ (by omega) (by omega) (by omega) (by omega) _).mono ?_; rintro e w' ⟨rfl,rfl⟩)
  go_ret
  exact ⟨rfl,rfl⟩
theorem refbelow_any (h n:Int) (h0:0≤h) (h1:h<18446744073709551616) (n0:-9223372036854775808≤n) (n1:n<9223372036854775808) (w:World) :
  Calls Try.prog 23 #[.int .u64 h,.int .i64 n] w fun e w'=>e=.returned (.int .i64 (below h n))∧w=w':=by
 by_cases hn:n<1
 ·go_enter Try.func23,Try.ntmps23
  go_wp2
  go_ret
  exact ⟨ret_int (by simp [below,hn]),rfl⟩
 ·obtain ⟨b0,b1⟩:=mul_lt h0 h1 (by omega:1≤n)
  have hv:h*n / 18446744073709551616=below h n:=by simp [below,hn]
  have hy:=hiY_eq h0 h1 (by omega:0≤n) (by omega:n<18446744073709551616)
  rw [hv] at hy b0 b1
  have H:=Lib.hid hy
  have hw:wrap64 (below h n)=below h n:=IntWalk.wrap64_in _ (by omega)
  have HW:=Lib.hid hw
  clear hy hv hw
  go_enter Try.func23,Try.ntmps23
  go_wp2
  go_ret
  exact ⟨ret_int ((congrArg wrap64 H.out).trans HW.out),rfl⟩
end Go.Proofs.Ytnofddbfogilaaa.mixB
/- Small lemmas that all texts use. -/
namespace Go.Proofs.Ytnofddbfogilaaa.base
open Go.RowKit Go.WideShapes Go.ChangeShapes
set_option linter.unusedVariables false
section
variable {H:Type} {enc:TypeId × Value→H} {P:Program}
end
def Blk (w:World) (g:Nat) (t:TypeId) (cs:Array Value):Prop:=w.heap[g]?=some (.cells cs t (0,0))
section
variable {w w':World} {g:Nat} {t:TypeId} {cs:Array Value}
theorem Blk.lt (h:Blk w g t cs):g<w.heap.size:=by
 rcases Nat.lt_or_ge g w.heap.size with hlt | hge
 ·exact hlt
 ·unfold Blk at h; rw [Array.getElem?_eq_none hge] at h; cases h
theorem Blk.cell (h:Blk w g t cs) (i:Nat):w.cell? ⟨g,i,none⟩=cs[i]?:=cell_of_row w g i cs t (0,0) h
theorem Blk.frozen (h:Blk w g t cs) (i:Nat):w.frozen? ⟨g,i,none⟩=false:=by
 unfold Blk at h
 simp [World.frozen?,h]
theorem Blk.new (w:World) (t:TypeId) (cs:Array Value):Blk (w.alloc (.cells cs t)) w.heap.size t cs:=heap_alloc_new w _
theorem Blk.drew (h:Blk w g t cs):Blk w.drew g t cs:=h
theorem Blk.alloc (h:Blk w g t cs) (o:Obj):Blk (w.alloc o) g t cs:=(Below.heap_alloc w o g h.lt).trans h
theorem Blk.set_ (h:Blk w g t cs) (i:Nat) (u:Value):Blk (w.setCell ⟨g,i,none⟩ u) g t (cs.setIfInBounds i u):=by
 unfold Blk at h ⊢
 simp [World.setCell,Array.getElem?_modify,h]
theorem Blk.far (h:Blk w g t cs) {p:Addr} (hp:g≠p.block) (u:Value):Blk (w.setCell p u) g t cs:=(Below.heap_setCell w p u g hp).trans h
theorem Blk.below {B:Nat} (h:Blk w g t cs) (hb:Below B w w') (hg:g<B):Blk w' g t cs:=(hb.block g hg).trans h
theorem Blk.grown {row:Option Nat} (h:Blk w g t cs) (hb:w.grownBy w' row) (hg:some g≠row):Blk w' g t cs:=(hb.block g h.lt hg).trans h
end
end Go.Proofs.Ytnofddbfogilaaa.base
/- Layer 2: numbers of a generator, one by one. -/
namespace Go.Proofs.Ytnofddbfogilaaa.mixC
open Go.ChangeShapes Go.WideShapes Go.ChangeAt Go.RowKit
open mixA base
set_option linter.unusedVariables false
theorem next_any (b:Nat) (k:Int) (w:World) (hc:w.cell? ⟨b,0,none⟩=some (.int .u64 k)) (hf:w.frozen? ⟨b,0,none⟩=false) :
  Calls Try.prog 13 #[.pointer (some ⟨b,0,none⟩)] w fun e w'=>e=.returned (.int .u64 (oneZ (IntKind.u64.wrap (k+11400714819323198485))))∧w.setCell ⟨b,0,none⟩ (.int .u64 (IntKind.u64.wrap (k+11400714819323198485)))=w':=by
 go_enter Try.func13,Try.ntmps13
 go_wp2_with (go_at_call 29; refine (one_any _ _).mono ?_; rintro e w' ⟨rfl,rfl⟩)
 go_ret
 exact ⟨rfl,rfl⟩
theorem newGen_any (k:Int) (w:World) :
  Calls Try.prog 18 #[.int .u64 k] w fun e w'=>e=.returned (.pointer (some ⟨w.heap.size,0,none⟩))∧w.alloc (.cells #[.int .u64 k] 66)=w':=by
 go_enter Try.func18,Try.ntmps18
 go_wp2
 go_ret
 exact ⟨rfl,rfl⟩
end Go.Proofs.Ytnofddbfogilaaa.mixC
/- Slices that read as lists of values. -/
namespace Go.Proofs.Ytnofddbfogilaaa.base
open Go.RowKit Go.WideShapes Go.ChangeShapes
set_option linter.unusedVariables false
def Row (w:World) (B:Nat) (A:Option Addr) (xs:List Value):Prop :=
 xs=[]∨∃ b off,A=some ⟨b,off,none⟩∧b<B∧∀ i u,xs[i]?=some u→w.cell? ⟨b,off+i,none⟩=some u
section
variable {w w':World} {B B':Nat} {A:Option Addr} {xs:List Value}
theorem Row.below (h:Row w B A xs) (hb:Below B w w'):Row w' B A xs:=by
 rcases h with h | ⟨b,off,rfl,hlt,hc⟩
 ·exact .inl h
 ·exact .inr ⟨b,off,rfl,hlt,fun i u hu=>(hb.cell (p:=⟨b,off+i,none⟩) hlt).trans (hc i u hu)⟩
theorem Row.more (h:Row w B A xs) (hB:B≤B'):Row w B' A xs:=by
 rcases h with h | ⟨b,off,rfl,hlt,hc⟩
 ·exact .inl h
 ·exact .inr ⟨b,off,rfl,by omega,hc⟩
theorem Row.at_ (h:Row w B A xs) (hne:xs≠[]):∃ b off,A=some ⟨b,off,none⟩∧b<B∧∀ i u,xs[i]?=some u→w.cell? ⟨b,off+i,none⟩=some u:=by
 rcases h with h | h
 ·exact absurd h hne
 ·exact h
theorem Row.take (h:Row w B A xs) (n:Nat):Row w B A (xs.take n):=by
 rcases h with h | ⟨b,off,rfl,hlt,hc⟩
 ·exact .inl (by simp [h])
 ·refine .inr ⟨b,off,rfl,hlt,fun i u hu=>hc i u ?_⟩
  rw [List.getElem?_take] at hu
  split at hu
  ·exact hu
  ·cases hu
end
end Go.Proofs.Ytnofddbfogilaaa.base
/- Memory that a call makes: slices by make. -/
namespace Go.Proofs.Ytnofddbfogilaaa.base
open Go.RowKit Go.WideShapes Go.ChangeShapes
set_option linter.unusedVariables false
def zeros (n:Nat) (z:Value):Array Value:=(List.replicate n z).toArray
theorem run_make_one {P:Program} (t e:TypeId) (i:TypeInfo) (z:Value) (ht:P.underlying t=some (.slice e)) (hi:P.info? e=some i) (hz:i.zero=some z) (h1:i.size=1) (hc:z.cells=#[z])
  (kl kc:IntKind) (C:Int) (h0:0≤C) (hbytes:(i.bytes:Int)*C≤281474976710656) (h63:C≤9223372036854775807) (w:World) :
  (Instr.makeSlice t (.int kl C) (.int kc C)).run P w=.ok (.slice (some ⟨w.heap.size,0,none⟩) C.toNat C.toNat) (w.alloc (.cells (zeros C.toNat z) e)):=by
 rw [run_make (P:=P) w t e i z ht hi hz kl kc C C h0 (Int.le_refl _) hbytes h63,h1,Nat.mul_one,hc]
 have:madeCells #[z] C.toNat=zeros C.toNat z:=by
  apply Array.ext'
  rw [toList_madeCells_one]
  rfl
 rw [this]
theorem one_new (w:World) (u:Value) (t:TypeId):∀ (j:Nat) (x:Value),[u][j]?=some x→(w.alloc (.cells #[u] t)).cell? ((⟨w.heap.size,0,none⟩:Addr).add j)=some x:=by
 intro j x h
 match j,h with
 | 0,h =>
  simp at h; subst h
  exact (Blk.new w t #[u]).cell 0
theorem own_form {w:World} {base:Nat} {e:TypeId} {v:Value} {n:Nat} {xs:List Value} (h:w.ownsRow base e 1 v n xs) (hn:0<n) :
  ∃ g cap,v=.slice (some ⟨g,0,none⟩) n cap∧base≤g∧g<w.heap.size∧n≤cap∧cap≤maxLen∧(∀ j,j<n→w.cell? ⟨g,j,none⟩=xs[j]?)∧∀ j,w.frozen? ⟨g,j,none⟩=false:=by
 rcases h.2 with ⟨rfl,h0⟩ | ⟨g,cap,cur,rfl,hb,hg,hnc,hm,hsz,htake⟩
 ·omega
 ·refine ⟨g,cap,rfl,hb,(h.lt g rfl).2,hnc,hm,fun j hj=>?_,fun j=>?_⟩
  ·exact h.cellAt j (by omega)
  ·exact h.frozenAt j
theorem own_row {w:World} {base:Nat} {e:TypeId} {A:Option Addr} {n c:Nat} {xs:List Value} (h:w.ownsRow base e 1 (.slice A n c) n xs):Row w w.heap.size A xs:=by
 rcases Nat.eq_zero_or_pos n with h0 | h0
 ·exact .inl (List.eq_nil_of_length_eq_zero (by rw [h.1,h0]))
 ·obtain ⟨g,cap,hv,_,hlt,_,_,hc,_⟩:=own_form h h0
  have hA:A=some ⟨g,0,none⟩:=by injection hv
  subst hA
  refine .inr ⟨g,0,rfl,hlt,fun i u hu=>?_⟩
  have hi:=(List.getElem?_eq_some_iff.1 hu).1
  rw [Nat.zero_add,hc i (by rw [h.1] at hi; omega),hu]
theorem own_slice {w:World} {base:Nat} {e:TypeId} {v:Value} {n:Nat} {xs:List Value} (h:w.ownsRow base e 1 v n xs):∃ A c,v=.slice A n c:=by
 rcases h.2 with ⟨rfl,h0⟩ | ⟨g,cap,cur,rfl,_⟩
 ·exact ⟨_,_,by rw [h0]⟩
 ·exact ⟨_,_,rfl⟩
theorem below_grown {B:Nat} {a w w':World} {v:Value} {base:Nat} {e:TypeId} {n:Nat} {xs:List Value} (h:Below B a w) (ho:w.ownsRow base e 1 v n xs) (hB:B≤base) (hs:B≤w.heap.size) (hg:w.grownBy w' v.ownBlock):Below B a w' :=
 h.grown hg hs fun k hk=>by have:=(ho.lt k hk).1; omega
end Go.Proofs.Ytnofddbfogilaaa.base
/- Appending a slice that reads as values to a row that a call made. -/
namespace Go.Proofs.Ytnofddbfogilaaa.base
open Go.RowKit Go.WideShapes Go.ChangeShapes
set_option linter.unusedVariables false
theorem grown_refl (w:World) (row:Option Nat):w.grownBy w row:=⟨rfl,rfl,rfl,Nat.le_refl _,fun _ _ _=>rfl⟩
theorem row_cells {w:World} {B:Nat} {x:Addr} {xs:List Value} (h:Row w B (some x) xs):∀ j u,xs[j]?=some u→w.cell? (x.add j)=some u:=by
 intro j u hu
 rcases h with rfl | ⟨b,off,hx,_,hc⟩
 ·simp at hu
 ·injection hx with hx
  subst hx
  rw [Addr.add_lit]
  exact hc j u hu
theorem row_none {w:World} {B:Nat} {xs:List Value} (h:Row w B none xs):xs=[]:=by
 rcases h with rfl | ⟨b,off,hx,_⟩
 ·rfl
 ·cases hx
theorem wpList_append_row {P:Program} {w:World} {ops:Array Oper} {rest:List Oper} {o:Oper} {a:Act} {Q:Exit→Act→World→Prop} (hgd:o.guard=none) (s x:Operand) (t:TypeId)
  (ho:o.op=.call { callee:=.builtin .append,args:=#[s,x],argTypes:=#[t,t] })
  (base:Nat) (e:TypeId) (i:TypeInfo) (z:Value) (bytes:Nat) (ht:P.underlying t=some (.slice e)) (hi:P.info? e=some i) (hz:i.zero=some z)
  (hsize:i.size=1) (hby:i.bytes=bytes) (hzs:z.cells.size=1)
  (v:Value) (n:Nat) (xs:List Value) (hs:a.eval s=v) (hown:w.ownsRow base e 1 v n xs)
  (A:Option Addr) (m c B:Nat) (news:List Value) (hx:a.eval x=.slice A m c) (hA:A=none→c=0) (hl:news.length=m) (hr:Row w B A news) (h1:∀ u ∈ news,u.oneCell'=true)
  (h63:n+m≤maxLen) (hbytes:(n+m)*bytes≤140737488355328) (hbase:base≤w.heap.size)
  (h:∀ v' w',w'.ownsRow base e 1 v' (n+m) (xs++news)→w.grownBy w' v.ownBlock→wpList P ops Q rest (a.put o.dst v') w'):wpList P ops Q (o::rest) a w:=by
 cases A with
 | some ad=>exact wpList_append_own w hgd s x t ho base e i z 1 bytes ht hi hz hsize hby hzs (by omega) v n xs hs hown ad m c news hx (by omega) (row_cells hr) h1 h63 hbytes hbase fun v' w' h2 h3 _=>h v' w' h2 h3
 | none =>
  have hn:=row_none hr
  subst hn
  have hm:m=0:=by simpa using hl.symm
  subst hm
  have hc:=hA rfl
  subst hc
  refine wpList_plain hgd fun K hK=>?_
  have hrun:=run_append_owned_none (P:=P) (w:=w) base t o.type e i 1 ht hi v n xs hown
  unfold Oper.wp execOp
  simp only [ho,resolve,invoke,builtin,Sem.run_bind,Sem.run_pure,Result.andThen_ok,List.map_toArray,List.map_cons,List.map_nil,hs,hx,hrun]
  exact hK _ _ (h v w (by simpa using hown) (grown_refl w _))
end Go.Proofs.Ytnofddbfogilaaa.base
/- Worlds that have only grown, step by step. -/
namespace Go.Proofs.Ytnofddbfogilaaa.base
open Go.RowKit Go.WideShapes Go.ChangeShapes
set_option linter.unusedVariables false
section
variable {W w w':World}
theorem kept {p:Addr} {v:Value} (h:W.cell? p=some v) (hb:Below W.heap.size W w):w.cell? p=some v :=
 (hb.cell (World.block_lt_of_cell? W p h)).trans h
theorem bel_call (h:Below W.heap.size W w) (hb:Below w.heap.size w w'):Below W.heap.size W w':=h.trans (hb.mono h.size)
theorem bel_alloc (h:Below W.heap.size W w) (o:Obj):Below W.heap.size W (w.alloc o):=h.alloc h.size o
end
end Go.Proofs.Ytnofddbfogilaaa.base
/- Layer 7: numbers as bytes: put behind bytes of the call's own. -/
namespace Go.Proofs.Ytnofddbfogilaaa.octA
set_option maxHeartbeats 400000
set_option maxRecDepth 100000
open Go.ChangeShapes Go.WideShapes Go.ChangeAt Go.RowKit
open base
set_option linter.unusedVariables false
theorem info_u8:(Try.prog.info? 5).map (fun i=>(i.zero,i.size,i.bytes))=some (some (.int .u8 0),1,1):=by kernel_rfl
def hs (s:Int):Nat:=(min (max s 0) 8).toNat
theorem hs_le (s:Int):hs s≤8:=by unfold hs; omega
theorem held_any (s:Int) (w:World) :
  Calls Try.prog 80 #[.int .i64 s] w fun e w'=>e=.returned (.int .i64 (hs s))∧w=w':=by
 rcases Int.lt_or_le s 0 with h | h
 ·have hv:((hs s:Nat):Int)=0:=by unfold hs; omega
  rw [hv]; clear hv
  have e1:max s 0=0:=by omega
  have e2:min (0:Int) 8=0:=by omega
  go_enter Try.func80,Try.ntmps80
  go_wp2
  go_ret
  exact ⟨rfl,rfl⟩
 ·rcases Int.lt_or_le 8 s with h2 | h2
  ·have hv:((hs s:Nat):Int)=8:=by unfold hs; omega
   rw [hv]; clear hv
   have e1:max s 0=s:=by omega
   have e2:min s 8=8:=by omega
   go_enter Try.func80,Try.ntmps80
   go_wp2
   go_ret
   exact ⟨rfl,rfl⟩
  ·have hv:((hs s:Nat):Int)=s:=by unfold hs; omega
   rw [hv]; clear hv
   have e1:max s 0=s:=by omega
   have e2:min s 8=s:=by omega
   go_enter Try.func80,Try.ntmps80
   go_wp2
   go_ret
   exact ⟨rfl,rfl⟩
def byteZ (n:Int) (i:Nat):Int:=n / 2 ^ (8*i) % 256
theorem byteZ_in (n:Int) (i:Nat):0≤byteZ n i∧byteZ n i≤255:=by unfold byteZ; omega
def pb (n:Int) (k j:Nat):List Int:=(List.range j).map fun t=>byteZ n (k - 1 - t)
theorem pb_len (n:Int) (k j:Nat):(pb n k j).length=j:=by simp [pb]
theorem pb_snoc (n:Int) (k j:Nat):pb n k (j+1)=pb n k j++[byteZ n (k - 1 - j)]:=by simp [pb,List.range_succ]
def PutPost (base B:Nat) (a:World) (m k:Nat) (xs:List Value) (ys:List Int) (e:Ending) (w':World):Prop :=
 ∃ v',e=.returned v'∧w'.ownsRow base 5 1 v' (m+k) (xs++ys.map (.int .u8))∧Below B a w'∧base≤w'.heap.size
theorem put_any (v:Value) (m:Nat) (xs:List Value) (n s:Int) (base B:Nat) (a w:World) (hown:w.ownsRow base 5 1 v m xs) (hbase:base≤w.heap.size) (hm:m≤1000000) (hbel:Below B a w) (hB:B≤base) (n0:0≤n) (n1:n<18446744073709551616) :
  Calls Try.prog 58 #[v,.int .u64 n,.int .i64 s] w (PutPost base B a m (hs s) xs (pb n (hs s) (hs s))):=by
 obtain ⟨i0,hi0,hz0,hz1,hz2⟩:=info_parts info_u8
 have HI0:=Lib.hid hi0
 have HZ0:=Lib.hid hz0
 have HZ1:=Lib.hid hz1
 have HZ2:=Lib.hid hz2
 have HOwn0:=Lib.hid hown
 have HBel0:=Lib.hid hbel
 have hk8:=hs_le s
 have HH:=Lib.hid (fun w=>held_any s w)
 clear hi0 hz0 hz1 hz2 hown hbel
 generalize hs s=k at *
 go_enter Try.func58,Try.ntmps58
 go_wp2_with fail
 refine (HH.out _).mono ?_
 rintro e w' ⟨rfl,rfl⟩
 go_wp2_with fail
 go_loopw [0,7] (fun out i wr=>∃ (j:Nat),j≤k∧i=.int .i64 ((k:Int) - 1 - j)∧wr.ownsRow base 5 1 out (m+j) (xs++(pb n k j).map (.int .u8))∧Below B a wr∧base≤wr.heap.size) (fun _ i _=>(intOf i+1).toNat)
 case atStart=>exact ⟨0,by omega,by simp,by simpa [pb] using HOwn0.out,HBel0.out,hbase⟩
 case round =>
  obtain ⟨j,hj,rfl,hown,hbel,hbs⟩:=hrel
  obtain ⟨A3,c3,rfl⟩:=own_slice hown
  have HOwn:=Lib.hid hown
  have HBel:=Lib.hid hbel
  by_cases hlt:j<k
  ·obtain ⟨q,hq⟩:∃ q:Nat,k=j+q+1:=⟨k - j - 1,by omega⟩
   have e1:(k:Int) - 1 - j=(q:Int):=by omega
   have hsn:=pb_snoc n k j
   rw [show k - 1 - j=q by omega] at hsn
   have HSN:=Lib.hid hsn
   have hq8:(q:Int)≤7:=by omega
   have hq9:q≤7:=by omega
   have HQ:=Lib.hid hq
   have hdiv:0≤n / 2 ^ (8*q):=Int.ediv_nonneg n0 (Int.le_of_lt (Int.pow_pos (by decide)))
   have hby:IntKind.u8.wrap (n / 2 ^ (8*q))=byteZ n q:=by rw [IntKind.wrap_u8']; rfl
   have hb1:=byteZ_in n q
   rw [e1]
   have hnx:(q:Int) - 1=(k:Int) - 1 - ((j+1:Nat):Int):=by omega
   have HNX:=Lib.hid hnx
   clear hown hbel e1 hsn hq hnx
   go_wp2_with (at_builtin; refine wpList_append_own _ rfl (.tmp 15) (.tmp 21) _ rfl base 5 i0 _ 1 1 Try.underlying47 HI0.out HZ0.out HZ1.out HZ2.out rfl (by omega) _ (m+j) _ rfl (HOwn.out.alloc _) ⟨wr.heap.size,0,none⟩ 1 1 [.int .u8 (byteZ n q)] rfl rfl (one_new _ _ _) (by simp [Value.oneCell']) (by unfold maxLen; omega) (by omega) (by simp; omega) ?_; intro v1 w1 hown1 hg1 _; have HO1:=Lib.hid hown1; have HG1:=Lib.hid hg1; clear hown1 hg1)
   go_roundw
   case rel =>
    refine ⟨j+1,by omega,congrArg (Value.int .i64) HNX.out,?_,below_grown (HBel.out.alloc (by omega) _) (HOwn.out.alloc _) hB (by simp; omega) HG1.out,by have:=HG1.out.size; simp at this; omega⟩
    rw [HSN.out,List.map_append,← List.append_assoc]
    exact HO1.out
   case measure=>first | (simp [intOf]; done) | (simp [intOf]; omega)
  ·obtain rfl:j=k:=by omega
   clear hown hbel
   go_wp2_with fail
   go_ret
   exact ⟨_,rfl,HOwn.out,HBel.out,hbs⟩
end Go.Proofs.Ytnofddbfogilaaa.octA
namespace Go.Proofs.Ytnofddbfogilaaa.base
end Go.Proofs.Ytnofddbfogilaaa.base
/- Layer 7: all numbers of a list; the number at a place. -/
namespace Go.Proofs.Ytnofddbfogilaaa.octB
set_option maxHeartbeats 400000
set_option maxRecDepth 100000
open Go.ChangeShapes Go.WideShapes Go.ChangeAt Go.RowKit
open base octA
set_option linter.unusedVariables false
def allb (k:Nat) (l:List Int):List Int:=l.flatMap fun n=>pb n k k
theorem allb_snoc (k:Nat) (l:List Int) (n:Int):allb k (l++[n])=allb k l++pb n k k:=by simp [allb]
theorem allb_len (k:Nat) (l:List Int):(allb k l).length=k*l.length:=by
 induction l with
 | nil=>simp [allb]
 | cons n l ih =>
  have:allb k (n::l)=pb n k k++allb k l:=by simp [allb]
  rw [this,List.length_append,pb_len,ih,List.length_cons,Nat.mul_succ]; omega
theorem take_snoc (l:List Int) (k:Nat) (h:k<l.length):l.take (k+1)=l.take k++[l[k]]:=List.take_succ_eq_append_getElem h
theorem all_any (v:Value) (m:Nat) (xs:List Value) (s:Int) (A:Option Addr) (n c:Nat) (l:List Int) (base B:Nat) (a w:World) (hown:w.ownsRow base 5 1 v m xs) (hbase:base≤w.heap.size) (hm:m+8*n≤1000000) (hbel:Below B a w) (hB:B≤base)
  (hl:l.length=n) (hr:Row a B A (l.map (.int .u64))) (hw:∀ x ∈ l,0≤x∧x<18446744073709551616) :
  Calls Try.prog 57 #[v,.int .i64 s,.slice A n c] w (PutPost base B a m (hs s*n) xs (allb (hs s) l)):=by
 have HR:=Lib.hid hr
 have HN:=Lib.hid hl
 have HW:=Lib.hid hw
 have HOwn0:=Lib.hid hown
 have HBel0:=Lib.hid hbel
 have hk8:=hs_le s
 have hkn:hs s*n≤8*n:=Nat.mul_le_mul_right n hk8
 clear hr hl hw hown hbel
 go_enter Try.func57,Try.ntmps57
 go_wp2_with fail
 go_loopw [0,11] (fun out i wr=>∃ (j:Nat),j≤n∧i=.int .i64 j∧wr.ownsRow base 5 1 out (m+hs s*j) (xs++(allb (hs s) (l.take j)).map (.int .u8))∧Below B a wr∧base≤wr.heap.size) (fun _ i _=>n - (intOf i).toNat)
 case atStart=>exact ⟨0,by omega,rfl,by simpa [allb] using HOwn0.out,HBel0.out,hbase⟩
 case round =>
  obtain ⟨j,hj,rfl,hown,hbel,hbs⟩:=hrel
  have HOwn:=Lib.hid hown
  have HBel:=Lib.hid hbel
  by_cases hlt:j<n
  ·have hkl:j<l.length:=by rw [HN.out]; exact hlt
   obtain ⟨b,off,rfl,hbl,hc⟩:=(HR.out.below hbel).at_ (by intro h; simp at h; rw [h] at hkl; simp at hkl)
   have hcell:wr.cell? ⟨b,off+j,none⟩=some (.int .u64 (l[j])):=hc j _ (by simp [hkl])
   have hx:=HW.out l[j] (List.getElem_mem hkl)
   have hsn:allb (hs s) (l.take (j+1))=allb (hs s) (l.take j)++pb l[j] (hs s) (hs s):=by rw [take_snoc l j hkl,allb_snoc]
   have HSN:=Lib.hid hsn
   have hmj:hs s*j≤8*j:=Nat.mul_le_mul_right j hk8
   have hmj2:m+hs s*j≤1000000:=by omega
   clear hown hbel hc hsn hmj
   generalize l[j]=x at *
   obtain ⟨x0,x1⟩:=hx
   go_wp2_with fail
   refine (put_any _ _ _ x s base B a _ HOwn.out hbs hmj2 HBel.out hB x0 x1).mono ?_
   rintro e w1 ⟨v1,rfl,hown1,hbel1,hbs1⟩
   have HO1:=Lib.hid hown1
   have HB1:=Lib.hid hbel1
   clear hown1 hbel1
   go_wp2_with fail
   go_roundw
   case rel =>
    refine ⟨j+1,by omega,by go_num,?_,HB1.out,hbs1⟩
    ·rw [HSN.out,List.map_append,← List.append_assoc,Nat.mul_succ,← Nat.add_assoc]
     exact HO1.out
   case measure=>simp [intOf]; omega
  ·obtain rfl:j=n:=by omega
   have hz:l.take j=l:=List.take_of_length_le (by rw [HN.out]; omega)
   rw [hz] at HOwn
   clear hown hbel hz
   go_wp2_with fail
   go_ret
   exact ⟨_,rfl,HOwn.out,HBel.out,hbs⟩
def atN (l:List Int) (f:Nat):Nat→Int
 | 0=>0
 | k+1=>atN l f k*256+l.getD (f+k) 0
theorem getD_in (l:List Int) (h:∀ x ∈ l,0≤x∧x≤255) (i:Nat):0≤l.getD i 0∧l.getD i 0≤255:=by
 rw [List.getD_eq_getElem?_getD]
 cases hi:l[i]? with
 | none=>simp
 | some x=>exact h x (List.mem_of_getElem? hi)
theorem atN_in (l:List Int) (f:Nat) (h:∀ x ∈ l,0≤x∧x≤255) (k:Nat):0≤atN l f k∧atN l f k<256 ^ k:=by
 induction k with
 | zero=>simp [atN]
 | succ k ih =>
  have:=getD_in l h (f+k)
  rw [atN,Int.pow_succ]
  omega
theorem pow256 (k:Nat) (h:k≤7):(256:Int) ^ k*256≤18446744073709551616:=by
 have h1:256 ^ k≤72057594037927936:=Nat.le_trans (Nat.pow_le_pow_right (n:=256) (by omega) h) (by decide)
 have e2:((256 ^ k:Nat):Int)=(256:Int) ^ k:=by rw [Int.natCast_pow]; rfl
 rw [← e2]
 omega
theorem or_add (a b:Nat) (hb:b<256) (ha:a*256+b<18446744073709551616):bits .or .u64 ((a:Int)*256) (b:Int)=(a:Int)*256+b:=by
 have h:=u64_or_nat (a*256) b (by omega) (by omega)
 rw [show ((a*256:Nat):Int)=(a:Int)*256 by omega] at h
 rw [h]
 have e:a*256 ||| b=a*256+b:=by
  have:=Nat.two_pow_add_eq_or_of_lt (i:=8) (b:=b) (by omega) a
  rw [Nat.mul_comm a 256]
  exact this.symm
 rw [e]; omega
def atZ (l:List Int) (f s:Int):Int:=if f<0 then 0 else atN l f.toNat (hs s)
theorem slice_from {A:Option Addr} {w:World} {B:Nat} {l:List Int} (h:Row w B A (l.map (.int .u8))) (f:Nat) (hf:f<l.length):∃ b off,A=some ⟨b,off,none⟩∧b<B∧∀ i,i<l.length→w.cell? ⟨b,off+i,none⟩=some (.int .u8 (l.getD i 0)):=by
 obtain ⟨b,off,rfl,hb,hc⟩:=h.at_ (by intro e; have e2:=congrArg List.length e; simp at e2; rw [e2] at hf; simp at hf)
 refine ⟨b,off,rfl,hb,fun i hi=>hc i _ ?_⟩
 rw [List.getElem?_map,List.getD_eq_getElem?_getD,List.getElem?_eq_getElem hi]
 rfl
end Go.Proofs.Ytnofddbfogilaaa.octB
/- Layer 7: the number at a place. -/
namespace Go.Proofs.Ytnofddbfogilaaa.octC
set_option maxHeartbeats 400000
set_option maxRecDepth 100000
open Go.ChangeShapes Go.WideShapes Go.ChangeAt Go.RowKit
open base octA octB
set_option linter.unusedVariables false
def zr (j:Nat):Int:=0
theorem atN_none (l:List Int) (f:Nat) (h:l.length≤f) (k:Nat):atN l f k=0:=by
 induction k with
 | zero=>rfl
 | succ k ih=>rw [atN,ih,List.getD_eq_getElem?_getD,List.getElem?_eq_none (by omega)]; rfl
theorem at_any (A:Option Addr) (n c:Nat) (l:List Int) (f s:Int) (w:World) (hl:l.length=n) (hn:n≤1000000) (hc:n≤c) (hcm:c≤9223372036854775807) (hz:A=none→c=0) (hr:Row w w.heap.size A (l.map (.int .u8))) (hb:∀ x ∈ l,0≤x∧x≤255) (f1:f<9223372036854775808) :
  Calls Try.prog 64 #[.slice A n c,.int .i64 f,.int .i64 s] w fun e w'=>e=.returned (.int .u64 (atZ l f s))∧w=w':=by
 by_cases hf:f<0
 ·have hv:atZ l f s=0:=by simp [atZ,hf]
  rw [hv]; clear hv hr hz hb
  go_enter Try.func64,Try.ntmps64
  go_wp2
  go_ret
  exact ⟨rfl,rfl⟩
 obtain ⟨q,rfl⟩:=Int.eq_ofNat_of_zero_le (by omega:0≤f)
 have hv:atZ l (q:Int) s=atN l q (hs s):=by unfold atZ; rw [if_neg (by omega),Int.toNat_natCast]
 rw [hv]
 have HH:=Lib.hid (fun w=>held_any s w)
 have hk8:=hs_le s
 have HB:=Lib.hid hb
 have HN:=Lib.hid hl
 have HR:=Lib.hid hr
 clear hv hb hl hr hf f1
 generalize hs s=k at *
 by_cases hq:q<n
 ·have hql:q<l.length:=by rw [HN.out]; exact hq
  obtain ⟨b,off,rfl,hbl,hcc⟩:=slice_from HR.out q hql
  have HC:=Lib.hid hcc
  have e1:min q n=q:=by omega
  have hqc:¬ c=q:=by omega
  clear hcc hz
  go_enter Try.func64,Try.ntmps64
  go_wp2_with fail
  refine (HH.out _).mono ?_
  rintro e w' ⟨rfl,rfl⟩
  go_wp2_with fail
  go_loop [8,20] (fun x i=>∃ j:Nat,j≤k∧i=.int .i64 j∧x=.int .u64 (atN l q j)) (fun _ i=>k - (intOf i).toNat)
  case atStart=>exact ⟨0,by omega,rfl,rfl⟩
  case round =>
   obtain ⟨j,hj,rfl,rfl⟩:=hrel
   by_cases hlt:j<k
   ·have hin:=atN_in l q HB.out j
    have hp:=pow256 j (by omega)
    have hst:atN l q (j+1)=atN l q j*256+l.getD (q+j) 0:=rfl
    have hg:=getD_in l HB.out (q+j)
    obtain ⟨z,hz⟩:=Int.eq_ofNat_of_zero_le hin.1
    have hz2:(z:Int)*256+255<18446744073709551616:=by rw [← hz]; omega
    rw [hz] at hst ⊢
    clear hin hp hz
    by_cases hin2:q+j<n
    ·have hcell:=HC.out (q+j) (by rw [HN.out]; exact hin2)
     obtain ⟨y,hy⟩:=Int.eq_ofNat_of_zero_le hg.1
     rw [hy] at hst hcell hg
     have hor:=or_add z y (by omega) (by omega)
     have e3:IntKind.u64.wrap ((z:Int)*256)=(z:Int)*256:=by rw [IntKind.wrap_u64]; omega
     have e4:IntKind.u64.wrap (y:Int)=(y:Int):=by rw [IntKind.wrap_u64]; omega
     have HST:=Lib.hid hst
     have hlen:(j:Int)<((n - q:Nat):Int):=by omega
     have hlen2:j<n - q:=by omega
     have e5:off+q+j=off+(q+j):=by omega
     clear hst hy
     go_wp2_with fail
     go_round
     case rel=>exact ⟨j+1,by omega,by go_num,by rw [HST.out]⟩
     case measure=>simp [intOf]; omega
    ·have hg0:l.getD (q+j) 0=0:=by rw [List.getD_eq_getElem?_getD,List.getElem?_eq_none (by rw [HN.out]; omega)]; rfl
     rw [hg0,Int.add_zero] at hst
     have e3:IntKind.u64.wrap ((z:Int)*256)=(z:Int)*256:=by rw [IntKind.wrap_u64]; omega
     have HST:=Lib.hid hst
     have hlen:¬ (j<n - q):=by omega
     have hlen2:decide (j<n - q)=false:=by simp; omega
     clear hst hg hg0
     go_wp2_with fail
     go_round
     case rel=>exact ⟨j+1,by omega,by go_num,by rw [HST.out]⟩
     case measure=>simp [intOf]; omega
   ·obtain rfl:j=k:=by omega
    go_wp2_with fail
    go_ret
    exact ⟨rfl,rfl⟩
 ·have hq0:=atN_none l q (by rw [HN.out]; omega) k
  rw [hq0]
  have hnone:A=none→n=0∧c=0:=fun h=>by have:=hz h; omega
  clear hq0 HR hz HB
  have loop0:IntKind.u64.wrap 0=0:=by decide
  have hqn:n=q∨n<q:=by omega
  clear hq
  rcases hqn with hqn | hqn
  all_goals
   (try have e1:min q n=n:=by omega)
   (try subst hqn)
   cases A with
   | none =>
    obtain ⟨rfl,rfl⟩:=hnone rfl
    clear hnone HN
    go_enter Try.func64,Try.ntmps64
    go_wp2_with fail
    refine (HH.out _).mono ?_
    rintro e w' ⟨rfl,rfl⟩
    go_wp2_with fail
    go_loop [8,20] (fun y i=>∃ j:Nat,j≤k∧i=.int .i64 j∧y=.int .u64 (zr j)) (fun _ i=>k - (intOf i).toNat)
    case atStart=>exact ⟨0,by omega,rfl,rfl⟩
    case round =>
     obtain ⟨j,hj,rfl,rfl⟩:=hrel
     rw [show zr j=0 from rfl]
     by_cases hlt:j<k
     ·go_wp2_with fail
      go_round
      case rel=>exact ⟨j+1,by omega,by go_num,rfl⟩
      case measure=>simp [intOf]; omega
     ·go_wp2_with fail
      go_ret
      exact ⟨rfl,rfl⟩
   | some x =>
    have hcn:c=n∨¬ c=n:=by omega
    clear hnone HN
    rcases hcn with rfl | hcn
    all_goals
     go_enter Try.func64,Try.ntmps64
     go_wp2_with fail
     refine (HH.out _).mono ?_
     rintro e w' ⟨rfl,rfl⟩
     go_wp2_with fail
     go_loop [8,20] (fun y i=>∃ j:Nat,j≤k∧i=.int .i64 j∧y=.int .u64 (zr j)) (fun _ i=>k - (intOf i).toNat)
     case atStart=>exact ⟨0,by omega,rfl,rfl⟩
     case round =>
      obtain ⟨j,hj,rfl,rfl⟩:=hrel
      rw [show zr j=0 from rfl]
      by_cases hlt:j<k
      ·go_wp2_with fail
       go_round
       case rel=>exact ⟨j+1,by omega,by go_num,rfl⟩
       case measure=>simp [intOf]; omega
      ·go_wp2_with fail
       go_ret
       exact ⟨rfl,rfl⟩
end Go.Proofs.Ytnofddbfogilaaa.octC
/- Layer 7: a reader of bytes. -/
namespace Go.Proofs.Ytnofddbfogilaaa.rdrA
open Go.ChangeShapes Go.WideShapes Go.ChangeAt Go.RowKit
open base octA octB
set_option linter.unusedVariables false
def Lies (w:World) (b off:Nat) (l:List Int):Prop:=∀ i,i<l.length→w.cell? ⟨b,off+i,none⟩=some (.int .u8 (l.getD i 0))
def Rdr (w:World) (B g:Nat) (l:List Int):Prop :=
 ∃ b off c,Blk w g 145 #[.slice (some ⟨b,off,none⟩) l.length c,.int .i64 0]∧b<B∧Lies w b off l∧l.length≤c∧c≤9223372036854775807
theorem Lies.take {w:World} {b off:Nat} {l:List Int} (h:Lies w b off l) (k:Nat):Lies w b off (l.take k):=fun i hi=>by
 rw [List.length_take] at hi
 rw [h i (by omega),List.getD_eq_getElem?_getD,List.getD_eq_getElem?_getD,List.getElem?_take,if_pos (by omega)]
theorem Lies.drop {w:World} {b off:Nat} {l:List Int} (h:Lies w b off l) (k:Nat):Lies w b (off+k) (l.drop k):=fun i hi=>by
 rw [List.length_drop] at hi
 rw [Nat.add_assoc,h (k+i) (by omega),List.getD_eq_getElem?_getD,List.getD_eq_getElem?_getD,List.getElem?_drop]
theorem Lies.below {w w':World} {B b off:Nat} {l:List Int} (h:Lies w b off l) (hb:Below B w w') (hlt:b<B):Lies w' b off l:=fun i hi=>(hb.cell (p:=⟨b,off+i,none⟩) hlt).trans (h i hi)
theorem Lies.row {w:World} {B b off:Nat} {l:List Int} (h:Lies w b off l) (hb:b<B):Row w B (some ⟨b,off,none⟩) (l.map (.int .u8)):=by
 refine .inr ⟨b,off,rfl,hb,fun i u hu=>?_⟩
 rw [List.getElem?_map] at hu
 have hi:i<l.length:=by
  rcases Nat.lt_or_ge i l.length with h | h
  ·exact h
  ·rw [List.getElem?_eq_none h] at hu; cases hu
 rw [h i hi]
 rw [List.getElem?_eq_getElem hi] at hu
 rw [List.getD_eq_getElem?_getD,List.getElem?_eq_getElem hi]
 simpa using hu
theorem lies_of {w:World} {B:Nat} {A:Option Addr} {l:List Int} (h:Row w B A (l.map (.int .u8))) (h0:0<l.length):∃ b off,A=some ⟨b,off,none⟩∧b<B∧Lies w b off l:=slice_from h 0 h0
theorem Rdr.below {w w':World} {B g B':Nat} {l:List Int} (h:Rdr w B g l) (hb:Below B' w w') (hB:B≤B') (hg:g<B'):Rdr w' B g l:=by
 obtain ⟨b,off,c,h1,h2,h3,h4,h5⟩:=h
 exact ⟨b,off,c,h1.below hb hg,h2,h3.below hb (by omega),h4,h5⟩
theorem Rdr.lt {w:World} {B g:Nat} {l:List Int} (h:Rdr w B g l):g<w.heap.size:=by
 obtain ⟨b,off,c,h1,_⟩:=h
 exact h1.lt
def Only (g:Nat) (w w':World):Prop:=∃ v,w'=w.setCell ⟨g,0,none⟩ v
section
variable {g:Nat} {w w':World}
theorem Only.below (h:Only g w w') {B:Nat} (hB:B≤g):Below B w w':=by
 obtain ⟨v,rfl⟩:=h
 exact (Below.refl B w).setCell (p:=⟨g,0,none⟩) hB v
theorem Only.size (h:Only g w w'):w'.heap.size=w.heap.size:=by
 obtain ⟨v,rfl⟩:=h
 simp
theorem Only.blk (h:Only g w w') {x:Nat} {t:TypeId} {cs:Array Value} (hb:Blk w x t cs) (hx:x≠g):Blk w' x t cs:=by
 obtain ⟨v,rfl⟩:=h
 exact hb.far (p:=⟨g,0,none⟩) hx v
theorem Only.from (h:Only g w w') {B:Nat} {a:World} (hb:Below B a w) (hB:B≤g):Below B a w':=by
 obtain ⟨v,rfl⟩:=h
 exact hb.setCell (p:=⟨g,0,none⟩) hB v
end
theorem own_far {w:World} {base:Nat} {e:TypeId} {v:Value} {n:Nat} {xs:List Value} (h:w.ownsRow base e 1 v n xs) (p:Addr) (hp:p.block<base) (u:Value):(w.setCell p u).ownsRow base e 1 v n xs:=by
 refine ⟨h.1,?_⟩
 rcases h.2 with hn | ⟨g,cap,cur,rfl,hb,hgg,rest⟩
 ·exact .inl hn
 ·exact .inr ⟨g,cap,cur,rfl,hb,(Below.heap_setCell w p u g (by omega)).trans hgg,rest⟩
theorem own_base {w:World} {base base':Nat} {e:TypeId} {v:Value} {n:Nat} {xs:List Value} (h:w.ownsRow base e 1 v n xs) (hb:base'≤base):w.ownsRow base' e 1 v n xs:=by
 refine ⟨h.1,?_⟩
 rcases h.2 with hn | ⟨g,cap,cur,rfl,hg,rest⟩
 ·exact .inl hn
 ·exact .inr ⟨g,cap,cur,rfl,by omega,rest⟩
def RawPost (w:World) (B g:Nat) (l:List Int) (k:Nat) (e:Ending) (w':World):Prop :=
 ∃ b off,e=.returned (.slice (some ⟨b,off,none⟩) k k)∧b<B∧Lies w' b off (l.take k)∧Rdr w' B g (l.drop k)∧Only g w w'
theorem raw_any (B g k:Nat) (l:List Int) (w:World) (hB:B≤g) (h:Rdr w B g l) (hk:k≤l.length) :
  Calls Try.prog 95 #[.pointer (some ⟨g,0,none⟩),.int .i64 k] w (RawPost w B g l k):=by
 obtain ⟨b,off,c,hblk,hb,hlies,hlc,hc⟩:=h
 have hd:(l.drop k).length=l.length - k:=List.length_drop
 have c0:w.cell? ⟨g,0,none⟩=some (.slice (some ⟨b,off,none⟩) l.length c):=by rw [hblk.cell 0]; rfl
 have f0:w.frozen? ⟨g,0,none⟩=false:=hblk.frozen 0
 have HBLK:=Lib.hid hblk
 have HL:=Lib.hid hlies
 have HD:=Lib.hid hd
 clear hblk hlies hd
 generalize hn:l.length=n at *
 have HN:=Lib.hid hn
 clear hn
 have hbel:∀ v,Below g w (w.setCell ⟨g,0,none⟩ v):=fun v=>(Below.refl g w).setCell (p:=⟨g,0,none⟩) (Nat.le_refl g) v
 have HBEL:=Lib.hid hbel
 clear hbel
 by_cases hck:c=k
 ·subst hck
  have hnc:n=c:=by omega
  go_enter Try.func95,Try.ntmps95
  go_wp2_with fail
  go_ret
  refine ⟨b,off,rfl,hb,(HL.out.below (HBEL.out _) (by omega)).take _,⟨b,off,0,?_,hb,fun i hi=>?_,?_,?_⟩,⟨_,rfl⟩⟩
  ·rw [HD.out,hnc,Nat.sub_self]; exact (HBLK.out.set_ 0 _)
  ·rw [HD.out] at hi; omega
  ·rw [HD.out]; omega
  ·omega
 ·go_enter Try.func95,Try.ntmps95
  go_wp2_with fail
  go_ret
  refine ⟨b,off,rfl,hb,(HL.out.below (HBEL.out _) (by omega)).take _,⟨b,off+k,c - k,?_,hb,(HL.out.below (HBEL.out _) (by omega)).drop k,?_,?_⟩,⟨_,rfl⟩⟩
  ·rw [HD.out]; exact (HBLK.out.set_ 0 _)
  ·rw [HD.out]; omega
  ·omega
def NumPost (w:World) (B g:Nat) (l:List Int) (k:Nat) (e:Ending) (w':World):Prop :=
 e=.returned (.int .u64 (atN l 0 k))∧Rdr w' B g (l.drop k)∧Only g w w'
theorem num_any (B g k:Nat) (l:List Int) (w:World) (hB:B≤g) (h:Rdr w B g l) (hk:k≤l.length) (hk8:k≤8) (hb:∀ x ∈ l,0≤x∧x≤255) :
  Calls Try.prog 83 #[.pointer (some ⟨g,0,none⟩),.int .i64 k] w (NumPost w B g l k):=by
 have HR:=Lib.hid (raw_any B g k l w hB h hk)
 have HIN:=Lib.hid (show ∀ j,0≤atN l 0 j∧atN l 0 j<256 ^ j from fun j=>atN_in l 0 hb j)
 have HG:=Lib.hid (show ∀ j,0≤l.getD j 0∧l.getD j 0≤255 from fun j=>getD_in l hb j)
 have HTL:=Lib.hid (show (l.take k).length=k by rw [List.length_take]; omega)
 clear h hb hk
 go_enter Try.func83,Try.ntmps83
 go_wp2_with fail
 refine HR.out.mono ?_
 rintro e w1 ⟨b,off,rfl,hbB,hlies,hrdr,hbel⟩
 have HL:=Lib.hid hlies
 have HRD:=Lib.hid hrdr
 have HBE:=Lib.hid hbel
 clear hlies hrdr hbel
 go_wp2_with fail
 go_loop [5,7,12] (fun x _ i=>∃ j:Nat,j≤k∧i=.int .i64 j∧x=.int .u64 (atN l 0 j)) (fun _ _ i=>k - (intOf i).toNat)
 case atStart=>exact ⟨0,by omega,rfl,rfl⟩
 case round =>
  obtain ⟨j,hj,rfl,rfl⟩:=hrel
  by_cases hlt:j<k
  ·have hin:=HIN.out j
   have hp:=pow256 j (by omega)
   have hst:atN l 0 (j+1)=atN l 0 j*256+l.getD (0+j) 0:=rfl
   rw [Nat.zero_add] at hst
   have hg:=HG.out j
   obtain ⟨z,hz⟩:=Int.eq_ofNat_of_zero_le hin.1
   have hz2:(z:Int)*256+255<18446744073709551616:=by rw [← hz]; omega
   rw [hz] at hst ⊢
   clear hin hp hz
   have hcell:=HL.out j (by rw [HTL.out]; exact hlt)
   rw [List.getD_eq_getElem?_getD,List.getElem?_take,if_pos hlt,← List.getD_eq_getElem?_getD] at hcell
   obtain ⟨y,hy⟩:=Int.eq_ofNat_of_zero_le hg.1
   rw [hy] at hst hcell hg
   have hor:=or_add z y (by omega) (by omega)
   have e3:IntKind.u64.wrap ((z:Int)*256)=(z:Int)*256:=by rw [IntKind.wrap_u64]; omega
   have e4:IntKind.u64.wrap (y:Int)=(y:Int):=by rw [IntKind.wrap_u64]; omega
   have HST:=Lib.hid hst
   clear hst hy
   go_wp2_with fail
   go_round
   case rel=>exact ⟨j+1,by omega,by go_num,by rw [HST.out]⟩
   case measure=>simp [intOf]; omega
  ·obtain rfl:k=j:=by omega
   generalize hg:atN l 0 k=z at *
   have HZ:=Lib.hid hg
   clear hg
   go_wp2_with fail
   go_ret
   refine ⟨?_,HRD.out,HBE.out⟩
   rw [HZ.out]
   rfl
theorem read_any (b off c:Nat) (l:List Int) (w:World) :
  Calls Try.prog 82 #[.slice (some ⟨b,off,none⟩) l.length c] w fun e w'=>e=.returned (.pointer (some ⟨w.heap.size,0,none⟩))∧w'=w.alloc (.cells #[.slice (some ⟨b,off,none⟩) l.length c,.int .i64 0] 145):=by
 generalize l.length=n
 go_enter Try.func82,Try.ntmps82
 go_wp2
 go_ret
 exact ⟨rfl,rfl⟩
def ReadPost (w:World) (B:Nat) (l:List Int) (e:Ending) (w':World):Prop :=
 e=.returned (.pointer (some ⟨w.heap.size,0,none⟩))∧Rdr w' B w.heap.size l∧Below w.heap.size w w'∧w'.heap.size=w.heap.size+1
theorem read_rdr (b off n c B:Nat) (l:List Int) (w:World) (hl:l.length=n) (hnc:n≤c) (hc:c≤9223372036854775807) (hb:b<B) (hB:B≤w.heap.size) (hs:Lies w b off l) :
  Calls Try.prog 82 #[.slice (some ⟨b,off,none⟩) n c] w (ReadPost w B l):=by
 subst hl
 refine (read_any b off c l w).mono ?_
 rintro e w' ⟨rfl,rfl⟩
 refine ⟨rfl,⟨b,off,c,Blk.new _ _ _,hb,hs.below ((Below.refl _ _).alloc (Nat.le_refl _) _) (by omega),hnc,hc⟩,(Below.refl _ _).alloc (Nat.le_refl _) _,by simp⟩
end Go.Proofs.Ytnofddbfogilaaa.rdrA
namespace Go.Proofs.Ytnofddbfogilaaa.octD
end Go.Proofs.Ytnofddbfogilaaa.octD
