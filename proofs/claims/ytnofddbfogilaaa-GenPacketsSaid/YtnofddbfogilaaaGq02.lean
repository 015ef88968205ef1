/- 5 texts in one. -/
import Derived.Deep.QuietTactic
import Derived.BigQuiet
import Derived.Laws.CopyOwn
import Derived.Deep.RegionLaw
import Derived.Lib.SliceRun
import Derived.Deep.RegionHeld3
import Derived.Test.YtnofddbfogilaaaGq01
/- Layer 7: the law on numbers put. -/
namespace Go.Proofs.Ytnofddbfogilaaa.octE
open Go.ChangeShapes Go.WideShapes Go.ChangeAt Go.RowKit
open octA octB
set_option linter.unusedVariables false
theorem getD_app (a b:List Int) (i:Nat) (h:i<a.length):(a++b).getD i 0=a.getD i 0:=by
 rw [List.getD_eq_getElem?_getD,List.getElem?_append_left h,← List.getD_eq_getElem?_getD]
theorem getD_app2 (a b:List Int) (i:Nat):(a++b).getD (a.length+i) 0=b.getD i 0:=by
 rw [List.getD_eq_getElem?_getD,List.getElem?_append_right (by omega),Nat.add_sub_cancel_left,← List.getD_eq_getElem?_getD]
theorem own_cases {w:World} {base:Nat} {e:TypeId} {v:Value} {n:Nat} {xs:List Value} (h:w.ownsRow base e 1 v n xs) :
  (v=.slice none 0 0∧n=0)∨∃ g cap,v=.slice (some ⟨g,0,none⟩) n cap∧n≤cap∧cap≤maxLen:=by
 rcases h.2 with ⟨rfl,h0⟩ | ⟨g,cap,cur,rfl,hb,hg,hnc,hm,hsz,htake⟩
 ·exact .inl ⟨rfl,h0⟩
 ·exact .inr ⟨g,cap,rfl,hnc,hm⟩
theorem allb_in (k:Nat) (l:List Int):∀ x ∈ allb k l,0≤x∧x≤255:=by
 intro x hx
 simp only [allb,List.mem_flatMap,pb,List.mem_map] at hx
 obtain ⟨n,_,t,_,rfl⟩:=hx
 exact byteZ_in n _
theorem allb_cons (k:Nat) (n:Int) (l:List Int):allb k (n::l)=pb n k k++allb k l:=by simp [allb]
theorem pb_get (n:Int) (k j:Nat) (h:j<k):(pb n k k).getD j 0=byteZ n (k - 1 - j):=by simp [pb,List.getD,h]
theorem allb_get (k:Nat) (l:List Int) (i j:Nat) (hi:i<l.length) (hj:j<k):(allb k l).getD (k*i+j) 0=byteZ (l.getD i 0) (k - 1 - j):=by
 induction l generalizing i with
 | nil=>simp at hi
 | cons n l ih =>
  rw [allb_cons]
  cases i with
  | zero =>
   rw [Nat.mul_zero,Nat.zero_add,getD_app _ _ _ (by rw [pb_len]; exact hj),pb_get n k j hj]
   rfl
  | succ i =>
   have e:k*(i+1)+j=k+(k*i+j):=by rw [Nat.mul_succ]; omega
   have e9:=getD_app2 (pb n k k) (allb k l) (k*i+j)
   rw [pb_len] at e9
   rw [e,e9,ih i (by simpa using hi)]
   rfl
theorem atN_put (bs:List Int) (k:Nat) (l:List Int) (i x:Nat) (hi:i<l.length) (hx:l.getD i 0=(x:Int)) (j:Nat) (hj:j≤k) :
  atN (bs++allb k l) (bs.length+k*i) j=((x / 256 ^ (k - j) % 256 ^ j:Nat):Int):=by
 induction j with
 | zero=>simp [atN,Nat.mod_one]
 | succ j ih =>
  rw [atN,ih (by omega)]
  have e1:bs.length+k*i+j=bs.length+(k*i+j):=by omega
  rw [e1,getD_app2,allb_get k l i j hi (by omega),hx]
  obtain ⟨q,hq⟩:∃ q,k=j+q+1:=⟨k - j - 1,by omega⟩
  have a1:k - j=q+1:=by omega
  have a2:k - (j+1)=q:=by omega
  have a3:k - 1 - j=q:=by omega
  rw [a1,a2,a3]
  have hb:byteZ (x:Int) q=((x / 256 ^ q % 256:Nat):Int):=by
   unfold byteZ
   have e:(2:Int) ^ (8*q)=((256 ^ q:Nat):Int):=by rw [Int.pow_mul,Int.natCast_pow]; rfl
   rw [e,Int.natCast_emod,Int.natCast_ediv]; rfl
  rw [hb,Nat.pow_succ,← Nat.div_div_eq_div_mul]
  generalize x / 256 ^ q=y
  have hm:=Nat.mod_mul (x:=y) (a:=256) (b:=256 ^ j)
  rw [Nat.pow_succ,Nat.mul_comm (256 ^ j) 256,hm]
  generalize y / 256 % 256 ^ j=u
  omega
end Go.Proofs.Ytnofddbfogilaaa.octE
/- Layer 7: bytes with another number in them. -/
namespace Go.Proofs.Ytnofddbfogilaaa.octF
set_option maxHeartbeats 1000000
set_option maxRecDepth 100000
open Go.ChangeShapes Go.WideShapes Go.ChangeAt Go.RowKit
open base octA
set_option linter.unusedVariables false
theorem info1:(Try.prog.info? 5).map (·.size)=some 1:=by kernel_rfl
def ClonePost (w:World) (n:Nat) (l:List Int) (e:Ending) (w':World):Prop :=
 ∃ v',e=.returned v'∧w'.ownsRow w.heap.size 5 1 v' n (l.map (.int .u8))∧Below w.heap.size w w'∧w.heap.size≤w'.heap.size
theorem clone_big (A:Option Addr) (n c:Nat) (l:List Int) (w:World) (hl:l.length=n) (hn:n≤100000) (hz:A=none→c=0) (hr:Row w w.heap.size A (l.map (.int .u8))) :
  Calls Try.prog 67 #[.slice A n c] w (ClonePost w n l):=by
 cases A with
 | none =>
  have h0:=row_none hr
  have hl0:l=[]:=by simpa using h0
  subst hl0
  have hn0:n=0:=by simpa using hl.symm
  subst hn0
  have hc:=hz rfl
  subst hc
  clear hr hz h0 hl
  have q22:∀ (w:World) (a:Option Addr) (n c n' c':Nat),(binOp .eql 47 (.slice a n c) (.slice none n' c')).run Try.prog w=.ok (.bool a.isNone) w:=fun w a n c n' c'=>Lib.run_eql_slice_nil w _ _ a n c n' c' Try.underlying47
  go_enter Try.func67,Try.ntmps67
  go_wp2_with fail
  go_ret
  exact ⟨_,rfl,World.ownsRow_nil _ _ _ _,Below.refl _ _,Nat.le_refl _⟩
 | some ad =>
  obtain ⟨i0,hi0,hz0,hz1,hz2⟩:=info_parts info_u8
  have HI0:=Lib.hid hi0
  have HZ0:=Lib.hid hz0
  have HZ1:=Lib.hid hz1
  have HZ2:=Lib.hid hz2
  have R1:=Lib.hid hr
  have L1:=Lib.hid hl
  have oneC:∀ u ∈ l.map (Value.int .u8),u.oneCell'=true:=by
   intro u hu
   rw [List.mem_map] at hu
   obtain ⟨x,_,rfl⟩:=hu
   rfl
  have ONE:=Lib.hid oneC
  clear hi0 hz0 hz1 hz2 hr hl oneC hz
  have q22:∀ (w:World) (a:Option Addr) (n c n' c':Nat),(binOp .eql 47 (.slice a n c) (.slice none n' c')).run Try.prog w=.ok (.bool a.isNone) w:=fun w a n c n' c'=>Lib.run_eql_slice_nil w _ _ a n c n' c' Try.underlying47
  go_enter Try.func67,Try.ntmps67
  go_wp2_with (at_builtin; refine wpList_append_row rfl (.tmp 5) (.tmp 6) _ rfl w.heap.size 5 i0 _ 1 Try.underlying47 HI0.out HZ0.out HZ1.out HZ2.out rfl (.slice (some ⟨w.heap.size,0,none⟩) 0 0) 0 [] rfl (World.ownsRow_lit w #[] 0 (Nat.le_refl _) (by unfold maxLen; omega) rfl) (some ad) n c w.heap.size (l.map (.int .u8)) rfl (by intro h; cases h) (by simp; exact L1.out) (R1.out.below ((Below.refl _ _).alloc (Nat.le_refl _) _)) ONE.out (by unfold maxLen; omega) (by omega) (by simp) ?_; intro va wa owna ga; have HOa:=Lib.hid owna; have HBa:=Lib.hid (below_grown ((Below.refl _ _).alloc (Nat.le_refl _) _) (World.ownsRow_lit w #[] 0 (Nat.le_refl _) (by unfold maxLen; omega) rfl) (Nat.le_refl _) (by simp) ga); clear owna ga)
  go_ret
  refine ⟨_,rfl,?_,HBa.out,HBa.out.size⟩
  have:=HOa.out
  rwa [Nat.zero_add,List.nil_append] at this
theorem clone_any (A:Option Addr) (n c:Nat) (l:List Int) (w:World) (hl:l.length=n) (hn:n≤1000) (hz:A=none→c=0) (hr:Row w w.heap.size A (l.map (.int .u8))) :
  Calls Try.prog 67 #[.slice A n c] w (ClonePost w n l):=clone_big A n c l w hl (by omega) hz hr
theorem splice_map (l ys:List Int) (q:Nat):splice (l.map (Value.int .u8)) q (ys.map (Value.int .u8))=(splice l q ys).map (Value.int .u8):=by
 simp [splice,List.map_take,List.map_drop]
theorem splice_take {α:Type} (cl cs:List α) (q n:Nat) (h:q+cs.length≤n) (hn:n≤cl.length):(splice cl q cs).take n=splice (cl.take n) q cs:=by
 have a1:(cl.take q).length=q:=by rw [List.length_take]; omega
 unfold splice
 rw [List.take_append,a1,List.take_of_length_le (by rw [a1]; omega),List.take_append,List.take_of_length_le (by omega:cs.length≤n - q),List.take_take,List.drop_take,Nat.min_eq_left (by omega),Nat.sub_sub]
theorem own_splice {w:World} {base g cap n q:Nat} {cl cs xs:List Value} (hg:w.heap[g]?=some (.cells (splice cl q cs).toArray 5 (0,0))) (hsz:cl.length=cap) (htake:cl.take n=xs) (hnc:n≤cap) (hm:cap≤maxLen) (hb:base≤g) (hfit:q+cs.length≤n) :
  w.ownsRow base 5 1 (.slice (some ⟨g,0,none⟩) n cap) n (splice xs q cs):=by
 subst htake
 refine ⟨?_,.inr ⟨g,cap,_,rfl,hb,hg,hnc,hm,?_,?_⟩⟩
 ·rw [length_splice _ _ _ (by rw [List.length_take]; omega),List.length_take]; omega
 ·simp only [List.size_toArray]; rw [length_splice _ _ _ (by omega)]; omega
 ·simp only [Nat.mul_one]; exact splice_take cl cs q n hfit (by omega)
theorem own_split {w:World} {base n:Nat} {v:Value} {xs:List Value} (h:w.ownsRow base 5 1 v n xs) :
  (v=.slice none 0 0∧n=0)∨∃ g cap cl,v=.slice (some ⟨g,0,none⟩) n cap∧base≤g∧w.heap[g]?=some (.cells (List.toArray cl) 5 (0,0))∧n≤cap∧cap≤maxLen∧cl.length=cap∧cl.take n=xs∧g<w.heap.size:=by
 rcases h.2 with ⟨rfl,h0⟩ | ⟨g,cap,cur,rfl,hb,hg,hnc,hm,hsz,htake⟩
 ·exact .inl ⟨rfl,h0⟩
 ·exact .inr ⟨g,cap,cur.toList,rfl,hb,by simpa using hg,hnc,hm,by simpa using hsz,by simpa using htake,(h.lt g rfl).2⟩
theorem src_of {w:World} {B:Nat} {A:Option Addr} {X:List Value} (h:Row w B A X):0<X.length→∃ ad,A=some ad∧∀ j v,X[j]?=some v→w.cell? (ad.add j)=some v:=by
 intro h0
 obtain ⟨b,off,rfl,_,hc⟩:=h.at_ (by intro h; rw [h] at h0; simp at h0)
 refine ⟨_,rfl,fun j v hv=>?_⟩
 rw [Addr.add_lit]
 exact hc j v hv
theorem step_copy_zero {P:Program} {ops:Array Oper} {o:Oper} {a:Act} {w:World} {K:Act→World→Prop} {Q:Exit→Act→World→Prop} {E:Prop} (hgd:o.guard=none) (d s:Operand) (dT sT:TypeId)
  (ho:o.op=.call { callee:=.builtin .copy,args:=#[d,s],argTypes:=#[dT,sT] }) (elem:TypeId) (hu:P.underlying dT=some (.slice elem)) (hsz:(P.info? elem).map (·.size)=some 1)
  (dp sp:Option Addr) (dLen dCap sLen sCap:Nat) (hd:a.eval d=.slice dp dLen dCap) (hs:a.eval s=.slice sp sLen sCap) (hn:Nat.min sLen dLen=0)
  (h:K (a.put o.dst (goInt 0)) w):if Region.wanted o (yielded ops a.tmps)=true then Oper.wp P o a w K Q else E:=by
 have hw:Region.wanted o (yielded ops a.tmps)=true:=by simp [Region.wanted,hgd]
 rw [if_pos hw]
 have hrun:=run_copy_none (P:=P) w dT sT o.type elem dp sp dLen dCap sLen sCap hu hsz hn
 unfold Oper.wp
 simp [execOp,ho,resolve,invoke,builtin,hd,hs,hrun,Result.andThen]
 exact h
theorem set_yes (A:Option Addr) (n c:Nat) (l:List Int) (q k:Nat) (z:Int) (w:World) (hl:l.length=n) (hn:n≤1000) (hz:A=none→c=0) (hr:Row w w.heap.size A (l.map (.int .u8))) (hk:k≤8) (hq:q+k≤n) (z0:0≤z) (z1:z<18446744073709551616) :
  Calls Try.prog 61 #[.slice A n c,.int .i64 q,.int .u64 z,.int .i64 k] w (ClonePost w n (splice l q (pb z k k))):=by
 have HC:=Lib.hid (clone_any A n c l w hl hn hz hr)
 have hhs:hs (k:Int)=k:=by unfold hs; omega
 have HP:=Lib.hid (fun (w1 w':World) (hb:Below w1.heap.size w1 w') (hs':w1.heap.size≤w'.heap.size)=>put_any (.slice none 0 0) 0 [] z (k:Int) w1.heap.size w1.heap.size w1 w' (World.ownsRow_nil _ _ _ _) hs' (by omega) hb (Nat.le_refl _) z0 z1)
 rw [hhs] at HP
 have e1:IntKind.i64.wrap ((n:Int) - (k:Int))=((n - k:Nat):Int):=by rw [show (n:Int) - (k:Int)=((n - k:Nat):Int) by omega]; exact IntWalk.i64_in _ (by omega)
 have d4:¬ (n - k<q):=by omega
 have dq:q≤n:=by omega
 have hcs:((pb z k k).map (Value.int .u8)).length=k:=by rw [List.length_map,pb_len]
 have HCS:=Lib.hid hcs
 have one:∀ u ∈ (pb z k k).map (Value.int .u8),u.oneCell'=true:=by
  intro u hu
  rw [List.mem_map] at hu
  obtain ⟨x,_,rfl⟩:=hu
  rfl
 have ONE:=Lib.hid one
 have hml:=splice_map l (pb z k k) q
 have HML:=Lib.hid hml
 clear hl hz hr hhs hcs one hml
 generalize hX:(pb z k k).map (Value.int .u8)=X at *
 have HX:=Lib.hid hX
 clear hX
 go_enter Try.func61,Try.ntmps61
 go_wp2_with fail
 refine HC.out.mono ?_
 rintro e w1 ⟨v1,rfl,hown,hbel,hsz⟩
 rcases own_split hown with ⟨rfl,hn0⟩ | ⟨g,cap,cl,rfl,hg0,hg,hnc,hm,hcl,hct,hgl⟩
 ·have hq0:q=0:=by omega
  have HK0:=Lib.hid (show k=0 by omega)
  have HN0:=Lib.hid hn0
  have hl0:=hown.1
  have HLN:=Lib.hid hl0
  have HB:=Lib.hid hbel
  subst hq0
  clear hown hbel hn0 hl0
  go_wp2_with fail
  go_region_held3 (fun w'=>Below w.heap.size w w') (first | exact HB4.out | exact HB3.out | exact HB.out.drew | exact HB.out) (first
   | (go_at_call 58; refine (HP.out w1 w1.drew (Below.refl _ _).drew (Nat.le_refl _)).mono ?_; rintro e w3 ⟨v3,rfl,hown3,hb3,hs3⟩; obtain ⟨A3,c3,rfl⟩:=own_slice hown3; have HB3:=Lib.hid (bel_call HB.out hb3); clear hown3 hb3 hs3)
   | (refine step_copy_zero rfl (.tmp 33) (.tmp 36) _ _ rfl 5 Try.underlying47 info1 none (A3) 0 0 k c3 rfl rfl (by show min _ _=0; omega) ?_))
  go_wp2_with fail
  go_ret
  refine ⟨_,rfl,?_,HB3.out,HB3.out.size⟩
  have h1:X=[]:=List.eq_nil_of_length_eq_zero (by rw [HCS.out,HK0.out])
  rw [← HML.out,h1,HN0.out]
  have h2:l.map (Value.int .u8)=[]:=List.eq_nil_of_length_eq_zero (by rw [HLN.out,HN0.out])
  rw [h2]
  exact World.ownsRow_nil _ _ _ _
 ·have HB:=Lib.hid hbel
  have HG:=Lib.hid hg
  have HT:=Lib.hid hct
  have HM:=Lib.hid hm
  clear hown hbel hg hct hm
  by_cases hqc:cap=q
  ·have HK0:=Lib.hid (show k=0 by omega)
   have HNQ:=Lib.hid (show n=q by omega)
   go_wp2_with fail
   go_region_held3 (fun w'=>Below w.heap.size w w') (first | exact HB4.out | exact HB3.out | exact HB.out.drew | exact HB.out) (first
    | (go_at_call 58; refine (HP.out w1 w1.drew (Below.refl _ _).drew (Nat.le_refl _)).mono ?_; rintro e w3 ⟨v3,rfl,hown3,hb3,hs3⟩; obtain ⟨A3,c3,rfl⟩:=own_slice hown3; have HG3:=Lib.hid ((hb3.block g hgl).trans HG.out); have HB3:=Lib.hid (bel_call HB.out hb3); clear hown3 hb3 hs3)
    | (refine step_copy_zero rfl (.tmp 33) (.tmp 36) _ _ rfl 5 Try.underlying47 info1 (some ⟨g,0,none⟩) A3 (n - q) 0 k c3 rfl rfl (by show min _ _=0; omega) ?_))
   go_wp2_with fail
   go_ret
   refine ⟨_,rfl,?_,HB3.out,HB3.out.size⟩
   have h1:X=[]:=List.eq_nil_of_length_eq_zero (by rw [HCS.out,HK0.out])
   rw [← HML.out]
   refine own_splice (cl:=cl) ?_ (by omega) HT.out (by omega) (by rw [← hqc]; exact HM.out) hg0 (by rw [HCS.out]; omega)
   have h3:splice cl q X=cl:=by rw [h1]; simp [splice]
   rw [h3]
   exact HG3.out
  ·go_wp2_with fail
   go_region_held3 (fun w'=>Below w.heap.size w w') (first | exact HB4.out | exact HB3.out | exact HB.out.drew | exact HB.out) (first
    | (go_at_call 58; refine (HP.out w1 w1.drew (Below.refl _ _).drew (Nat.le_refl _)).mono ?_; rintro e w3 ⟨v3,rfl,hown3,hb3,hs3⟩; obtain ⟨A3,c3,rfl⟩:=own_slice hown3; have HG3:=Lib.hid ((hb3.block g hgl).trans HG.out); have HB3:=Lib.hid (bel_call HB.out hb3); have HSRC:=Lib.hid (src_of (X:=X) (by have t:=own_row hown3; rwa [List.nil_append,HX.out] at t)); clear hown3 hb3 hs3)
    | (refine step_copy_splice rfl (.tmp 33) (.tmp 36) _ _ rfl 5 Try.underlying47 info1 (some ⟨g,q,none⟩) A3 (n - q) (cap - q) k c3 rfl rfl g q cl 5 HG3.out X (by rw [HCS.out]; show k=min _ _; omega) (by intro h0; refine ⟨rfl,?_⟩; exact HSRC.out h0) (by rw [HCS.out]; omega) ONE.out w.heap.size w ⟨HB3.out.os,HB3.out.tape,HB3.out.output,HB3.out.size,HB3.out.block⟩ hg0 ?_; intro w4 hg4 hb4; have HB4:=Lib.hid hb4; clear hb4))
   go_wp2_with fail
   go_ret
   refine ⟨_,rfl,?_,HB4.out,HB4.out.size⟩
   rw [← HML.out]
   exact own_splice hg4.out hcl HT.out hnc HM.out hg0 (by rw [HCS.out]; omega)
end Go.Proofs.Ytnofddbfogilaaa.octF
/- Layer 4: sums of words. -/
namespace Go.Proofs.Ytnofddbfogilaaa.sumA
open Go.ChangeShapes Go.WideShapes Go.ChangeAt Go.RowKit
set_option linter.unusedVariables false
def fo (n:Int):Int:=if n=0 then 0 else (n - 1) % 65535+1
theorem fo_small {n:Int} (h0:0≤n) (h1:n≤65535):fo n=n:=by unfold fo; split <;> omega
theorem fo_step {n:Int} (h1:65535<n):fo (n / 65536+n % 65536)=fo n:=by unfold fo; split <;> split <;> omega
theorem fo_bd (n:Int) (h0:0≤n):0≤fo n∧fo n≤65535:=by unfold fo; split <;> omega
theorem fo_add {x t:Int} (hx:0≤x) (ht:0≤t):fo (fo x+t)=fo (x+t):=by unfold fo; split <;> split <;> split <;> omega
theorem and_low16 (z:Int) (h0:0≤z) (h1:z<18446744073709551616):bits .and .u64 z 65535=z % 65536:=by
 obtain ⟨m,rfl⟩:=Int.eq_ofNat_of_zero_le h0
 have h:=u64_and_nat m 65535 (by omega) (by omega)
 have e:m &&& 65535=m % 65536:=Nat.and_two_pow_sub_one_eq_mod m 16
 rw [e] at h
 simpa using h
theorem not16 (c:Int) (h0:0≤c) (h1:c≤65535):bits BinOp.xor IntKind.u16 IntKind.u16.max c=65535 - c:=by
 obtain ⟨m,rfl⟩:=Int.eq_ofNat_of_zero_le h0
 have h:=u16_xor_nat 65535 m (by omega) (by omega)
 have e:65535 ^^^ m=65535 - m:=by
  have h2:(65535:Nat)=2 ^ 16 - 1:=by decide
  have h3:m<2 ^ 16:=by omega
  apply Nat.eq_of_testBit_eq
  intro i
  rw [Nat.testBit_xor,h2,show 2 ^ 16 - 1 - m=2 ^ 16 - (m+1) by omega,Nat.testBit_two_pow_sub_succ h3,Nat.testBit_two_pow_sub_one]
  by_cases hi:i<16
  ·simp [hi]
  ·have:m.testBit i=false:=Nat.testBit_lt_two_pow (Nat.lt_of_lt_of_le h3 (Nat.pow_le_pow_right (by omega) (by omega)))
   simp [hi,this]
 rw [e] at h
 have e2:IntKind.u16.max=((65535:Nat):Int):=by decide
 rw [e2,h]
 omega
theorem fold_any (n:Int) (h0:0≤n) (h1:n<18446744073709551616) (w:World) :
  Calls Try.prog 94 #[.int .u64 n] w fun e w'=>e=.returned (.int .u16 (fo n))∧w=w':=by
 go_enter Try.func94,Try.ntmps94
 go_wp2
 go_loop [0] (fun t=>∃ v:Int,t=.int .u64 v∧0≤v∧v<18446744073709551616∧Hid (fo v=fo n)) (fun t=>(intOf t).toNat)
 case atStart=>exact ⟨n,rfl,h0,h1,rfl⟩
 case round =>
  obtain ⟨v,rfl,v0,v1,hv⟩:=hrel
  have hand:=and_low16 v v0 v1
  by_cases hlt:65535<v
  ·have hf:=fo_step hlt
   have HF:=Lib.hid hf
   clear hf
   go_wp2
   go_round
   case rel=>exact ⟨_,rfl,by omega,by omega,HF.out.trans hv.out⟩
   case measure=>simp [intOf]; omega
  ·have e:fo v=v:=fo_small v0 (by omega)
   have hv':fo n=v:=by rw [← hv.out,e]
   have HV:=Lib.hid hv'
   clear hv e hv'
   go_wp2
   go_ret
   exact ⟨by rw [HV.out]; rfl,rfl⟩
end Go.Proofs.Ytnofddbfogilaaa.sumA
/- Layer 4: sums of bytes. -/
namespace Go.Proofs.Ytnofddbfogilaaa.sumB
open Go.ChangeShapes Go.WideShapes Go.ChangeAt Go.RowKit
open base sumA
set_option linter.unusedVariables false
def wsum:List Int→Int
 | []=>0
 | [a]=>256*a
 | a::b::r=>256*a+b+wsum r
def even (l:List Int):Bool:=l.length % 2 == 0
theorem wsum_snoc:∀ (l:List Int) (x:Int),wsum (l++[x])=wsum l+if even l then 256*x else x
 | [],x=>by simp [wsum,even]
 | [a],x=>by simp [wsum,even]
 | a::b::r,x=>by
  have h:=wsum_snoc r x
  have e:even (a::b::r)=even r:=by
   simp only [even,List.length_cons]
   congr 1
   omega
  simp only [List.cons_append,wsum,h,e]
  omega
theorem even_snoc (l:List Int) (x:Int):even (l++[x])=!even l:=by
 simp only [even,List.length_append,List.length_cons,List.length_nil]
 rcases Nat.mod_two_eq_zero_or_one l.length with h | h
 ·have h2:(l.length+(0+1)) % 2=1:=by omega
  rw [h,h2]; rfl
 ·have h2:(l.length+(0+1)) % 2=0:=by omega
  rw [h,h2]; rfl
theorem wsum_bd:∀ (l:List Int),(∀ x ∈ l,0≤x∧x≤255)→0≤wsum l∧wsum l≤l.length*65280
 | [],_=>by simp [wsum]
 | [a],h=>by
  have:=h a (by simp)
  simp [wsum]; omega
 | a::b::r,h=>by
  have h1:=h a (by simp)
  have h2:=h b (by simp)
  have h3:=wsum_bd r (fun x hx=>h x (by simp [hx]))
  simp only [wsum,List.length_cons]
  omega
structure Part where
 a:Option Addr
 c:Nat
 l:List Int
def Part.val (p:Part):Value:=.slice p.a p.l.length p.c
def Part.ok (p:Part) (w:World) (B:Nat):Prop:=Row w B p.a (p.l.map (.int .u8))∧(∀ x ∈ p.l,0≤x∧x≤255)
def flat (ps:List Part):List Int:=(ps.map (·.l)).flatten
theorem flat_snoc (ps:List Part) (k:Nat) (h:k<ps.length):flat (ps.take (k+1))=flat (ps.take k)++(ps[k]).l:=by
 unfold flat
 rw [List.take_succ_eq_append_getElem h,List.map_append,List.flatten_append]
 simp only [List.map_cons,List.map_nil,List.flatten_cons,List.flatten_nil,List.append_nil]
theorem flat_take_len (ps:List Part) (k:Nat):(flat (ps.take k)).length≤(flat ps).length:=by
 have:flat ps=flat (ps.take k)++flat (ps.drop k):=by
  unfold flat
  rw [← List.flatten_append,← List.map_append,List.take_append_drop]
 rw [this,List.length_append]; omega
theorem flat_mem {ps:List Part} {w:World} {B:Nat} (h:∀ p ∈ ps,p.ok w B):∀ x ∈ flat ps,0≤x∧x≤255:=by
 intro x hx
 unfold flat at hx
 rw [List.mem_flatten] at hx
 obtain ⟨l,hl,hx⟩:=hx
 rw [List.mem_map] at hl
 obtain ⟨p,hp,rfl⟩:=hl
 exact (h p hp).2 x hx
theorem of_any (A:Option Addr) (n c:Nat) (ps:List Part) (w:World) (B:Nat) (hn:ps.length=n) (hn2:n≤1000) (hlen:(flat ps).length≤1099511627776)
  (hr:Row w B A (ps.map Part.val)) (hp:∀ p ∈ ps,p.ok w B) :
  Calls Try.prog 81 #[.slice A n c] w fun e w'=>e=.returned (.int .u16 (fo (wsum (flat ps))))∧w=w':=by
 have HR:=Lib.hid hr
 have HN:=Lib.hid hn
 have HP:=Lib.hid hp
 have HL:=Lib.hid hlen
 clear hr hn hp hlen
 go_enter Try.func81,Try.ntmps81
 go_wp2
 go_loop [3,4,6,8,11] (fun s h p b i=>∃ k:Nat,k≤n∧i=.int .i64 k∧s=.int .u64 (wsum (flat (ps.take k)))∧h=.bool (even (flat (ps.take k)))) (fun _ _ _ _ i=>n - (intOf i).toNat)
 case atStart=>exact ⟨0,by omega,rfl,rfl,rfl⟩
 case round =>
  obtain ⟨k,hk,rfl,rfl,rfl⟩:=hrel
  by_cases hlt:k<n
  ·have hkl:k<ps.length:=by rw [HN.out]; exact hlt
   obtain ⟨b,off,rfl,hbl,hc⟩:=HR.out.at_ (by intro h; simp at h; rw [h] at hkl; simp at hkl)
   have hcell:w.cell? ⟨b,off+k,none⟩=some (.slice (ps[k]).a (ps[k]).l.length (ps[k]).c):=hc k _ (by simp [hkl,Part.val])
   have hok:=HP.out ps[k] (List.getElem_mem hkl)
   have hfs:=flat_snoc ps k hkl
   have hfl:=Nat.le_trans (flat_take_len ps (k+1)) HL.out
   have hfm:=flat_mem (ps:=ps.take (k+1)) (fun p hp=>HP.out p (List.mem_of_mem_take hp))
   rw [hfs] at hfl hfm
   have HFS:=Lib.hid hfs
   clear hc hfs
   generalize ps[k]=q at *
   generalize flat (ps.take k)=P at *
   obtain ⟨qa,qc,ql⟩:=q
   obtain ⟨hq,-⟩:=hok
   simp only at hq hfl hfm hcell
   have HQ:=Lib.hid hq
   have HM:=Lib.hid hfm
   have hql:ql.length≤1099511627776:=by simp at hfl; omega
   have HFL:=Lib.hid hfl
   clear hq hfl hfm
   generalize hm:ql.length=m at *
   have HMM:=Lib.hid hm
   clear hm
   go_wp2_with fail
   go_loop [3,4,8,17] (fun s h x i=>∃ j:Nat,j≤m∧i=.int .i64 j∧s=.int .u64 (wsum (P++ql.take j))∧h=.bool (even (P++ql.take j))) (fun _ _ _ i=>m - (intOf i).toNat)
   case atStart=>exact ⟨0,by omega,rfl,by simp,by simp⟩
   case round =>
    obtain ⟨j,hj,rfl,rfl,rfl⟩:=hrel
    by_cases hjm:j<m
    ·have hjl:j<ql.length:=by rw [HMM.out]; exact hjm
     obtain ⟨b2,off2,rfl,hbl2,hc2⟩:=HQ.out.at_ (by intro h; simp at h; rw [h] at hjl; simp at hjl)
     have hcell2:w.cell? ⟨b2,off2+j,none⟩=some (.int .u8 (ql[j])):=hc2 j _ (by simp [hjl])
     have hx:=HM.out ql[j] (by simp)
     have hw:=wsum_snoc (P++ql.take j) ql[j]
     have he:=even_snoc (P++ql.take j) ql[j]
     have hap:(P++ql.take j)++[ql[j]]=P++ql.take (j+1):=by rw [List.append_assoc,← List.take_succ_eq_append_getElem hjl]
     rw [hap] at hw he
     have hbd:=wsum_bd (P++ql.take j) (fun x hx=>HM.out x (by
      rw [List.mem_append] at hx ⊢
      exact hx.imp id List.mem_of_mem_take))
     have hln:(P++ql.take j).length≤1099511627776:=by
      have:=HFL.out
      rw [List.length_append] at this ⊢
      rw [List.length_take]; omega
     have hb1:wsum (P++ql.take j)≤1099511627776*65280:=by omega
     have hb0:=hbd.1
     have HW:=Lib.hid hw
     have HE:=Lib.hid he
     clear hw he hap hbd hln hc2
     obtain ⟨x0,x1⟩:=hx
     generalize ql[j]=x at *
     generalize wsum (P++ql.take j)=s0 at *
     have ex:IntKind.u64.wrap x=x:=by rw [IntKind.wrap_u64]; omega
     cases hev:even (P++ql.take j)
     ·have HEV:=Lib.hid hev
      clear hev
      go_wp2_with fail
      go_round
      case rel=>exact ⟨j+1,by omega,by go_num,by rw [HW.out,HEV.out]; rfl,by rw [HE.out,HEV.out]; rfl⟩
      case measure=>simp [intOf]; omega
     ·have HEV:=Lib.hid hev
      clear hev
      go_wp2_with fail
      go_round
      case rel=>exact ⟨j+1,by omega,by go_num,by rw [HW.out,HEV.out]; simp; omega,by rw [HE.out,HEV.out]; rfl⟩
      case measure=>simp [intOf]; omega
    ·have hjj:ql.take j=ql:=List.take_of_length_le (by rw [HMM.out]; omega)
     have HJ:=Lib.hid hjj
     clear hjj
     go_wp2_with fail
     go_round
     case rel=>exact ⟨k+1,by omega,by go_num,by rw [HFS.out,HJ.out],by rw [HFS.out,HJ.out]⟩
     case measure=>simp [intOf]; omega
  ·have hkk:ps.take k=ps:=List.take_of_length_le (by rw [HN.out]; omega)
   have HK:=Lib.hid hkk
   have hbd:=wsum_bd (flat ps) (flat_mem HP.out)
   have hll:=HL.out
   have hb0:=hbd.1
   have hb1:wsum (flat ps)≤1099511627776*65280:=by omega
   rw [hkk]
   clear hkk hbd hll
   go_wp2_with (go_at_call 94; refine (fold_any _ (by omega) (by omega) _).mono ?_; rintro e w' ⟨rfl,rfl⟩)
   go_ret
   exact ⟨rfl,rfl⟩
end Go.Proofs.Ytnofddbfogilaaa.sumB
/- Layer 4: checks, and the law on sums of two words. -/
namespace Go.Proofs.Ytnofddbfogilaaa.sumC
open Go.ChangeShapes Go.WideShapes Go.ChangeAt Go.RowKit
open base sumA sumB
set_option linter.unusedVariables false
theorem row_blk {w:World} {g:Nat} {t:TypeId} {cs:Array Value} (h:Blk w g t cs):Row w w.heap.size (some ⟨g,0,none⟩) cs.toList :=
 .inr ⟨g,0,rfl,h.lt,fun i u hu=>by rw [Nat.zero_add,h.cell i]; simpa using hu⟩
theorem check_any (A:Option Addr) (n c:Nat) (ps:List Part) (w:World) (B:Nat) (hn:ps.length=n) (hn2:n≤1000) (hlen:(flat ps).length≤1099511627776)
  (hr:Row w B A (ps.map Part.val)) (hp:∀ p ∈ ps,p.ok w B) :
  Calls Try.prog 62 #[.slice A n c] w fun e w'=>e=.returned (.int .u16 (65535 - fo (wsum (flat ps))))∧w=w':=by
 have H:=Lib.hid (of_any A n c ps w B hn hn2 hlen hr hp)
 have b:=fo_bd (wsum (flat ps)) (wsum_bd _ (flat_mem hp)).1
 have hsg:IntKind.u16.signed=false:=rfl
 have n3:=not16 _ b.1 b.2
 clear hr hp hn hlen
 go_enter Try.func62,Try.ntmps62
 go_wp2_with fail
 refine H.out.mono ?_
 rintro e w' ⟨rfl,rfl⟩
 go_wp2
 go_ret
 exact ⟨rfl,rfl⟩
theorem right_any (A:Option Addr) (n c:Nat) (ps:List Part) (w:World) (B:Nat) (hn:ps.length=n) (hn2:n≤1000) (hlen:(flat ps).length≤1099511627776)
  (hr:Row w B A (ps.map Part.val)) (hp:∀ p ∈ ps,p.ok w B) :
  Calls Try.prog 65 #[.slice A n c] w fun e w'=>e=.returned (.bool (fo (wsum (flat ps)) == 65535))∧w=w':=by
 have H:=Lib.hid (of_any A n c ps w B hn hn2 hlen hr hp)
 clear hr hp hn hlen
 go_enter Try.func65,Try.ntmps65
 go_wp2_with fail
 refine H.out.mono ?_
 rintro e w' ⟨rfl,rfl⟩
 go_wp2
 go_ret
 exact ⟨rfl,rfl⟩
end Go.Proofs.Ytnofddbfogilaaa.sumC
