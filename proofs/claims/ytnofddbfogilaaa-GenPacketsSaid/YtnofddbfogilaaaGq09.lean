/- 4 texts in one. -/
import Derived.Deep.DeepCutAuto
import Derived.Test.YtnofddbfogilaaaGq02
import Derived.Test.YtnofddbfogilaaaGq04
/- Layer 9: headers that extend, in plain words. -/
namespace Go.Proofs.Ytnofddbfogilaaa.sixW
open octA
set_option linter.unusedVariables false
abbrev XP:=Int × List Int
def U8 (l:List Int):Prop:=∀ x ∈ l,0≤x∧x≤255
theorem U8.app {a b:List Int} (h:U8 (a++b)):U8 a∧U8 b:=⟨fun x hx=>h x (List.mem_append_left _ hx),fun x hx=>h x (List.mem_append_right _ hx)⟩
theorem U8.join {a b:List Int} (h:U8 a) (k:U8 b):U8 (a++b):=fun x hx=>by
 rcases List.mem_append.mp hx with h1 | h1
 ·exact h x h1
 ·exact k x h1
theorem U8.take {l:List Int} (h:U8 l) (k:Nat):U8 (l.take k):=fun x hx=>h x (List.mem_of_mem_take hx)
theorem U8.drop {l:List Int} (h:U8 l) (k:Nat):U8 (l.drop k):=fun x hx=>h x (List.mem_of_mem_drop hx)
theorem U8.get {l:List Int} (h:U8 l) (k:Nat):0≤l.getD k 0∧l.getD k 0≤255:=by
 rw [List.getD_eq_getElem?_getD]
 rcases Nat.lt_or_ge k l.length with hk | hk
 ·rw [List.getElem?_eq_getElem hk]; exact h _ (List.getElem_mem hk)
 ·rw [List.getElem?_eq_none hk]; simp
def isX (k:Int):Bool:=decide (k=0∨k=43∨k=44∨k=60)
def isPart (x:XP):Bool:=decide (x.1=44∧x.2.length=7)
def lies:List XP→Int
 | []=>0
 | x::l=>if isPart x=true then 256*x.2.getD 1 0+x.2.getD 2 0 else lies l
theorem lies_in:∀ {l:List XP},(∀ x ∈ l,U8 x.2)→0≤lies l∧lies l≤65535
 | [],_=>⟨Int.le_refl _,by decide⟩
 | x::l,h=>by
  have h1:=(h x (by simp)).get 1
  have h2:=(h x (by simp)).get 2
  unfold lies
  split
  ·omega
  ·exact lies_in fun y hy=>h y (by simp [hy])
def rightX (x:XP) (k:Nat):Bool:=isX x.1 && decide (¬ (x.1=0∧k≠0)) && decide (x.2.length≤2047∧x.2.length % 8=7) && (if x.1=44 then decide (x.2.length=7) else decide (x.2.getD 0 0=(x.2.length / 8:Nat)))
def nextK (l:List XP) (p:Int):Int:=match l with
 | []=>p
 | x::_=>x.1
def extB:List XP→Int→List Int
 | [],_=>[]
 | x::l,p=>nextK l p::(x.2++extB l p)
structure RightE (l:List XP):Prop where
 most:l.length≤8
 each:∀ i (h:i<l.length),rightX l[i] i=true
 whole:∀ i,i<l.length→lies (l.take i) / 8=0
def chn:Nat→List XP→Int→List Int→Option (List XP × Int × List Int)
 | 0,_,_,_=>none
 | f+1,xs,p,b =>
  if isX p=true then
   if lies xs / 8≠0∨xs.length=8∨b.length<8∨(p=0∧xs.length≠0) then none
   else if b.length<(if p=44 then 8 else 8+8*(b.getD 1 0).toNat) then none
   else chn f (xs++[(p,(b.take (if p=44 then 8 else 8+8*(b.getD 1 0).toNat)).drop 1)]) (b.getD 0 0) (b.drop (if p=44 then 8 else 8+8*(b.getD 1 0).toNat))
  else some (xs,p,b)
theorem chn_done {f:Nat} {xs:List XP} {p:Int} {b:List Int} (h:isX p=false):chn (f+1) xs p b=some (xs,p,b):=by
 rw [chn,h,if_neg (by decide)]
theorem chn_no {f:Nat} {xs:List XP} {p:Int} {b:List Int} (h:isX p=true) (k:lies xs / 8≠0∨xs.length=8∨b.length<8∨(p=0∧xs.length≠0)):chn (f+1) xs p b=none:=by
 rw [chn,h,if_pos rfl,if_pos k]
def siz (p:Int) (b:List Int):Nat:=if p=44 then 8 else 8+8*(b.getD 1 0).toNat
theorem siz_8 (p:Int) (b:List Int):8≤siz p b:=by unfold siz; split <;> omega
theorem chn_short {f:Nat} {xs:List XP} {p:Int} {b:List Int} (h:isX p=true) (k:b.length<siz p b):chn (f+1) xs p b=none:=by
 unfold siz at k
 rw [chn,h,if_pos rfl]
 split
 ·rfl
 ·first | rfl | rw [if_pos k]
theorem chn_next {f:Nat} {xs:List XP} {p:Int} {b:List Int} (h:isX p=true) (k:¬ (lies xs / 8≠0∨xs.length=8∨b.length<8∨(p=0∧xs.length≠0))) (k2:siz p b≤b.length) :
  chn (f+1) xs p b=chn f (xs++[(p,(b.take (siz p b)).drop 1)]) (b.getD 0 0) (b.drop (siz p b)):=by
 unfold siz at k2 ⊢
 rw [chn,h,if_pos rfl,if_neg k,if_neg (by omega)]
theorem right_new {xs:List XP} {p:Int} {b:List Int} (hx:RightE xs) (hu:U8 b) (h:isX p=true) (k:¬ (lies xs / 8≠0∨xs.length=8∨b.length<8∨(p=0∧xs.length≠0))) (k2:siz p b≤b.length) :
  RightE (xs++[(p,(b.take (siz p b)).drop 1)]):=by
 have hm:=hx.most
 have h1:=hu.get 1
 have hl:((b.take (siz p b)).drop 1).length=siz p b - 1:=by rw [List.length_drop,List.length_take]; omega
 have h8:=siz_8 p b
 have hd:((b.take (siz p b)).drop 1).getD 0 0=b.getD 1 0:=by
  rw [List.getD_eq_getElem?_getD,List.getD_eq_getElem?_getD,List.getElem?_drop,List.getElem?_take,if_pos (by omega)]
 refine ⟨by rw [List.length_append]; simp; omega,fun i hi=>?_,fun i hi=>?_⟩
 ·rw [List.length_append] at hi
  rcases Nat.lt_or_ge i xs.length with h9 | h9
  ·rw [List.getElem_append_left h9]; exact hx.each i h9
  ·have e:i=xs.length:=by simp at hi; omega
   subst e
   rw [List.getElem_append_right (Nat.le_refl _)]
   simp only [Nat.sub_self,List.getElem_cons_zero]
   unfold rightX
   simp only [hl,hd]
   have k3:¬ (p=0∧xs.length≠0):=fun h=>k (.inr (.inr (.inr h)))
   rw [h,decide_eq_true k3]
   have k4:siz p b - 1≤2047∧(siz p b - 1) % 8=7:=by unfold siz; split <;> omega
   rw [decide_eq_true k4]
   unfold siz
   by_cases hp:p=44
   ·simp [hp]
   ·rw [if_neg hp,if_neg hp]
    have k5:b.getD 1 0=(((8+8*(b.getD 1 0).toNat - 1) / 8:Nat):Int):=by omega
    rw [decide_eq_true k5]
    rfl
 ·rw [List.length_append] at hi
  have hi:i≤xs.length:=by simp at hi; omega
  rw [List.take_append_of_le_length hi]
  rcases Nat.lt_or_ge i xs.length with h9 | h9
  ·exact hx.whole i h9
  ·rw [List.take_of_length_le h9]
   exact Decidable.byContradiction fun h=>k (.inl h)
theorem ext_one (p:Int) (b:List Int) (h8:1≤siz p b) (k2:siz p b≤b.length):b.getD 0 0::((b.take (siz p b)).drop 1++b.drop (siz p b))=b:=by
 match b,k2 with
 | [],k2=>simp at k2; omega
 | a::t,k2 =>
  obtain ⟨s,hs⟩:∃ s,siz p (a::t)=s+1:=⟨siz p (a::t) - 1,by omega⟩
  rw [hs]
  simp
theorem chn_sound:∀ (f:Nat) (xs:List XP) (p:Int) (b:List Int) {ys:List XP} {q:Int} {r:List Int},U8 b→0≤p∧p≤255→RightE xs→(∀ x ∈ xs,U8 x.2)→chn f xs p b=some (ys,q,r) →
  ∃ zs,ys=xs++zs∧nextK zs q=p∧b=extB zs q++r∧RightE ys∧isX q=false∧0≤q∧q≤255∧(∀ x ∈ ys,U8 x.2)∧U8 r∧r.length≤b.length
 | 0,xs,p,b,ys,q,r,_,_,_,_,h=>by cases h
 | f+1,xs,p,b,ys,q,r,hu,hp,hx,hxu,h=>by
  cases hi:isX p with
  | false =>
   rw [chn_done hi] at h
   injection h with h
   injection h with e1 h
   injection h with e2 e3
   subst e1 e2 e3
   exact ⟨[],by simp,rfl,by simp [extB],hx,hi,hp.1,hp.2,hxu,hu,Nat.le_refl _⟩
  | true =>
   by_cases k:lies xs / 8≠0∨xs.length=8∨b.length<8∨(p=0∧xs.length≠0)
   ·rw [chn_no hi k] at h; cases h
   ·rcases Nat.lt_or_ge b.length (siz p b) with k2 | k2
    ·rw [chn_short hi k2] at h; cases h
    ·rw [chn_next hi k k2] at h
     obtain ⟨zs,e1,e2,e3,e4,e5,e6,e7,e8,e9,e10⟩:=chn_sound f _ _ _ (hu.drop _) (hu.get 0) (right_new hx hu hi k k2) (fun x hx'=>by
      rcases List.mem_append.mp hx' with h1 | h1
      ·exact hxu x h1
      ·rw [List.mem_singleton.mp h1]; exact (hu.take _).drop _) h
     refine ⟨(p,(b.take (siz p b)).drop 1)::zs,by rw [e1]; simp,rfl,?_,e4,e5,e6,e7,e8,e9,by rw [List.length_drop] at e10; omega⟩
     show b=nextK zs q::((b.take (siz p b)).drop 1++extB zs q)++r
     rw [e2,List.cons_append,List.append_assoc,← e3]
     exact (ext_one p b (by have:=siz_8 p b; omega) k2).symm
theorem right_siz {x:XP} {k:Nat} (h:rightX x k=true) (hu:U8 x.2) (t:List Int) (n:Int):siz x.1 (n::(x.2++t))=1+x.2.length∧7≤x.2.length∧isX x.1=true∧¬ (x.1=0∧k≠0):=by
 unfold rightX at h
 simp only [Bool.and_eq_true,decide_eq_true_eq] at h
 obtain ⟨⟨⟨h1,h2⟩,h3,h4⟩,h5⟩:=h
 have h7:7≤x.2.length:=by omega
 refine ⟨?_,h7,h1,h2⟩
 have e:(n::(x.2++t)).getD 1 0=x.2.getD 0 0:=by
  rw [List.getD_eq_getElem?_getD,List.getD_eq_getElem?_getD,List.getElem?_cons_succ,List.getElem?_append_left (by omega)]
 unfold siz
 rw [e]
 by_cases hp:x.1=44
 ·rw [if_pos hp]; rw [if_pos hp] at h5
  have:=of_decide_eq_true h5
  omega
 ·rw [if_neg hp]; rw [if_neg hp] at h5
  have:=of_decide_eq_true h5
  omega
theorem chn_put:∀ (zs:List XP) (xs:List XP) (q:Int) (r:List Int) (f:Nat),RightE (xs++zs)→(∀ x ∈ zs,U8 x.2)→isX q=false→zs.length<f→chn f xs (nextK zs q) (extB zs q++r)=some (xs++zs,q,r)
 | [],xs,q,r,f,_,_,hq,hf=>by
  obtain ⟨f,rfl⟩:∃ g,f=g+1:=⟨f - 1,by simp at hf; omega⟩
  show chn (f+1) xs q ([]++r)=_
  rw [chn_done hq]
  simp
 | x::zs,xs,q,r,f,hR,hu,hq,hf=>by
  obtain ⟨f,rfl⟩:∃ g,f=g+1:=⟨f - 1,by simp at hf; omega⟩
  have hlen:xs.length<(xs++x::zs).length:=by simp
  have hr:=hR.each xs.length hlen
  rw [List.getElem_append_right (Nat.le_refl _)] at hr
  simp only [Nat.sub_self,List.getElem_cons_zero] at hr
  have hw:=hR.whole xs.length hlen
  rw [List.take_left] at hw
  have hm:=hR.most
  rw [List.length_append,List.length_cons] at hm
  have eb:extB (x::zs) q++r=nextK zs q::(x.2++(extB zs q++r)):=by show nextK zs q::(x.2++extB zs q)++r=_; simp
  obtain ⟨s1,s2,s3,s4⟩:=right_siz hr (hu x (by simp)) (extB zs q++r) (nextK zs q)
  rw [eb]
  show chn (f+1) xs x.1 _=_
  have hlb:(nextK zs q::(x.2++(extB zs q++r))).length=1+x.2.length+(extB zs q++r).length:=by rw [List.length_cons,List.length_append]; omega
  rw [chn_next s3 (by
   rintro (h | h | h | h)
   ·exact h hw
   ·omega
   ·rw [hlb] at h; omega
   ·exact s4 h) (by rw [s1,hlb]; omega),s1]
  have e1:((nextK zs q::(x.2++(extB zs q++r))).take (1+x.2.length)).drop 1=x.2:=by
   rw [Nat.add_comm,List.take_succ_cons]
   simp
  have e2:(nextK zs q::(x.2++(extB zs q++r))).drop (1+x.2.length)=extB zs q++r:=by
   rw [Nat.add_comm,List.drop_succ_cons,List.drop_left]
  rw [e1,e2]
  have:=chn_put zs (xs++[(x.1,x.2)]) q r f (by rw [List.append_assoc]; exact hR) (fun y hy=>hu y (by simp [hy])) hq (by simp at hf; omega)
  rw [List.append_assoc] at this
  exact this
def extL (l:List XP):Nat:=(l.map fun x=>1+x.2.length).sum
theorem extB_len:∀ (l:List XP) (p:Int),(extB l p).length=extL l
 | [],_=>rfl
 | x::l,p=>by
  show (nextK l p::(x.2++extB l p)).length=_
  rw [List.length_cons,List.length_append,extB_len l p]
  unfold extL
  simp
  omega
theorem extL_le {l:List XP} (h:RightE l):extL l≤16384:=by
 have key:∀ (m:List XP),(∀ x ∈ m,x.2.length≤2047)→extL m≤2048*m.length:=by
  intro m hm
  induction m with
  | nil=>exact Nat.le_refl _
  | cons x m ih =>
   have:=hm x (by simp)
   have:=ih fun y hy=>hm y (by simp [hy])
   unfold extL at this ⊢
   simp
   omega
 have h1:=key l fun x hx=>by
  obtain ⟨i,hi,rfl⟩:=List.getElem_of_mem hx
  have:=h.each i hi
  unfold rightX at this
  simp only [Bool.and_eq_true,decide_eq_true_eq] at this
  exact this.1.2.1
 have:=h.most
 omega
theorem isX_in {k:Int} (h:isX k=true):0≤k∧k≤255:=by
 unfold isX at h
 have:=of_decide_eq_true h
 omega
theorem RightE.nil:RightE []:=⟨by simp,fun i h=>by simp at h,fun i h=>by simp at h⟩
end Go.Proofs.Ytnofddbfogilaaa.sixW
/- Layer 7: a reader of any bytes: it reads on, or it has failed. -/
namespace Go.Proofs.Ytnofddbfogilaaa.rdrG
set_option maxHeartbeats 1000000
open Go.ChangeShapes Go.WideShapes Go.ChangeAt Go.RowKit
open base octA rdrA udpA
set_option linter.unusedVariables false
structure OnlyG (g:Nat) (w w':World):Prop where
 bel:Below g w w'
 size:w'.heap.size=w.heap.size
 els:∀ k,k≠g→w'.heap[k]?=w.heap[k]?
theorem OnlyG.refl (g:Nat) (w:World):OnlyG g w w:=⟨Below.refl _ _,rfl,fun _ _=>rfl⟩
theorem OnlyG.toE {g:Nat} {w w':World} (h:OnlyG g w w'):∀ k,k<w.heap.size→k≠g→w'.heap[k]?=w.heap[k]?:=fun k _ hk=>h.els k hk
theorem OnlyG.set {g:Nat} {a w:World} (h:OnlyG g a w) (i:Nat) (v:Value):OnlyG g a (w.setCell ⟨g,i,none⟩ v) :=
 ⟨h.bel.setCell (p:=⟨g,i,none⟩) (Nat.le_refl g) v,by simpa using h.size,fun k hk=>(Below.heap_setCell w ⟨g,i,none⟩ v k hk).trans (h.els k hk)⟩
theorem OnlyG.trans {g:Nat} {a b c:World} (h:OnlyG g a b) (k:OnlyG g b c):OnlyG g a c:=⟨h.bel.trans k.bel,k.size.trans h.size,fun i hi=>(k.els i hi).trans (h.els i hi)⟩
theorem Only.g {g:Nat} {w w':World} (h:Only g w w'):OnlyG g w w':=by
 obtain ⟨v,rfl⟩:=h
 exact (OnlyG.refl g w).set 0 v
theorem OnlyG.blk {g:Nat} {w w':World} (h:OnlyG g w w') {x:Nat} {t:TypeId} {cs:Array Value} (hb:Blk w x t cs) (hx:x≠g):Blk w' x t cs:=(h.els x hx).trans hb
theorem OnlyG.from {g B:Nat} {a w w':World} (h:OnlyG g w w') (hb:Below B a w) (hB:B≤g):Below B a w':=hb.trans (h.bel.mono hB)
def St (w:World) (B g:Nat) (l:List Int) (e:Int):Prop:=(e=0∧Rdr w B g l)∨(l=[]∧Blk w g 145 #[.slice none 0 0,.int .i64 e])
theorem St.lt {w:World} {B g:Nat} {l:List Int} {e:Int} (h:St w B g l e):g<w.heap.size:=by
 rcases h with ⟨_,h⟩ | ⟨_,h⟩
 ·exact h.lt
 ·exact h.lt
theorem St.below {w w':World} {B g B':Nat} {l:List Int} {e:Int} (h:St w B g l e) (hb:Below B' w w') (hB:B≤B') (hg:g<B'):St w' B g l e:=by
 rcases h with ⟨h1,h⟩ | ⟨h1,h⟩
 ·exact .inl ⟨h1,h.below hb hB hg⟩
 ·exact .inr ⟨h1,h.below hb hg⟩
theorem St.bad {w:World} {B g:Nat} {l:List Int} {e:Int} (h:St w B g l e) (he:e≠0):l=[]∧Blk w g 145 #[.slice none 0 0,.int .i64 e]:=by
 rcases h with ⟨h1,h⟩ | h
 ·exact absurd h1 he
 ·exact h
theorem St.ofBad {w:World} {B g:Nat} {e:Int} (h:Blk w g 145 #[.slice none 0 0,.int .i64 e]):St w B g [] e:=.inr ⟨rfl,h⟩
theorem Rdr.st {w:World} {B g:Nat} {l:List Int} (h:Rdr w B g l):St w B g l 0:=.inl ⟨rfl,h⟩
theorem St.cells {w:World} {B g:Nat} {l:List Int} {e:Int} (h:St w B g l e):∃ A c,Blk w g 145 #[.slice A l.length c,.int .i64 e]:=by
 rcases h with ⟨rfl,b,off,c,h,_⟩ | ⟨rfl,h⟩
 ·exact ⟨_,_,h⟩
 ·exact ⟨_,_,h⟩
def sh (e:Int):Int:=if e=0 then 2 else e
theorem sh_ne (e:Int):sh e≠0:=by unfold sh; split <;> omega
theorem sh_bad {e:Int} (h:e≠0):sh e=e:=if_neg h
theorem fail_good (B g:Nat) (l:List Int) (x:Int) (w:World) (h:St w B g l 0) (hx:x≠0) :
  Calls Try.prog 101 #[.pointer (some ⟨g,0,none⟩),.int .i64 x] w fun o w'=>o=.returned (.tuple #[])∧St w' B g [] x∧OnlyG g w w':=by
 obtain ⟨A,c,h1⟩:=h.cells
 have c0:w.cell? ⟨g,0,none⟩=some (.slice A l.length c):=h1.cell 0
 have c1:w.cell? ⟨g,1,none⟩=some (.int .i64 0):=h1.cell 1
 have f0:=h1.frozen 0
 have f1:=h1.frozen 1
 have HF:=Lib.hid (show St ((w.setCell ⟨g,1,none⟩ (.int .i64 x)).setCell ⟨g,0,none⟩ (.slice none 0 0)) B g [] x from St.ofBad (show Blk _ _ _ #[.slice none 0 0,.int .i64 x] from (h1.set_ 1 (.int .i64 x)).set_ 0 (.slice none 0 0)))
 have HO:=Lib.hid (((OnlyG.refl g w).set 1 (.int .i64 x)).set 0 (.slice none 0 0))
 have t:(x == 0)=false:=by simpa using hx
 clear h h1 hx
 go_enter Try.func101,Try.ntmps101
 go_wp2
 exact bodyPost_end (v:=.tuple #[]) (by simp [results,Try.results101,go_sem]) rfl ⟨rfl,HF.out,HO.out⟩
theorem fail_bad (B g:Nat) (l:List Int) (e x:Int) (w:World) (h:St w B g l e) (he:e≠0) (hx:x≠0) :
  Calls Try.prog 101 #[.pointer (some ⟨g,0,none⟩),.int .i64 x] w fun o w'=>o=.returned (.tuple #[])∧w=w':=by
 obtain ⟨rfl,h1⟩:=h.bad he
 have c1:w.cell? ⟨g,1,none⟩=some (.int .i64 e):=h1.cell 1
 have t:(x == 0)=false:=by simpa using hx
 have t2:(e != 0)=true:=by simpa using he
 clear h h1 hx he
 go_enter Try.func101,Try.ntmps101
 go_wp2
 exact bodyPost_ret (v:=.tuple #[]) (by simp [results,Try.results101,go_sem]) rfl ⟨rfl,rfl⟩
theorem fail_any (B g:Nat) (l:List Int) (e x:Int) (w:World) (h:St w B g l e) (hx:x≠0) :
  Calls Try.prog 101 #[.pointer (some ⟨g,0,none⟩),.int .i64 x] w fun o w'=>o=.returned (.tuple #[])∧St w' B g [] (if e=0 then x else e)∧OnlyG g w w':=by
 by_cases he:e=0
 ·subst he
  rw [if_pos rfl]
  exact fail_good B g l x w h hx
 ·rw [if_neg he]
  refine (fail_bad B g l e x w h he hx).mono ?_
  rintro o w' ⟨rfl,rfl⟩
  obtain ⟨rfl,h1⟩:=h.bad he
  exact ⟨rfl,St.ofBad h1,OnlyG.refl _ _⟩
theorem raw_none (B g:Nat) (e:Int) (w:World) (h1:Blk w g 145 #[.slice none 0 0,.int .i64 e]) :
  Calls Try.prog 95 #[.pointer (some ⟨g,0,none⟩),.int .i64 ((0:Nat):Int)] w fun o w'=>o=.returned (.slice none 0 0)∧St w' B g [] e∧OnlyG g w w':=by
 have c0:w.cell? ⟨g,0,none⟩=some (.slice none 0 0):=h1.cell 0
 have f0:=h1.frozen 0
 have HS:=Lib.hid (show St (w.setCell ⟨g,0,none⟩ (.slice none 0 0)) B g [] e from St.ofBad (show Blk _ _ _ #[.slice none 0 0,.int .i64 e] from h1.set_ 0 (.slice none 0 0)))
 have HO:=Lib.hid ((OnlyG.refl g w).set 0 (.slice none 0 0))
 clear h1
 go_enter Try.func95,Try.ntmps95
 go_wp2_with fail
 go_ret
 exact ⟨rfl,HS.out,HO.out⟩
theorem raw_bad (B g k:Nat) (l:List Int) (e:Int) (w:World) (h:St w B g l e) (hk:e≠0∨l.length<k) (hk2:k≤4294967295) :
  Calls Try.prog 95 #[.pointer (some ⟨g,0,none⟩),.int .i64 k] w fun o w'=>o=.returned (.slice none 0 0)∧St w' B g [] (sh e)∧OnlyG g w w':=by
 by_cases hlk:l.length<k
 ·obtain ⟨A,c,h1⟩:=h.cells
  have HFA:=Lib.hid (show ∀ V,V=w→_ from fun V hV=>hV ▸ fail_any B g l e 2 w h (by omega))
  have c0:w.cell? ⟨g,0,none⟩=some (.slice A l.length c):=h1.cell 0
  have t:decide (l.length<k)=true:=decide_eq_true hlk
  have HSH:=Lib.hid (show (if e=0 then 2 else e)=sh e from rfl)
  obtain ⟨n,hn⟩:∃ n,n=l.length:=⟨_,rfl⟩
  rw [← hn] at c0 t hlk
  clear h h1 hk hn
  go_enter Try.func95,Try.ntmps95
  go_wp2_with fail
  refine (HFA.out _ rfl).mono ?_
  rintro o w' ⟨rfl,hs,ho⟩
  rw [HSH.out] at hs
  go_wp2_with fail
  go_ret
  exact ⟨rfl,hs,ho⟩
 ·have he:e≠0:=by rcases hk with h | h; exact h; exact absurd h hlk
  obtain ⟨rfl,h1⟩:=h.bad he
  obtain rfl:k=0:=by simp at hlk; omega
  refine (raw_none B g e w h1).mono ?_
  rw [sh_bad he]
  exact fun _ _ h=>h
def Sub (m l:List Int):Prop:=m.length≤l.length∧∀ x ∈ m,x ∈ l
theorem Sub.refl (l:List Int):Sub l l:=⟨Nat.le_refl _,fun _ h=>h⟩
theorem Sub.none (l:List Int):Sub [] l:=⟨Nat.zero_le _,fun _ h=>(by cases h)⟩
theorem Sub.take (l:List Int) (k:Nat):Sub (l.take k) l:=⟨by rw [List.length_take]; omega,fun _ h=>List.mem_of_mem_take h⟩
theorem Sub.drop (l:List Int) (k:Nat):Sub (l.drop k) l:=⟨by rw [List.length_drop]; omega,fun _ h=>List.mem_of_mem_drop h⟩
theorem Sub.trans {a b c:List Int} (h:Sub a b) (k:Sub b c):Sub a c:=⟨Nat.le_trans h.1 k.1,fun x hx=>k.2 x (h.2 x hx)⟩
theorem num_bad (B g k:Nat) (l:List Int) (e:Int) (w:World) (h:St w B g l e) (hk:e≠0∨l.length<k) (hk2:k≤8) :
  Calls Try.prog 83 #[.pointer (some ⟨g,0,none⟩),.int .i64 k] w fun o w'=>o=.returned (.int .u64 0)∧St w' B g [] (sh e)∧OnlyG g w w':=by
 have HR:=Lib.hid (raw_bad B g k l e w h hk (by omega))
 clear h hk
 go_enter Try.func83,Try.ntmps83
 go_wp2_with fail
 refine HR.out.mono ?_
 rintro o w1 ⟨rfl,hs,ho⟩
 have HS:=Lib.hid hs
 have HO:=Lib.hid ho
 clear hs ho
 go_wp2_with fail
 go_loop [5,7,12] (fun x _ i=>i=.int .i64 0∧x=.int .u64 0) (fun _ _ i=>0)
 case atStart=>exact ⟨rfl,rfl⟩
 case round =>
  obtain ⟨rfl,rfl⟩:=hrel
  go_wp2_with fail
  go_ret
  exact ⟨rfl,HS.out,HO.out⟩
theorem err_gen (B g:Nat) (l:List Int) (e:Int) (w:World) (h:St w B g l e) :
  Calls Try.prog 92 #[.pointer (some ⟨g,0,none⟩)] w fun o w'=>o=.returned (.int .i64 e)∧w=w':=by
 obtain ⟨A,c,h1⟩:=h.cells
 have c1:w.cell? ⟨g,1,none⟩=some (.int .i64 e):=h1.cell 1
 clear h h1
 go_enter Try.func92,Try.ntmps92
 go_wp2
 go_ret
 exact ⟨rfl,rfl⟩
end Go.Proofs.Ytnofddbfogilaaa.rdrG
/- Layer 9: headers that extend, in memory. -/
namespace Go.Proofs.Ytnofddbfogilaaa.sixM
open Go.ChangeShapes Go.WideShapes Go.ChangeAt Go.RowKit
open base octA rdrA rdrG sixW
set_option linter.unusedVariables false
structure Xt where
 kind:Int
 A:Option Addr
 c:Nat
 d:List Int
def Xt.cells (x:Xt):Array Value:=#[.int .i64 x.kind,.slice x.A x.d.length x.c]
def Xt.re (x:Xt):XP:=(x.kind,x.d)
structure RdX (w:World) (A:Option Addr) (l:List Xt):Prop where
 row:l=[]∨∃ b off,A=some ⟨b,off,none⟩∧b<w.heap.size∧∀ j (hj:j<l.length),∀ i,i<2→w.cell? ⟨b,off+j*2+i,none⟩=(l[j]).cells[i]?
 els:∀ x ∈ l,Row w w.heap.size x.A (x.d.map (.int .u8))∧x.d.length≤x.c∧x.c≤9223372036854775807∧U8 x.d∧(x.A=none→x.c=0)
theorem RdX.at_ {w:World} {A:Option Addr} {l:List Xt} (h:RdX w A l) (j:Nat) (hj:j<l.length):∃ b off,A=some ⟨b,off,none⟩∧b<w.heap.size∧∀ i,i<2→w.cell? ⟨b,off+j*2+i,none⟩=(l[j]).cells[i]?:=by
 rcases h.row with rfl | ⟨b,off,h1,h2,h3⟩
 ·simp at hj
 ·exact ⟨b,off,h1,h2,h3 j hj⟩
theorem RdX.below {w w':World} {A:Option Addr} {l:List Xt} (h:RdX w A l) (hb:Below w.heap.size w w'):RdX w' A l:=by
 refine ⟨?_,fun o ho=>?_⟩
 ·rcases h.row with rfl | ⟨b,off,h1,h2,h3⟩
  ·exact .inl rfl
  ·exact .inr ⟨b,off,h1,Nat.lt_of_lt_of_le h2 hb.size,fun j hj i hi=>(hb.cell (p:=⟨b,off+j*2+i,none⟩) h2).trans (h3 j hj i hi)⟩
 ·obtain ⟨h1,h2⟩:=h.els o ho
  exact ⟨(h1.below hb).more hb.size,h2⟩
theorem RdX.take {w:World} {A:Option Addr} {l:List Xt} (h:RdX w A l) (k:Nat):RdX w A (l.take k):=by
 refine ⟨?_,fun o ho=>h.els o (List.mem_of_mem_take ho)⟩
 rcases h.row with rfl | ⟨b,off,h1,h2,h3⟩
 ·exact .inl (by simp)
 ·refine .inr ⟨b,off,h1,h2,fun j hj i hi=>?_⟩
  rw [List.length_take] at hj
  rw [h3 j (by omega) i hi,List.getElem_take]
def flatX (l:List Xt):List Value:=l.flatMap fun e=>e.cells.toList
theorem flatX_snoc (l:List Xt) (e:Xt):flatX (l++[e])=flatX l++e.cells.toList:=by simp [flatX]
theorem flatX_get (l:List Xt):∀ (j:Nat) (hj:j<l.length) (i:Nat),i<2→(flatX l)[j*2+i]?=(l[j]).cells[i]?:=by
 induction l with
 | nil=>intro j hj; simp at hj
 | cons o l ih =>
  intro j hj i hi
  have hc:o.cells.toList.length=2:=rfl
  show (o.cells.toList++flatX l)[j*2+i]?=_
  cases j with
  | zero=>rw [List.getElem?_append_left (by omega)]; simp
  | succ j =>
   rw [List.getElem?_append_right (by omega),hc,show (j+1)*2+i - 2=j*2+i by omega,ih j (by simpa using hj) i hi]
   simp
def Els (g:Nat) (w w':World):Prop:=∀ k,k<w.heap.size→k≠g→w'.heap[k]?=w.heap[k]?
theorem Els.refl (g:Nat) (w:World):Els g w w:=fun _ _ _=>rfl
theorem Els.trans {g:Nat} {a b c:World} (h1:Els g a b) (hs:a.heap.size≤b.heap.size) (h2:Els g b c):Els g a c:=fun k hk hg=>(h2 k (by omega) hg).trans (h1 k hk hg)
theorem Els.below {g:Nat} {a b c:World} {B:Nat} (h1:Els g a b) (hs:a.heap.size≤B) (h2:Below B b c):Els g a c:=fun k hk hg=>(h2.block k (by omega)).trans (h1 k hk hg)
theorem toEls {g:Nat} {w w':World} (h:OnlyG g w w'):Els g w w':=h.toE
theorem own_els {g:Nat} {w w':World} {B e s:Nat} {v:Value} {n:Nat} {xs:List Value} (h:w.ownsRow B e s v n xs) (hg:g<B) (he:Els g w w'):w'.ownsRow B e s v n xs:=by
 refine ⟨h.1,?_⟩
 rcases h.2 with hn | ⟨k,cap,cur,rfl,hb2,hgg,rest⟩
 ·exact .inl hn
 ·exact .inr ⟨k,cap,cur,rfl,hb2,(he k (Array.getElem?_eq_some_iff.1 hgg).1 (by omega)).trans hgg,rest⟩
theorem own_below2 {w w':World} {B:Nat} {e:TypeId} {size:Nat} {v:Value} {n:Nat} {xs:List Value} (h:w.ownsRow B e size v n xs) (hb:Below w.heap.size w w'):w'.ownsRow B e size v n xs:=by
 refine ⟨h.1,?_⟩
 rcases h.2 with hn | ⟨g,cap,cur,e1,hb2,hgg,rest⟩
 ·exact .inl hn
 ·exact .inr ⟨g,cap,cur,e1,hb2,(hb.block g (h.lt g (by rw [e1]; rfl)).2).trans hgg,rest⟩
theorem own_sliceN {w:World} {base e s:Nat} {v:Value} {n:Nat} {xs:List Value} (h:w.ownsRow base e s v n xs):∃ A c,v=.slice A n c:=by
 rcases h.2 with ⟨rfl,h0⟩ | ⟨g,cap,cur,rfl,_⟩
 ·exact ⟨_,_,by rw [h0]⟩
 ·exact ⟨_,_,rfl⟩
theorem own_cap {w:World} {B e s:Nat} {A:Option Addr} {n c:Nat} {xs:List Value} (h:w.ownsRow B e s (.slice A n c) n xs):n≤c∧c≤9223372036854775807∧(A=none→c=0):=by
 rcases h.2 with ⟨hv,h0⟩ | ⟨g,cap,cur,hv,hb,hg,hnc,hm,hsz,htake⟩
 ·injection hv with h1 h2 h3
  exact ⟨by omega,by omega,fun _=>h3⟩
 ·injection hv with h1 h2 h3
  subst h3
  unfold maxLen at hm
  exact ⟨by omega,by omega,fun h=>by rw [h1] at h; cases h⟩
theorem own_neB {w:World} {base t e size:Nat} {v:Value} {n b:Nat} {xs:List Value} {cs:Array Value} (ht:t≠e) (h:w.ownsRow base e size v n xs) (hb:Blk w b t cs):∀ k,v.ownBlock=some k→k≠b:=by
 rcases h.2 with ⟨rfl,_⟩ | ⟨g,cap,cur,rfl,hg,hgg,_⟩
 ·intro k hk; simp [Value.ownBlock] at hk
 ·intro k hk e
  simp [Value.ownBlock] at hk
  subst hk e
  unfold Blk at hb
  rw [hb] at hgg
  injection hgg with h1
  injection h1 with _ h2 _
  exact absurd h2 ht
theorem own_own {w:World} {B1 B2 e1 e2 s1 s2:Nat} {v1 v2:Value} {n1 n2:Nat} {x1 x2:List Value} (ht:e1≠e2) (h1:w.ownsRow B1 e1 s1 v1 n1 x1) (h2:w.ownsRow B2 e2 s2 v2 n2 x2):v1.ownBlock=none∨v1.ownBlock≠v2.ownBlock:=by
 rcases h1.2 with ⟨rfl,_⟩ | ⟨g,cap,cur,rfl,hg,hgg,_⟩
 ·exact .inl rfl
 ·refine .inr fun e=>?_
  have hb:Blk w g e1 cur:=hgg
  exact own_neB ht h2 hb g (by rw [← e]; rfl) rfl
structure GotX (w:World) (B:Nat) (v:Value) (l:List Xt):Prop where
 row:w.ownsRow B 118 2 v l.length (flatX l)
 els:∀ e ∈ l,w.ownsRow B 5 1 (.slice e.A e.d.length e.c) e.d.length (e.d.map (.int .u8))
theorem own_baseN {w:World} {base base' s:Nat} {e:TypeId} {v:Value} {n:Nat} {xs:List Value} (h:w.ownsRow base e s v n xs) (hb:base'≤base):w.ownsRow base' e s v n xs:=by
 refine ⟨h.1,?_⟩
 rcases h.2 with hn | ⟨g,cap,cur,rfl,hg,rest⟩
 ·exact .inl hn
 ·exact .inr ⟨g,cap,cur,rfl,by omega,rest⟩
theorem GotX.base {w:World} {B B':Nat} {v:Value} {l:List Xt} (h:GotX w B v l) (hb:B'≤B):GotX w B' v l:=⟨own_baseN h.row hb,fun e he=>own_baseN (h.els e he) hb⟩
theorem GotX.nil (w:World) (B:Nat):GotX w B (.slice none 0 0) []:=⟨World.ownsRow_nil _ _ _ _,fun e he=>by cases he⟩
theorem GotX.els_ {g:Nat} {w w':World} {B:Nat} {v:Value} {l:List Xt} (h:GotX w B v l) (hg:g<B) (he:Els g w w'):GotX w' B v l:=⟨own_els h.row hg he,fun e hm=>own_els (h.els e hm) hg he⟩
theorem GotX.below {w w':World} {B:Nat} {v:Value} {l:List Xt} (h:GotX w B v l) (hb:Below w.heap.size w w'):GotX w' B v l:=⟨own_below2 h.row hb,fun e he=>own_below2 (h.els e he) hb⟩
theorem GotX.more {w w':World} {B:Nat} {v v':Value} {l:List Xt} {e:Xt} (h:GotX w B v l) (he:w.ownsRow B 5 1 (.slice e.A e.d.length e.c) e.d.length (e.d.map (.int .u8))) (ho:w'.ownsRow B 118 2 v' (l.length+1) (flatX l++e.cells.toList)) (hg:w.grownBy w' v.ownBlock):GotX w' B v' (l++[e]):=by
 refine ⟨by rw [List.length_append,flatX_snoc]; exact ho,fun x hx=>?_⟩
 rcases List.mem_append.mp hx with hx | hx
 ·exact (h.els x hx).kept hg (own_own (by decide) (h.els x hx) h.row)
 ·rw [List.mem_singleton.mp hx]
  exact he.kept hg (own_own (by decide) he h.row)
theorem GotX.rd {w:World} {B:Nat} {A:Option Addr} {n c:Nat} {l:List Xt} (h:GotX w B (.slice A n c) l) (hu:∀ e ∈ l,U8 e.d):RdX w A l:=by
 refine ⟨?_,fun o ho=>⟨own_row (h.els o ho),(own_cap (h.els o ho)).1,(own_cap (h.els o ho)).2.1,hu o ho,(own_cap (h.els o ho)).2.2⟩⟩
 rcases Nat.eq_zero_or_pos l.length with h0 | h0
 ·exact .inl (List.eq_nil_of_length_eq_zero h0)
 ·rcases h.row.2 with ⟨hv,h1⟩ | ⟨g,cap,cur,hv,hb,hg,h1,h2,h3,h4⟩
  ·omega
  ·injection hv with hA hn hc
   subst hA hn hc
   refine .inr ⟨g,0,rfl,(Array.getElem?_eq_some_iff.1 hg).1,fun j hj i hi=>?_⟩
   rw [Nat.zero_add,h.row.cellAt (j*2+i) (by omega)]
   exact flatX_get l j hj i hi
structure Hs where
 cls:Int
 lab:Int
 hop:Int
 s6:Bool
 sh:Int
 sl:Int
 d6:Bool
 dh:Int
 dl:Int
 p:Int
def Hs.cells (h:Hs) (v:Value):Array Value:=#[.int .i64 h.cls,.int .i64 h.lab,.int .i64 h.hop,.bool h.s6,.int .u64 h.sh,.int .u64 h.sl,.bool h.d6,.int .u64 h.dh,.int .u64 h.dl,v,.int .i64 h.p]
def zeroH:Hs:=⟨0,0,0,false,0,0,false,0,0,0⟩
end Go.Proofs.Ytnofddbfogilaaa.sixM
/- Layer 9: which kinds extend; where a part lies. -/
namespace Go.Proofs.Ytnofddbfogilaaa.sixA
set_option maxHeartbeats 4000000
set_option maxRecDepth 100000
open Go.ChangeShapes Go.WideShapes Go.ChangeAt Go.RowKit
open base octA octB octC rdrA rdrG sixW sixM
set_option linter.unusedVariables false
theorem at_2 (f:Nat) (A:Option Addr) (n c:Nat) (l:List Int) (w:World) (hl:l.length=n) (hn:n≤1000000) (hc:n≤c) (hcm:c≤9223372036854775807) (hz:A=none→c=0) (hr:Row w w.heap.size A (l.map (.int .u8))) (hb:∀ x ∈ l,0≤x∧x≤255) (hf:f<100) :
  Calls Try.prog 64 #[.slice A n c,.int .i64 f,.int .i64 2] w fun e w'=>e=.returned (.int .u64 (256*l.getD f 0+l.getD (f+1) 0))∧w=w':=by
 have h:=at_any A n c l f 2 w hl hn hc hcm hz hr hb (by omega)
 have e:atZ l f 2=256*l.getD f 0+l.getD (f+1) 0:=by
  unfold atZ
  rw [if_neg (by omega),show hs 2=2 from by decide,Int.toNat_natCast]
  show (0*256+l.getD (f+0) 0)*256+l.getD (f+1) 0=_
  rw [Nat.add_zero,Int.zero_mul,Int.zero_add,Int.mul_comm]
 rwa [e] at h
theorem is_any (k:Int) (w:World):Calls Try.prog 90 #[.int .i64 k] w fun o w'=>o=.returned (.bool (isX k))∧w=w':=by
 by_cases h0:k=0
 ·have e:isX k=true:=by unfold isX; exact decide_eq_true (by omega)
  have t:(k == 0)=true:=by simpa using h0
  rw [e]
  clear h0 e
  go_enter Try.func90,Try.ntmps90
  go_wp2
  go_ret
  exact ⟨rfl,rfl⟩
 have t0:(k == 0)=false:=by simpa using h0
 by_cases h1:k=43
 ·have e:isX k=true:=by unfold isX; exact decide_eq_true (by omega)
  have t:(k == 43)=true:=by simpa using h1
  rw [e]
  clear h0 h1 e
  go_enter Try.func90,Try.ntmps90
  go_wp2
  go_ret
  exact ⟨rfl,rfl⟩
 have t1:(k == 43)=false:=by simpa using h1
 by_cases h2:k=44
 ·have e:isX k=true:=by unfold isX; exact decide_eq_true (by omega)
  have t:(k == 44)=true:=by simpa using h2
  rw [e]
  clear h0 h1 h2 e
  go_enter Try.func90,Try.ntmps90
  go_wp2
  go_ret
  exact ⟨rfl,rfl⟩
 have t2:(k == 44)=false:=by simpa using h2
 by_cases h3:k=60
 ·have e:isX k=true:=by unfold isX; exact decide_eq_true (by omega)
  have t:(k == 60)=true:=by simpa using h3
  rw [e]
  clear h0 h1 h2 h3 e
  go_enter Try.func90,Try.ntmps90
  go_wp2
  go_ret
  exact ⟨rfl,rfl⟩
 have t3:(k == 60)=false:=by simpa using h3
 have e:isX k=false:=by unfold isX; exact decide_eq_false (by omega)
 rw [e]
 clear h0 h1 h2 h3 e
 go_enter Try.func90,Try.ntmps90
 go_wp2
 go_ret
 exact ⟨rfl,rfl⟩
theorem lies_cons (x:XP) (l:List XP):lies (x::l)=if isPart x=true then 256*x.2.getD 1 0+x.2.getD 2 0 else lies l:=rfl
theorem lies_drop (l:List Xt) (j:Nat) (hj:j<l.length):lies ((l.drop j).map Xt.re)=if isPart l[j].re=true then 256*l[j].d.getD 1 0+l[j].d.getD 2 0 else lies ((l.drop (j+1)).map Xt.re):=by
 rw [List.drop_eq_getElem_cons hj,List.map_cons,lies_cons]
 rfl
theorem lies_any (h:Hs) (A:Option Addr) (n c:Nat) (l:List Xt) (w:World) (hl:l.length=n) (hr:RdX w A l) (hn:n≤1000000) :
  Calls Try.prog 73 #[.agg (h.cells (.slice A n c))] w fun o w'=>o=.returned (.int .i64 (lies (l.map Xt.re)))∧Below w.heap.size w w':=by
 obtain ⟨cls,lab,hop,s6,sh,sl,d6,dh,dl,p⟩:=h
 unfold Hs.cells
 obtain ⟨w1,hw1⟩:∃ w1,w1=w.alloc (.cells #[.int .i64 cls,.int .i64 lab,.int .i64 hop,.bool s6,.int .u64 sh,.int .u64 sl,.bool d6,.int .u64 dh,.int .u64 dl,.slice A n c,.int .i64 p] 87):=⟨_,rfl⟩
 have E1:=Lib.hid hw1
 have BA1:=Lib.hid (show Below w.heap.size w w1 from by rw [hw1]; exact (Below.refl _ _).alloc (Nat.le_refl _) _)
 have KB:=Lib.hid (show Blk w1 w.heap.size 87 #[.int .i64 cls,.int .i64 lab,.int .i64 hop,.bool s6,.int .u64 sh,.int .u64 sl,.bool d6,.int .u64 dh,.int .u64 dl,.slice A n c,.int .i64 p] from by rw [hw1]; exact Blk.new w _ _)
 have HR1:=Lib.hid (hr.below BA1.out)
 have HL:=Lib.hid hl
 have HV:=Lib.hid (show lies (l.map Xt.re)=lies ((l.drop 0).map Xt.re) from rfl)
 have c9:w1.cell? ⟨w.heap.size,9,none⟩=some (.slice A n c):=KB.out.cell 9
 obtain ⟨v,hv⟩:∃ v,v=lies (l.map Xt.re):=⟨_,rfl⟩
 rw [← hv] at HV ⊢
 clear hw1 hl hr hv
 go_enter Try.func73,Try.ntmps73
 go_upto_region 1 with fail
 rw [← E1.out]
 go_wp2_with fail
 go_loopw [8] (fun i wr=>∃ j:Nat,j≤n∧i=.int .i64 j∧Hid (v=lies ((l.drop j).map Xt.re))∧Hid (Below w1.heap.size w1 wr)) (fun i _=>n - (intOf i).toNat)
 case atStart=>exact ⟨0,by omega,rfl,HV,Lib.hid (Below.refl _ _)⟩
 case round =>
  obtain ⟨j,hj,rfl,HVJ,HB⟩:=hrel
  by_cases hlt:j<n
  ·have hjl:j<l.length:=HL.out.symm ▸ hlt
   obtain ⟨b,off,hA,hbl,hC⟩:=(HR1.out.below HB.out).at_ j hjl
   subst hA
   have hst:=lies_drop l j hjl
   rw [← HVJ.out] at hst
   obtain ⟨k1,k2,k3,k4,k5⟩:=HR1.out.els l[j] (List.getElem_mem hjl)
   obtain ⟨e,he⟩:∃ e,e=l[j]:=⟨_,rfl⟩
   rw [← he] at hC hst k1 k2 k3 k4 k5
   obtain ⟨ek,eA,ec,ed⟩:=e
   have d0:wr.cell? ⟨b,off+j*2,none⟩=some (.int .i64 ek):=hC 0 (by omega)
   have d1:wr.cell? ⟨b,off+j*2+1,none⟩=some (.slice eA ed.length ec):=hC 1 (by omega)
   have HRW:=Lib.hid ((k1.more HB.out.size).below (Below.refl _ _))
   have HK:=Lib.hid (show Row wr wr.heap.size eA (ed.map (.int .u8)) from (k1.below HB.out).more HB.out.size)
   have HK2:=Lib.hid k2
   have HK3:=Lib.hid k3
   have HK4:=Lib.hid k4
   have HK5:=Lib.hid k5
   have HST:=Lib.hid hst
   have j0:(0:Int)≤j:=by omega
   have j1:(j:Int)<n:=by omega
   have t1:decide ((j:Int)<n)=true:=decide_eq_true (by omega)
   have t1n:decide (j<n)=true:=decide_eq_true hlt
   obtain ⟨q,hq⟩:∃ q,q=ed.length:=⟨_,rfl⟩
   have HQ:=Lib.hid hq
   rw [← hq] at d1
   clear hC he hst k1 k2 k3 k4 k5 hjl hq hbl
   obtain ⟨w2,hw2⟩:∃ w2,w2=wr.alloc (.cells #[.int .i64 ek,.slice eA q ec] 118):=⟨_,rfl⟩
   have E2:=Lib.hid hw2
   have BA2:=Lib.hid (show Below wr.heap.size wr w2 from by rw [hw2]; exact (Below.refl _ _).alloc (Nat.le_refl _) _)
   have KX:=Lib.hid (show Blk w2 wr.heap.size 118 #[.int .i64 ek,.slice eA q ec] from by rw [hw2]; exact Blk.new wr _ _)
   have HB2:=Lib.hid (HB.out.trans (BA2.out.mono HB.out.size))
   have x0:w2.cell? ⟨wr.heap.size,0,none⟩=some (.int .i64 ek):=KX.out.cell 0
   have x1:w2.cell? ⟨wr.heap.size,1,none⟩=some (.slice eA q ec):=KX.out.cell 1
   clear hw2
   by_cases h44:ek=44
   ·have t2:(ek == 44)=true:=by simpa using h44
    by_cases h7:q=7
    ·have hp:isPart (Xt.re ⟨ek,eA,ec,ed⟩)=true:=by
      unfold isPart Xt.re
      exact decide_eq_true ⟨h44,by rw [← HQ.out]; exact h7⟩
     have HF:=Lib.hid (show v=256*ed.getD 1 0+ed.getD 2 0 from by have:=HST.out; rw [hp,if_pos rfl] at this; exact this)
     have HAT:=Lib.hid (at_2 1 eA q ec ed w2 HQ.out.symm (by omega) (by have:=HK2.out; rw [HQ.out]; exact this) HK3.out HK5.out ((HK.out.below BA2.out).more BA2.out.size) HK4.out (by omega))
     rw [← HF.out] at HAT
     have hvb:0≤v∧v≤65535:=by
      have h1:0≤ed.getD 1 0∧ed.getD 1 0≤255:=HK4.out.get 1
      have h2:0≤ed.getD 2 0∧ed.getD 2 0≤255:=HK4.out.get 2
      have h3:=HF.out
      omega
     have wv:IntKind.i64.wrap v=v:=IntWalk.i64_in _ (by omega)
     subst h7
     clear hp h44
     go_wp2_with fail
     rw [← E2.out]
     refine HAT.out.mono ?_
     rintro o w3 ⟨rfl,rfl⟩
     go_wp2_with fail
     go_ret
     exact ⟨rfl,BA1.out.trans (HB2.out.mono BA1.out.size)⟩
    ·have hp:isPart (Xt.re ⟨ek,eA,ec,ed⟩)=false:=by
      unfold isPart Xt.re
      exact decide_eq_false (by rintro ⟨_,h⟩; exact h7 (by rw [HQ.out]; exact h))
     have HF:=Lib.hid (show v=lies ((l.drop (j+1)).map Xt.re) from by have:=HST.out; rw [hp,if_neg (by decide)] at this; exact this)
     have t7:((q:Int) == 7)=false:=by simp; omega
     have t7n:(q == 7)=false:=by simpa using h7
     clear hp h44 h7
     go_wp2_with fail
     rw [← E2.out]
     go_roundw
     case rel=>exact ⟨j+1,by omega,by go_num,HF,HB2⟩
     case measure=>simp [intOf]; omega
   ·have t2:(ek == 44)=false:=by simpa using h44
    have hp:isPart (Xt.re ⟨ek,eA,ec,ed⟩)=false:=by
     unfold isPart Xt.re
     exact decide_eq_false (by rintro ⟨h,_⟩; exact h44 h)
    have HF:=Lib.hid (show v=lies ((l.drop (j+1)).map Xt.re) from by have:=HST.out; rw [hp,if_neg (by decide)] at this; exact this)
    clear hp h44
    go_wp2_with fail
    rw [← E2.out]
    go_roundw
    case rel=>exact ⟨j+1,by omega,by go_num,HF,HB2⟩
    case measure=>simp [intOf]; omega
  ·obtain rfl:n=j:=by omega
   have t1:decide ((n:Int)<n)=false:=decide_eq_false (by omega)
   have t1n:decide (n<n)=false:=decide_eq_false (by omega)
   have hv:v=0:=by rw [HVJ.out,← HL.out,List.drop_length]; rfl
   subst hv
   go_wp2_with fail
   go_ret
   exact ⟨rfl,BA1.out.trans (HB.out.mono BA1.out.size)⟩
theorem i64_and (a b:Nat) (ha:a<9223372036854775808) (hb:b<9223372036854775808):bits .and .i64 (a:Int) (b:Int)=((a &&& b:Nat):Int):=by
 have hA:(BitVec.ofInt 64 (a:Int)).toNat=a:=by rw [BitVec.ofInt_natCast,BitVec.toNat_ofNat]; exact Nat.mod_eq_of_lt (by omega)
 have hB:(BitVec.ofInt 64 (b:Int)).toNat=b:=by rw [BitVec.ofInt_natCast,BitVec.toNat_ofNat]; exact Nat.mod_eq_of_lt (by omega)
 show IntKind.i64.wrap ((BitVec.ofInt 64 (a:Int) &&& BitVec.ofInt 64 (b:Int)).toNat:Nat)=_
 rw [BitVec.toNat_and,hA,hB]
 have:a &&& b≤a:=Nat.and_le_left
 exact IntWalk.i64_in _ (by omega)
theorem frag_any (h:Hs) (A:Option Addr) (n c:Nat) (l:List Xt) (w:World) (hl:l.length=n) (hr:RdX w A l) (hn:n≤1000000) :
  Calls Try.prog 48 #[.agg (h.cells (.slice A n c))] w fun o w'=>o=.returned (.int .i64 (lies (l.map Xt.re) / 8))∧Below w.heap.size w w':=by
 obtain ⟨cls,lab,hop,s6,sh,sl,d6,dh,dl,p⟩:=h
 obtain ⟨w1,hw1⟩:∃ w1,w1=w.alloc (.cells #[.int .i64 cls,.int .i64 lab,.int .i64 hop,.bool s6,.int .u64 sh,.int .u64 sl,.bool d6,.int .u64 dh,.int .u64 dl,.slice A n c,.int .i64 p] 87):=⟨_,rfl⟩
 have E1:=Lib.hid hw1
 have BA1:=Lib.hid (show Below w.heap.size w w1 from by rw [hw1]; exact (Below.refl _ _).alloc (Nat.le_refl _) _)
 have KB:=Lib.hid (show Blk w1 w.heap.size 87 #[.int .i64 cls,.int .i64 lab,.int .i64 hop,.bool s6,.int .u64 sh,.int .u64 sl,.bool d6,.int .u64 dh,.int .u64 dl,.slice A n c,.int .i64 p] from by rw [hw1]; exact Blk.new w _ _)
 have HLI:=Lib.hid (show Calls Try.prog 73 #[.agg #[.int .i64 cls,.int .i64 lab,.int .i64 hop,.bool s6,.int .u64 sh,.int .u64 sl,.bool d6,.int .u64 dh,.int .u64 dl,.slice A n c,.int .i64 p]] w1 _ from lies_any ⟨cls,lab,hop,s6,sh,sl,d6,dh,dl,p⟩ A n c l w1 hl (hr.below BA1.out) hn)
 have hb:=lies_in (l:=l.map Xt.re) (fun x hx=>by
  rw [List.mem_map] at hx
  obtain ⟨y,hy,rfl⟩:=hx
  exact (hr.els y hy).2.2.2.1)
 obtain ⟨v,hv⟩:∃ v,v=lies (l.map Xt.re):=⟨_,rfl⟩
 rw [← hv] at HLI hb ⊢
 show Calls _ _ #[.agg #[.int .i64 cls,.int .i64 lab,.int .i64 hop,.bool s6,.int .u64 sh,.int .u64 sl,.bool d6,.int .u64 dh,.int .u64 dl,.slice A n c,.int .i64 p]] _ _
 clear hw1 hl hr hv
 have c0:=KB.out.cell 0
 have c1:=KB.out.cell 1
 have c2:=KB.out.cell 2
 have c3:=KB.out.cell 3
 have c4:=KB.out.cell 4
 have c5:=KB.out.cell 5
 have c6:=KB.out.cell 6
 have c7:=KB.out.cell 7
 have c8:=KB.out.cell 8
 have c9:=KB.out.cell 9
 have c10:=KB.out.cell 10
 go_enter Try.func48,Try.ntmps48
 go_upto_region 1 with fail
 rw [← E1.out]
 go_wp2_with fail
 refine HLI.out.mono ?_
 rintro o w2 ⟨rfl,hb2⟩
 have HB2:=Lib.hid (BA1.out.trans (hb2.mono BA1.out.size))
 clear hb2
 go_wp2_with fail
 go_ret
 exact ⟨rfl,HB2.out⟩
theorem more_any (h:Hs) (A:Option Addr) (n c:Nat) (l:List Xt) (w:World) (hl:l.length=n) (hr:RdX w A l) (hn:n≤1000000) :
  Calls Try.prog 49 #[.agg (h.cells (.slice A n c))] w fun o w'=>o=.returned (.bool (decide (lies (l.map Xt.re) % 2=1)))∧Below w.heap.size w w':=by
 obtain ⟨cls,lab,hop,s6,sh,sl,d6,dh,dl,p⟩:=h
 obtain ⟨w1,hw1⟩:∃ w1,w1=w.alloc (.cells #[.int .i64 cls,.int .i64 lab,.int .i64 hop,.bool s6,.int .u64 sh,.int .u64 sl,.bool d6,.int .u64 dh,.int .u64 dl,.slice A n c,.int .i64 p] 87):=⟨_,rfl⟩
 have E1:=Lib.hid hw1
 have BA1:=Lib.hid (show Below w.heap.size w w1 from by rw [hw1]; exact (Below.refl _ _).alloc (Nat.le_refl _) _)
 have KB:=Lib.hid (show Blk w1 w.heap.size 87 #[.int .i64 cls,.int .i64 lab,.int .i64 hop,.bool s6,.int .u64 sh,.int .u64 sl,.bool d6,.int .u64 dh,.int .u64 dl,.slice A n c,.int .i64 p] from by rw [hw1]; exact Blk.new w _ _)
 have HLI:=Lib.hid (show Calls Try.prog 73 #[.agg #[.int .i64 cls,.int .i64 lab,.int .i64 hop,.bool s6,.int .u64 sh,.int .u64 sl,.bool d6,.int .u64 dh,.int .u64 dl,.slice A n c,.int .i64 p]] w1 _ from lies_any ⟨cls,lab,hop,s6,sh,sl,d6,dh,dl,p⟩ A n c l w1 hl (hr.below BA1.out) hn)
 have hb:=lies_in (l:=l.map Xt.re) (fun x hx=>by
  rw [List.mem_map] at hx
  obtain ⟨y,hy,rfl⟩:=hx
  exact (hr.els y hy).2.2.2.1)
 obtain ⟨v,hv⟩:∃ v,v=lies (l.map Xt.re):=⟨_,rfl⟩
 rw [← hv] at HLI hb ⊢
 have hbit:(bits .and .i64 v 1 == 1)=decide (v % 2=1):=by
  obtain ⟨n',rfl⟩:=Int.eq_ofNat_of_zero_le hb.1
  have e:bits .and .i64 (n':Int) 1=((n' &&& 1:Nat):Int):=i64_and n' 1 (by omega) (by omega)
  rw [e,Nat.and_one_is_mod]
  by_cases h:n' % 2=1
  ·have h2:(n':Int) % 2=1:=by omega
   rw [h,decide_eq_true h2]
   rfl
  ·have h2:¬ (n':Int) % 2=1:=by omega
   rw [show n' % 2=0 by omega,decide_eq_false h2]
   rfl
 show Calls _ _ #[.agg #[.int .i64 cls,.int .i64 lab,.int .i64 hop,.bool s6,.int .u64 sh,.int .u64 sl,.bool d6,.int .u64 dh,.int .u64 dl,.slice A n c,.int .i64 p]] _ _
 clear hw1 hl hr hv
 have c0:=KB.out.cell 0
 have c1:=KB.out.cell 1
 have c2:=KB.out.cell 2
 have c3:=KB.out.cell 3
 have c4:=KB.out.cell 4
 have c5:=KB.out.cell 5
 have c6:=KB.out.cell 6
 have c7:=KB.out.cell 7
 have c8:=KB.out.cell 8
 have c9:=KB.out.cell 9
 have c10:=KB.out.cell 10
 go_enter Try.func49,Try.ntmps49
 go_upto_region 1 with fail
 rw [← E1.out]
 go_wp2_with fail
 refine HLI.out.mono ?_
 rintro o w2 ⟨rfl,hb2⟩
 have HB2:=Lib.hid (BA1.out.trans (hb2.mono BA1.out.size))
 clear hb2
 go_wp2_with fail
 go_ret
 exact ⟨rfl,HB2.out⟩
end Go.Proofs.Ytnofddbfogilaaa.sixA
