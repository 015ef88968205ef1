/- 6 texts in one. -/
import Derived.Laws.CopyRow
import Derived.Deep.RegionHeld3
import Derived.Test.YtodckfgfbcnkoaaNk04
import Derived.Test.YtodckfgfbcnkoaaNk22
import Derived.Test.YtodckfgfbcnkoaaNk26
set_option linter.unusedVariables false
open Go.ChangeShapes Go.WideShapes Go.ChangeAt Go.RowKit
/- Words put into bytes; a time to live that is one less: plain words. -/
namespace Go.Proofs.Ytodckfgfbcnkoaa.tunV
open base sumA sumB sixW sixM pktA sixF
def setw (l:List Int) (p:Nat) (v:Int):List Int:=(l.set p (v / 256)).set (p+1) (v % 256)
theorem setw_len (l:List Int) (p:Nat) (v:Int):(setw l p v).length=l.length:=by simp [setw]
theorem set_get (l:List Int) (p:Nat) (v:Int) (i:Nat) (h:p<l.length):(l.set p v).getD i 0=if i=p then v else l.getD i 0:=by
 rw [List.getD_eq_getElem?_getD,List.getD_eq_getElem?_getD]
 by_cases e:i=p
 ·rw [if_pos e,e,List.getElem?_set_self h]; rfl
 ·rw [if_neg e,List.getElem?_set_ne (fun k=>e k.symm)]
theorem setw_get (l:List Int) (p:Nat) (v:Int) (i:Nat) (h:p+1<l.length):(setw l p v).getD i 0=if i=p+1 then v % 256 else if i=p then v / 256 else l.getD i 0:=by
 unfold setw
 rw [set_get _ _ _ _ (by rw [List.length_set]; exact h)]
 by_cases e:i=p+1
 ·rw [if_pos e,if_pos e]
 ·rw [if_neg e,if_neg e,set_get _ _ _ _ (by omega)]
theorem set_u8 {l:List Int} (h:U8 l) (p:Nat) (v:Int) (v0:0≤v) (v9:v≤255):U8 (l.set p v):=by
 intro x hx
 rcases List.mem_or_eq_of_mem_set hx with hx | rfl
 ·exact h x hx
 ·omega
theorem setw_u8 {l:List Int} (h:U8 l) (p:Nat) (v:Int) (v0:0≤v) (v9:v≤65535):U8 (setw l p v):=set_u8 (set_u8 h p _ (by omega) (by omega)) (p+1) _ (by omega) (by omega)
theorem set_take (l:List Int) (p n:Nat) (v:Int):(l.set p v).take n=(l.take n).set p v:=by
 apply List.ext_getElem?
 intro i
 rw [List.getElem?_take,List.getElem?_set,List.getElem?_set,List.getElem?_take,List.length_take]
 by_cases e:p=i
 ·subst e
  simp only [if_true]
  by_cases a:p<n
  ·rw [if_pos a]
   by_cases b:p<l.length
   ·rw [if_pos b,if_pos (by omega)]
   ·rw [if_neg b,if_neg (by omega)]
  ·rw [if_neg a,if_neg (by omega)]
 ·rw [if_neg e,if_neg e]
theorem setw_take (l:List Int) (p n:Nat) (v:Int):(setw l p v).take n=setw (l.take n) p v:=by
 unfold setw
 rw [set_take,set_take]
theorem set_drop (l:List Int) (p n:Nat) (v:Int) (h:p<n):(l.set p v).drop n=l.drop n:=by
 apply List.ext_getElem?
 intro i
 rw [List.getElem?_drop,List.getElem?_drop,List.getElem?_set_ne (by omega)]
theorem setw_drop (l:List Int) (p n:Nat) (v:Int) (h:p+1<n):(setw l p v).drop n=l.drop n:=by
 unfold setw
 rw [set_drop _ _ _ _ h,set_drop _ _ _ _ (by omega)]
theorem wsum_setw:∀ (l:List Int) (k:Nat) (v:Int),2*k+1<l.length→wsum (setw l (2*k) v)=wsum l - udpA.w16 l (2*k)+v
 | [],k,v,h=>by simp at h
 | [a],k,v,h=>by simp at h
 | a::b::r,0,v,h=>by
  show 256*(v / 256)+v % 256+wsum r=256*a+b+wsum r - (a*256+b)+v
  omega
 | a::b::r,k+1,v,h=>by
  have ih:=wsum_setw r k v (by simp only [List.length_cons] at h; omega)
  have e:setw (a::b::r) (2*(k+1)) v=a::b::setw r (2*k) v:=rfl
  have e2:udpA.w16 (a::b::r) (2*(k+1))=udpA.w16 r (2*k):=rfl
  rw [e,e2]
  show 256*a+b+wsum (setw r (2*k) v)=256*a+b+wsum r - udpA.w16 r (2*k)+v
  rw [ih]
  omega
theorem wsum_low (l:List Int) (hu:U8 l) (h:2≤l.length):256*l.getD 0 0≤wsum l:=by
 match l,hu,h with
 | a::b::r,hu,_ =>
  have hb:=hu b (by simp)
  have hr:0≤wsum r:=(wsum_bd r fun x hx=>hu x (by simp [hx])).1
  show 256*a≤256*a+b+wsum r
  omega
theorem w16_set (l:List Int) (p:Nat) (v:Int) (i:Nat) (h:p+1<l.length) (e:i+1<p∨p+1<i):udpA.w16 (setw l p v) i=udpA.w16 l i:=by
 unfold udpA.w16
 rw [setw_get _ _ _ _ h,setw_get _ _ _ _ h,if_neg (by omega),if_neg (by omega),if_neg (by omega),if_neg (by omega)]
theorem w16_setw (l:List Int) (p:Nat) (v:Int) (h:p+1<l.length):udpA.w16 (setw l p v) p=v:=by
 unfold udpA.w16
 rw [setw_get _ _ _ _ h,setw_get _ _ _ _ h,if_neg (by omega),if_pos rfl,if_pos rfl]
 omega
theorem four_sizes (l:List Int) (hu:U8 l) (he:fourE l=0):l.getD 0 0 / 16=4∧20≤fourS l∧fourS l≤60∧(fourS l:Int)=fourA.hl l∧((udpA.w16 l 2).toNat:Int)=udpA.w16 l 2∧fourS l≤(udpA.w16 l 2).toNat∧(udpA.w16 l 2).toNat≤l.length∧fourS l+(fourR l).length=(udpA.w16 l 2).toNat∧udpA.w16 l 6<32768∧fo (wsum (l.take (fourS l)))=65535:=by
 have k0:=hu.get 0
 have hs:0≤fourA.hl l∧fourA.hl l≤60:=by unfold fourA.hl; omega
 have k2:=udpA.w16_in l hu 2
 unfold fourE at he
 split at he
 ·omega
 ·split at he
  ·omega
  ·split at he
   ·omega
   ·split at he
    ·omega
    ·split at he
     ·omega
     ·split at he
      ·omega
      ·have e1:(fourS l:Int)=fourA.hl l:=by unfold fourS; omega
       have e2:fo (wsum (l.take (fourS l)))=65535:=by
        unfold fourS
        omega
       refine ⟨by omega,by omega,by omega,e1,by omega,by omega,by omega,?_,by omega,e2⟩
       unfold fourR
       rw [List.length_take,List.length_drop]
       omega
theorem six_sizes (l:List Int) (hu:U8 l) {ys:List XP} {q:Int} {r:List Int} (he:sixP l=.inr (ys,q,r)):l.getD 0 0 / 16=6∧40+sizeP l≤l.length∧extL ys+r.length=sizeP l∧U8 r∧0≤q∧q≤255:=by
 unfold sixP at he
 split at he
 ·cases he
 ·split at he
  ·cases he
  ·split at he
   ·cases he
   ·have hL:((l.take (40+sizeP l)).drop 40).length=sizeP l:=by rw [List.length_drop,List.length_take]; omega
    cases hc:chn 9 [] (l.getD 6 0) ((l.take (40+sizeP l)).drop 40) with
    | none=>rw [hc] at he; cases he
    | some k =>
     obtain ⟨ys',q',r'⟩:=k
     rw [hc] at he
     obtain ⟨rfl,rfl,rfl⟩:ys'=ys∧q'=q∧r'=r:=by
      have e:(Sum.inr (ys',q',r'):Res)=.inr (ys,q,r):=he
      injection e with e
      injection e with e1 e2
      injection e2 with e2 e3
      exact ⟨e1,e2,e3⟩
     obtain ⟨zs,e1,e2,e3,e4,e5,e6,e7,e8,e9,e10⟩:=chn_sound 9 [] _ _ ((hu.take _).drop _) (hu.get 6) RightE.nil (fun x hx=>by cases hx) hc
     refine ⟨by omega,by omega,?_,e9,e6,e7⟩
     have e:extL zs+r'.length=sizeP l:=by rw [← hL,e3,List.length_append,extB_len]
     rw [List.nil_append] at e1
     rw [e1]
     exact e
end Go.Proofs.Ytodckfgfbcnkoaa.tunV
/- Layer 14: open4, open6 of any bytes. -/
namespace Go.Proofs.Ytodckfgfbcnkoaa.tunC
open base octA rdrA rdrG sixW sixM pktA pktB sixA sixE sixF sixO
def SixG (l:List Int) (ys:List XP) (q:Int) (r:List Int) (w:World) (o:Ending) (w':World):Prop:=Below w.heap.size w w'∧∃ (AX:Option Addr) (nx cx:Nat) (cls lab:Int) (AR:Option Addr) (cr:Nat),o=.returned (.tuple #[.agg #[.int .i64 cls,.int .i64 lab,.int .i64 (l.getD 7 0),.bool true,.int .u64 (hdOf l q).sh,.int .u64 (hdOf l q).sl,.bool true,.int .u64 (hdOf l q).dh,.int .u64 (hdOf l q).dl,.slice AX nx cx,.int .i64 q],.slice AR r.length cr,.int .i64 0])∧Sl w' AR r.length cr r
     ∧(∀ V2,Below w'.heap.size w' V2→Calls Try.prog 20 #[.agg #[.int .i64 cls,.int .i64 lab,.int .i64 (l.getD 7 0),.bool true,.int .u64 (hdOf l q).sh,.int .u64 (hdOf l q).sl,.bool true,.int .u64 (hdOf l q).dh,.int .u64 (hdOf l q).dl,.slice AX nx cx,.int .i64 q]] V2 fun o w'=>o=.returned (.int .i64 (lies ys / 8))∧Below V2.heap.size V2 w')
     ∧(∀ V2,Below w'.heap.size w' V2→Calls Try.prog 33 #[.agg #[.int .i64 cls,.int .i64 lab,.int .i64 (l.getD 7 0),.bool true,.int .u64 (hdOf l q).sh,.int .u64 (hdOf l q).sl,.bool true,.int .u64 (hdOf l q).dh,.int .u64 (hdOf l q).dl,.slice AX nx cx,.int .i64 q]] V2 fun o w'=>o=.returned (.int .i64 (40+extL ys:Nat))∧Below V2.heap.size V2 w')
theorem six_any (A:Option Addr) (n c:Nat) (l:List Int) (w:World) (h:Sl w A n c l) (hn:n≤1000) (hv:l.getD 0 0 / 16=6):Calls Try.prog 19 #[.slice A n c] w (HeadP w l (sixP l)):=by
 have hl:=h.len
 by_cases h40:n<40
 ·exact sixF.parse_short A n c l w hl h40
 obtain ⟨b,off,rfl,hb,hs⟩:=lies_of h.row (by omega)
 exact sixF.parse_ok b off n c l w hl (by omega) (by omega) h.nc h.mx hb hs h.u8 hv
theorem six_good (A:Option Addr) (n c:Nat) (l:List Int) (w:World) (h:Sl w A n c l) (hn:n≤1000) (hv:l.getD 0 0 / 16=6) {ys:List XP} {q:Int} {r:List Int} (e1:sixP l=.inr (ys,q,r)):Calls Try.prog 19 #[.slice A n c] w (SixG l ys q r w):=by
 have hl:=h.len
 have h9:=six_any A n c l w h hn hv
 obtain ⟨_,hlen,hsz,hru,q0,q9⟩:=tunV.six_sizes l h.u8 e1
 have hC:chn 9 [] (l.getD 6 0) ((l.take (40+sizeP l)).drop 40)=some (ys,q,r):=by
  have e:=e1
  unfold sixP at e
  rw [if_neg (by omega),if_neg (by omega),if_neg (by omega)] at e
  unfold ofC at e
  split at e
  ·cases e
  ·rename_i k
   injection e with e
   rw [k,e]
 obtain ⟨g1,g2,g3,g4,g5⟩:=sixT.put_back l h.u8 (by omega) hv (by omega) hC
 rw [e1] at h9
 refine h9.mono fun o w' k=>?_
 obtain ⟨hb9,L,A9,c9,B9,d9,k1,k2,k3,k4⟩:=sixS.headP_good k
 have hU:∀ x ∈ L,U8 x.d:=fun x hx=>g3 x.re (by rw [← k2]; exact List.mem_map_of_mem hx)
 have hLn:L.length=ys.length:=by rw [← k2,List.length_map]
 have h8:=g2.e.most
 have hd7:∀ x ∈ L,x.d.length≤2047:=fun x hx=>sixU.le2047 g2.e x.re (by rw [← k2]; exact List.mem_map_of_mem hx)
 refine ⟨hb9,A9,ys.length,c9,_,_,B9,d9,k1,Sl.own k4 rfl g4,fun V2 hV2=>?_,fun V2 hV2=>?_⟩
 ·have h7:=sixA.frag_any (hdOf l q) A9 ys.length c9 L V2 hLn ((k3.below hV2).rd hU) (by omega)
  rw [k2] at h7
  exact h7
 ·have h7:=sixO.len_any (hdOf l q) A9 ys.length c9 L V2 hLn ((k3.below hV2).rd hU) (by omega) hd7
  rw [k2] at h7
  exact h7
end Go.Proofs.Ytodckfgfbcnkoaa.tunC
/- Layer 14: a time to live that is one less. -/
namespace Go.Proofs.Ytodckfgfbcnkoaa.tunH
open base octA octF rdrA rdrG sumB sixW sixM pktA pktB pktD
theorem copy_run (W:World) (g o d dc:Nat) (xs ys:List Int) (A:Option Addr) (n c k:Nat) (hg:Blk W g 5 (xs.map (Value.int .u8)).toArray) (hs:Sl W A n c ys) (hk:k=min n d) (h0:0<k) (hfit:o+k≤xs.length) :
  ∃ W',(Builtin.copy_ #[22,22] 3 #[.slice (some ⟨g,o,none⟩) d dc,.slice A n c]).run Try.prog W=.ok (.int .i64 k) W'∧Blk W' g 5 ((splice xs o (ys.take k)).map (Value.int .u8)).toArray∧OnlyG g W W':=by
 have hl:=hs.len
 obtain ⟨b,off,rfl,hb,hc⟩:=lies_of hs.row (by omega)
 have hlk:((ys.take k).map (Value.int .u8)).length=k:=by rw [List.length_map,List.length_take]; omega
 have h:=run_copy_row (P:=Try.prog) W 22 22 3 5 g o d dc ⟨b,off,none⟩ n c (xs.map (Value.int .u8)).toArray 5 ((ys.take k).map (Value.int .u8)) Try.underlying22 octF.info1 hg (by rw [hlk]; exact hk) (fun j v hv=>by
  rw [Addr.add_lit,List.getElem?_map,List.getElem?_take] at *
  split at hv
  ·rename_i hj
   rw [hc j (by omega)]
   rw [List.getD_eq_getElem?_getD,List.getElem?_eq_getElem (by omega)]
   rw [List.getElem?_eq_getElem (by omega)] at hv
   exact hv
  ·cases hv) (by rw [hlk,List.size_toArray,List.length_map]; exact hfit) (by
  intro v hv
  rw [List.mem_map] at hv
  obtain ⟨x,_,rfl⟩:=hv
  rfl)
 rw [hlk] at h
 have e:((xs.map (Value.int .u8)).toArray.toList.take o++(ys.take k).map (Value.int .u8)++(xs.map (Value.int .u8)).toArray.toList.drop (o+k))=(splice xs o (ys.take k)).map (Value.int .u8):=by
  have hl2:(ys.take k).length=k:=by rw [List.length_take]; omega
  unfold splice
  simp [List.map_take,List.map_drop,hl2]
 rw [e] at h
 exact ⟨_,h,blkRow hg _,onlyRow _⟩
theorem Sl_blk {w:World} {g n:Nat} {xs:List Int} (h:Blk w g 5 (xs.map (Value.int .u8)).toArray) (hl:xs.length=n) (hu:U8 xs) (hn:n≤1000000):Sl w (some ⟨g,0,none⟩) n n xs:=by
 refine ⟨hl,?_,Nat.le_refl _,by omega,(fun h=>by cases h),hu⟩
 have:=sumC.row_blk h
 simpa using this
theorem splice_full (xs ys:List Int) (h:xs.length=ys.length):splice xs 0 ys=ys:=by
 unfold splice
 rw [List.take_zero,List.nil_append,Nat.zero_add,← h,List.drop_length,List.append_nil]
end Go.Proofs.Ytodckfgfbcnkoaa.tunH
/- Layer 15: checks that are turned by words, words put into bytes: plain words. -/
namespace Go.Proofs.Ytodckfgfbcnkoaa.natW
open base octA sumA sumB sumD sumE sixW sixM pktB tunV
def W16 (l:List Int):Prop:=∀ x ∈ l,0≤x∧x≤65535
theorem turn_cong (c f t:Int) (c0:0≤c) (c9:c≤65535) (f0:0≤f) (f9:f≤65535) (t0:0≤t) (t9:t≤65535):0≤turn c f t∧turn c f t≤65535∧(turn c f t - (c+f - t)) % 65535=0:=by
 have h1:=fo_mod (n:=65535 - c+(65535 - f)+t) (by omega)
 have h2:=fo_bd (65535 - c+(65535 - f)+t) (by omega)
 unfold turn
 generalize fo (65535 - c+(65535 - f)+t)=k at *
 omega
theorem turns_cong:∀ (fs ts:List Int) (c:Int),fs.length=ts.length→0≤c→c≤65535→W16 fs→W16 ts→0≤turns c fs ts∧turns c fs ts≤65535∧(turns c fs ts - (c+fs.sum - ts.sum)) % 65535=0
 | [],[],c,_,c0,c9,_,_=>⟨c0,c9,by show (c - (c+0 - 0)) % 65535=0; omega⟩
 | f::fs,t::ts,c,h,c0,c9,hf,ht=>by
  obtain ⟨f0,f9⟩:=hf f (by simp)
  obtain ⟨t0,t9⟩:=ht t (by simp)
  obtain ⟨a1,a2,a3⟩:=turn_cong c f t c0 c9 f0 f9 t0 t9
  obtain ⟨b1,b2,b3⟩:=turns_cong fs ts (turn c f t) (by simpa using h) a1 a2 (fun x hx=>hf x (by simp [hx])) (fun x hx=>ht x (by simp [hx]))
  refine ⟨b1,b2,?_⟩
  show (turns (turn c f t) fs ts - (c+(f::fs).sum - (t::ts).sum)) % 65535=0
  rw [List.sum_cons,List.sum_cons]
  generalize turns (turn c f t) fs ts=x at *
  generalize turn c f t=y at *
  omega
 | [],_::_,_,h,_,_,_,_=>by cases h
 | _::_,[],_,h,_,_,_,_=>by cases h
theorem full_of {W:Int} (h:0<W) (m:W % 65535=0):fo W=65535:=by
 unfold fo
 rw [if_neg (by omega)]
 omega
theorem full_is {W:Int} (h0:0≤W) (h:fo W=65535):W % 65535=0:=by
 have:=fo_mod h0
 omega
def setws:List Int→Nat→List Int→List Int
 | l,_,[]=>l
 | l,p,v::vs=>setws (setw l p v) (p+2) vs
def wat (l:List Int):Nat→Nat→List Int
 | _,0=>[]
 | p,n+1=>udpA.w16 l p::wat l (p+2) n
theorem setws_len:∀ (vs l:List Int) (p:Nat),(setws l p vs).length=l.length
 | [],l,p=>rfl
 | v::vs,l,p=>by show (setws (setw l p v) (p+2) vs).length=_; rw [setws_len vs,setw_len]
theorem setws_get:∀ (vs l:List Int) (p i:Nat),p+2*vs.length≤l.length→i<p∨p+2*vs.length≤i→(setws l p vs).getD i 0=l.getD i 0
 | [],l,p,i,_,_=>rfl
 | v::vs,l,p,i,h,k=>by
  rw [List.length_cons] at h k
  show (setws (setw l p v) (p+2) vs).getD i 0=_
  rw [setws_get vs _ _ _ (by rw [setw_len]; omega) (by omega),setw_get _ _ _ _ (by omega),if_neg (by omega),if_neg (by omega)]
theorem setws_w16 (vs l:List Int) (p i:Nat) (h:p+2*vs.length≤l.length) (k:i+1<p∨p+2*vs.length≤i):udpA.w16 (setws l p vs) i=udpA.w16 l i:=by
 unfold udpA.w16
 rw [setws_get vs l p i h (by omega),setws_get vs l p (i+1) h (by omega)]
theorem wat_len (l:List Int):∀ (n p:Nat),(wat l p n).length=n
 | 0,p=>rfl
 | n+1,p=>by show (wat l (p+2) n).length+1=_; rw [wat_len l n]
theorem wat_eq {l m:List Int}:∀ (n p:Nat),(∀ i,p≤i→i<p+2*n→l.getD i 0=m.getD i 0)→wat l p n=wat m p n
 | 0,p,_=>rfl
 | n+1,p,h=>by
  show udpA.w16 l p::wat l (p+2) n=udpA.w16 m p::wat m (p+2) n
  rw [wat_eq n (p+2) (fun i a b=>h i (by omega) (by omega))]
  unfold udpA.w16
  rw [h p (by omega) (by omega),h (p+1) (by omega) (by omega)]
theorem wat_setws:∀ (vs l:List Int) (p:Nat),p+2*vs.length≤l.length→wat (setws l p vs) p vs.length=vs
 | [],l,p,_=>rfl
 | v::vs,l,p,h=>by
  rw [List.length_cons] at h ⊢
  show udpA.w16 (setws (setw l p v) (p+2) vs) p::wat (setws (setw l p v) (p+2) vs) (p+2) vs.length=_
  rw [wat_setws vs _ _ (by rw [setw_len]; omega),setws_w16 vs _ _ _ (by rw [setw_len]; omega) (by omega),w16_setw _ _ _ (by omega)]
theorem wat_w16 {l:List Int} (hu:U8 l):∀ (n p:Nat),W16 (wat l p n)
 | 0,p=>fun x hx=>by cases hx
 | n+1,p=>fun x hx=>by
  rcases List.mem_cons.mp hx with rfl | h
  ·have a:=hu.get p
   have b:=hu.get (p+1)
   unfold udpA.w16
   omega
  ·exact wat_w16 hu n (p+2) x h
theorem setws_u8:∀ (vs:List Int) {l:List Int} (p:Nat),U8 l→W16 vs→U8 (setws l p vs)
 | [],l,p,h,_=>h
 | v::vs,l,p,h,k=>setws_u8 vs (p+2) (setw_u8 h p v (k v (by simp)).1 (k v (by simp)).2) fun x hx=>k x (by simp [hx])
theorem wsum_setws:∀ (vs l:List Int) (k:Nat),2*k+2*vs.length≤l.length→wsum (setws l (2*k) vs)=wsum l - (wat l (2*k) vs.length).sum+vs.sum
 | [],l,k,_=>by show wsum l=wsum l - 0+0; omega
 | v::vs,l,k,h=>by
  rw [List.length_cons] at h ⊢
  have e:=wsum_setws vs (setw l (2*k) v) (k+1) (by rw [setw_len]; omega)
  have e2:wat (setw l (2*k) v) (2*(k+1)) vs.length=wat l (2*(k+1)) vs.length:=wat_eq _ _ fun i a b=>by
   rw [setw_get _ _ _ _ (by omega),if_neg (by omega),if_neg (by omega)]
  rw [e2,wsum_setw l k v (by omega)] at e
  show wsum (setws (setw l (2*k) v) (2*k+2) vs)=wsum l - (udpA.w16 l (2*k)::wat l (2*k+2) vs.length).sum+(v::vs).sum
  rw [List.sum_cons,List.sum_cons]
  rw [show 2*(k+1)=2*k+2 from rfl] at e
  omega
theorem setws_take:∀ (vs l:List Int) (p n:Nat),(setws l p vs).take n=setws (l.take n) p vs
 | [],l,p,n=>rfl
 | v::vs,l,p,n=>by
  show (setws (setw l p v) (p+2) vs).take n=setws (setw (l.take n) p v) (p+2) vs
  rw [setws_take vs,setw_take]
theorem setws_drop:∀ (vs l:List Int) (p n:Nat),p+2*vs.length≤n→(setws l p vs).drop n=l.drop n
 | [],l,p,n,_=>rfl
 | v::vs,l,p,n,h=>by
  rw [List.length_cons] at h
  show (setws (setw l p v) (p+2) vs).drop n=_
  rw [setws_drop vs _ _ _ (by omega),setw_drop _ _ _ _ (by omega)]
theorem set_drop2 (l:List Int) (p n:Nat) (v:Int):(l.set (n+p) v).drop n=(l.drop n).set p v:=by
 apply List.ext_getElem?
 intro i
 rw [List.getElem?_drop,List.getElem?_set,List.getElem?_set,List.getElem?_drop,List.length_drop]
 by_cases e:p=i
 ·rw [if_pos e,if_pos (by omega)]
  by_cases a:n+p<l.length
  ·rw [if_pos a,if_pos (by omega)]
  ·rw [if_neg a,if_neg (by omega)]
 ·rw [if_neg e,if_neg (by omega)]
theorem setw_drop2 (l:List Int) (p n:Nat) (v:Int):(setw l (n+p) v).drop n=setw (l.drop n) p v:=by
 unfold setw
 rw [show n+p+1=n+(p+1) from rfl,set_drop2,set_drop2]
def wbytes:List Int→List Int
 | []=>[]
 | v::vs=>v / 256::v % 256::wbytes vs
theorem wbytes_len:∀ (vs:List Int),(wbytes vs).length=2*vs.length
 | []=>rfl
 | v::vs=>by show (wbytes vs).length+1+1=_; rw [wbytes_len vs,List.length_cons]; omega
theorem splice_words:∀ (vs l:List Int) (p:Nat),p+2*vs.length≤l.length→l.take p++wbytes vs++l.drop (p+2*vs.length)=setws l p vs
 | [],l,p,_=>by show l.take p++[]++l.drop (p+0)=l; rw [List.append_nil,Nat.add_zero,List.take_append_drop]
 | v::vs,l,p,h=>by
  rw [List.length_cons] at h ⊢
  have e:=splice_words vs (setw l p v) (p+2) (by rw [setw_len]; omega)
  show _=setws (setw l p v) (p+2) vs
  rw [← e,setw_take,setw_drop _ _ _ _ (by omega),show p+2*(vs.length+1)=p+2+2*vs.length by omega]
  congr 1
  show l.take p++(v / 256::v % 256::wbytes vs)=setw (l.take (p+2)) p v++wbytes vs
  have e2:setw (l.take (p+2)) p v=l.take p++[v / 256,v % 256]:=by
   obtain ⟨a,b,z,hz⟩:∃ a b z,l.drop p=a::b::z:=by
    have hd:2≤(l.drop p).length:=by rw [List.length_drop]; omega
    match l.drop p,hd with
    | a::b::z,_=>exact ⟨a,b,z,rfl⟩
   have et:l.take (p+2)=l.take p++[a,b]:=by
    rw [List.take_add,hz]
    rfl
   have lp:(l.take p).length=p:=by rw [List.length_take]; omega
   rw [et]
   unfold setw
   rw [List.set_append_right _ _ (by omega),List.set_append_right _ _ (by omega),lp,Nat.sub_self,show p+1 - p=1 by omega]
   rfl
  rw [e2,List.append_assoc]
  rfl
def aw (v6:Bool) (h l:Int):List Int:=if v6 then words h 4 4++words l 4 4 else words l 2 2
def ab (v6:Bool) (h l:Int):List Int:=if v6 then pb h 8 8++pb l 8 8 else pb l 4 4
theorem words4 (n:Int):words n 4 4=[n / 281474976710656 % 65536,n / 4294967296 % 65536,n / 65536 % 65536,n / 1 % 65536]:=rfl
theorem words2 (n:Int):words n 2 2=[n / 65536 % 65536,n / 1 % 65536]:=rfl
theorem pb8 (n:Int):pb n 8 8=[n / 72057594037927936 % 256,n / 281474976710656 % 256,n / 1099511627776 % 256,n / 4294967296 % 256,n / 16777216 % 256,n / 65536 % 256,n / 256 % 256,n / 1 % 256]:=rfl
theorem pb4 (n:Int):pb n 4 4=[n / 16777216 % 256,n / 65536 % 256,n / 256 % 256,n / 1 % 256]:=rfl
theorem pb2 (n:Int):pb n 2 2=[n / 256 % 256,n / 1 % 256]:=rfl
theorem aw_len (v6:Bool) (h l:Int):(aw v6 h l).length=if v6 then 8 else 2:=by cases v6 <;> rfl
theorem aw_in (v6:Bool) (h l:Int):W16 (aw v6 h l):=by
 intro x hx
 have key:∀ n:Int,(∀ x ∈ words n 4 4,0≤x∧x≤65535)∧(∀ x ∈ words n 2 2,0≤x∧x≤65535):=fun n=>by
  rw [words4,words2]
  constructor
  ·intro x hx
   simp only [List.mem_cons,List.not_mem_nil,or_false] at hx
   omega
  ·intro x hx
   simp only [List.mem_cons,List.not_mem_nil,or_false] at hx
   omega
 cases v6 with
 | true =>
  rcases List.mem_append.mp (show x ∈ words h 4 4++words l 4 4 from hx) with k | k
  ·exact (key h).1 x k
  ·exact (key l).1 x k
 | false=>exact (key l).2 x hx
theorem wb8 (n:Int):pb n 8 8=wbytes (words n 4 4):=by
 rw [words4,pb8]
 simp only [wbytes,List.cons.injEq,and_true]
 omega
theorem ab_words (v6:Bool) (h l:Int):ab v6 h l=wbytes (aw v6 h l):=by
 cases v6 with
 | false =>
  show pb l 4 4=wbytes (words l 2 2)
  rw [words2,pb4]
  simp only [wbytes,List.cons.injEq,and_true]
  omega
 | true =>
  show pb h 8 8++pb l 8 8=wbytes (words h 4 4++words l 4 4)
  rw [wb8,wb8,words4,words4]
  rfl
end Go.Proofs.Ytodckfgfbcnkoaa.natW
/- Layer 15: segments whose checks are turned, packets with another side: plain words. -/
namespace Go.Proofs.Ytodckfgfbcnkoaa.natX
open octA sumA sumB sumD net sixW sixM pktA pktB pktC tunV natW
def portR (R:List Int) (s:Nat) (port:Int):List Int:=setw R (2*s) port
def tcpR (R fs ts:List Int) (s:Nat) (port:Int):List Int:=setw (portR R s port) 16 (turns (udpA.w16 R 16) (fs++[udpA.w16 R (2*s)]) (ts++[port]))
def chk0 (c:Int):Int:=if c=0 then 65535 else c
def udpR (R fs ts:List Int) (s:Nat) (port:Int):List Int:=if udpA.w16 R 6=0 then portR R s port else setw (portR R s port) 6 (chk0 (turns (udpA.w16 R 6) (fs++[udpA.w16 R (2*s)]) (ts++[port])))
theorem sum_snoc (l:List Int) (x:Int):(l++[x]).sum=l.sum+x:=by
 induction l with
 | nil=>show x+0=0+x; omega
 | cons a l ih=>show a+(l++[x]).sum=a+l.sum+x; rw [ih]; omega
theorem w16_snoc {l:List Int} (h:W16 l) {x:Int} (x0:0≤x) (x9:x≤65535):W16 (l++[x]):=fun y hy=>by
 rcases List.mem_append.mp hy with k | k
 ·exact h y k
 ·rw [List.mem_singleton.mp k]; exact ⟨x0,x9⟩
theorem port_w (R:List Int) (s:Nat) (port:Int) (hs:s≤1) (h4:8≤R.length):udpA.w16 (portR R s port) 0=(if s=0 then port else udpA.w16 R 0)∧udpA.w16 (portR R s port) 2=(if s=0 then udpA.w16 R 2 else port)∧(∀ i,4≤i→(portR R s port).getD i 0=R.getD i 0)∧(portR R s port).length=R.length:=by
 unfold portR
 have hg:∀ i,4≤i→(setw R (2*s) port).getD i 0=R.getD i 0:=fun i hi=>by rw [setw_get _ _ _ _ (by omega),if_neg (by omega),if_neg (by omega)]
 rcases Nat.lt_or_ge s 1 with k | k
 ·obtain rfl:s=0:=by omega
  exact ⟨by rw [if_pos rfl]; exact w16_setw R 0 port (by omega),by rw [if_pos rfl]; exact w16_set R 0 port 2 (by omega) (by omega),hg,setw_len _ _ _⟩
 ·obtain rfl:s=1:=by omega
  exact ⟨by rw [if_neg (by omega)]; exact w16_set R 2 port 0 (by omega) (by omega),by rw [if_neg (by omega)]; exact w16_setw R 2 port (by omega),hg,setw_len _ _ _⟩
theorem sum_again (R ps ps' fs ts:List Int) (s ck:Nat) (port C:Int) (hs:s≤1) (hck:2≤ck) (hlen:2*ck+1<R.length) (hR:U8 R) (hp:U8 ps) (hp':U8 ps') (n:Nat) (hn:ps.length=2*n) (hn':ps'.length=2*n)
  (h:fo (wsum (ps++R))=65535) (e:wsum ps'=wsum ps - fs.sum+ts.sum) (hpos:0<wsum ps') (p0:0≤port) (p9:port≤65535) (hC0:0≤C) (hC9:C≤65535) (hC:(C - (udpA.w16 R (2*ck)+(fs.sum+udpA.w16 R (2*s)) - (ts.sum+port))) % 65535=0) :
  fo (wsum (ps'++setw (portR R s port) (2*ck) C))=65535:=by
 have e1:=wsum_app n ps R hn
 have e2:=wsum_app n ps' (setw (portR R s port) (2*ck) C) hn'
 have e3:=wsum_setw (portR R s port) ck C (by unfold portR; rw [setw_len]; omega)
 have e4:=wsum_setw R s port (by omega)
 have e5:udpA.w16 (portR R s port) (2*ck)=udpA.w16 R (2*ck):=w16_set R (2*s) port (2*ck) (by omega) (by omega)
 have hw:0≤wsum (ps++R):=(wsum_bd _ (hp.join hR)).1
 have hm:=full_is hw h
 have hu':U8 (setw (portR R s port) (2*ck) C):=setw_u8 (setw_u8 hR _ _ p0 p9) _ _ hC0 hC9
 have hw':=(wsum_bd _ hu').1
 rw [e2]
 unfold portR at e3 e5 hw' ⊢
 rw [e3,e5,e4] at hw' ⊢
 rw [e1] at hm
 exact full_of (by omega) (by omega)
theorem tcp_again (R ps ps' fs ts:List Int) (s:Nat) (port:Int) (hs:s≤1) (hR:U8 R) (hp:U8 ps) (hp':U8 ps') (n:Nat) (hn:ps.length=2*n) (hn':ps'.length=2*n) (hE:tcpE R ps=0)
  (e:wsum ps'=wsum ps - fs.sum+ts.sum) (hpos:0<wsum ps') (p0:0≤port) (p9:port≤65535) (hfl:fs.length=ts.length) (hf:W16 fs) (ht:W16 ts) :
  tcpE (tcpR R fs ts s port) ps'=0∧udpA.w16 (tcpR R fs ts s port) 0=(if s=0 then port else udpA.w16 R 0)∧udpA.w16 (tcpR R fs ts s port) 2=(if s=0 then udpA.w16 R 2 else port)∧(tcpR R fs ts s port).getD 13 0=R.getD 13 0∧(tcpR R fs ts s port).length=R.length∧U8 (tcpR R fs ts s port)∧20≤R.length:=by
 have h20:20≤R.length∧¬ (R.getD 12 0 / 16*4<20∨(R.length:Int)<R.getD 12 0 / 16*4∨R.getD 12 0 % 16≠0)∧fo (wsum (ps++R))=65535:=by
  unfold tcpE at hE
  split at hE
  ·omega
  ·split at hE
   ·omega
   ·split at hE
    ·omega
    ·exact ⟨by omega,‹_›,by omega⟩
 obtain ⟨h20,hoff,hfo⟩:=h20
 have w0:=udpA.w16_in R hR (2*s)
 have w16i:=udpA.w16_in R hR 16
 obtain ⟨c0,c9,cm⟩:=turns_cong (fs++[udpA.w16 R (2*s)]) (ts++[port]) (udpA.w16 R 16) (by rw [List.length_append,List.length_append,hfl]; rfl) w16i.1 w16i.2 (w16_snoc hf w0.1 w0.2) (w16_snoc ht p0 p9)
 rw [sum_snoc,sum_snoc] at cm
 have hsum:=sum_again R ps ps' fs ts s 8 port _ hs (by omega) (by omega) hR hp hp' n hn hn' hfo e hpos p0 p9 c0 c9 cm
 obtain ⟨q1,q2,q3,q4⟩:=port_w R s port hs (by omega)
 have hl16:16+1<(portR R s port).length:=by omega
 have hlen:(tcpR R fs ts s port).length=R.length:=by unfold tcpR; rw [setw_len,q4]
 have g:∀ i,4≤i→i<16→(tcpR R fs ts s port).getD i 0=R.getD i 0:=fun i a b=>by
  unfold tcpR
  rw [setw_get _ _ _ _ hl16,if_neg (by omega),if_neg (by omega),q3 i a]
 refine ⟨?_,?_,?_,g 13 (by omega) (by omega),hlen,setw_u8 (setw_u8 hR _ _ p0 p9) _ _ c0 c9,h20⟩
 ·unfold tcpE
  rw [hlen,g 12 (by omega) (by omega),if_neg (by omega),if_neg hoff]
  exact if_neg (by rw [show tcpR R fs ts s port=setw (portR R s port) (2*8) _ from rfl,hsum]; omega)
 ·unfold tcpR
  rw [w16_set _ _ _ _ hl16 (by omega),q1]
 ·unfold tcpR
  rw [w16_set _ _ _ _ hl16 (by omega),q2]
theorem udp_again (R ps ps' fs ts:List Int) (bare:Bool) (s:Nat) (port:Int) (hs:s≤1) (hR:U8 R) (hp:U8 ps) (hp':U8 ps') (n:Nat) (hn:ps.length=2*n) (hn':ps'.length=2*n) (hE:udpE_ R ps bare=0)
  (e:wsum ps'=wsum ps - fs.sum+ts.sum) (hpos:0<wsum ps') (p0:0≤port) (p9:port≤65535) (hfl:fs.length=ts.length) (hf:W16 fs) (ht:W16 ts) :
  udpE_ (udpR R fs ts s port) ps' bare=0∧udpA.w16 (udpR R fs ts s port) 0=(if s=0 then port else udpA.w16 R 0)∧udpA.w16 (udpR R fs ts s port) 2=(if s=0 then udpA.w16 R 2 else port)∧(udpR R fs ts s port).length=R.length∧U8 (udpR R fs ts s port)∧8≤R.length:=by
 have h8:8≤R.length∧udpA.w16 R 4=R.length∧(udpA.w16 R 6=0→bare=true)∧(udpA.w16 R 6≠0→fo (wsum (ps++R))=65535):=by
  unfold udpE_ at hE
  split at hE
  ·omega
  ·split at hE
   ·omega
   ·split at hE
    ·omega
    ·rename_i a b c
     refine ⟨by omega,by omega,fun k=>?_,fun k=>?_⟩
     ·cases hb:bare with
      | true=>rfl
      | false=>exact absurd (.inl ⟨k,hb⟩) c
     ·exact Classical.byContradiction fun k2=>c (.inr ⟨k,k2⟩)
 obtain ⟨h8,hln,hb0,hfo⟩:=h8
 have w0:=udpA.w16_in R hR (2*s)
 have w6:=udpA.w16_in R hR 6
 obtain ⟨q1,q2,q3,q4⟩:=port_w R s port hs h8
 have q16:∀ i,4≤i→udpA.w16 (portR R s port) i=udpA.w16 R i:=fun i hi=>by unfold udpA.w16; rw [q3 i hi,q3 (i+1) (by omega)]
 by_cases hz:udpA.w16 R 6=0
 ·rw [show udpR R fs ts s port=portR R s port from if_pos hz]
  refine ⟨?_,q1,q2,q4,setw_u8 hR _ _ p0 p9,h8⟩
  unfold udpE_
  rw [q4,q16 4 (by omega),q16 6 (by omega),if_neg (by omega),if_neg (by omega)]
  exact if_neg (by rintro (⟨_,k⟩ | ⟨k,_⟩); · rw [hb0 hz] at k; cases k
                   ·exact k hz)
 ·rw [show udpR R fs ts s port=setw (portR R s port) 6 (chk0 (turns (udpA.w16 R 6) (fs++[udpA.w16 R (2*s)]) (ts++[port]))) from if_neg hz]
  obtain ⟨c0,c9,cm⟩:=turns_cong (fs++[udpA.w16 R (2*s)]) (ts++[port]) (udpA.w16 R 6) (by rw [List.length_append,List.length_append,hfl]; rfl) w6.1 w6.2 (w16_snoc hf w0.1 w0.2) (w16_snoc ht p0 p9)
  rw [sum_snoc,sum_snoc] at cm
  generalize turns (udpA.w16 R 6) (fs++[udpA.w16 R (2*s)]) (ts++[port])=c at *
  obtain ⟨d0,d9,dn,dm⟩:0≤chk0 c∧chk0 c≤65535∧chk0 c≠0∧(chk0 c - c) % 65535=0:=by
   unfold chk0
   split <;> omega
  generalize chk0 c=d at *
  have hsum:=sum_again R ps ps' fs ts s 3 port d hs (by omega) (by omega) hR hp hp' n hn hn' (hfo hz) e hpos p0 p9 d0 d9 (by show (d - (udpA.w16 R 6+(fs.sum+udpA.w16 R (2*s)) - (ts.sum+port))) % 65535=0; omega)
  have hl6:6+1<(portR R s port).length:=by omega
  refine ⟨?_,?_,?_,by rw [setw_len,q4],setw_u8 (setw_u8 hR _ _ p0 p9) _ _ d0 d9,h8⟩
  ·unfold udpE_
   rw [setw_len,q4,w16_set _ _ _ _ hl6 (by omega),w16_setw _ _ _ hl6,q16 4 (by omega),if_neg (by omega),if_neg (by omega)]
   exact if_neg (by rintro (⟨k,_⟩ | ⟨_,k⟩); · exact dn k
                    ·exact k hsum)
  ·rw [w16_set _ _ _ _ hl6 (by omega),q1]
  ·rw [w16_set _ _ _ _ hl6 (by omega),q2]
theorem psd4_sum (sl dl pr sz:Int) (hp:0≤pr) (hp9:pr≤255):wsum (psd4 sl dl pr sz)=(aw false 0 sl).sum+(aw false 0 dl).sum+pr+sz % 65536:=by
 have e:psd4 sl dl pr sz=[byteZ sl 3,byteZ sl 2,byteZ sl 1,byteZ sl 0,byteZ dl 3,byteZ dl 2,byteZ dl 1,byteZ dl 0,byteZ 0 0,byteZ pr 0,byteZ sz 1,byteZ sz 0]:=rfl
 rw [e,show aw false 0 sl=[sl / 65536 % 65536,sl / 1 % 65536] from rfl,show aw false 0 dl=[dl / 65536 % 65536,dl / 1 % 65536] from rfl]
 simp only [wsum,List.sum_cons,List.sum_nil]
 unfold byteZ
 omega
theorem wsum_words:∀ (ws z:List Int),wsum (wbytes ws++z)=ws.sum+wsum z
 | [],z=>by show wsum z=0+wsum z; omega
 | v::ws,z=>by
  show 256*(v / 256)+v % 256+wsum (wbytes ws++z)=(v::ws).sum+wsum z
  rw [wsum_words ws z,List.sum_cons]
  omega
theorem psd6_sum (sh sl dh dl pr sz:Int) (hp:0≤pr) (hp9:pr≤255) (hz:0≤sz) (hz9:sz<4294967296):wsum (psd6 sh sl dh dl pr sz)=(aw true sh sl).sum+(aw true dh dl).sum+pr+(sz / 65536+sz % 65536):=by
 have e:psd6 sh sl dh dl pr sz=wbytes (aw true sh sl)++(wbytes (aw true dh dl)++(pb sz 4 4++pb pr 4 4)):=by
  rw [← ab_words,← ab_words]
  show (pb sh 8 8++(pb sl 8 8++(pb dh 8 8++(pb dl 8 8++[]))))++pb sz 4 4++pb pr 4 4=(pb sh 8 8++pb sl 8 8)++((pb dh 8 8++pb dl 8 8)++(pb sz 4 4++pb pr 4 4))
  simp only [List.append_assoc,List.append_nil]
 rw [e,wsum_words,wsum_words,pb4,pb4]
 simp only [List.cons_append,List.nil_append,wsum]
 omega
end Go.Proofs.Ytodckfgfbcnkoaa.natX
/- Layer 15: a packet with another side, parsed again: plain words. -/
namespace Go.Proofs.Ytodckfgfbcnkoaa.natY
open base octA sumB sumD sixW sixM pktA pktB pktC pktE tunV natW natX
theorem sum_in:∀ {l:List Int},W16 l→0≤l.sum
 | [],_=>by show (0:Int)≤0; omega
 | a::l,h=>by
  have h1:=(h a (by simp)).1
  have h2:=sum_in (l:=l) fun x hx=>h x (by simp [hx])
  rw [List.sum_cons]
  omega
def sdH (t:Tp) (s:Nat):Int:=if s=0 then t.sh else t.dh
def sdL (t:Tp) (s:Nat):Int:=if s=0 then t.sl else t.dl
def sdP (t:Tp) (s:Nat):Int:=if s=0 then t.sp else t.dp
def wsT (t:Tp) (s:Nat) (h l:Int):Tp:=if s=0 then { t with sh:=h,sl:=l } else { t with dh:=h,dl:=l }
def turnT (t:Tp) (s:Nat) (h l port:Int):Tp:=if s=0 then { t with sh:=h,sl:=l,sp:=port } else { t with dh:=h,dl:=l,dp:=port }
theorem psd_sum (v:Bool) (pr sz:Int) (hp:pr=6∨pr=17) (hz:0≤sz) (hz9:sz≤1000):∃ K:Int,0<K∧∀ sh sl dh dl,wsum (psd v sh sl dh dl pr sz)=(aw v sh sl).sum+(aw v dh dl).sum+K:=by
 cases v with
 | true =>
  refine ⟨pr+(sz / 65536+sz % 65536),by omega,fun sh sl dh dl=>?_⟩
  rw [show psd true sh sl dh dl pr sz=psd6 sh sl dh dl pr sz from rfl,psd6_sum sh sl dh dl pr sz (by omega) (by omega) (by omega) (by omega)]
  omega
 | false =>
  refine ⟨pr+sz % 65536,by omega,fun sh sl dh dl=>?_⟩
  have e:psd false sh sl dh dl pr sz=psd4 sl dl pr sz:=by unfold psd; rw [if_neg (by decide),if_neg (by omega)]
  rw [e,psd4_sum sl dl pr sz (by omega) (by omega)]
  show (aw false 0 sl).sum+(aw false 0 dl).sum+pr+sz % 65536=(aw false 0 sl).sum+(aw false 0 dl).sum+(pr+sz % 65536)
  omega
theorem psd_u8 (v:Bool) (sh sl dh dl pr sz:Int):U8 (psd v sh sl dh dl pr sz):=by
 unfold psd
 split
 ·exact psd6_u8 _ _ _ _ _ _
 ·split
  ·intro x hx; cases hx
  ·exact psd4_u8 _ _ _ _
theorem psd_even (v:Bool) (pr sz:Int) (hp:pr=6∨pr=17):∃ n,∀ sh sl dh dl,(psd v sh sl dh dl pr sz).length=2*n:=by
 cases v with
 | true=>exact ⟨20,fun sh sl dh dl=>psd6_len sh sl dh dl pr sz⟩
 | false =>
  refine ⟨6,fun sh sl dh dl=>?_⟩
  have e:psd false sh sl dh dl pr sz=psd4 sl dl pr sz:=by unfold psd; rw [if_neg (by decide),if_neg (by omega)]
  rw [e,psd4_len]
theorem with_inv {v:Bool} {t:Tp} {ttl sz:Int} {R:List Int} {P:Pk} (h:withP v t ttl sz R=(P,0)) (her:P.er=false) :
  (t.pr=6∧tcpE R (psd t.s6 t.sh t.sl t.dh t.dl t.pr R.length)=0∧P=⟨v,⟨t.pr,t.s6,t.sh,t.sl,t.d6,t.dh,t.dl,udpA.w16 R 0,udpA.w16 R 2⟩,ttl,R.getD 13 0,false,zeroT,sz⟩) ∨
  (t.pr=17∧udpE_ R (psd t.s6 t.sh t.sl t.dh t.dl t.pr R.length) (!v)=0∧P=⟨v,⟨t.pr,t.s6,t.sh,t.sl,t.d6,t.dh,t.dl,udpA.w16 R 0,udpA.w16 R 2⟩,ttl,0,false,zeroT,sz⟩):=by
 unfold withP at h
 split at h
 ·rename_i h6
  split at h
  ·rename_i k
   injection h with _ h
   exact absurd h k
  ·rename_i k
   injection h with h _
   exact .inl ⟨h6,Classical.byContradiction k,h.symm⟩
 ·split at h
  ·rename_i h17
   split at h
   ·rename_i k
    injection h with _ h
    exact absurd h k
   ·rename_i k
    injection h with h _
    exact .inr ⟨h17,Classical.byContradiction k,h.symm⟩
  ·split at h
   ·split at h
    ·rename_i k
     injection h with _ h
     exact absurd h k
    ·injection h with h _
     rw [← h] at her
     cases her
   ·injection h with _ h
    cases h
theorem with_again (v:Bool) (t:Tp) (ttl sz:Int) (R:List Int) (P:Pk) (s:Nat) (h l port:Int) (hs:s≤1) (hv:t.s6=v) (hR:U8 R) (hRl:R.length≤1000) (hP:withP v t ttl sz R=(P,0)) (her:P.er=false) (p0:0≤port) (p9:port≤65535) :
  withP v (wsT t s h l) ttl sz (if t.pr=6 then tcpR R (aw v (sdH t s) (sdL t s)) (aw v h l) s port else udpR R (aw v (sdH t s) (sdL t s)) (aw v h l) s port)=({ P with t:=turnT P.t s h l port },0)∧(t.pr=6∨t.pr=17):=by
 have ep:(wsT t s h l).pr=t.pr:=by unfold wsT; split <;> rfl
 have es:(wsT t s h l).s6=t.s6:=by unfold wsT; split <;> rfl
 have hpr:t.pr=6∨t.pr=17:=by
  rcases with_inv hP her with ⟨k,_⟩ | ⟨k,_⟩
  ·exact .inl k
  ·exact .inr k
 obtain ⟨K,hK,hsum⟩:=psd_sum v t.pr R.length hpr (by omega) (by omega)
 obtain ⟨n,hn⟩:=psd_even v t.pr R.length hpr
 obtain ⟨ps,hps⟩:∃ ps,ps=psd t.s6 t.sh t.sl t.dh t.dl t.pr R.length:=⟨_,rfl⟩
 obtain ⟨ps',hps'⟩:∃ ps',ps'=psd (wsT t s h l).s6 (wsT t s h l).sh (wsT t s h l).sl (wsT t s h l).dh (wsT t s h l).dl (wsT t s h l).pr R.length:=⟨_,rfl⟩
 have hu:U8 ps:=by rw [hps]; exact psd_u8 _ _ _ _ _ _ _
 have hu':U8 ps':=by rw [hps']; exact psd_u8 _ _ _ _ _ _ _
 have ln:ps.length=2*n:=by rw [hps,hv]; exact hn _ _ _ _
 have ln':ps'.length=2*n:=by rw [hps',es,ep,hv]; exact hn _ _ _ _
 have fl:(aw v (sdH t s) (sdL t s)).length=(aw v h l).length:=by rw [aw_len,aw_len]
 have w1:=aw_in v (sdH t s) (sdL t s)
 have w2:=aw_in v h l
 have e0:wsum ps=(aw v t.sh t.sl).sum+(aw v t.dh t.dl).sum+K:=by rw [hps,hv]; exact hsum _ _ _ _
 have e1:wsum ps'=(aw v (wsT t s h l).sh (wsT t s h l).sl).sum+(aw v (wsT t s h l).dh (wsT t s h l).dl).sum+K:=by rw [hps',es,ep,hv]; exact hsum _ _ _ _
 have n1:=sum_in (aw_in v (wsT t s h l).sh (wsT t s h l).sl)
 have n2:=sum_in (aw_in v (wsT t s h l).dh (wsT t s h l).dl)
 have hpos:0<wsum ps':=by omega
 have ee:wsum ps'=wsum ps - (aw v (sdH t s) (sdL t s)).sum+(aw v h l).sum:=by
  rw [e1,e0]
  unfold wsT sdH sdL
  split
  ·show (aw v h l).sum+(aw v t.dh t.dl).sum+K=_
   omega
  ·show (aw v t.sh t.sl).sum+(aw v h l).sum+K=_
   omega
 refine ⟨?_,hpr⟩
 rcases with_inv hP her with ⟨k6,hE,hPe⟩ | ⟨k17,hE,hPe⟩
 ·rw [if_pos k6]
  rw [← hps] at hE
  obtain ⟨a1,a2,a3,a4,a5,a6,a7⟩:=tcp_again R ps ps' _ _ s port hs hR hu hu' n ln ln' hE ee hpos p0 p9 fl w1 w2
  unfold withP
  rw [ep,if_pos k6,a5,← ep,← hps',if_neg (by omega),a2,a3,a4,hPe,ep]
  unfold wsT turnT
  split
  ·rfl
  ·rfl
 ·rw [if_neg (by omega)]
  rw [← hps] at hE
  obtain ⟨a1,a2,a3,a5,a6,a7⟩:=udp_again R ps ps' _ _ (!v) s port hs hR hu hu' n ln ln' hE ee hpos p0 p9 fl w1 w2
  unfold withP
  rw [ep,if_neg (by omega),if_pos k17,a5,← ep,← hps',if_neg (by omega),a2,a3,hPe,ep]
  unfold wsT turnT
  split
  ·rfl
  ·rfl
def L4 (X:List Int) (S:Nat) (pr:Int) (fs ts:List Int):List Int:=if pr=6 then setw X (S+16) (turns (udpA.w16 X (S+16)) fs ts) else if udpA.w16 X (S+6)=0 then X else setw X (S+6) (chk0 (turns (udpA.w16 X (S+6)) fs ts))
theorem set_out (l:List Int) (p:Nat) (v:Int) (h:l.length≤p):l.set p v=l:=by
 apply List.ext_getElem?
 intro i
 rw [List.getElem?_set]
 split
 ·subst p
  rw [if_neg (by omega),List.getElem?_eq_none (by omega)]
 ·rfl
theorem setw_out (l:List Int) (p:Nat) (v:Int) (h:l.length≤p):setw l p v=l:=by
 unfold setw
 rw [set_out l p _ h,set_out l (p+1) _ (by omega)]
theorem L4_len (X:List Int) (S:Nat) (pr:Int) (fs ts:List Int):(L4 X S pr fs ts).length=X.length:=by
 unfold L4
 split
 ·exact setw_len _ _ _
 ·split
  ·rfl
  ·exact setw_len _ _ _
theorem L4_take (X:List Int) (S:Nat) (pr:Int) (fs ts:List Int):(L4 X S pr fs ts).take S=X.take S:=by
 have hl:(X.take S).length≤S:=by rw [List.length_take]; omega
 unfold L4
 split
 ·rw [setw_take,setw_out _ _ _ (by omega)]
 ·split
  ·rfl
  ·rw [setw_take,setw_out _ _ _ (by omega)]
theorem getD_drop (l:List Int) (i j:Nat):(l.drop i).getD j 0=l.getD (i+j) 0:=by
 rw [List.getD_eq_getElem?_getD,List.getD_eq_getElem?_getD,List.getElem?_drop]
theorem w16_drop (X:List Int) (S i:Nat):udpA.w16 (X.drop S) i=udpA.w16 X (S+i):=by
 unfold udpA.w16
 rw [getD_drop,getD_drop]
 rfl
theorem L4_drop (R:List Int) (s:Nat) (port pr:Int) (hs:s≤1) (h8:8≤R.length) (h20:pr=6→20≤R.length) (X:List Int) (S:Nat) (fs ts:List Int) (hX:X.drop S=portR R s port) :
  (L4 X S pr (fs++[udpA.w16 R (2*s)]) (ts++[port])).drop S=if pr=6 then tcpR R fs ts s port else udpR R fs ts s port:=by
 obtain ⟨_,_,q3,q4⟩:=port_w R s port hs h8
 have q16:∀ i,4≤i→udpA.w16 X (S+i)=udpA.w16 R i:=fun i hi=>by
  rw [← w16_drop,hX]
  unfold udpA.w16
  rw [q3 i hi,q3 (i+1) (by omega)]
 unfold L4
 rw [q16 16 (by omega),q16 6 (by omega)]
 by_cases h6:pr=6
 ·rw [if_pos h6,if_pos h6,setw_drop2,hX]
  rfl
 ·rw [if_neg h6,if_neg h6]
  unfold udpR
  by_cases hz:udpA.w16 R 6=0
  ·rw [if_pos hz,if_pos hz,hX]
  ·rw [if_neg hz,if_neg hz,setw_drop2,hX]
end Go.Proofs.Ytodckfgfbcnkoaa.natY
