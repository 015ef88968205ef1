/- 1 texts in one. -/
import Derived.Test.YtnofddbfogilaaaGq15
import Derived.Test.YtnofddbfogilaaaGq17
/- Layer 13: what a message is about. -/
namespace Go.Proofs.Ytnofddbfogilaaa.pktC
set_option maxHeartbeats 4000000
set_option maxRecDepth 100000
open Go.ChangeShapes Go.WideShapes Go.ChangeAt Go.RowKit
open base octA net rdrA rdrG udpA tcpC sixW sixM sixD sixE sixF icmpH icmpI pktA
set_option linter.unusedVariables false
structure Tp where
 pr:Int
 s6:Bool
 sh:Int
 sl:Int
 d6:Bool
 dh:Int
 dl:Int
 sp:Int
 dp:Int
def Tp.cells (t:Tp):Array Value:=#[.int .i64 t.pr,.bool t.s6,.int .u64 t.sh,.int .u64 t.sl,.bool t.d6,.int .u64 t.dh,.int .u64 t.dl,.int .i64 t.sp,.int .i64 t.dp]
def zeroT:Tp:=⟨0,false,0,0,false,0,0,0,0⟩
def Tp.back (t:Tp):Tp:=⟨t.pr,t.d6,t.dh,t.dl,t.s6,t.sh,t.sl,t.dp,t.sp⟩
structure Qt where
 f:Int
 fr:Int
 t:Tp
 r:List Int
def q4 (d:List Int):Qt:=if d.length<20 then ⟨2,0,zeroT,[]⟩ else if d.getD 0 0 / 16≠4 then ⟨10,0,zeroT,[]⟩ else if fourA.hl d<20∨(d.length:Int)<fourA.hl d then ⟨11,0,zeroT,[]⟩ else ⟨0,udpA.w16 d 6 % 8192,⟨d.getD 9 0,false,0,tcpC.w32 d 12,false,0,tcpC.w32 d 16,0,0⟩,d.drop (fourA.hl d).toNat⟩
def q6 (d:List Int):Qt:=match sixQ d with
 | .inl e=>⟨e,0,zeroT,[]⟩
 | .inr (ys,q,r)=>⟨0,lies ys / 8,⟨q,true,(hdOf d q).sh,(hdOf d q).sl,true,(hdOf d q).dh,(hdOf d q).dl,0,0⟩,r⟩
def quo (v:Bool) (ty:Int) (d:List Int):Tp × Int :=
 if tellsB v ty=false then (zeroT,24) else if (if v=true then q6 d else q4 d).f≠0 then (zeroT,(if v=true then q6 d else q4 d).f) else if (if v=true then q6 d else q4 d).fr≠0 then (zeroT,21)
 else if (if v=true then q6 d else q4 d).t.pr≠6∧(if v=true then q6 d else q4 d).t.pr≠17 then (zeroT,14) else if (if v=true then q6 d else q4 d).r.length<4 then (zeroT,2)
 else (⟨(if v=true then q6 d else q4 d).t.pr,(if v=true then q6 d else q4 d).t.s6,(if v=true then q6 d else q4 d).t.sh,(if v=true then q6 d else q4 d).t.sl,(if v=true then q6 d else q4 d).t.d6,(if v=true then q6 d else q4 d).t.dh,(if v=true then q6 d else q4 d).t.dl,256*(if v=true then q6 d else q4 d).r.getD 0 0+(if v=true then q6 d else q4 d).r.getD 1 0,256*(if v=true then q6 d else q4 d).r.getD 2 0+(if v=true then q6 d else q4 d).r.getD 3 0⟩,0)
theorem qboth (b off n c s:Nat) (l:List Int) (w:World) (hl':l.length=n) (hn:20≤n) (hn2:n≤1000) (hnc:n≤c) (hc:c≤9223372036854775807) (hb:b<w.heap.size) (hs:Lies w b off l) (hx:∀ x ∈ l,0≤x∧x≤255)
  (h1:l.getD 0 0 / 16=4) (h2:20≤s) (h3:s≤n) (hsz:fourA.hl l=(s:Int)) :
  Calls Try.prog 102 #[.slice (some ⟨b,off,none⟩) n c] w (fourB.OkPost w l (l.drop s) s (n - s)):=by
 by_cases hcs:c=s
 ·exact fourB.quote_near b off n c s l w hl' hn hn2 hnc hc hb hs hx h1 h2 h3 hsz hcs
 ·exact fourB.quote_far b off n c s l w hl' hn hn2 hnc hc hb hs hx h1 h2 h3 hsz hcs
theorem qbegin_at (A:Option Addr) (n c:Nat) (k:Int) (hk:k≠0) (w:World) (h:∀ W,Below w.heap.size w W→Calls Try.prog 63 #[.slice A n c] W fun e w'=>e=.returned (.tuple #[.int .i64 0,.int .i64 k])∧W=w') :
  Calls Try.prog 102 #[.slice A n c] w fun e w'=>e=.returned (fourB.err k)∧Below w.heap.size w w':=by
 have tk:(k != 0)=true:=bneT hk
 have H:=Lib.hid (h (w.alloc (.cells #[.int .i64 0,.int .i64 0,.bool false,.bool false,.int .i64 0,.int .i64 0,.int .i64 0,.bool false,.int .u64 0,.int .u64 0,.bool false,.int .u64 0,.int .u64 0,.slice none 0 0] 82)) ((Below.refl _ _).alloc (Nat.le_refl _) _))
 clear h hk
 go_enter Try.func102,Try.ntmps102
 go_wp2_with fail
 refine H.out.mono ?_
 rintro e w1 ⟨rfl,hw⟩
 subst hw
 go_wp2_with fail
 exact bodyPost_ret (v:=fourB.err k) (by simp [results,Try.results102,go_sem,fourB.err]) rfl ⟨rfl,(Below.refl _ _).alloc (Nat.le_refl _) _⟩
theorem q6_fail {w:World} {e:Int} {l:List Int} {o:Ending} {w':World} (h:HeadP w l (.inl e) o w'):Q6 e 0 0 false 0 0 false 0 0 [] w o w':=by
 obtain ⟨hb,h⟩:=h
 rcases h with ⟨e2,h1,h2⟩ | ⟨ys,q,r,h1,_⟩
 ·injection h1 with h1
  subst h1
  exact ⟨hb,0,0,0,[],none,0,0,none,0,0,h2,rfl,by omega,GotX.nil _ _,fun e he=>(by cases he),rfl,rfl,World.ownsRow_nil _ _ _ _⟩
 ·cases h1
theorem q6_good {w:World} {l:List Int} {ys:List XP} {q:Int} {r:List Int} {o:Ending} {w':World} (hy:ys.length≤8) (hu:∀ x ∈ ys,U8 x.2) (h:HeadP w l (.inr (ys,q,r)) o w') :
  Q6 0 (lies ys / 8) q true (hdOf l q).sh (hdOf l q).sl true (hdOf l q).dh (hdOf l q).dl r w o w':=by
 obtain ⟨hb,h⟩:=h
 rcases h with ⟨e2,h1,h2⟩ | ⟨ys2,q2,r2,h1,L,A,c,v,h2,h3,h4,h5⟩
 ·cases h1
 ·injection h1 with h1
  injection h1 with h1 h1b
  injection h1b with h1b h1c
  subst h1 h1b h1c
  obtain ⟨B,d,rfl⟩:=own_slice h5
  exact ⟨hb,_,_,_,L,A,_,c,B,_,d,h2,by rw [← h3,List.length_map],by omega,h4,fun e he=>hu e.re (by rw [← h3]; exact List.mem_map_of_mem he),by rw [h3],rfl,h5⟩
theorem q4_fail {w:World} {k:Int} {o:Ending} {w':World} (h:o=.returned (fourB.err k)∧Below w.heap.size w w'):Q4 k 0 0 false 0 0 false 0 0 [] w o w' :=
 ⟨h.2,0,0,false,false,0,none,0,0,none,0,0,h.1,rfl,World.ownsRow_nil _ _ _ _⟩
theorem q4_good {w:World} {l:List Int} {s n:Nat} {o:Ending} {w':World} (hl:l.length=n) (hs:s≤n) (h:fourB.OkPost w l (l.drop s) s (n - s) o w'):Q4 0 (w16 l 6 % 8192) (l.getD 9 0) false 0 (w32 l 12) false 0 (w32 l 16) (l.drop s) w o w':=by
 obtain ⟨A,c,v,h1,h2,h3,h4,h5⟩:=h
 obtain ⟨B,d,rfl⟩:=own_slice h4
 exact ⟨h5,_,_,_,_,_,A,_,c,B,_,d,h1,by rw [List.length_drop,hl],h4⟩
theorem q4_in (d:List Int) (hu:U8 d) (hn:d.length≤1000):U8 (q4 d).r∧(q4 d).r.length≤1000:=by
 unfold q4
 split
 ·exact ⟨fun x hx=>(by cases hx),by simp⟩
 ·split
  ·exact ⟨fun x hx=>(by cases hx),by simp⟩
  ·split
   ·exact ⟨fun x hx=>(by cases hx),by simp⟩
   ·exact ⟨hu.drop _,by show (d.drop _).length≤1000; rw [List.length_drop]; omega⟩
theorem q6_in (d:List Int) (hu:U8 d) (hn:d.length≤1000):U8 (q6 d).r∧(q6 d).r.length≤1000:=by
 have nil:U8 ([]:List Int)∧([]:List Int).length≤1000:=⟨fun x hx=>(by cases hx),by simp⟩
 by_cases h40:d.length<40
 ·have e:sixQ d=.inl 2:=by unfold sixQ; rw [if_pos h40]
  unfold q6
  rw [e]
  exact nil
 by_cases hv:d.getD 0 0 / 16=6
 ·have e:sixQ d=ofC (chn 9 [] (d.getD 6 0) (d.drop 40)):=by unfold sixQ; rw [if_neg h40,if_neg (by omega)]
  unfold q6
  rw [e]
  rcases hC:chn 9 [] (d.getD 6 0) (d.drop 40) with _ | ⟨ys,q,r⟩
  ·exact nil
  ·obtain ⟨zs,h1,h2,h3,h4,h5,h6,h7,h8,h9,h10⟩:=chn_sound 9 [] _ _ (hu.drop 40) (hu.get 6) RightE.nil (fun x hx=>by cases hx) hC
   rw [List.length_drop] at h10
   exact ⟨h9,by show r.length≤1000; omega⟩
 ·have e:sixQ d=.inl 10:=by unfold sixQ; rw [if_neg h40,if_pos hv]
  unfold q6
  rw [e]
  exact nil
theorem q4_any (A:Option Addr) (n c:Nat) (d:List Int) (w:World) (h:Sl w A n c d) (hn:n≤1000):Calls Try.prog 102 #[.slice A n c] w (Q4 (q4 d).f (q4 d).fr (q4 d).t.pr (q4 d).t.s6 (q4 d).t.sh (q4 d).t.sl (q4 d).t.d6 (q4 d).t.dh (q4 d).t.dl (q4 d).r w):=by
 have hl:=h.len
 have F:∀ k,q4 d=⟨k,0,zeroT,[]⟩→(Calls Try.prog 102 #[.slice A n c] w fun o w'=>o=.returned (fourB.err k)∧Below w.heap.size w w')→Calls Try.prog 102 #[.slice A n c] w (Q4 (q4 d).f (q4 d).fr (q4 d).t.pr (q4 d).t.s6 (q4 d).t.sh (q4 d).t.sl (q4 d).t.d6 (q4 d).t.dh (q4 d).t.dl (q4 d).r w):=fun k e h=>by
  rw [e]
  exact h.mono fun o w' h=>q4_fail h
 by_cases h20:n<20
 ·exact F 2 (by unfold q4; rw [if_pos (by omega)]) (fourB.quote_begin A n c 2 (by omega) w (fun W=>fourA.begin_short A n c W h20))
 obtain ⟨b,off,rfl,hb,hs⟩:=lies_of h.row (by omega)
 have k0:=h.u8.get 0
 by_cases hv:d.getD 0 0 / 16=4
 ·have hsN:0≤fourA.hl d:=by unfold fourA.hl; omega
  obtain ⟨s,hsz⟩:=Int.eq_ofNat_of_zero_le hsN
  by_cases h1:s<20
  ·exact F 11 (by unfold q4; rw [if_neg (by omega),if_neg (by omega),if_pos (by omega)]) (qbegin_at _ n c 11 (by omega) w fun W hW=>fourA.begin_no b off n c d W hl (by omega) (Nat.lt_of_lt_of_le hb hW.size) (hs.below hW hb) h.u8 11 (.inr (.inl ⟨hv,by omega,rfl⟩)))
  by_cases h2:n<s
  ·exact F 11 (by unfold q4; rw [if_neg (by omega),if_neg (by omega),if_pos (by omega)]) (qbegin_at _ n c 11 (by omega) w fun W hW=>fourA.begin_no b off n c d W hl (by omega) (Nat.lt_of_lt_of_le hb hW.size) (hs.below hW hb) h.u8 11 (.inr (.inr ⟨hv,by omega,by omega,rfl⟩)))
  have e:q4 d=⟨0,udpA.w16 d 6 % 8192,⟨d.getD 9 0,false,0,tcpC.w32 d 12,false,0,tcpC.w32 d 16,0,0⟩,d.drop s⟩:=by unfold q4; rw [if_neg (by omega),if_neg (by omega),if_neg (by omega),hsz]; rfl
  rw [e]
  exact (qboth b off n c s d w hl (by omega) hn h.nc h.mx hb hs h.u8 hv (by omega) (by omega) hsz).mono fun o w' h=>q4_good hl (by omega) h
 ·exact F 10 (by unfold q4; rw [if_neg (by omega),if_pos hv]) (qbegin_at _ n c 10 (by omega) w fun W hW=>fourA.begin_no b off n c d W hl (by omega) (Nat.lt_of_lt_of_le hb hW.size) (hs.below hW hb) h.u8 10 (.inl ⟨hv,rfl⟩))
theorem q6_any (A:Option Addr) (n c:Nat) (d:List Int) (w:World) (h:Sl w A n c d) (hn:n≤1000):Calls Try.prog 103 #[.slice A n c] w (Q6 (q6 d).f (q6 d).fr (q6 d).t.pr (q6 d).t.s6 (q6 d).t.sh (q6 d).t.sl (q6 d).t.d6 (q6 d).t.dh (q6 d).t.dl (q6 d).r w):=by
 have hl:=h.len
 have F:∀ k,sixQ d=.inl k→(Calls Try.prog 103 #[.slice A n c] w (HeadP w d (sixQ d)))→Calls Try.prog 103 #[.slice A n c] w (Q6 (q6 d).f (q6 d).fr (q6 d).t.pr (q6 d).t.s6 (q6 d).t.sh (q6 d).t.sl (q6 d).t.d6 (q6 d).t.dh (q6 d).t.dl (q6 d).r w):=fun k e h=>by
  have e2:q6 d=⟨k,0,zeroT,[]⟩:=by unfold q6; rw [e]
  rw [e] at h
  rw [e2]
  exact h.mono fun o w' h=>q6_fail h
 by_cases h40:n<40
 ·exact F 2 (by unfold sixQ; rw [if_pos (by omega)]) (quote_short A n c d w hl h40)
 obtain ⟨b,off,rfl,hb,hs⟩:=lies_of h.row (by omega)
 by_cases hv:d.getD 0 0 / 16=6
 ·have e:sixQ d=ofC (chn 9 [] (d.getD 6 0) (d.drop 40)):=by unfold sixQ; rw [if_neg (by omega),if_neg (by omega)]
  have HH:=quote_ok b off n c d w hl (by omega) (by omega) h.nc h.mx hb hs h.u8 hv
  rcases hC:chn 9 [] (d.getD 6 0) (d.drop 40) with _ | ⟨ys,q,r⟩
  ·exact F 11 (by rw [e,hC]; rfl) HH
  ·have e1:sixQ d=.inr (ys,q,r):=by rw [e,hC]; rfl
   have e2:q6 d=⟨0,lies ys / 8,⟨q,true,(hdOf d q).sh,(hdOf d q).sl,true,(hdOf d q).dh,(hdOf d q).dl,0,0⟩,r⟩:=by unfold q6; rw [e1]
   obtain ⟨zs,h1,h2,h3,h4,h5,h6,h7,h8,h9,h10⟩:=chn_sound 9 [] _ _ (h.u8.drop 40) (h.u8.get 6) RightE.nil (fun x hx=>by cases hx) hC
   rw [e1] at HH
   rw [e2]
   exact HH.mono fun o w' h=>q6_good h4.most h8 h
 ·exact F 10 (by unfold sixQ; rw [if_neg (by omega),if_pos hv]) (quote_vers b off n c d w hl (by omega) hb hs h.u8 hv)
theorem quoted_any (v:Bool) (ty co wd:Int) (A:Option Addr) (n c:Nat) (d:List Int) (w:World) (h:Sl w A n c d) (hn:n≤1000) :
  Calls Try.prog 87 #[.bool v,.agg #[.int .i64 ty,.int .i64 co,.int .u32 wd,.slice A n c]] w fun o w'=>o=.returned (.tuple #[.agg (quo v ty d).1.cells,.int .i64 (quo v ty d).2])∧Below w.heap.size w w':=by
 cases v with
 | true =>
  have HQ:∀ V,Below w.heap.size w V→Calls Try.prog 103 #[.slice A n c] V (Q6 (q6 d).f (q6 d).fr (q6 d).t.pr (q6 d).t.s6 (q6 d).t.sh (q6 d).t.sl (q6 d).t.d6 (q6 d).t.dh (q6 d).t.dl (q6 d).r V):=fun V hV=>q6_any A n c d V (h.below hV) hn
  obtain ⟨hu,hr⟩:=q6_in d h.u8 (by have:=h.len; omega)
  have eq:(if true=true then q6 d else q4 d)=q6 d:=by simp
  unfold quo
  rw [eq]
  clear eq
  generalize q6 d=z at HQ hu hr ⊢
  obtain ⟨f,fr,⟨pr,s6,sh,sl,d6,dh,dl,sp0,dp0⟩,r⟩:=z
  simp only at HQ hu hr ⊢
  cases ht:tellsB true ty with
  | false =>
   rw [if_pos rfl]
   exact quoted6_not ty co wd A n c f fr pr s6 sh sl d6 dh dl r w ht
  | true =>
   rw [if_neg (by decide)]
   by_cases he:f=0
   ·rw [if_neg (by omega)]
    by_cases hf:fr=0
    ·rw [if_neg (by omega)]
     by_cases hp:pr≠6∧pr≠17
     ·rw [if_pos hp]
      exact quoted6_proto ty co wd A n c f fr pr s6 sh sl d6 dh dl r w ht he hf hp (Lib.hid fun V hV=>quote6_any (.slice A n c) _ _ _ _ _ _ _ _ _ _ V (Lib.hid fun V3 hV3=>(HQ V3 (hV.trans (hV3.mono hV.size)))))
     ·rw [if_neg hp]
      have hp:pr=6∨pr=17:=by omega
      by_cases hr4:r.length<4
      ·rw [if_pos hr4]
       exact quoted6_short ty co wd A n c f fr pr s6 sh sl d6 dh dl r w ht he hf hp hr4 (Lib.hid fun V hV=>quote6_any (.slice A n c) _ _ _ _ _ _ _ _ _ _ V (Lib.hid fun V3 hV3=>(HQ V3 (hV.trans (hV3.mono hV.size)))))
      ·rw [if_neg hr4]
       exact quoted6_good ty co wd A n c f fr pr s6 sh sl d6 dh dl r w ht he hf hp (by omega) hr hu (Lib.hid fun V hV=>quote6_any (.slice A n c) _ _ _ _ _ _ _ _ _ _ V (Lib.hid fun V3 hV3=>(HQ V3 (hV.trans (hV3.mono hV.size)))))
    ·rw [if_pos hf]
     exact quoted6_frag ty co wd A n c f fr pr s6 sh sl d6 dh dl r w ht he hf (Lib.hid fun V hV=>quote6_any (.slice A n c) _ _ _ _ _ _ _ _ _ _ V (Lib.hid fun V3 hV3=>(HQ V3 (hV.trans (hV3.mono hV.size)))))
   ·rw [if_pos he]
    exact quoted6_err ty co wd A n c f fr pr s6 sh sl d6 dh dl r w ht he (Lib.hid fun V hV=>quote6_any (.slice A n c) _ _ _ _ _ _ _ _ _ _ V (Lib.hid fun V3 hV3=>(HQ V3 (hV.trans (hV3.mono hV.size)))))
 | false =>
  have HQ:∀ V,Below w.heap.size w V→Calls Try.prog 102 #[.slice A n c] V (Q4 (q4 d).f (q4 d).fr (q4 d).t.pr (q4 d).t.s6 (q4 d).t.sh (q4 d).t.sl (q4 d).t.d6 (q4 d).t.dh (q4 d).t.dl (q4 d).r V):=fun V hV=>q4_any A n c d V (h.below hV) hn
  obtain ⟨hu,hr⟩:=q4_in d h.u8 (by have:=h.len; omega)
  have eq:(if false=true then q6 d else q4 d)=q4 d:=by simp
  unfold quo
  rw [eq]
  clear eq
  generalize q4 d=z at HQ hu hr ⊢
  obtain ⟨f,fr,⟨pr,s6,sh,sl,d6,dh,dl,sp0,dp0⟩,r⟩:=z
  simp only at HQ hu hr ⊢
  cases ht:tellsB false ty with
  | false =>
   rw [if_pos rfl]
   exact quoted4_not ty co wd A n c f fr pr s6 sh sl d6 dh dl r w ht
  | true =>
   rw [if_neg (by decide)]
   by_cases he:f=0
   ·rw [if_neg (by omega)]
    by_cases hf:fr=0
    ·rw [if_neg (by omega)]
     by_cases hp:pr≠6∧pr≠17
     ·rw [if_pos hp]
      exact quoted4_proto ty co wd A n c f fr pr s6 sh sl d6 dh dl r w ht he hf hp (Lib.hid fun V hV=>quote4_any (.slice A n c) _ _ _ _ _ _ _ _ _ _ V (Lib.hid fun V3 hV3=>(HQ V3 (hV.trans (hV3.mono hV.size)))))
     ·rw [if_neg hp]
      have hp:pr=6∨pr=17:=by omega
      by_cases hr4:r.length<4
      ·rw [if_pos hr4]
       exact quoted4_short ty co wd A n c f fr pr s6 sh sl d6 dh dl r w ht he hf hp hr4 (Lib.hid fun V hV=>quote4_any (.slice A n c) _ _ _ _ _ _ _ _ _ _ V (Lib.hid fun V3 hV3=>(HQ V3 (hV.trans (hV3.mono hV.size)))))
      ·rw [if_neg hr4]
       exact quoted4_good ty co wd A n c f fr pr s6 sh sl d6 dh dl r w ht he hf hp (by omega) hr hu (Lib.hid fun V hV=>quote4_any (.slice A n c) _ _ _ _ _ _ _ _ _ _ V (Lib.hid fun V3 hV3=>(HQ V3 (hV.trans (hV3.mono hV.size)))))
    ·rw [if_pos hf]
     exact quoted4_frag ty co wd A n c f fr pr s6 sh sl d6 dh dl r w ht he hf (Lib.hid fun V hV=>quote4_any (.slice A n c) _ _ _ _ _ _ _ _ _ _ V (Lib.hid fun V3 hV3=>(HQ V3 (hV.trans (hV3.mono hV.size)))))
   ·rw [if_pos he]
    exact quoted4_err ty co wd A n c f fr pr s6 sh sl d6 dh dl r w ht he (Lib.hid fun V hV=>quote4_any (.slice A n c) _ _ _ _ _ _ _ _ _ _ V (Lib.hid fun V3 hV3=>(HQ V3 (hV.trans (hV3.mono hV.size)))))
def abt (v:Bool) (l ps:List Int):Tp × Int:=if icmpE l ps≠0 then (zeroT,icmpE l ps) else ((quo v (l.getD 0 0) (l.drop 8)).1.back,(quo v (l.getD 0 0) (l.drop 8)).2)
theorem about_no (v:Bool) (A A2:Option Addr) (n c n2 c2:Nat) (w:World) (e:Int) (he:e≠0)
  (HI:Hid (∀ V,Below w.heap.size w V→Calls Try.prog 86 #[.slice A n c,.slice A2 n2 c2] V fun o w'=>o=.returned (.tuple #[.agg #[.int .i64 0,.int .i64 0,.int .u32 0,.slice none 0 0],.int .i64 e])∧Below V.heap.size V w')) :
  Calls Try.prog 70 #[.bool v,.slice A n c,.slice A2 n2 c2] w fun o w'=>o=.returned (.tuple #[.agg #[.int .i64 0,.bool false,.int .u64 0,.int .u64 0,.bool false,.int .u64 0,.int .u64 0,.int .i64 0,.int .i64 0],.int .i64 e])∧Below w.heap.size w w':=by
 have te:(e != 0)=true:=by simpa using he
 clear he
 obtain ⟨w1,hw1⟩:∃ w1,w1=w.alloc (.cells #[.int .i64 0,.bool false,.int .u64 0,.int .u64 0,.bool false,.int .u64 0,.int .u64 0,.int .i64 0,.int .i64 0] 39):=⟨_,rfl⟩
 have E1:=Lib.hid hw1
 have B1:=Lib.hid (show Below w.heap.size w w1 from by rw [hw1]; exact (Below.refl _ _).alloc (Nat.le_refl _) _)
 have K1:=Lib.hid (show Blk w1 w.heap.size 39 #[.int .i64 0,.bool false,.int .u64 0,.int .u64 0,.bool false,.int .u64 0,.int .u64 0,.int .i64 0,.int .i64 0] from by rw [hw1]; exact Blk.new w _ _)
 clear hw1
 go_enter Try.func70,Try.ntmps70
 go_upto_region 1 with fail
 rw [← E1.out]
 go_wp2_with fail
 refine (HI.out _ B1.out).mono ?_
 rintro o w2 ⟨rfl,hb2⟩
 obtain ⟨w3,hw3⟩:∃ w3,w3=w2.alloc (.cells #[.int .i64 0,.int .i64 0,.int .u32 0,.slice none 0 0] 131):=⟨_,rfl⟩
 have E3:=Lib.hid hw3
 have B23:=Lib.hid (show Below w2.heap.size w2 w3 from by rw [hw3]; exact (Below.refl _ _).alloc (Nat.le_refl _) _)
 have B13:=Lib.hid (hb2.trans (B23.out.mono hb2.size))
 have K13:=Lib.hid (K1.out.below B13.out K1.out.lt)
 have K33:=Lib.hid (show Blk w3 w2.heap.size 131 #[.int .i64 0,.int .i64 0,.int .u32 0,.slice none 0 0] from by rw [hw3]; exact Blk.new w2 _ _)
 have B3:=Lib.hid (B1.out.trans (B13.out.mono B1.out.size))
 clear hw3 hb2
 go_upto_region 2 with fail
 rw [← E3.out]
 have r0:=K13.out.cell 0
 have z0:=K13.out.frozen 0
 have r1:=K13.out.cell 1
 have z1:=K13.out.frozen 1
 have r2:=K13.out.cell 2
 have z2:=K13.out.frozen 2
 have r3:=K13.out.cell 3
 have z3:=K13.out.frozen 3
 have r4:=K13.out.cell 4
 have z4:=K13.out.frozen 4
 have r5:=K13.out.cell 5
 have z5:=K13.out.frozen 5
 have r6:=K13.out.cell 6
 have z6:=K13.out.frozen 6
 have r7:=K13.out.cell 7
 have z7:=K13.out.frozen 7
 have r8:=K13.out.cell 8
 have z8:=K13.out.frozen 8
 go_wp2_with fail
 have OG:=tonly w3 w.heap.size (.int .i64 0) (.bool false) (.int .u64 0) (.int .u64 0) (.bool false) (.int .u64 0) (.int .u64 0) (.int .i64 0) (.int .i64 0)
 have KT:=tstore w3 w.heap.size (.int .i64 0) (.bool false) (.int .u64 0) (.int .u64 0) (.bool false) (.int .u64 0) (.int .u64 0) (.int .i64 0) (.int .i64 0) _ _ _ _ _ _ _ _ _ K13.out
 refine bodyPost_ret (results_two_q rfl _ _ w.heap.size #[.int .i64 0,.bool false,.int .u64 0,.int .u64 0,.bool false,.int .u64 0,.int .u64 0,.int .i64 0,.int .i64 0] rfl KT rfl) rfl ?_
 exact ⟨rfl,OG.from B3.out (Nat.le_refl _)⟩
theorem about_ok (v:Bool) (A A2:Option Addr) (n c n2 c2:Nat) (w:World) (ty co pr:Int) (s6:Bool) (sh sl:Int) (d6:Bool) (dh dl sp dp e:Int)
  (HI:Hid (∀ V,Below w.heap.size w V→Calls Try.prog 86 #[.slice A n c,.slice A2 n2 c2] V fun o w'=>Below V.heap.size V w'∧∃ (wd:Int) (Am:Option Addr) (nm cm:Nat),o=.returned (.tuple #[.agg #[.int .i64 ty,.int .i64 co,.int .u32 wd,.slice Am nm cm],.int .i64 0])∧∀ V2,Below w'.heap.size w' V2→Calls Try.prog 87 #[.bool v,.agg #[.int .i64 ty,.int .i64 co,.int .u32 wd,.slice Am nm cm]] V2 fun o w'=>o=.returned (.tuple #[.agg #[.int .i64 pr,.bool s6,.int .u64 sh,.int .u64 sl,.bool d6,.int .u64 dh,.int .u64 dl,.int .i64 sp,.int .i64 dp],.int .i64 e])∧Below V2.heap.size V2 w')) :
  Calls Try.prog 70 #[.bool v,.slice A n c,.slice A2 n2 c2] w fun o w'=>o=.returned (.tuple #[.agg #[.int .i64 pr,.bool d6,.int .u64 dh,.int .u64 dl,.bool s6,.int .u64 sh,.int .u64 sl,.int .i64 dp,.int .i64 sp],.int .i64 e])∧Below w.heap.size w w':=by
 obtain ⟨w1,hw1⟩:∃ w1,w1=w.alloc (.cells #[.int .i64 0,.bool false,.int .u64 0,.int .u64 0,.bool false,.int .u64 0,.int .u64 0,.int .i64 0,.int .i64 0] 39):=⟨_,rfl⟩
 have E1:=Lib.hid hw1
 have B1:=Lib.hid (show Below w.heap.size w w1 from by rw [hw1]; exact (Below.refl _ _).alloc (Nat.le_refl _) _)
 have K1:=Lib.hid (show Blk w1 w.heap.size 39 #[.int .i64 0,.bool false,.int .u64 0,.int .u64 0,.bool false,.int .u64 0,.int .u64 0,.int .i64 0,.int .i64 0] from by rw [hw1]; exact Blk.new w _ _)
 clear hw1
 go_enter Try.func70,Try.ntmps70
 go_upto_region 1 with fail
 rw [← E1.out]
 go_wp2_with fail
 refine (HI.out _ B1.out).mono ?_
 rintro o w2 ⟨hb2,wd,Am,nm,cm,rfl,hq⟩
 have HQ:=Lib.hid hq
 clear hq
 obtain ⟨w3,hw3⟩:∃ w3,w3=w2.alloc (.cells #[.int .i64 ty,.int .i64 co,.int .u32 wd,.slice Am nm cm] 131):=⟨_,rfl⟩
 have E3:=Lib.hid hw3
 have B23:=Lib.hid (show Below w2.heap.size w2 w3 from by rw [hw3]; exact (Below.refl _ _).alloc (Nat.le_refl _) _)
 have B13:=Lib.hid (hb2.trans (B23.out.mono hb2.size))
 have K13:=Lib.hid (K1.out.below B13.out K1.out.lt)
 have K33:=Lib.hid (show Blk w3 w2.heap.size 131 #[.int .i64 ty,.int .i64 co,.int .u32 wd,.slice Am nm cm] from by rw [hw3]; exact Blk.new w2 _ _)
 have B3:=Lib.hid (B1.out.trans (B13.out.mono B1.out.size))
 clear hw3 hb2
 go_upto_region 2 with fail
 rw [← E3.out]
 have m0:=K33.out.cell 0
 have m1:=K33.out.cell 1
 have m2:=K33.out.cell 2
 have m3:=K33.out.cell 3
 go_wp2_with fail
 refine (HQ.out _ B23.out).mono ?_
 rintro o w4 ⟨rfl,hb4⟩
 obtain ⟨w5,hw5⟩:∃ w5,w5=w4.alloc (.cells #[.int .i64 pr,.bool s6,.int .u64 sh,.int .u64 sl,.bool d6,.int .u64 dh,.int .u64 dl,.int .i64 sp,.int .i64 dp] 39):=⟨_,rfl⟩
 have E5:=Lib.hid hw5
 have B45:=Lib.hid (show Below w4.heap.size w4 w5 from by rw [hw5]; exact (Below.refl _ _).alloc (Nat.le_refl _) _)
 have B35:=Lib.hid (hb4.trans (B45.out.mono hb4.size))
 have K15:=Lib.hid (K13.out.below B35.out K13.out.lt)
 have K55:=Lib.hid (show Blk w5 w4.heap.size 39 #[.int .i64 pr,.bool s6,.int .u64 sh,.int .u64 sl,.bool d6,.int .u64 dh,.int .u64 dl,.int .i64 sp,.int .i64 dp] from by rw [hw5]; exact Blk.new w4 _ _)
 have B5:=Lib.hid (B3.out.trans (B35.out.mono B3.out.size))
 clear hw5 hb4 m0 m1 m2 m3
 go_upto_region 5 with fail
 rw [← E5.out]
 have q0:=K55.out.cell 0
 have q1:=K55.out.cell 1
 have q2:=K55.out.cell 2
 have q3:=K55.out.cell 3
 have q4:=K55.out.cell 4
 have q5:=K55.out.cell 5
 have q6:=K55.out.cell 6
 have q7:=K55.out.cell 7
 have q8:=K55.out.cell 8
 go_wp2_with fail
 refine (icmpA.back_any pr s6 sh sl d6 dh dl sp dp w5).mono ?_
 rintro o w6 ⟨rfl,hb6⟩
 have K16:=Lib.hid (K15.out.below hb6 K15.out.lt)
 have B6:=Lib.hid (B5.out.trans (hb6.mono B5.out.size))
 clear hb6 q0 q1 q2 q3 q4 q5 q6 q7 q8
 have r0:=K16.out.cell 0
 have z0:=K16.out.frozen 0
 have r1:=K16.out.cell 1
 have z1:=K16.out.frozen 1
 have r2:=K16.out.cell 2
 have z2:=K16.out.frozen 2
 have r3:=K16.out.cell 3
 have z3:=K16.out.frozen 3
 have r4:=K16.out.cell 4
 have z4:=K16.out.frozen 4
 have r5:=K16.out.cell 5
 have z5:=K16.out.frozen 5
 have r6:=K16.out.cell 6
 have z6:=K16.out.frozen 6
 have r7:=K16.out.cell 7
 have z7:=K16.out.frozen 7
 have r8:=K16.out.cell 8
 have z8:=K16.out.frozen 8
 go_wp2_with fail
 have OG:=tonly w6 w.heap.size (.int .i64 pr) (.bool d6) (.int .u64 dh) (.int .u64 dl) (.bool s6) (.int .u64 sh) (.int .u64 sl) (.int .i64 dp) (.int .i64 sp)
 have KT:=tstore w6 w.heap.size (.int .i64 pr) (.bool d6) (.int .u64 dh) (.int .u64 dl) (.bool s6) (.int .u64 sh) (.int .u64 sl) (.int .i64 dp) (.int .i64 sp) _ _ _ _ _ _ _ _ _ K16.out
 refine bodyPost_ret (results_two_q rfl _ _ w.heap.size #[.int .i64 pr,.bool d6,.int .u64 dh,.int .u64 dl,.bool s6,.int .u64 sh,.int .u64 sl,.int .i64 dp,.int .i64 sp] rfl KT rfl) rfl ?_
 exact ⟨rfl,OG.from B6.out (Nat.le_refl _)⟩
theorem about_any (v:Bool) (A A2:Option Addr) (n c n2 c2:Nat) (l ps:List Int) (w:World) (h:Sl w A n c l) (h2:Sl w A2 n2 c2 ps) (hn:n≤1000) (hn2:n2≤1000) :
  Calls Try.prog 70 #[.bool v,.slice A n c,.slice A2 n2 c2] w fun o w'=>o=.returned (.tuple #[.agg (abt v l ps).1.cells,.int .i64 (abt v l ps).2])∧Below w.heap.size w w':=by
 by_cases he:icmpE l ps=0
 ·have e:abt v l ps=((quo v (l.getD 0 0) (l.drop 8)).1.back,(quo v (l.getD 0 0) (l.drop 8)).2):=by unfold abt; rw [if_neg (by omega)]
  rw [e]
  exact about_ok v A A2 n c n2 c2 w (l.getD 0 0) (l.getD 1 0) _ _ _ _ _ _ _ _ _ _ (Lib.hid fun V hV=>(icmp_any A A2 n c n2 c2 l ps V (h.below hV) (h2.below hV) hn hn2).mono fun o w' k=>by
   obtain ⟨hb,k⟩:=k
   rcases k with ⟨k1,k2⟩ | ⟨k1,wd,Am,m,cm,k2,k3⟩
   ·exact absurd he k1
   ·exact ⟨hb,wd,Am,m,cm,k2,fun V2 hV2=>quoted_any v (l.getD 0 0) (l.getD 1 0) wd Am m cm (l.drop 8) V2 (k3.below hV2) (by have:=k3.len; rw [List.length_drop] at this; have:=h.len; omega)⟩)
 ·have e:abt v l ps=(zeroT,icmpE l ps):=by unfold abt; rw [if_pos he]
  rw [e]
  exact about_no v A A2 n c n2 c2 w _ he (Lib.hid fun V hV=>(icmp_any A A2 n c n2 c2 l ps V (h.below hV) (h2.below hV) hn hn2).mono fun o w' k=>by
   obtain ⟨hb,k⟩:=k
   rcases k with ⟨k1,k2⟩ | ⟨k1,k2⟩
   ·exact ⟨k2,hb⟩
   ·exact absurd k1 he)
end Go.Proofs.Ytnofddbfogilaaa.pktC
