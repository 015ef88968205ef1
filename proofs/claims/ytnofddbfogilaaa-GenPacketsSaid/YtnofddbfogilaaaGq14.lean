/- 5 texts in one. -/
import Derived.Deep.RegionHeld3
import Derived.Deep.DeepCutAuto
import Derived.Test.YtnofddbfogilaaaGq12
import Derived.Test.YtnofddbfogilaaaGq13
/- Layer 9: Bytes of a header that may be. -/
namespace Go.Proofs.Ytnofddbfogilaaa.sixQ
set_option maxHeartbeats 8000000
set_option maxRecDepth 100000
open Go.ChangeShapes Go.WideShapes Go.ChangeAt Go.RowKit
open base octA octB net rdrA rdrG sixW sixM snK sixE sixH sixK sixO
set_option linter.unusedVariables false
theorem i64_or (a b:Nat) (ha:a<9223372036854775808) (hb:b<9223372036854775808):bits .or .i64 (a:Int) (b:Int)=((a ||| b:Nat):Int):=by
 have hA:(BitVec.ofInt 64 (a:Int)).toNat=a:=by rw [BitVec.ofInt_natCast,BitVec.toNat_ofNat]; exact Nat.mod_eq_of_lt (by omega)
 have hB:(BitVec.ofInt 64 (b:Int)).toNat=b:=by rw [BitVec.ofInt_natCast,BitVec.toNat_ofNat]; exact Nat.mod_eq_of_lt (by omega)
 show IntKind.i64.wrap ((BitVec.ofInt 64 (a:Int) ||| BitVec.ofInt 64 (b:Int)).toNat:Nat)=_
 rw [BitVec.toNat_or,hA,hB]
 have:a ||| b<2 ^ 63:=Nat.or_lt_two_pow (by omega) (by omega)
 exact IntWalk.i64_in _ (by omega)
theorem or_six (cls lab:Int) (c0:0≤cls) (c1:cls≤255) (l0:0≤lab) (l1:lab≤1048575):bits .or .i64 (bits .or .i64 1610612736 (cls*1048576)) lab=1610612736+cls*1048576+lab:=by
 obtain ⟨a,rfl⟩:=Int.eq_ofNat_of_zero_le c0
 obtain ⟨b,rfl⟩:=Int.eq_ofNat_of_zero_le l0
 have e1:bits .or .i64 ((1610612736:Nat):Int) ((a*1048576:Nat):Int)=((1610612736 ||| a*1048576:Nat):Int):=i64_or _ _ (by omega) (by omega)
 have e2:1610612736 ||| a*1048576=1610612736+a*1048576:=by
  have:=Nat.shiftLeft_add_eq_or_of_lt (b:=a*1048576) (i:=28) (by omega) 6
  rw [Nat.shiftLeft_eq] at this
  exact this.symm
 have e3:bits .or .i64 ((1610612736+a*1048576:Nat):Int) (b:Int)=((1610612736+a*1048576 ||| b:Nat):Int):=i64_or _ _ (by omega) (by omega)
 have e4:1610612736+a*1048576 ||| b=1610612736+a*1048576+b:=by
  have:=Nat.shiftLeft_add_eq_or_of_lt (b:=b) (i:=20) (by omega) (1536+a)
  rw [Nat.shiftLeft_eq] at this
  rw [show 1610612736+a*1048576=(1536+a)*2 ^ 20 by omega]
  exact this.symm
 have h1:bits .or .i64 1610612736 ((a:Int)*1048576)=((1610612736+a*1048576:Nat):Int):=by
  rw [← e2]
  exact e1
 show bits .or .i64 (bits .or .i64 1610612736 ((a:Int)*1048576)) (b:Int)=_
 rw [h1,e3,e4]
 show ((1610612736+a*1048576+b:Nat):Int)=_
 omega
theorem next_in {l:List XP} {p:Int} (h:RightE l) (hp:0≤p∧p≤255) (k:Nat):0≤nextK (l.drop k) p∧nextK (l.drop k) p≤255:=by
 rcases Nat.lt_or_ge k l.length with hk | hk
 ·rw [List.drop_eq_getElem_cons hk]
  show 0≤l[k].1∧l[k].1≤255
  have:=h.each k hk
  unfold rightX at this
  simp only [Bool.and_eq_true] at this
  exact isX_in this.1.1.1
 ·rw [List.drop_of_length_le hk]
  exact hp
def extP (X:List XP) (p:Int):Nat→List Int
 | 0=>[]
 | k+1=>extP X p k++(nextK (X.drop (k+1)) p::(X.getD k (0,[])).2)
theorem extP_ext (X:List XP) (p:Int):∀ k,k≤X.length→extP X p k++extB (X.drop k) p=extB X p
 | 0,_=>rfl
 | k+1,h=>by
  have ih:=extP_ext X p k (by omega)
  rw [List.drop_eq_getElem_cons (by omega)] at ih
  have e:(X.getD k (0,[])).2=X[k].2:=by rw [List.getD_eq_getElem?_getD,List.getElem?_eq_getElem (by omega)]; rfl
  rw [← ih]
  show extP X p k++(nextK (X.drop (k+1)) p::(X.getD k (0,[])).2)++_=extP X p k++(nextK (X.drop (k+1)) p::(X[k].2++extB (X.drop (k+1)) p))
  rw [e,List.append_assoc]
  rfl
theorem extP_all (X:List XP) (p:Int):extP X p X.length=extB X p:=by
 have:=extP_ext X p X.length (Nat.le_refl _)
 rw [List.drop_length] at this
 rw [← this]
 exact (List.append_nil _).symm
theorem extP_len (X:List XP) (p:Int) (k:Nat) (hk:k≤X.length):(extP X p k).length≤extL X:=by
 have h:=congrArg List.length (extP_ext X p k hk)
 rw [List.length_append,extB_len,extB_len] at h
 omega
structure BS (w:World) (g:Nat) (cs:Array Value) (V:World) (v:Value) (k:Nat) (xs:List Int):Prop where
 own:V.ownsRow g 5 1 v k (xs.map (.int .u8))
 bel:Below g w V
 hd:Blk V g 87 cs
 sz:g≤V.heap.size
theorem BS.below {w:World} {g:Nat} {cs:Array Value} {V V':World} {v:Value} {k:Nat} {xs:List Int} (h:BS w g cs V v k xs) (hb:Below V.heap.size V V'):BS w g cs V' v k xs:=⟨own_below2 h.own hb,h.bel.trans (hb.mono h.sz),h.hd.below hb h.hd.lt,Nat.le_trans h.sz hb.size⟩
theorem BS.put {w:World} {g:Nat} {cs:Array Value} {V:World} {v:Value} {k:Nat} {xs:List Int} (h:BS w g cs V v k xs) (n s:Int) (hk:k≤1000000) (n0:0≤n) (n1:n<18446744073709551616) :
  Calls Try.prog 58 #[v,.int .u64 n,.int .i64 s] V fun o w'=>∃ v',o=.returned v'∧BS w g cs w' v' (k+hs s) (xs++pb n (hs s) (hs s)):=by
 refine (put_t v k (xs.map (.int .u8)) n s g g w V h.own h.sz hk h.bel (Nat.le_refl _) n0 n1).mono ?_
 rintro o w' ⟨v',rfl,h1,h2,h3,h4⟩
 exact ⟨v',rfl,by rw [List.map_append]; exact h1,h2,h4 g _ _ (by decide) h.hd,h3⟩
theorem BS.all {w:World} {g:Nat} {cs:Array Value} {V:World} {v:Value} {k:Nat} {xs:List Int} (h:BS w g cs V v k xs) (s:Int) (b n c:Nat) (bs:Array Value) (l:List Int) (hk:k+8*n≤1000000) (hl:l.length=n) (hK:Blk V b 22 bs) (hcs:bs.toList=l.map (.int .u64)) (hw:∀ x ∈ l,0≤x∧x<18446744073709551616) :
  Calls Try.prog 57 #[v,.int .i64 s,.slice (some ⟨b,0,none⟩) n c] V fun o w'=>∃ v',o=.returned v'∧BS w g cs w' v' (k+hs s*n) (xs++allb (hs s) l):=by
 refine (all_t b bs v k (xs.map (.int .u8)) s n c l g g w V h.own h.sz hk h.bel (Nat.le_refl _) hl hK hcs hw).mono ?_
 rintro o w' ⟨v',rfl,h1,h2,h3,h4⟩
 exact ⟨v',rfl,by rw [List.map_append]; exact h1,h2,h4 g _ _ (by decide) h.hd,h3⟩
theorem BS.put2 {w:World} {g:Nat} {cs:Array Value} {V:World} {v:Value} {k:Nat} {xs:List Int} (h:BS w g cs V v k xs) (n s:Int) (hk:k≤1000000) (n0:0≤n) (n1:n<18446744073709551616) :
  Calls Try.prog 58 #[v,.int .u64 n,.int .i64 s] V fun o w'=>∃ v',o=.returned v'∧BS w g cs w' v' (k+hs s) (xs++pb n (hs s) (hs s))∧KT V w':=by
 refine (put_t v k (xs.map (.int .u8)) n s g g w V h.own h.sz hk h.bel (Nat.le_refl _) n0 n1).mono ?_
 rintro o w' ⟨v',rfl,h1,h2,h3,h4⟩
 exact ⟨v',rfl,⟨by rw [List.map_append]; exact h1,h2,h4 g _ _ (by decide) h.hd,h3⟩,h4⟩
theorem BS.app {w:World} {g:Nat} {cs:Array Value} {V V':World} {v v':Value} {k m:Nat} {xs ys:List Int} (h:BS w g cs V v k xs) (ho:V'.ownsRow g 5 1 v' (k+m) (xs.map (.int .u8)++ys.map (.int .u8))) (hg:V.grownBy V' v.ownBlock):BS w g cs V' v' (k+m) (xs++ys) :=
 ⟨by rw [List.map_append]; exact ho,below_grown h.bel h.own (Nat.le_refl _) h.sz hg,((KT.refl V).grown h.own hg) g _ _ (by decide) h.hd,Nat.le_trans h.sz hg.size⟩
theorem hd_eq (X0 cls lab hop nk sh sl dh dl:Int) (N:Nat) (hN:N≤65535) (c0:0≤cls) (c1:cls≤255) (l0:0≤lab) (l1:lab≤1048575) (h0:0≤hop) (h1:hop≤255) (n0:0≤nk) (n1:nk≤255) (hX:X0=1610612736+cls*1048576+lab) (s6 d6:Bool) (p:Int) :
  pb X0 4 4++pb ((N:Nat):Int) 2 2++allb 1 [nk,hop]++allb 8 [sh,sl,dh,dl]=hdB ⟨cls,lab,hop,s6,sh,sl,d6,dh,dl,p⟩ nk N:=by
 have e1:=pb_four X0 (by omega) (by omega)
 have e2:=pb_two (N:Int) (by omega) (by omega)
 have e3:allb 1 [nk,hop]=[nk,hop]:=by
  show pb nk 1 1++(pb hop 1 1++[])=_
  rw [pb_one nk n0 n1,pb_one hop h0 h1]
  rfl
 have e4:allb 8 [sh,sl,dh,dl]=pb sh 8 8++pb sl 8 8++(pb dh 8 8++pb dl 8 8):=by
  show pb sh 8 8++(pb sl 8 8++(pb dh 8 8++(pb dl 8 8++[])))=_
  simp only [List.append_nil,List.append_assoc]
 have k1:X0 / 65536 / 256=96+cls / 16:=by omega
 have k2:X0 / 65536 % 256=cls % 16*16+lab / 65536:=by omega
 have k3:X0 % 65536 / 256=lab / 256 % 256:=by omega
 have k4:X0 % 65536 % 256=lab % 256:=by omega
 have k5:(N:Int) / 256=(N:Int) / 256 % 256:=by omega
 rw [e1,e2,e3,e4,k1,k2,k3,k4]
 show _=[96+cls / 16,cls % 16*16+lab / 65536,lab / 256 % 256,lab % 256,(N:Int) / 256 % 256,(N:Int) % 256,nk,hop]++(pb sh 8 8++pb sl 8 8)++(pb dh 8 8++pb dl 8 8)
 rw [← k5]
 simp only [List.append_assoc,List.cons_append,List.nil_append]
theorem bytes_any (h:Hs) (A:Option Addr) (n c:Nat) (l:List Xt) (R:Option Addr) (m rc:Nat) (r:List Int) (w:World) (hl:l.length=n) (hr:RdX w A l) (hnc:n≤c) (hR:RightH h (l.map Xt.re)) (hsh:0≤h.sh∧h.sh<18446744073709551616) (hsl:0≤h.sl∧h.sl<18446744073709551616) (hdh:0≤h.dh∧h.dh<18446744073709551616) (hdl:0≤h.dl∧h.dl<18446744073709551616)
  (hm:r.length=m) (hrr:Row w w.heap.size R (r.map (.int .u8))) (hm2:m≤1000) (hrc:R=none→rc=0) :
  Calls Try.prog 54 #[.agg (h.cells (.slice A n c)),.slice R m rc] w fun o w'=>∃ v,o=.returned (.tuple #[v,.int .i64 0])∧w'.ownsRow w.heap.size 5 1 v (sixB h (l.map Xt.re) r).length ((sixB h (l.map Xt.re) r).map (.int .u8))∧Below w.heap.size w w':=by
 obtain ⟨i0,hi0,hz0,hz1,hz2⟩:=info_parts info_u8
 have HI0:=Lib.hid hi0
 have HZ0:=Lib.hid hz0
 have HZ1:=Lib.hid hz1
 have HZ2:=Lib.hid hz2
 have HRH:=Lib.hid hR
 have hn8:n≤8:=by have:=hR.e.most; rw [List.length_map] at this; omega
 have hd:∀ x ∈ l,x.d.length≤2047:=fun x hx=>by
  obtain ⟨j,hj,he⟩:=List.getElem_of_mem hx
  have:=hR.e.each j (by rw [List.length_map]; exact hj)
  unfold rightX at this
  simp only [Bool.and_eq_true,decide_eq_true_eq,List.getElem_map,he] at this
  exact this.1.2.1
 have RG:=Lib.hid (show ∀ V,Below w.heap.size w V→Calls Try.prog 76 #[.agg (h.cells (.slice A n c))] V fun o w'=>o=.returned (.bool true)∧Below V.heap.size V w' from fun V hV=>by
  refine (right_any h A n c l V hl (hr.below hV) hnc (by omega) (fun x hx=>by have:=hd x hx; omega)).mono ?_
  rintro o w' ⟨v,rfl,h1,h2⟩
  exact ⟨by rw [h1.mpr HRH.out],h2⟩)
 have LG:=Lib.hid (show ∀ V,Below w.heap.size w V→_ from fun V hV=>len_any h A n c l V hl (hr.below hV) hn8 hd)
 have NG:=Lib.hid (show ∀ k V,Below w.heap.size w V→_ from fun k V hV=>next_any h A n c k l V hl (hr.below hV) (by omega))
 obtain ⟨cls,lab,hop,s6,sh,sl,d6,dh,dl,p⟩:=h
 obtain rfl:s6=true:=hR.s6
 obtain rfl:d6=true:=hR.d6
 have c0:0≤cls:=hR.c0
 have c1:cls≤255:=hR.c1
 have h0:0≤hop:=hR.h0
 have h1:hop≤255:=hR.h1
 have l0:0≤lab:=hR.l0
 have l1:lab≤1048575:=hR.l1
 have p0:0≤p:=hR.p0
 have p1:p≤255:=hR.p1
 have HRE:=Lib.hid hR.e
 have HL:=Lib.hid hl
 have HM:=Lib.hid hm
 have HRR:=Lib.hid hrr
 have HRC:=Lib.hid hrc
 obtain ⟨g,hg⟩:∃ g,g=w.heap.size:=⟨_,rfl⟩
 have EG:=Lib.hid hg
 obtain ⟨w1,hw1⟩:∃ w1,w1=w.alloc (.cells #[.int .i64 cls,.int .i64 lab,.int .i64 hop,.bool true,.int .u64 sh,.int .u64 sl,.bool true,.int .u64 dh,.int .u64 dl,.slice A n c,.int .i64 p] 87):=⟨_,rfl⟩
 have E1:=Lib.hid hw1
 have BA:=Lib.hid (show Below w.heap.size w w1 from by rw [hw1]; exact (Below.refl _ _).alloc (Nat.le_refl _) _)
 have KB:=Lib.hid (show Blk w1 g 87 #[.int .i64 cls,.int .i64 lab,.int .i64 hop,.bool true,.int .u64 sh,.int .u64 sl,.bool true,.int .u64 dh,.int .u64 dl,.slice A n c,.int .i64 p] from by rw [hw1,hg]; exact Blk.new w _ _)
 have SZ1:=Lib.hid (show w1.heap.size=g+1 from by rw [hw1,hg]; simp)
 have HR0:=Lib.hid hr
 have hxl:extL (l.map Xt.re)≤16384:=extL_le HRE.out
 obtain ⟨xl,hxle⟩:∃ xl,xl=extL (l.map Xt.re):=⟨_,rfl⟩
 have HXL:=Lib.hid hxle
 rw [← hxle] at hxl
 have RG1:=Lib.hid (RG.out w1 BA.out)
 clear hi0 hz0 hz1 hz2 hl hr hR hm hrr hrc hw1 hg hxle hd RG
 show Calls _ _ #[.agg #[.int .i64 cls,.int .i64 lab,.int .i64 hop,.bool true,.int .u64 sh,.int .u64 sl,.bool true,.int .u64 dh,.int .u64 dl,.slice A n c,.int .i64 p],.slice R m rc] _ _
 go_enter Try.func54,Try.ntmps54
 go_upto_region 1 with fail
 rw [← E1.out,← EG.out]
 have x0:=KB.out.cell 0
 have x1:=KB.out.cell 1
 have x2:=KB.out.cell 2
 have x3:=KB.out.cell 3
 have x4:=KB.out.cell 4
 have x5:=KB.out.cell 5
 have x6:=KB.out.cell 6
 have x7:=KB.out.cell 7
 have x8:=KB.out.cell 8
 have x9:=KB.out.cell 9
 have x10:=KB.out.cell 10
 go_wp2_with fail
 refine RG1.out.mono ?_
 rintro o w2 ⟨rfl,hb2⟩
 clear x0 x1 x2 x3 x4 x5 x6 x7 x8 x9 x10
 have K2:=Lib.hid (KB.out.below hb2 KB.out.lt)
 have B2:=Lib.hid (BA.out.trans (hb2.mono BA.out.size))
 have LG2:=Lib.hid (LG.out w2 B2.out)
 clear hb2
 have x0:=K2.out.cell 0
 have x1:=K2.out.cell 1
 have x2:=K2.out.cell 2
 have x3:=K2.out.cell 3
 have x4:=K2.out.cell 4
 have x5:=K2.out.cell 5
 have x6:=K2.out.cell 6
 have x7:=K2.out.cell 7
 have x8:=K2.out.cell 8
 have x9:=K2.out.cell 9
 have x10:=K2.out.cell 10
 go_wp2_with fail
 refine LG2.out.mono ?_
 rintro o w3 ⟨rfl,hb3⟩
 rw [← HXL.out]
 clear x0 x1 x2 x3 x4 x5 x6 x7 x8 x9 x10
 have K3:=Lib.hid (K2.out.below hb3 K2.out.lt)
 have B3:=Lib.hid (B2.out.trans (hb3.mono B2.out.size))
 clear hb3
 have q1:IntKind.i64.wrap (((40+xl:Nat):Int) - 40)=(xl:Int):=by rw [IntKind.wrap_i64]; omega
 have q2:IntKind.i64.wrap ((xl:Int)+m)=((xl+m:Nat):Int):=by rw [IntKind.wrap_i64]; omega
 have q3:decide (65535<((xl+m:Nat):Int))=false:=decide_eq_false (by omega)
 have q4:decide (65535<(xl+m))=false:=decide_eq_false (by omega)
 have x0:=K3.out.cell 0
 have x1:=K3.out.cell 1
 have qb:=or_six cls lab c0 c1 l0 l1
 obtain ⟨X0,hX0⟩:∃ X0,X0=1610612736+cls*1048576+lab:=⟨_,rfl⟩
 have HX0:=Lib.hid hX0
 rw [← hX0] at qb
 have qw:IntKind.u64.wrap X0=X0:=by rw [IntKind.wrap_u64]; omega
 have qe:(40:Int)+xl - 40+m=((xl+m:Nat):Int):=by omega
 have S0:=Lib.hid (show BS w g #[.int .i64 cls,.int .i64 lab,.int .i64 hop,.bool true,.int .u64 sh,.int .u64 sl,.bool true,.int .u64 dh,.int .u64 dl,.slice A n c,.int .i64 p] w3 (.slice none 0 0) 0 [] from ⟨World.ownsRow_nil _ _ _ _,by rw [EG.out]; exact B3.out,K3.out,by rw [EG.out]; exact B3.out.size⟩)
 have P0:=Lib.hid (S0.out.put X0 4 (by omega) (by omega) (by omega))
 clear hX0
 go_upto_region 6 with fail
 go_wp2_with fail
 refine P0.out.mono ?_
 rintro o w4 ⟨v4,rfl,hs4⟩
 have S4:=Lib.hid (show BS w g #[.int .i64 cls,.int .i64 lab,.int .i64 hop,.bool true,.int .u64 sh,.int .u64 sl,.bool true,.int .u64 dh,.int .u64 dl,.slice A n c,.int .i64 p] w4 v4 4 (pb X0 4 4) from hs4)
 have q5:IntKind.u64.wrap ((xl+m:Nat):Int)=((xl+m:Nat):Int):=by rw [IntKind.wrap_u64]; omega
 have P1:=Lib.hid (S4.out.put ((xl+m:Nat):Int) 2 (by omega) (by omega) (by omega))
 clear hs4 x0 x1 q1 q2 q3 q4 qb qw
 go_upto_region 7 with fail
 go_wp2_with fail
 refine P1.out.mono ?_
 rintro o w5 ⟨v5,rfl,hs5⟩
 have S5:=Lib.hid (show BS w g #[.int .i64 cls,.int .i64 lab,.int .i64 hop,.bool true,.int .u64 sh,.int .u64 sl,.bool true,.int .u64 dh,.int .u64 dl,.slice A n c,.int .i64 p] w5 v5 6 (pb X0 4 4++pb ((xl+m:Nat):Int) 2 2) from hs5)
 clear hs5
 obtain ⟨nk,hnk⟩:∃ nk,nk=nextK (l.map Xt.re) p:=⟨_,rfl⟩
 have HNK:=Lib.hid hnk
 have hnk9:0≤nk∧nk≤255:=by
  rw [hnk]
  exact next_in HRE.out ⟨p0,p1⟩ 0
 have qn:IntKind.u64.wrap nk=nk:=by rw [IntKind.wrap_u64]; omega
 have qh:IntKind.u64.wrap hop=hop:=by rw [IntKind.wrap_u64]; omega
 have D5:=Lib.hid (S5.out.below (Below.refl _ _).drew)
 have HKV:=Lib.hid (show w5.drew.cell? ⟨g,0,none⟩=some (.int .i64 cls)∧w5.drew.cell? ⟨g,1,none⟩=some (.int .i64 lab)∧w5.drew.cell? ⟨g,2,none⟩=some (.int .i64 hop)∧w5.drew.cell? ⟨g,3,none⟩=some (.bool true)∧w5.drew.cell? ⟨g,4,none⟩=some (.int .u64 sh)∧w5.drew.cell? ⟨g,5,none⟩=some (.int .u64 sl)∧w5.drew.cell? ⟨g,6,none⟩=some (.bool true)∧w5.drew.cell? ⟨g,7,none⟩=some (.int .u64 dh)∧w5.drew.cell? ⟨g,8,none⟩=some (.int .u64 dl)∧w5.drew.cell? ⟨g,9,none⟩=some (.slice A n c)∧w5.drew.cell? ⟨g,10,none⟩=some (.int .i64 p) from ⟨D5.out.hd.cell 0,D5.out.hd.cell 1,D5.out.hd.cell 2,D5.out.hd.cell 3,D5.out.hd.cell 4,D5.out.hd.cell 5,D5.out.hd.cell 6,D5.out.hd.cell 7,D5.out.hd.cell 8,D5.out.hd.cell 9,D5.out.hd.cell 10⟩)
 have N0:=Lib.hid (show Calls Try.prog 77 #[.agg #[.int .i64 cls,.int .i64 lab,.int .i64 hop,.bool true,.int .u64 sh,.int .u64 sl,.bool true,.int .u64 dh,.int .u64 dl,.slice A n c,.int .i64 p],.int .i64 0] w5.drew fun o w'=>o=.returned (.int .i64 nk)∧Below w5.drew.heap.size w5.drew w' from by
  rw [hnk]
  exact NG.out 0 w5.drew (by have:=D5.out.bel; rw [EG.out] at this; exact this))
 have U1:=Lib.hid (show ∀ x ∈ [nk,hop],0≤x∧x<18446744073709551616 from fun x hx=>by
  simp only [List.mem_cons,List.not_mem_nil,or_false] at hx
  rcases hx with rfl | rfl <;> omega)
 clear hnk
 go_upto_region 8 with fail
 go_region_held3 (fun w'=>w'.cell? ⟨g,0,none⟩=some (.int .i64 cls)∧w'.cell? ⟨g,1,none⟩=some (.int .i64 lab)∧w'.cell? ⟨g,2,none⟩=some (.int .i64 hop)∧w'.cell? ⟨g,3,none⟩=some (.bool true)∧w'.cell? ⟨g,4,none⟩=some (.int .u64 sh)∧w'.cell? ⟨g,5,none⟩=some (.int .u64 sl)∧w'.cell? ⟨g,6,none⟩=some (.bool true)∧w'.cell? ⟨g,7,none⟩=some (.int .u64 dh)∧w'.cell? ⟨g,8,none⟩=some (.int .u64 dl)∧w'.cell? ⟨g,9,none⟩=some (.slice A n c)∧w'.cell? ⟨g,10,none⟩=some (.int .i64 p)) (first | with_reducible assumption | with_reducible exact HK8.out | with_reducible exact HK7.out | with_reducible exact HK6.out | with_reducible exact HKV.out) (first
  | (go_at_call 57; refine AL.out.mono ?_; rintro o w8 ⟨v8,rfl,hs8⟩; have S8:=Lib.hid (show BS w g #[.int .i64 cls,.int .i64 lab,.int .i64 hop,.bool true,.int .u64 sh,.int .u64 sl,.bool true,.int .u64 dh,.int .u64 dl,.slice A n c,.int .i64 p] w8 v8 8 (pb X0 4 4++pb ((xl+m:Nat):Int) 2 2++allb 1 [nk,hop]) from hs8); have HK8:=Lib.hid (show w8.cell? ⟨g,0,none⟩=some (.int .i64 cls)∧w8.cell? ⟨g,1,none⟩=some (.int .i64 lab)∧w8.cell? ⟨g,2,none⟩=some (.int .i64 hop)∧w8.cell? ⟨g,3,none⟩=some (.bool true)∧w8.cell? ⟨g,4,none⟩=some (.int .u64 sh)∧w8.cell? ⟨g,5,none⟩=some (.int .u64 sl)∧w8.cell? ⟨g,6,none⟩=some (.bool true)∧w8.cell? ⟨g,7,none⟩=some (.int .u64 dh)∧w8.cell? ⟨g,8,none⟩=some (.int .u64 dl)∧w8.cell? ⟨g,9,none⟩=some (.slice A n c)∧w8.cell? ⟨g,10,none⟩=some (.int .i64 p) from ⟨hs8.hd.cell 0,hs8.hd.cell 1,hs8.hd.cell 2,hs8.hd.cell 3,hs8.hd.cell 4,hs8.hd.cell 5,hs8.hd.cell 6,hs8.hd.cell 7,hs8.hd.cell 8,hs8.hd.cell 9,hs8.hd.cell 10⟩); clear hs8)
  | (go_at_call 77; refine N0.out.mono ?_; rintro o w6 ⟨rfl,hb6⟩; have S6:=Lib.hid (D5.out.below hb6); have S7:=Lib.hid (S6.out.below ((Below.refl w6.heap.size w6).alloc (Nat.le_refl _) (.cells #[.int .u64 nk,.int .u64 hop] 22))); have HK6:=Lib.hid (show w6.cell? ⟨g,0,none⟩=some (.int .i64 cls)∧w6.cell? ⟨g,1,none⟩=some (.int .i64 lab)∧w6.cell? ⟨g,2,none⟩=some (.int .i64 hop)∧w6.cell? ⟨g,3,none⟩=some (.bool true)∧w6.cell? ⟨g,4,none⟩=some (.int .u64 sh)∧w6.cell? ⟨g,5,none⟩=some (.int .u64 sl)∧w6.cell? ⟨g,6,none⟩=some (.bool true)∧w6.cell? ⟨g,7,none⟩=some (.int .u64 dh)∧w6.cell? ⟨g,8,none⟩=some (.int .u64 dl)∧w6.cell? ⟨g,9,none⟩=some (.slice A n c)∧w6.cell? ⟨g,10,none⟩=some (.int .i64 p) from ⟨S6.out.hd.cell 0,S6.out.hd.cell 1,S6.out.hd.cell 2,S6.out.hd.cell 3,S6.out.hd.cell 4,S6.out.hd.cell 5,S6.out.hd.cell 6,S6.out.hd.cell 7,S6.out.hd.cell 8,S6.out.hd.cell 9,S6.out.hd.cell 10⟩); have HK7:=Lib.hid (show (w6.alloc (.cells #[.int .u64 nk,.int .u64 hop] 22)).cell? ⟨g,0,none⟩=some (.int .i64 cls)∧(w6.alloc (.cells #[.int .u64 nk,.int .u64 hop] 22)).cell? ⟨g,1,none⟩=some (.int .i64 lab)∧(w6.alloc (.cells #[.int .u64 nk,.int .u64 hop] 22)).cell? ⟨g,2,none⟩=some (.int .i64 hop)∧(w6.alloc (.cells #[.int .u64 nk,.int .u64 hop] 22)).cell? ⟨g,3,none⟩=some (.bool true)∧(w6.alloc (.cells #[.int .u64 nk,.int .u64 hop] 22)).cell? ⟨g,4,none⟩=some (.int .u64 sh)∧(w6.alloc (.cells #[.int .u64 nk,.int .u64 hop] 22)).cell? ⟨g,5,none⟩=some (.int .u64 sl)∧(w6.alloc (.cells #[.int .u64 nk,.int .u64 hop] 22)).cell? ⟨g,6,none⟩=some (.bool true)∧(w6.alloc (.cells #[.int .u64 nk,.int .u64 hop] 22)).cell? ⟨g,7,none⟩=some (.int .u64 dh)∧(w6.alloc (.cells #[.int .u64 nk,.int .u64 hop] 22)).cell? ⟨g,8,none⟩=some (.int .u64 dl)∧(w6.alloc (.cells #[.int .u64 nk,.int .u64 hop] 22)).cell? ⟨g,9,none⟩=some (.slice A n c)∧(w6.alloc (.cells #[.int .u64 nk,.int .u64 hop] 22)).cell? ⟨g,10,none⟩=some (.int .i64 p) from ⟨S7.out.hd.cell 0,S7.out.hd.cell 1,S7.out.hd.cell 2,S7.out.hd.cell 3,S7.out.hd.cell 4,S7.out.hd.cell 5,S7.out.hd.cell 6,S7.out.hd.cell 7,S7.out.hd.cell 8,S7.out.hd.cell 9,S7.out.hd.cell 10⟩); have AL:=Lib.hid (S7.out.all 1 w6.heap.size 2 2 #[.int .u64 nk,.int .u64 hop] [nk,hop] (by omega) rfl (Blk.new w6 22 #[.int .u64 nk,.int .u64 hop]) rfl U1.out); clear hb6))
 clear S6 S7 HK6 HK7 AL HKV D5 N0 HK8
 go_wp2_with fail
 have U2:=Lib.hid (show ∀ x ∈ [sh,sl,dh,dl],0≤x∧x<18446744073709551616 from fun x hx=>by
  simp only [List.mem_cons,List.not_mem_nil,or_false] at hx
  rcases hx with rfl | rfl | rfl | rfl
  ·exact hsh
  ·exact hsl
  ·exact hdh
  ·exact hdl)
 have S9:=Lib.hid (S8.out.below ((Below.refl w8.heap.size w8).alloc (Nat.le_refl _) (.cells #[.int .u64 sh,.int .u64 sl,.int .u64 dh,.int .u64 dl] 22)))
 have AL9:=Lib.hid (S9.out.all 8 w8.heap.size 4 4 #[.int .u64 sh,.int .u64 sl,.int .u64 dh,.int .u64 dl] [sh,sl,dh,dl] (by omega) rfl (Blk.new w8 22 #[.int .u64 sh,.int .u64 sl,.int .u64 dh,.int .u64 dl]) rfl U2.out)
 have y4:=S8.out.hd.cell 4
 have y5:=S8.out.hd.cell 5
 have y7:=S8.out.hd.cell 7
 have y8:=S8.out.hd.cell 8
 go_upto_region 9 with fail
 go_wp2_with fail
 refine AL9.out.mono ?_
 rintro o w10 ⟨v10,rfl,hs10⟩
 obtain ⟨XH,hXH⟩:∃ XH,XH=pb X0 4 4++pb ((xl+m:Nat):Int) 2 2++allb 1 [nk,hop]++allb 8 [sh,sl,dh,dl]:=⟨_,rfl⟩
 have HXH:=Lib.hid hXH
 have S10:=Lib.hid (show BS w g #[.int .i64 cls,.int .i64 lab,.int .i64 hop,.bool true,.int .u64 sh,.int .u64 sl,.bool true,.int .u64 dh,.int .u64 dl,.slice A n c,.int .i64 p] w10 v10 40 XH from by rw [hXH]; exact hs10)
 clear hs10 hXH y4 y5 y7 y8 S9 AL9
 have y9:=S10.out.hd.cell 9
 have NN:=Lib.hid (show ∀ (k:Nat) (V:World),Below g w V→Calls Try.prog 77 #[.agg #[.int .i64 cls,.int .i64 lab,.int .i64 hop,.bool true,.int .u64 sh,.int .u64 sl,.bool true,.int .u64 dh,.int .u64 dl,.slice A n c,.int .i64 p],.int .i64 ((k+1:Nat):Int)] V fun o w'=>o=.returned (.int .i64 (nextK ((l.map Xt.re).drop (k+1)) p))∧Below V.heap.size V w' from fun k V hV=>NG.out (k+1) V (EG.out ▸ hV))
 go_upto_region 11 with fail
 clear y9
 obtain ⟨X,hX⟩:∃ X,X=l.map Xt.re:=⟨_,rfl⟩
 have HX:=Lib.hid hX
 have HRX:=Lib.hid (show RightE X from by rw [hX]; exact HRE.out)
 have HXN:=Lib.hid (show X.length=n from by rw [hX,List.length_map]; exact HL.out)
 have HXX:=Lib.hid (show xl=extL X from by rw [hX]; exact HXL.out)
 clear hX
 go_loopw [7,61] (fun bv iv wr=>∃ (k:Nat),k≤n∧iv=.int .i64 k∧Hid (BS w g #[.int .i64 cls,.int .i64 lab,.int .i64 hop,.bool true,.int .u64 sh,.int .u64 sl,.bool true,.int .u64 dh,.int .u64 dl,.slice A n c,.int .i64 p] wr bv (40+(extP X p k).length) (XH++extP X p k))) (fun _ i _=>n - (intOf i).toNat)
 case atStart=>exact ⟨0,by omega,rfl,Lib.hid (by show BS w g _ w10 v10 (40+0) (XH++[]); rw [List.append_nil]; exact S10.out)⟩
 case round =>
  obtain ⟨k,hk,rfl,HB⟩:=hrel
  have hel:(extP X p k).length≤xl:=by rw [HXX.out]; exact extP_len X p k (by rw [HXN.out]; exact hk)
  obtain ⟨ne,hne⟩:∃ ne,ne=(extP X p k).length:=⟨_,rfl⟩
  rw [← hne] at HB hel
  have HNE:=Lib.hid hne
  clear hne
  by_cases hlt:k<n
  ·have hkl:k<l.length:=by rw [HL.out]; exact hlt
   have HBW:Below w.heap.size w wr:=by have:=HB.out.bel; rw [EG.out] at this; exact this
   obtain ⟨b,off,hA,hbl,hC⟩:=(HR0.out.below HBW).at_ k hkl
   subst hA
   obtain ⟨r1,r2,r3,r4,r5⟩:=HR0.out.els l[k] (List.getElem_mem hkl)
   obtain ⟨e,he⟩:∃ e,e=l[k]:=⟨_,rfl⟩
   have hgd:(X.getD k (0,[])).2=e.d:=by
    rw [List.getD_eq_getElem?_getD,List.getElem?_eq_getElem (by rw [HXN.out]; exact hlt),he]
    simp [HX.out,Xt.re]
   have hrx:=HRX.out.each k (by rw [HXN.out]; exact hlt)
   rw [← he] at hC r1 r2 r3 r4 r5
   obtain ⟨ek,eA,ec,ed⟩:=e
   obtain ⟨q,hq⟩:∃ q,q=ed.length:=⟨_,rfl⟩
   have HQ:=Lib.hid hq
   have hq9:q≤2047:=by
    have h9:=hrx
    unfold rightX at h9
    simp only [Bool.and_eq_true,decide_eq_true_eq] at h9
    have h8:=h9.1.2.1
    have h7:(X[k]'(by rw [HXN.out]; exact hlt)).2=ed:=by
     have:=hgd
     rw [List.getD_eq_getElem?_getD,List.getElem?_eq_getElem (by rw [HXN.out]; exact hlt)] at this
     exact this
    rw [h7] at h8
    omega
   have d0:wr.cell? ⟨b,off+k*2,none⟩=some (.int .i64 ek):=hC 0 (by omega)
   have d1:wr.cell? ⟨b,off+k*2+1,none⟩=some (.slice eA q ec):=by rw [hq]; exact hC 1 (by omega)
   have HRD:=Lib.hid (show Row w g eA (ed.map (.int .u8)) from by rw [EG.out]; exact r1)
   have HND:=Lib.hid (show eA=none→ec=0 from r5)
   obtain ⟨w3b,hw3⟩:∃ w3b,w3b=wr.alloc (.cells #[.int .i64 ek,.slice eA q ec] 118):=⟨_,rfl⟩
   have E3:=Lib.hid hw3
   have BB3:=Lib.hid (show Below wr.heap.size wr w3b from by rw [hw3]; exact (Below.refl _ _).alloc (Nat.le_refl _) _)
   have KE3:=Lib.hid (show Blk w3b wr.heap.size 118 #[.int .i64 ek,.slice eA q ec] from by rw [hw3]; exact Blk.new wr _ _)
   have T3:=Lib.hid (HB.out.below BB3.out)
   have j0:(0:Int)≤k:=by omega
   have j1:(k:Int)<n:=by omega
   have t1:decide ((k:Int)<n)=true:=decide_eq_true j1
   have t1n:decide (k<n)=true:=decide_eq_true hlt
   have wk:IntKind.i64.wrap ((k:Int)+1)=((k+1:Nat):Int):=by rw [IntWalk.i64_in _ (by omega)]; omega
   obtain ⟨nx,hnx⟩:∃ nx,nx=nextK ((l.map Xt.re).drop (k+1)) p:=⟨_,rfl⟩
   have hnx9:0≤nx∧nx≤255:=by rw [hnx]; exact next_in HRE.out ⟨p0,p1⟩ (k+1)
   have NNK:=NN.out k
   rw [← hnx] at NNK
   have NNk:=Lib.hid NNK
   clear NNK
   rw [← HX.out] at hnx
   have HXK:=Lib.hid (show extP X p (k+1)=extP X p k++(nx::ed) from by
    show extP X p k++(nextK (X.drop (k+1)) p::(X.getD k (0,[])).2)=_
    rw [hgd,hnx])
   have wx:IntKind.u64.wrap nx=nx:=by rw [IntKind.wrap_u64]; omega
   clear hw3 hC he hq hkl hbl hlt r1 r2 r3 r4 r5 hgd hrx hnx HBW
   go_upto_region 13 with fail
   rw [← E3.out]
   have x0:=T3.out.hd.cell 0
   have x1:=T3.out.hd.cell 1
   have x2:=T3.out.hd.cell 2
   have x3:=T3.out.hd.cell 3
   have x4:=T3.out.hd.cell 4
   have x5:=T3.out.hd.cell 5
   have x6:=T3.out.hd.cell 6
   have x7:=T3.out.hd.cell 7
   have x8:=T3.out.hd.cell 8
   have x9:=T3.out.hd.cell 9
   have x10:=T3.out.hd.cell 10
   go_wp2_with fail
   refine (NNk.out w3b T3.out.bel).mono ?_
   rintro o w4b ⟨rfl,hb4⟩
   have T4:=Lib.hid (T3.out.below hb4)
   have KE4:=Lib.hid (KE3.out.below hb4 KE3.out.lt)
   have P4:=Lib.hid (T4.out.put2 nx 1 (by omega) (by omega) (by omega))
   clear hb4 x0 x1 x2 x3 x4 x5 x6 x7 x8 x9 x10
   go_wp2_with fail
   refine P4.out.mono ?_
   rintro o w5b ⟨v5b,rfl,hs5,kt5⟩
   have KE5:=Lib.hid (kt5 _ _ _ (by decide) KE4.out)
   obtain ⟨A5,c5,hv5⟩:=own_slice hs5.own
   subst hv5
   have S5b:=Lib.hid (show BS w g _ w5b (.slice A5 (40+ne+1) c5) (40+ne+1) (XH++extP X p k++[nx]) from by rw [← pb_one nx hnx9.1 hnx9.2]; exact hs5)
   have HR5:=Lib.hid (HRD.out.below S5b.out.bel)
   have HLD:=Lib.hid (show (ed.map (Value.int .u8)).length=q from by rw [List.length_map,HQ.out])
   have HG5:=Lib.hid S5b.out.sz
   have PA:=Lib.hid (show 40+ne+1+q≤maxLen by unfold maxLen; omega)
   have PB:=Lib.hid (show (40+ne+1+q)*1≤140737488355328 by omega)
   have z1:=KE5.out.cell 1
   clear hs5 kt5
   go_wp2_with (at_builtin; refine wpList_append_row rfl (.tmp 73) (.tmp 75) _ rfl g 5 i0 _ 1 Try.underlying47 HI0.out HZ0.out HZ1.out HZ2.out rfl (.slice A5 (40+ne+1) c5) (40+ne+1) ((XH++extP X p k++[nx]).map (.int .u8)) rfl S5b.out.own eA q ec g (ed.map (.int .u8)) rfl HND.out HLD.out HR5.out (one_map _) PA.out PB.out HG5.out ?_; intro v6b w6b ho6 hg6; have S6b:=Lib.hid (S5b.out.app ho6 hg6); clear ho6 hg6)
   go_roundw
   case rel=>exact ⟨k+1,by omega,by go_num,Lib.hid (by
    have e:(extP X p (k+1)).length=ne+1+q:=by rw [HXK.out,List.length_append,List.length_cons,HNE.out,HQ.out]; omega
    have e2:XH++extP X p (k+1)=XH++extP X p k++[nx]++ed:=by rw [HXK.out]; simp
    rw [e,e2,show 40+(ne+1+q)=40+ne+1+q by omega]
    exact S6b.out)⟩
   case measure=>first | (simp [intOf]; done) | (simp [intOf]; omega)
  ·obtain rfl:k=n:=by omega
   have t1:decide ((k:Int)<k)=false:=decide_eq_false (by omega)
   have t1n:decide (k<k)=false:=decide_eq_false (by omega)
   have hv:=HB.out.own
   obtain ⟨A5,c5,hv5⟩:=own_slice hv
   subst hv5
   have S5b:=Lib.hid (show BS w g _ wr (.slice A5 (40+ne) c5) (40+ne) (XH++extP X p k) from HB.out)
   have HRW:=Lib.hid (show Row wr g R (r.map (.int .u8)) from by have h9:=HRR.out; rw [← EG.out] at h9; exact h9.below S5b.out.bel)
   have HLM:=Lib.hid (show (r.map (Value.int .u8)).length=m from by rw [List.length_map,HM.out])
   have HG5:=Lib.hid S5b.out.sz
   have PA:=Lib.hid (show 40+ne+m≤maxLen by unfold maxLen; omega)
   have PB:=Lib.hid (show (40+ne+m)*1≤140737488355328 by omega)
   have HEQ:=Lib.hid (show XH++extP X p k++r=sixB ⟨cls,lab,hop,true,sh,sl,true,dh,dl,p⟩ X r from by
    have e1:extP X p k=extB X p:=by rw [← HXN.out]; exact extP_all X p
    rw [e1,HXH.out]
    show _=hdB _ (nextK X p) (extL X+r.length)++(extB X p++r)
    rw [hd_eq X0 cls lab hop nk sh sl dh dl (xl+m) (by omega) c0 c1 l0 l1 h0 h1 hnk9.1 hnk9.2 HX0.out true true p,HNK.out,HXX.out,HM.out,HX.out,List.append_assoc])
   clear hv HB
   go_wp2_with (at_builtin; refine wpList_append_row rfl (.tmp 78) (.tmp 79) _ rfl g 5 i0 _ 1 Try.underlying47 HI0.out HZ0.out HZ1.out HZ2.out rfl (.slice A5 (40+ne) c5) (40+ne) ((XH++extP X p k).map (.int .u8)) rfl S5b.out.own R m rc g (r.map (.int .u8)) rfl HRC.out HLM.out HRW.out (one_map _) PA.out PB.out HG5.out ?_; intro v6b w6b ho6 hg6; have S6b:=Lib.hid (S5b.out.app ho6 hg6); clear ho6 hg6)
   go_ret2
   have S7:=S6b.out.own
   rw [HEQ.out,EG.out,HX.out] at S7
   have hln:=S7.1
   rw [List.length_map] at hln
   refine ⟨_,rfl,?_,EG.out ▸ S6b.out.bel⟩
   rw [hln,Nat.mul_one]
   exact S7
end Go.Proofs.Ytnofddbfogilaaa.sixQ
namespace Go.Proofs.Ytnofddbfogilaaa.sixR
end Go.Proofs.Ytnofddbfogilaaa.sixR
/- Layer 9: the law's chain. -/
namespace Go.Proofs.Ytnofddbfogilaaa.sixL
open Go.ChangeShapes Go.WideShapes Go.ChangeAt Go.RowKit
open base rdrA rdrG sixW sixM sixE
set_option linter.unusedVariables false
def OldX (w:World) (l:List Xt):Prop:=∀ e ∈ l,Row w w.heap.size e.A (e.d.map (.int .u8))∧e.d.length≤e.c∧e.c≤9223372036854775807∧U8 e.d∧(e.A=none→e.c=0)
theorem OldX.below {w w':World} {l:List Xt} (h:OldX w l) (hb:Below w.heap.size w w'):OldX w' l:=fun e he=>by
 obtain ⟨h1,h2⟩:=h e he
 exact ⟨(h1.below hb).more hb.size,h2⟩
end Go.Proofs.Ytnofddbfogilaaa.sixL
/- Layer 9: the law SixParses, where bytes begin with no header. -/
namespace Go.Proofs.Ytnofddbfogilaaa.sixS
open Go.ChangeShapes Go.WideShapes Go.ChangeAt Go.RowKit
open base rdrA rdrG sixW sixM sixD sixE sixF
set_option linter.unusedVariables false
def FailP (w:World) (e:Int) (o:Ending) (w':World):Prop:=o=.returned (.tuple #[.agg #[.int .i64 0,.int .i64 0,.int .i64 0,.bool false,.int .u64 0,.int .u64 0,.bool false,.int .u64 0,.int .u64 0,.slice none 0 0,.int .i64 0],.slice none 0 0,.int .i64 e])∧Below w.heap.size w w'
theorem headP_fail {w:World} {l:List Int} {e:Int} {o:Ending} {w':World} (h:HeadP w l (.inl e) o w'):FailP w e o w':=by
 obtain ⟨hb,h⟩:=h
 rcases h with ⟨e2,h1,h2⟩ | ⟨ys,q,r,h1,_⟩
 ·injection h1 with h1
  subst h1
  exact ⟨h2,hb⟩
 ·cases h1
def GoodP (w:World) (l:List Int) (ys:List XP) (q:Int) (r:List Int) (o:Ending) (w':World):Prop :=
 Below w.heap.size w w'∧∃ L A c B d,o=.returned (.tuple #[.agg ((hdOf l q).cells (.slice A ys.length c)),.slice B r.length d,.int .i64 0])∧L.map Xt.re=ys∧GotX w' w.heap.size (.slice A ys.length c) L∧w'.ownsRow w.heap.size 5 1 (.slice B r.length d) r.length (r.map (.int .u8))
theorem headP_good {w:World} {l:List Int} {ys:List XP} {q:Int} {r:List Int} {o:Ending} {w':World} (h:HeadP w l (.inr (ys,q,r)) o w'):GoodP w l ys q r o w':=by
 obtain ⟨hb,h⟩:=h
 rcases h with ⟨e2,h1,h2⟩ | ⟨ys2,q2,r2,h1,L,A,c,v,h2,h3,h4,h5⟩
 ·cases h1
 ·injection h1 with h1
  injection h1 with h1 h1b
  injection h1b with h1b h1c
  subst h1 h1b h1c
  obtain ⟨B,d,rfl⟩:=own_slice h5
  exact ⟨hb,L,A,c,B,d,h2,h3,h4,h5⟩
end Go.Proofs.Ytnofddbfogilaaa.sixS
/- Layer 9: what is parsed, put again. -/
namespace Go.Proofs.Ytnofddbfogilaaa.sixT
open Go.ChangeShapes Go.WideShapes Go.ChangeAt Go.RowKit
open base octA octB rdrA rdrG tcpC sixW sixM snK sixE sixF sixH sixK sixQ
set_option linter.unusedVariables false
theorem byteZ_snoc (a x:Int) (i:Nat) (h0:0≤x) (h1:x≤255):byteZ (a*256+x) (i+1)=byteZ a i:=by
 unfold byteZ
 have e:(2:Int) ^ (8*(i+1))=256*2 ^ (8*i):=by
  rw [show 8*(i+1)=8+8*i by omega,Int.pow_add]
  rfl
 have k:(a*256+x) / 256=a:=by omega
 have d:=@Int.ediv_ediv (a*256+x) 256 (2 ^ (8*i))
 rw [if_neg (by omega),Int.sub_zero] at d
 rw [e,← d,k]
theorem byteZ_last (a x:Int) (h0:0≤x) (h1:x≤255):byteZ (a*256+x) 0=x:=by
 unfold byteZ
 show (a*256+x) / 1 % 256=x
 omega
theorem atN_byte (l:List Int) (hu:U8 l):∀ (k:Nat) (t:Nat),t<k→byteZ (atN l 0 k) (k - 1 - t)=l.getD t 0
 | 0,t,h=>by omega
 | k+1,t,h=>by
  have hx:=hu.get k
  show byteZ (atN l 0 k*256+l.getD (0+k) 0) (k+1 - 1 - t)=_
  rw [Nat.zero_add]
  rcases Nat.lt_or_ge t k with h1 | h1
  ·rw [show k+1 - 1 - t=(k - 1 - t)+1 by omega,byteZ_snoc _ _ _ hx.1 hx.2]
   exact atN_byte l hu k t h1
  ·obtain rfl:t=k:=by omega
   rw [show t+1 - 1 - t=0 by omega]
   exact byteZ_last _ _ hx.1 hx.2
theorem atN_pb (l:List Int) (hu:U8 l) (k:Nat) (hk:k≤l.length):pb (atN l 0 k) k k=l.take k:=by
 refine List.ext_getElem (by rw [pb_len,List.length_take]; omega) fun i h1 h2=>?_
 rw [pb_len] at h1
 have:=atN_byte l hu k i h1
 rw [List.getD_eq_getElem?_getD,List.getElem?_eq_getElem (by omega)] at this
 simp only [pb,List.getElem_map,List.getElem_range,List.getElem_take]
 exact this
theorem atN_drop (l:List Int) (f:Nat):∀ k,atN l f k=atN (l.drop f) 0 k
 | 0=>rfl
 | k+1=>by
  show atN l f k*256+l.getD (f+k) 0=atN (l.drop f) 0 k*256+(l.drop f).getD (0+k) 0
  rw [atN_drop l f k,Nat.zero_add,List.getD_eq_getElem?_getD,List.getD_eq_getElem?_getD,List.getElem?_drop]
theorem atN_in (l:List Int) (hu:U8 l) (f:Nat):∀ k,0≤atN l f k∧atN l f k<256 ^ k
 | 0=>⟨Int.le_refl _,by show (0:Int)<1; omega⟩
 | k+1=>by
  obtain ⟨h1,h2⟩:=atN_in l hu f k
  have hx:=hu.get (f+k)
  show 0≤atN l f k*256+l.getD (f+k) 0∧atN l f k*256+l.getD (f+k) 0<256 ^ (k+1)
  rw [Int.pow_succ]
  omega
theorem atN_in8 (l:List Int) (hu:U8 l) (f:Nat):0≤atN l f 8∧atN l f 8<18446744073709551616:=atN_in l hu f 8
theorem first_eq (x0 x1 x2 x3:Int) (h0:0≤x0∧x0≤255) (h1:0≤x1∧x1≤255) (h2:0≤x2∧x2≤255) (h3:0≤x3∧x3≤255) (hv:x0 / 16=6) (W:Int) (hW:W=(x0*256+x1)*65536+(x2*256+x3)) :
  96+W / 1048576 % 256 / 16=x0∧W / 1048576 % 256 % 16*16+W % 1048576 / 65536=x1∧W % 1048576 / 256 % 256=x2∧W % 1048576 % 256=x3:=by
 have e1:W / 1048576 % 256=x0 % 16*16+x1 / 16:=by omega
 have e2:W % 1048576=x1 % 16*65536+x2*256+x3:=by omega
 rw [e1,e2]
 clear e1 e2 hW
 refine ⟨by omega,by omega,by omega,by omega⟩
theorem eight (l:List Int) (h:8≤l.length):l.take 8=[l.getD 0 0,l.getD 1 0,l.getD 2 0,l.getD 3 0,l.getD 4 0,l.getD 5 0,l.getD 6 0,l.getD 7 0]:=by
 match l,h with
 | a::b::c::d::e::f::g::i::t,_=>rfl
theorem forty (l:List Int) (h:40≤l.length):l.take 40=l.take 8++(((l.drop 8).drop 0).take 8++((l.drop 8).drop 8).take 8)++(((l.drop 24).drop 0).take 8++((l.drop 24).drop 8).take 8):=by
 have t1:l.take (8+32)=l.take 8++(l.drop 8).take 32:=List.take_add
 have t2:(l.drop 8).take (8+24)=(l.drop 8).take 8++((l.drop 8).drop 8).take 24:=List.take_add
 have t3:((l.drop 8).drop 8).take (8+16)=((l.drop 8).drop 8).take 8++(((l.drop 8).drop 8).drop 8).take 16:=List.take_add
 have t4:(l.drop 24).take (8+8)=(l.drop 24).take 8++((l.drop 24).drop 8).take 8:=List.take_add
 have d:((l.drop 8).drop 8).drop 8=l.drop 24:=by simp only [List.drop_drop]
 rw [d] at t3
 rw [List.drop_zero,List.drop_zero]
 refine t1.trans ?_
 rw [show 32=8+24 from rfl,t2,show 24=8+16 from rfl,t3]
 rw [show 16=8+8 from rfl]
 show l.take 8++((l.drop 8).take 8++(((l.drop 8).drop 8).take 8++(l.drop 24).take (8+8)))=_
 rw [t4]
 simp only [List.append_assoc]
theorem put_back (l:List Int) (hu:U8 l) (hn:40≤l.length) (hv:l.getD 0 0 / 16=6) (hs:sizeP l≤l.length - 40) {ys:List XP} {q:Int} {r:List Int} (hc:chn 9 [] (l.getD 6 0) ((l.take (40+sizeP l)).drop 40)=some (ys,q,r)) :
  sixB (hdOf l q) ys r=l.take (40+sizeP l)∧RightH (hdOf l q) ys∧(∀ x ∈ ys,U8 x.2)∧U8 r∧r.length≤l.length:=by
 have hut:U8 ((l.take (40+sizeP l)).drop 40):=(hu.take _).drop _
 obtain ⟨zs,h1,h2,h3,h4,h5,h6,h7,h8,h9,h10⟩:=chn_sound 9 [] _ _ hut (hu.get 6) RightE.nil (fun x hx=>by cases hx) hc
 rw [List.nil_append] at h1
 subst h1
 have x0:=hu.get 0; have x1:=hu.get 1; have x2:=hu.get 2; have x3:=hu.get 3; have x4:=hu.get 4; have x5:=hu.get 5; have x7:=hu.get 7
 have hw:w32 l 0=(l.getD 0 0*256+l.getD 1 0)*65536+(l.getD 2 0*256+l.getD 3 0):=rfl
 obtain ⟨f0,f1,f2,f3⟩:=first_eq _ _ _ _ x0 x1 x2 x3 hv _ hw
 have hsz:((sizeP l:Nat):Int)=256*l.getD 4 0+l.getD 5 0:=by unfold sizeP; omega
 have hlen:extL ys+r.length=sizeP l:=by
  have:=congrArg List.length h3
  rw [List.length_append,extB_len,List.length_drop,List.length_take] at this
  omega
 have hp:=h10
 rw [List.length_drop,List.length_take] at hp
 refine ⟨?_,⟨?_,?_,x7.1,x7.2,?_,?_,rfl,rfl,h6,h7,h5,h4⟩,h8,h9,by omega⟩
 ·show hdB (hdOf l q) (nextK ys q) (extL ys+r.length)++(extB ys q++r)=_
  have e40:hdB (hdOf l q) (nextK ys q) (extL ys+r.length)=l.take 40:=by
   rw [hlen,h2,forty l hn,eight l (by omega)]
   show [96+w32 l 0 / 1048576 % 256 / 16,w32 l 0 / 1048576 % 256 % 16*16+w32 l 0 % 1048576 / 65536,w32 l 0 % 1048576 / 256 % 256,w32 l 0 % 1048576 % 256,((sizeP l:Nat):Int) / 256 % 256,((sizeP l:Nat):Int) % 256,l.getD 6 0,l.getD 7 0]++(pb (atN (l.drop 8) 0 8) 8 8++pb (atN (l.drop 8) 8 8) 8 8)++(pb (atN (l.drop 24) 0 8) 8 8++pb (atN (l.drop 24) 8 8) 8 8)=_
   have g4:((sizeP l:Nat):Int) / 256 % 256=l.getD 4 0:=by omega
   have g5:((sizeP l:Nat):Int) % 256=l.getD 5 0:=by omega
   rw [f0,f1,f2,f3,g4,g5,atN_drop (l.drop 8) 0,atN_drop (l.drop 8) 8,atN_drop (l.drop 24) 0,atN_drop (l.drop 24) 8]
   rw [atN_pb _ ((hu.drop 8).drop 0) 8 (by simp only [List.length_drop]; omega),atN_pb _ ((hu.drop 8).drop 8) 8 (by simp only [List.length_drop]; omega),atN_pb _ ((hu.drop 24).drop 0) 8 (by simp only [List.length_drop]; omega),atN_pb _ ((hu.drop 24).drop 8) 8 (by simp only [List.length_drop]; omega)]
  rw [e40,← h3]
  have:=List.take_append_drop 40 (l.take (40+sizeP l))
  rw [List.take_take,Nat.min_eq_left (by omega)] at this
  exact this
 ·show 0≤w32 l 0 / 1048576 % 256; omega
 ·show w32 l 0 / 1048576 % 256≤255; omega
 ·show 0≤w32 l 0 % 1048576; omega
 ·show w32 l 0 % 1048576≤1048575; omega
end Go.Proofs.Ytnofddbfogilaaa.sixT
