/- 1 texts in one. -/
import Derived.Deep.RegionHeld3
import Derived.Test.YtnofddbfogilaaaGq01
import Derived.Test.YtnofddbfogilaaaGq02
/- Layer 11: bytes as a datagram. -/
namespace Go.Proofs.Ytnofddbfogilaaa.udpA
set_option maxHeartbeats 2000000
set_option maxRecDepth 100000
open Go.ChangeShapes Go.WideShapes Go.ChangeAt Go.RowKit
open base sumA sumB octA octB octF rdrA
set_option linter.unusedVariables false
def w16 (l:List Int) (i:Nat):Int:=l.getD i 0*256+l.getD (i+1) 0
theorem atN_two (l:List Int) (i:Nat):atN (l.drop i) 0 2=w16 l i:=by
 have e:∀ j,(l.drop i).getD j 0=l.getD (i+j) 0:=fun j=>by
  rw [List.getD_eq_getElem?_getD,List.getD_eq_getElem?_getD,List.getElem?_drop]
 show (0*256+(l.drop i).getD (0+0) 0)*256+(l.drop i).getD (0+1) 0=_
 rw [e,e]
 simp [w16]
theorem w16_in (l:List Int) (hb:∀ x ∈ l,0≤x∧x≤255) (i:Nat):0≤w16 l i∧w16 l i≤65535:=by
 have a:=getD_in l hb i
 have b:=getD_in l hb (i+1)
 unfold w16
 omega
theorem parse_short (A A2:Option Addr) (n c n2 c2:Nat) (bare:Bool) (w:World) (hn:n<8) :
  Calls Try.prog 69 #[.slice A n c,.slice A2 n2 c2,.bool bare] w fun e w'=>e=.returned (.tuple #[.agg #[.int .i64 0,.int .i64 0,.bool false],.slice none 0 0,.int .i64 2])∧Below w.heap.size w w':=by
 go_enter Try.func69,Try.ntmps69
 go_wp2
 exact bodyPost_ret (v:=.tuple #[.agg #[.int .i64 0,.int .i64 0,.bool false],.slice none 0 0,.int .i64 2]) (by simp [results,Try.results69,go_sem]) rfl ⟨rfl,(((Below.refl _ _).alloc (Nat.le_refl _) _))⟩
theorem row2 {w:World} {g:Nat} {t:TypeId} {a b:Value} (h:Blk w g t #[a,b]):Row w w.heap.size (some ⟨g,0,none⟩) [a,b]:=sumC.row_blk h
theorem two {w W:World} {A1 A2:Option Addr} {n1 n2 c1 c2:Nat} {l1 l2:List Int} (h1:l1.length=n1) (h2:l2.length=n2)
  (r1:Row w w.heap.size A1 (l1.map (.int .u8))) (r2:Row w w.heap.size A2 (l2.map (.int .u8)))
  (b1:∀ x ∈ l1,0≤x∧x≤255) (b2:∀ x ∈ l2,0≤x∧x≤255) (hb:Below w.heap.size w W) (t:TypeId) :
  Row (W.alloc (.cells #[.slice A1 n1 c1,.slice A2 n2 c2] t)) (W.heap.size+1) (some ⟨W.heap.size,0,none⟩) (([⟨A1,c1,l1⟩,⟨A2,c2,l2⟩]:List Part).map Part.val) ∧
   ∀ p ∈ ([⟨A1,c1,l1⟩,⟨A2,c2,l2⟩]:List Part),p.ok (W.alloc (.cells #[.slice A1 n1 c1,.slice A2 n2 c2] t)) (W.heap.size+1):=by
 subst h1 h2
 have hs:=hb.size
 refine ⟨(row2 (Blk.new W t _)).more (by simp),fun p hp=>?_⟩
 have hb2:=hb.alloc hs (.cells #[.slice A1 l1.length c1,.slice A2 l2.length c2] t)
 simp only [List.mem_cons,List.not_mem_nil,or_false] at hp
 rcases hp with rfl | rfl
 ·exact ⟨(r1.below hb2).more (by omega),b1⟩
 ·exact ⟨(r2.below hb2).more (by omega),b2⟩
theorem right_two (A1 A2:Option Addr) (n1 n2 c1 c2:Nat) (l1 l2:List Int) (w W:World) (t:TypeId) (h1:l1.length=n1) (h2:l2.length=n2) (k1:n1≤100000) (k2:n2≤100000)
  (r1:Row w w.heap.size A1 (l1.map (.int .u8))) (r2:Row w w.heap.size A2 (l2.map (.int .u8)))
  (b1:∀ x ∈ l1,0≤x∧x≤255) (b2:∀ x ∈ l2,0≤x∧x≤255) (hb:Below w.heap.size w W) :
  Calls Try.prog 65 #[.slice (some ⟨W.heap.size,0,none⟩) 2 2] (W.alloc (.cells #[.slice A1 n1 c1,.slice A2 n2 c2] t)) fun e w'=>e=.returned (.bool (fo (wsum (l1++l2)) == 65535))∧W.alloc (.cells #[.slice A1 n1 c1,.slice A2 n2 c2] t)=w':=by
 obtain ⟨x,y⟩:=two (c1:=c1) (c2:=c2) h1 h2 r1 r2 b1 b2 hb t
 have e:flat [⟨A1,c1,l1⟩,⟨A2,c2,l2⟩]=l1++l2:=by simp [flat]
 have:=sumC.right_any (some ⟨W.heap.size,0,none⟩) 2 2 [⟨A1,c1,l1⟩,⟨A2,c2,l2⟩] (W.alloc (.cells #[.slice A1 n1 c1,.slice A2 n2 c2] t)) (W.heap.size+1) rfl (by omega) (by rw [e,List.length_append,h1,h2]; omega) x y
 rwa [e] at this
theorem right_at (k:Nat) (A1 A2:Option Addr) (n1 n2 c1 c2:Nat) (l1 l2:List Int) (w W:World) (t:TypeId) (hk:W.heap.size=k) (h1:l1.length=n1) (h2:l2.length=n2) (k1:n1≤100000) (k2:n2≤100000)
  (r1:Row w w.heap.size A1 (l1.map (.int .u8))) (r2:Row w w.heap.size A2 (l2.map (.int .u8)))
  (b1:∀ x ∈ l1,0≤x∧x≤255) (b2:∀ x ∈ l2,0≤x∧x≤255) (hb:Below w.heap.size w W) :
  Calls Try.prog 65 #[.slice (some ⟨k,0,none⟩) 2 2] (W.alloc (.cells #[.slice A1 n1 c1,.slice A2 n2 c2] t)) fun e w'=>e=.returned (.bool (fo (wsum (l1++l2)) == 65535))∧W.alloc (.cells #[.slice A1 n1 c1,.slice A2 n2 c2] t)=w':=by
 subst hk
 exact right_two A1 A2 n1 n2 c1 c2 l1 l2 w W t h1 h2 k1 k2 r1 r2 b1 b2 hb
theorem drop_u8 {l:List Int} (h:∀ x ∈ l,0≤x∧x≤255) (k:Nat):∀ x ∈ l.drop k,0≤x∧x≤255:=fun x hx=>h x (List.mem_of_mem_drop hx)
def TwoPost (w:World) (B g i:Nat) (l:List Int) (e:Ending) (w':World):Prop :=
 e=.returned (.int .u64 (w16 l i))∧Rdr w' B g (l.drop (i+2))∧Only g w w'
theorem num_two (B g i:Nat) (l:List Int) (w:World) (hB:B≤g) (h:Rdr w B g (l.drop i)) (hk:i+2≤l.length) (hb:∀ x ∈ l,0≤x∧x≤255) :
  Calls Try.prog 83 #[.pointer (some ⟨g,0,none⟩),.int .i64 2] w (TwoPost w B g i l):=by
 refine (num_any B g 2 (l.drop i) w hB h (by rw [List.length_drop]; omega) (by omega) (drop_u8 hb i)).mono ?_
 rintro e w' ⟨rfl,h1,h2⟩
 exact ⟨by rw [atN_two],by rwa [List.drop_drop] at h1,h2⟩
def errv (k:Int):Value:=.tuple #[.agg #[.int .i64 0,.int .i64 0,.bool false],.slice none 0 0,.int .i64 k]
def bad (l ps:List Int) (bare:Bool):Prop:=(w16 l 6=0∧bare=false)∨(w16 l 6≠0∧fo (wsum (ps++l))≠65535)
def ParsePost (w:World) (l ps:List Int) (bare:Bool) (e:Ending) (w':World):Prop :=
 (w16 l 4≠l.length→e=.returned (errv 12)∧Below w.heap.size w w') ∧
 (w16 l 4=l.length→bad l ps bare→e=.returned (errv 13)∧Below w.heap.size w w') ∧
 (w16 l 4=l.length→¬ bad l ps bare→∃ v,e=.returned (.tuple #[.agg #[.int .i64 (w16 l 0),.int .i64 (w16 l 2),.bool (w16 l 6 == 0)],v,.int .i64 0])∧w'.ownsRow w.heap.size 5 1 v (l.length - 8) ((l.drop 8).map (.int .u8))∧Below w.heap.size w w')
theorem keepK {w w':World} {p1 p2 p3:Addr} {v1 v2 v3:Value} (h:w.cell? p1=some v1∧w.cell? p2=some v2∧w.cell? p3=some v3) (hb:Below w.heap.size w w'):w'.cell? p1=some v1∧w'.cell? p2=some v2∧w'.cell? p3=some v3 :=
 ⟨kept h.1 hb,kept h.2.1 hb,kept h.2.2 hb⟩
theorem far1 {w:World} {x g:Nat} (hx:¬ x=g) (i j:Nat) (u:Value):(w.setCell ⟨g,j,none⟩ u).cell? ⟨x,i,none⟩=w.cell? ⟨x,i,none⟩:=World.cell?_setCell_far w ⟨g,j,none⟩ ⟨x,i,none⟩ u (fun e=>hx e.symm)
theorem farK {w:World} {x g:Nat} {v1 v2 v3:Value} (hx:¬ x=g) (h:w.cell? ⟨x,0,none⟩=some v1∧w.cell? ⟨x,1,none⟩=some v2∧w.cell? ⟨x,2,none⟩=some v3) (a b c:Value) :
  (((w.setCell ⟨g,0,none⟩ a).setCell ⟨g,1,none⟩ b).setCell ⟨g,2,none⟩ c).cell? ⟨x,0,none⟩=some v1∧(((w.setCell ⟨g,0,none⟩ a).setCell ⟨g,1,none⟩ b).setCell ⟨g,2,none⟩ c).cell? ⟨x,1,none⟩=some v2∧(((w.setCell ⟨g,0,none⟩ a).setCell ⟨g,1,none⟩ b).setCell ⟨g,2,none⟩ c).cell? ⟨x,2,none⟩=some v3:=by
 rw [far1 hx,far1 hx,far1 hx,far1 hx,far1 hx,far1 hx,far1 hx,far1 hx,far1 hx]
 exact h
theorem parse_any (b off n c n2 c2:Nat) (A2:Option Addr) (l ps:List Int) (bare:Bool) (w:World) (hl:l.length=n) (hn:8≤n) (hn2:n≤1000) (hnc:n≤c) (hc:c≤9223372036854775807) (hb:b<w.heap.size) (hs:Lies w b off l) (hx:∀ x ∈ l,0≤x∧x≤255)
  (pl:ps.length=n2) (pn:n2≤1000) (pr:Row w w.heap.size A2 (ps.map (.int .u8))) (px:∀ x ∈ ps,0≤x∧x≤255) :
  Calls Try.prog 69 #[.slice (some ⟨b,off,none⟩) n c,.slice A2 n2 c2,.bool bare] w (ParsePost w l ps bare):=by
 have HS:=Lib.hid hs
 have HX:=Lib.hid hx
 have HL:=Lib.hid hl
 have PL:=Lib.hid pl
 have PR:=Lib.hid pr
 have PX:=Lib.hid px
 have k0:=w16_in l hx 0
 have k2:=w16_in l hx 2
 have k4:=w16_in l hx 4
 have k6:=w16_in l hx 6
 have hz:(w.alloc (Obj.cells #[.int .i64 0,.int .i64 0,.bool false] 78)).heap.size=w.heap.size+1:=by simp
 have HR0:=Lib.hid (read_rdr b off n c w.heap.size l (w.alloc (Obj.cells #[.int .i64 0,.int .i64 0,.bool false] 78)) hl hnc hc hb (by simp) (hs.below ((Below.refl _ _).alloc (Nat.le_refl _) _) hb))
 have HZ:=Lib.hid hz
 have HB0:=Lib.hid (show Below w.heap.size w (w.alloc (Obj.cells #[.int .i64 0,.int .i64 0,.bool false] 78)) from (Below.refl _ _).alloc (Nat.le_refl _) _)
 have HRES:=Lib.hid (Blk.new w 78 #[.int .i64 0,.int .i64 0,.bool false])
 clear hs hx hl pl pr px hz
 go_enter Try.func69,Try.ntmps69
 go_wp2_with fail
 refine HR0.out.mono ?_
 rintro e w1 ⟨rfl,hrdr,hbel,hsz⟩
 rw [HZ.out] at hrdr hbel hsz
 have HR:=Lib.hid hrdr
 have HB1:=Lib.hid (HB0.out.trans (hbel.mono (by omega)))
 have HRES1:=Lib.hid (HRES.out.below hbel (by omega))
 have s1:w.heap.size+1<w1.heap.size:=by omega
 clear hrdr hbel hsz
 go_wp2_with fail
 refine (num_two w.heap.size (w.heap.size+1) 0 l _ (by omega) HR.out (by rw [HL.out]; omega) HX.out).mono ?_
 rintro e w2 ⟨rfl,hrdr,hon⟩
 have HR2:=Lib.hid hrdr
 have HB2:=Lib.hid (hon.from HB1.out (by omega))
 have HRES2:=Lib.hid (hon.blk HRES1.out (by omega))
 have s2:w.heap.size+1<w2.heap.size:=by rw [hon.size]; exact s1
 clear hrdr hon
 go_wp2_with fail
 refine (num_two w.heap.size (w.heap.size+1) 2 l _ (by omega) HR2.out (by rw [HL.out]; omega) HX.out).mono ?_
 rintro e w3 ⟨rfl,hrdr,hon⟩
 have s3:w.heap.size+1<w3.heap.size:=by rw [hon.size]; exact s2
 have hsz:=Nat.le_of_lt s3
 have HR3:=Lib.hid (hrdr.below ((Below.refl w3.heap.size w3).alloc (Nat.le_refl _) (.cells #[.int .i64 (w16 l 0),.int .i64 (w16 l 2),.bool false] 78)) (by omega) (by omega))
 have HB3:=Lib.hid ((hon.from HB2.out (by omega)).alloc (by omega) (.cells #[.int .i64 (w16 l 0),.int .i64 (w16 l 2),.bool false] 78))
 have HRES3:=Lib.hid ((hon.blk HRES2.out (by omega)).alloc (.cells #[.int .i64 (w16 l 0),.int .i64 (w16 l 2),.bool false] 78))
 have HH3:=Lib.hid (Blk.new w3 78 #[.int .i64 (w16 l 0),.int .i64 (w16 l 2),.bool false])
 clear hrdr hon hsz HRES1 HRES2 HB1 HB2 HR HR2 s1 s2
 go_wp2_with fail
 generalize hh:w3.heap.size=h at *
 have HHH:=Lib.hid hh
 clear hh
 refine (num_two w.heap.size (w.heap.size+1) 4 l _ (by omega) HR3.out (by rw [HL.out]; omega) HX.out).mono ?_
 rintro e w4 ⟨rfl,hrdr,hon⟩
 have s4:h<w4.heap.size:=by rw [hon.size]; simp; have:=HHH.out; omega
 have HR4:=Lib.hid hrdr
 have HB4:=Lib.hid (hon.from HB3.out (by omega))
 have hr4:=hon.blk HRES3.out (by omega)
 have hh4:=hon.blk HH3.out (by omega)
 clear hrdr hon HRES3 HB3 HR3 HH3
 have r0:w4.cell? ⟨w.heap.size,0,none⟩=some (.int .i64 0):=hr4.cell 0
 have r1:w4.cell? ⟨w.heap.size,1,none⟩=some (.int .i64 0):=hr4.cell 1
 have r2:w4.cell? ⟨w.heap.size,2,none⟩=some (.bool false):=hr4.cell 2
 have f0:w4.frozen? ⟨w.heap.size,0,none⟩=false:=hr4.frozen 0
 have f1:w4.frozen? ⟨w.heap.size,1,none⟩=false:=hr4.frozen 1
 have f2:w4.frozen? ⟨w.heap.size,2,none⟩=false:=hr4.frozen 2
 have HR4B:=Lib.hid hr4
 have HH4:=Lib.hid hh4
 clear hr4 hh4
 by_cases h4:w16 l 4=n
 ·have e4:IntKind.u64.wrap (n:Int)=(n:Int):=by rw [IntKind.wrap_u64]; omega
  have H4:=Lib.hid h4
  have hne:((w16 l 4) != (n:Int))=false:=by rw [h4]; simp
  clear h4
  clear r0 r1 r2 f0 f1 f2
  go_wp2_with fail
  refine (num_two w.heap.size (w.heap.size+1) 6 l _ (by omega) HR4.out (by rw [HL.out]; omega) HX.out).mono ?_
  rintro e w5 ⟨rfl,hrdr,hon⟩
  have s5:h<w5.heap.size:=by rw [hon.size]; exact s4
  have HB5:=Lib.hid (hon.from HB4.out (by omega))
  have HR5:=Lib.hid (hon.blk HR4B.out (by omega))
  have HH5:=Lib.hid (hon.blk HH4.out (by omega))
  clear hrdr hon HR4 HB4 HR4B HH4
  have H4':=Lib.hid (show w16 l 4=l.length by rw [HL.out]; exact H4.out)
  have h2:w5.cell? ⟨h,2,none⟩=some (.bool false):=HH5.out.cell 2
  have g2:w5.frozen? ⟨h,2,none⟩=false:=HH5.out.frozen 2
  have ne1:¬ h=w.heap.size:=by omega
  have ne2:¬ w.heap.size=h:=by omega
  by_cases h6:w16 l 6=0
  ·have t6:(w16 l 6 == 0)=true:=by simpa using h6
   have H6:=Lib.hid h6
   clear h6
   cases bare with
   | false =>
    have HBAD:=Lib.hid (show bad l ps false from .inl ⟨H6.out,rfl⟩)
    have HRX:=Lib.hid (HR5.out.far (p:=⟨h,2,none⟩) (show w.heap.size≠h by omega) (.bool true))
    have HBX:=Lib.hid (HB5.out.setCell (p:=⟨h,2,none⟩) (show w.heap.size≤h by omega) (.bool true))
    have r0:w5.cell? ⟨w.heap.size,0,none⟩=some (.int .i64 0):=HR5.out.cell 0
    have r1:w5.cell? ⟨w.heap.size,1,none⟩=some (.int .i64 0):=HR5.out.cell 1
    have r2:w5.cell? ⟨w.heap.size,2,none⟩=some (.bool false):=HR5.out.cell 2
    have f0:w5.frozen? ⟨w.heap.size,0,none⟩=false:=HR5.out.frozen 0
    have f1:w5.frozen? ⟨w.heap.size,1,none⟩=false:=HR5.out.frozen 1
    have f2:w5.frozen? ⟨w.heap.size,2,none⟩=false:=HR5.out.frozen 2
    go_wp2_with fail
    have hblk:=((HRX.out.set_ 0 (.int .i64 0)).set_ 1 (.int .i64 0)).set_ 2 (.bool false)
    have hbw:=(((HBX.out.setCell (p:=⟨w.heap.size,0,none⟩) (Nat.le_refl _) (.int .i64 0)).setCell (p:=⟨w.heap.size,1,none⟩) (Nat.le_refl _) (.int .i64 0)).setCell (p:=⟨w.heap.size,2,none⟩) (Nat.le_refl _) (.bool false))
    generalize (((w5.setCell ⟨h,2,none⟩ (.bool true)).setCell ⟨w.heap.size,0,none⟩ (.int .i64 0)).setCell ⟨w.heap.size,1,none⟩ (.int .i64 0)).setCell ⟨w.heap.size,2,none⟩ (.bool false)=W at *
    have HBW:=Lib.hid hbw
    clear hbw
    have k0:W.cell? ⟨w.heap.size,0,none⟩=some (.int .i64 0):=hblk.cell 0
    have k1:W.cell? ⟨w.heap.size,1,none⟩=some (.int .i64 0):=hblk.cell 1
    have k2:W.cell? ⟨w.heap.size,2,none⟩=some (.bool false):=hblk.cell 2
    clear hblk
    exact bodyPost_ret (v:=errv 13) (by simp [results,Try.results69,go_sem,k0,k1,k2,errv]) rfl ⟨fun h=>absurd H4'.out h,fun _ _=>⟨rfl,HBW.out⟩,fun _ h=>absurd HBAD.out h⟩
   | true =>
    have HOK:=Lib.hid (show ¬ bad l ps true from fun h=>h.elim (fun h=>Bool.noConfusion h.2) (fun h=>h.1 H6.out))
    have TQ:=Lib.hid t6
    have HRX:=Lib.hid (HR5.out.far (p:=⟨h,2,none⟩) (show w.heap.size≠h by omega) (.bool true))
    have HBX:=Lib.hid (HB5.out.setCell (p:=⟨h,2,none⟩) (show w.heap.size≤h by omega) (.bool true))
    have HHX:=Lib.hid (HH5.out.set_ 2 (.bool true))
    go_wp2_with fail
    generalize (w5.setCell ⟨h,2,none⟩ (.bool true))=wx at *
    have HK:=Lib.hid (show wx.drew.cell? ⟨h,0,none⟩=some (.int .i64 (w16 l 0))∧wx.drew.cell? ⟨h,1,none⟩=some (.int .i64 (w16 l 2))∧wx.drew.cell? ⟨h,2,none⟩=some (.bool true) from ⟨HHX.out.drew.cell 0,HHX.out.drew.cell 1,HHX.out.drew.cell 2⟩)
    have HBD:=Lib.hid HBX.out.drew
    have hsx:h<wx.drew.heap.size:=HHX.out.drew.lt
    clear h2 g2
    by_cases hc8:c=8
    ·have HCL:=Lib.hid (clone_any (some ⟨b,off,none⟩) (n - 8) (c - 8) (l.drop 8) wx.drew (by rw [List.length_drop,HL.out]) (by omega) (by intro h; cases h) (.inl (by rw [List.drop_eq_nil_of_le (by rw [HL.out]; omega)]; rfl)))
     have HLN:=Lib.hid (show n - 8=l.length - 8 by rw [HL.out])
     obtain rfl:n=8:=by omega
     subst hc8
     go_wp2_with fail
     go_region_held3 (fun w'=>w'.cell? ⟨h,0,none⟩=some (.int .i64 (w16 l 0))∧w'.cell? ⟨h,1,none⟩=some (.int .i64 (w16 l 2))∧w'.cell? ⟨h,2,none⟩=some (.bool true)) (first | assumption | exact HK7.out | exact HK.out | exact farK ne1 HK7.out _ _ _) (first | (go_at_call 67; refine HCL.out.mono ?_; rintro e w7 ⟨v7,rfl,hown,hbel,hsz⟩; have HOWN:=Lib.hid (own_base hown (show w.heap.size+1≤_ by omega)); have HB7:=Lib.hid (HBD.out.trans (hbel.mono HBD.out.size)); have HRX7:=Lib.hid (HRX.out.drew.below hbel HRX.out.drew.lt); have HK7:=Lib.hid (udpA.keepK HK.out hbel); have r0:w7.cell? ⟨w.heap.size,0,none⟩=some (.int .i64 0):=HRX7.out.cell 0; have r1:w7.cell? ⟨w.heap.size,1,none⟩=some (.int .i64 0):=HRX7.out.cell 1; have r2:w7.cell? ⟨w.heap.size,2,none⟩=some (.bool false):=HRX7.out.cell 2; have f0:w7.frozen? ⟨w.heap.size,0,none⟩=false:=HRX7.out.frozen 0; have f1:w7.frozen? ⟨w.heap.size,1,none⟩=false:=HRX7.out.frozen 1; have f2:w7.frozen? ⟨w.heap.size,2,none⟩=false:=HRX7.out.frozen 2; clear hown hbel hsz))
     go_wp2_with fail
     have hblk:=((HRX7.out.set_ 0 (.int .i64 (w16 l 0))).set_ 1 (.int .i64 (w16 l 2))).set_ 2 (.bool true)
     have hbw:=(((HB7.out.setCell (p:=⟨w.heap.size,0,none⟩) (Nat.le_refl _) (.int .i64 (w16 l 0))).setCell (p:=⟨w.heap.size,1,none⟩) (Nat.le_refl _) (.int .i64 (w16 l 2))).setCell (p:=⟨w.heap.size,2,none⟩) (Nat.le_refl _) (.bool true))
     have hown:=own_far (own_far (own_far HOWN.out ⟨w.heap.size,0,none⟩ (Nat.lt_succ_self _) (.int .i64 (w16 l 0))) ⟨w.heap.size,1,none⟩ (Nat.lt_succ_self _) (.int .i64 (w16 l 2))) ⟨w.heap.size,2,none⟩ (Nat.lt_succ_self _) (.bool true)
     clear r0 r1 r2 f0 f1 f2
     generalize ((w7.setCell ⟨w.heap.size,0,none⟩ (.int .i64 (w16 l 0))).setCell ⟨w.heap.size,1,none⟩ (.int .i64 (w16 l 2))).setCell ⟨w.heap.size,2,none⟩ (.bool true)=W at *
     have HBW:=Lib.hid hbw
     have HOW:=Lib.hid (own_base hown (Nat.le_succ _))
     clear hbw hown
     have k0:W.cell? ⟨w.heap.size,0,none⟩=some (.int .i64 (w16 l 0)):=hblk.cell 0
     have k1:W.cell? ⟨w.heap.size,1,none⟩=some (.int .i64 (w16 l 2)):=hblk.cell 1
     have k2:W.cell? ⟨w.heap.size,2,none⟩=some (.bool true):=hblk.cell 2
     clear hblk
     rw [HLN.out] at HOW
     exact bodyPost_ret (v:=.tuple #[.agg #[.int .i64 (w16 l 0),.int .i64 (w16 l 2),.bool true],v7,.int .i64 0]) (by simp [results,Try.results69,go_sem,k0,k1,k2]) rfl ⟨fun h=>absurd H4'.out h,fun _ h=>absurd h HOK.out,fun _ _=>⟨v7,by rw [TQ.out],HOW.out,HBW.out⟩⟩
    ·have HCL:=Lib.hid (clone_any (some ⟨b,off+8,none⟩) (n - 8) (c - 8) (l.drop 8) wx.drew (by rw [List.length_drop,HL.out]) (by omega) (by intro h; cases h) (((HS.out.below HBD.out hb).drop 8).row (by have:=HBD.out.size; omega)))
     have HLN:=Lib.hid (show n - 8=l.length - 8 by rw [HL.out])
     go_wp2_with fail
     go_region_held3 (fun w'=>w'.cell? ⟨h,0,none⟩=some (.int .i64 (w16 l 0))∧w'.cell? ⟨h,1,none⟩=some (.int .i64 (w16 l 2))∧w'.cell? ⟨h,2,none⟩=some (.bool true)) (first | assumption | exact HK7.out | exact HK.out | exact farK ne1 HK7.out _ _ _) (first | (go_at_call 67; refine HCL.out.mono ?_; rintro e w7 ⟨v7,rfl,hown,hbel,hsz⟩; have HOWN:=Lib.hid (own_base hown (show w.heap.size+1≤_ by omega)); have HB7:=Lib.hid (HBD.out.trans (hbel.mono HBD.out.size)); have HRX7:=Lib.hid (HRX.out.drew.below hbel HRX.out.drew.lt); have HK7:=Lib.hid (udpA.keepK HK.out hbel); have r0:w7.cell? ⟨w.heap.size,0,none⟩=some (.int .i64 0):=HRX7.out.cell 0; have r1:w7.cell? ⟨w.heap.size,1,none⟩=some (.int .i64 0):=HRX7.out.cell 1; have r2:w7.cell? ⟨w.heap.size,2,none⟩=some (.bool false):=HRX7.out.cell 2; have f0:w7.frozen? ⟨w.heap.size,0,none⟩=false:=HRX7.out.frozen 0; have f1:w7.frozen? ⟨w.heap.size,1,none⟩=false:=HRX7.out.frozen 1; have f2:w7.frozen? ⟨w.heap.size,2,none⟩=false:=HRX7.out.frozen 2; clear hown hbel hsz))
     go_wp2_with fail
     have hblk:=((HRX7.out.set_ 0 (.int .i64 (w16 l 0))).set_ 1 (.int .i64 (w16 l 2))).set_ 2 (.bool true)
     have hbw:=(((HB7.out.setCell (p:=⟨w.heap.size,0,none⟩) (Nat.le_refl _) (.int .i64 (w16 l 0))).setCell (p:=⟨w.heap.size,1,none⟩) (Nat.le_refl _) (.int .i64 (w16 l 2))).setCell (p:=⟨w.heap.size,2,none⟩) (Nat.le_refl _) (.bool true))
     have hown:=own_far (own_far (own_far HOWN.out ⟨w.heap.size,0,none⟩ (Nat.lt_succ_self _) (.int .i64 (w16 l 0))) ⟨w.heap.size,1,none⟩ (Nat.lt_succ_self _) (.int .i64 (w16 l 2))) ⟨w.heap.size,2,none⟩ (Nat.lt_succ_self _) (.bool true)
     clear r0 r1 r2 f0 f1 f2
     generalize ((w7.setCell ⟨w.heap.size,0,none⟩ (.int .i64 (w16 l 0))).setCell ⟨w.heap.size,1,none⟩ (.int .i64 (w16 l 2))).setCell ⟨w.heap.size,2,none⟩ (.bool true)=W at *
     have HBW:=Lib.hid hbw
     have HOW:=Lib.hid (own_base hown (Nat.le_succ _))
     clear hbw hown
     have k0:W.cell? ⟨w.heap.size,0,none⟩=some (.int .i64 (w16 l 0)):=hblk.cell 0
     have k1:W.cell? ⟨w.heap.size,1,none⟩=some (.int .i64 (w16 l 2)):=hblk.cell 1
     have k2:W.cell? ⟨w.heap.size,2,none⟩=some (.bool true):=hblk.cell 2
     clear hblk
     rw [HLN.out] at HOW
     exact bodyPost_ret (v:=.tuple #[.agg #[.int .i64 (w16 l 0),.int .i64 (w16 l 2),.bool true],v7,.int .i64 0]) (by simp [results,Try.results69,go_sem,k0,k1,k2]) rfl ⟨fun h=>absurd H4'.out h,fun _ h=>absurd h HOK.out,fun _ _=>⟨v7,by rw [TQ.out],HOW.out,HBW.out⟩⟩
  ·have t6:(w16 l 6 == 0)=false:=by simpa using h6
   have H6:=Lib.hid h6
   have TQ:=Lib.hid t6
   clear h6
   have HRX:=Lib.hid (HR5.out.far (p:=⟨h,2,none⟩) (show w.heap.size≠h by omega) (.bool false))
   have HBX:=Lib.hid (HB5.out.setCell (p:=⟨h,2,none⟩) (show w.heap.size≤h by omega) (.bool false))
   have HHX:=Lib.hid (HH5.out.set_ 2 (.bool false))
   have HSZ:=Lib.hid (show (w5.setCell ⟨h,2,none⟩ (.bool false)).heap.size=w5.heap.size by simp)
   have r0:w5.cell? ⟨w.heap.size,0,none⟩=some (.int .i64 0):=HR5.out.cell 0
   have r1:w5.cell? ⟨w.heap.size,1,none⟩=some (.int .i64 0):=HR5.out.cell 1
   have r2:w5.cell? ⟨w.heap.size,2,none⟩=some (.bool false):=HR5.out.cell 2
   have f0:w5.frozen? ⟨w.heap.size,0,none⟩=false:=HR5.out.frozen 0
   have f1:w5.frozen? ⟨w.heap.size,1,none⟩=false:=HR5.out.frozen 1
   have f2:w5.frozen? ⟨w.heap.size,2,none⟩=false:=HR5.out.frozen 2
   clear r0 r1 r2 f0 f1 f2
   go_wp2_with fail
   refine (right_at w5.heap.size A2 (some ⟨b,off,none⟩) n2 n c2 c ps l w _ _ HSZ.out PL.out HL.out (by omega) (by omega) PR.out (HS.out.row hb) PX.out HX.out HBX.out).mono ?_
   rintro e w6 ⟨rfl,rfl⟩
   have HRY:=Lib.hid (HRX.out.alloc (.cells #[.slice A2 n2 c2,.slice (some ⟨b,off,none⟩) n c] 47))
   have HHY:=Lib.hid (HHX.out.alloc (.cells #[.slice A2 n2 c2,.slice (some ⟨b,off,none⟩) n c] 47))
   have HBY:=Lib.hid (HBX.out.alloc (by rw [HSZ.out]; omega) (.cells #[.slice A2 n2 c2,.slice (some ⟨b,off,none⟩) n c] 47))
   clear HRX HHX HBX HR5 HH5 HB5 HSZ h2 g2
   generalize (w5.setCell ⟨h,2,none⟩ (.bool false)).alloc (.cells #[.slice A2 n2 c2,.slice (some ⟨b,off,none⟩) n c] 47)=wy at *
   have h2:wy.cell? ⟨h,2,none⟩=some (.bool false):=HHY.out.cell 2
   have g2:wy.frozen? ⟨h,2,none⟩=false:=HHY.out.frozen 2
   have HRX:=HRY
   have HHX:=HHY
   have HBX:=HBY
   clear HRY HHY HBY
   by_cases hS:fo (wsum (ps++l))=65535
   ·have tS:(fo (wsum (ps++l)) == 65535)=true:=by simpa using hS
    have HOK:=Lib.hid (show ¬ bad l ps bare from fun h=>h.elim (fun h=>H6.out h.1) (fun h=>h.2 hS))
    clear hS
    rw [tS]
    clear tS
    go_wp2_with fail
    have HK:=Lib.hid (show wy.drew.cell? ⟨h,0,none⟩=some (.int .i64 (w16 l 0))∧wy.drew.cell? ⟨h,1,none⟩=some (.int .i64 (w16 l 2))∧wy.drew.cell? ⟨h,2,none⟩=some (.bool false) from ⟨HHX.out.drew.cell 0,HHX.out.drew.cell 1,HHX.out.drew.cell 2⟩)
    have HBD:=Lib.hid HBX.out.drew
    have hsx:h<wy.drew.heap.size:=HHX.out.drew.lt
    clear h2 g2
    by_cases hc8:c=8
    ·have HCL:=Lib.hid (clone_any (some ⟨b,off,none⟩) (n - 8) (c - 8) (l.drop 8) wy.drew (by rw [List.length_drop,HL.out]) (by omega) (by intro h; cases h) (.inl (by rw [List.drop_eq_nil_of_le (by rw [HL.out]; omega)]; rfl)))
     have HLN:=Lib.hid (show n - 8=l.length - 8 by rw [HL.out])
     obtain rfl:n=8:=by omega
     subst hc8
     go_wp2_with fail
     go_region_held3 (fun w'=>w'.cell? ⟨h,0,none⟩=some (.int .i64 (w16 l 0))∧w'.cell? ⟨h,1,none⟩=some (.int .i64 (w16 l 2))∧w'.cell? ⟨h,2,none⟩=some (.bool false)) (first | assumption | exact HK7.out | exact HK.out | exact farK ne1 HK7.out _ _ _) (first | (go_at_call 67; refine HCL.out.mono ?_; rintro e w7 ⟨v7,rfl,hown,hbel,hsz⟩; have HOWN:=Lib.hid (own_base hown (show w.heap.size+1≤_ by omega)); have HB7:=Lib.hid (HBD.out.trans (hbel.mono HBD.out.size)); have HRX7:=Lib.hid (HRX.out.drew.below hbel HRX.out.drew.lt); have HK7:=Lib.hid (udpA.keepK HK.out hbel); have r0:w7.cell? ⟨w.heap.size,0,none⟩=some (.int .i64 0):=HRX7.out.cell 0; have r1:w7.cell? ⟨w.heap.size,1,none⟩=some (.int .i64 0):=HRX7.out.cell 1; have r2:w7.cell? ⟨w.heap.size,2,none⟩=some (.bool false):=HRX7.out.cell 2; have f0:w7.frozen? ⟨w.heap.size,0,none⟩=false:=HRX7.out.frozen 0; have f1:w7.frozen? ⟨w.heap.size,1,none⟩=false:=HRX7.out.frozen 1; have f2:w7.frozen? ⟨w.heap.size,2,none⟩=false:=HRX7.out.frozen 2; clear hown hbel hsz))
     go_wp2_with fail
     have hblk:=((HRX7.out.set_ 0 (.int .i64 (w16 l 0))).set_ 1 (.int .i64 (w16 l 2))).set_ 2 (.bool false)
     have hbw:=(((HB7.out.setCell (p:=⟨w.heap.size,0,none⟩) (Nat.le_refl _) (.int .i64 (w16 l 0))).setCell (p:=⟨w.heap.size,1,none⟩) (Nat.le_refl _) (.int .i64 (w16 l 2))).setCell (p:=⟨w.heap.size,2,none⟩) (Nat.le_refl _) (.bool false))
     have hown:=own_far (own_far (own_far HOWN.out ⟨w.heap.size,0,none⟩ (Nat.lt_succ_self _) (.int .i64 (w16 l 0))) ⟨w.heap.size,1,none⟩ (Nat.lt_succ_self _) (.int .i64 (w16 l 2))) ⟨w.heap.size,2,none⟩ (Nat.lt_succ_self _) (.bool false)
     clear r0 r1 r2 f0 f1 f2
     generalize ((w7.setCell ⟨w.heap.size,0,none⟩ (.int .i64 (w16 l 0))).setCell ⟨w.heap.size,1,none⟩ (.int .i64 (w16 l 2))).setCell ⟨w.heap.size,2,none⟩ (.bool false)=W at *
     have HBW:=Lib.hid hbw
     have HOW:=Lib.hid (own_base hown (Nat.le_succ _))
     clear hbw hown
     have k0:W.cell? ⟨w.heap.size,0,none⟩=some (.int .i64 (w16 l 0)):=hblk.cell 0
     have k1:W.cell? ⟨w.heap.size,1,none⟩=some (.int .i64 (w16 l 2)):=hblk.cell 1
     have k2:W.cell? ⟨w.heap.size,2,none⟩=some (.bool false):=hblk.cell 2
     clear hblk
     rw [HLN.out] at HOW
     exact bodyPost_ret (v:=.tuple #[.agg #[.int .i64 (w16 l 0),.int .i64 (w16 l 2),.bool false],v7,.int .i64 0]) (by simp [results,Try.results69,go_sem,k0,k1,k2]) rfl ⟨fun h=>absurd H4'.out h,fun _ h=>absurd h HOK.out,fun _ _=>⟨v7,by rw [TQ.out],HOW.out,HBW.out⟩⟩
    ·have HCL:=Lib.hid (clone_any (some ⟨b,off+8,none⟩) (n - 8) (c - 8) (l.drop 8) wy.drew (by rw [List.length_drop,HL.out]) (by omega) (by intro h; cases h) (((HS.out.below HBD.out hb).drop 8).row (by have:=HBD.out.size; omega)))
     have HLN:=Lib.hid (show n - 8=l.length - 8 by rw [HL.out])
     go_wp2_with fail
     go_region_held3 (fun w'=>w'.cell? ⟨h,0,none⟩=some (.int .i64 (w16 l 0))∧w'.cell? ⟨h,1,none⟩=some (.int .i64 (w16 l 2))∧w'.cell? ⟨h,2,none⟩=some (.bool false)) (first | assumption | exact HK7.out | exact HK.out | exact farK ne1 HK7.out _ _ _) (first | (go_at_call 67; refine HCL.out.mono ?_; rintro e w7 ⟨v7,rfl,hown,hbel,hsz⟩; have HOWN:=Lib.hid (own_base hown (show w.heap.size+1≤_ by omega)); have HB7:=Lib.hid (HBD.out.trans (hbel.mono HBD.out.size)); have HRX7:=Lib.hid (HRX.out.drew.below hbel HRX.out.drew.lt); have HK7:=Lib.hid (udpA.keepK HK.out hbel); have r0:w7.cell? ⟨w.heap.size,0,none⟩=some (.int .i64 0):=HRX7.out.cell 0; have r1:w7.cell? ⟨w.heap.size,1,none⟩=some (.int .i64 0):=HRX7.out.cell 1; have r2:w7.cell? ⟨w.heap.size,2,none⟩=some (.bool false):=HRX7.out.cell 2; have f0:w7.frozen? ⟨w.heap.size,0,none⟩=false:=HRX7.out.frozen 0; have f1:w7.frozen? ⟨w.heap.size,1,none⟩=false:=HRX7.out.frozen 1; have f2:w7.frozen? ⟨w.heap.size,2,none⟩=false:=HRX7.out.frozen 2; clear hown hbel hsz))
     go_wp2_with fail
     have hblk:=((HRX7.out.set_ 0 (.int .i64 (w16 l 0))).set_ 1 (.int .i64 (w16 l 2))).set_ 2 (.bool false)
     have hbw:=(((HB7.out.setCell (p:=⟨w.heap.size,0,none⟩) (Nat.le_refl _) (.int .i64 (w16 l 0))).setCell (p:=⟨w.heap.size,1,none⟩) (Nat.le_refl _) (.int .i64 (w16 l 2))).setCell (p:=⟨w.heap.size,2,none⟩) (Nat.le_refl _) (.bool false))
     have hown:=own_far (own_far (own_far HOWN.out ⟨w.heap.size,0,none⟩ (Nat.lt_succ_self _) (.int .i64 (w16 l 0))) ⟨w.heap.size,1,none⟩ (Nat.lt_succ_self _) (.int .i64 (w16 l 2))) ⟨w.heap.size,2,none⟩ (Nat.lt_succ_self _) (.bool false)
     clear r0 r1 r2 f0 f1 f2
     generalize ((w7.setCell ⟨w.heap.size,0,none⟩ (.int .i64 (w16 l 0))).setCell ⟨w.heap.size,1,none⟩ (.int .i64 (w16 l 2))).setCell ⟨w.heap.size,2,none⟩ (.bool false)=W at *
     have HBW:=Lib.hid hbw
     have HOW:=Lib.hid (own_base hown (Nat.le_succ _))
     clear hbw hown
     have k0:W.cell? ⟨w.heap.size,0,none⟩=some (.int .i64 (w16 l 0)):=hblk.cell 0
     have k1:W.cell? ⟨w.heap.size,1,none⟩=some (.int .i64 (w16 l 2)):=hblk.cell 1
     have k2:W.cell? ⟨w.heap.size,2,none⟩=some (.bool false):=hblk.cell 2
     clear hblk
     rw [HLN.out] at HOW
     exact bodyPost_ret (v:=.tuple #[.agg #[.int .i64 (w16 l 0),.int .i64 (w16 l 2),.bool false],v7,.int .i64 0]) (by simp [results,Try.results69,go_sem,k0,k1,k2]) rfl ⟨fun h=>absurd H4'.out h,fun _ h=>absurd h HOK.out,fun _ _=>⟨v7,by rw [TQ.out],HOW.out,HBW.out⟩⟩
   ·have tS:(fo (wsum (ps++l)) == 65535)=false:=by simpa using hS
    have HBAD:=Lib.hid (show bad l ps bare from .inr ⟨H6.out,hS⟩)
    clear hS
    rw [tS]
    clear tS
    have r0:wy.cell? ⟨w.heap.size,0,none⟩=some (.int .i64 0):=HRX.out.cell 0
    have r1:wy.cell? ⟨w.heap.size,1,none⟩=some (.int .i64 0):=HRX.out.cell 1
    have r2:wy.cell? ⟨w.heap.size,2,none⟩=some (.bool false):=HRX.out.cell 2
    have f0:wy.frozen? ⟨w.heap.size,0,none⟩=false:=HRX.out.frozen 0
    have f1:wy.frozen? ⟨w.heap.size,1,none⟩=false:=HRX.out.frozen 1
    have f2:wy.frozen? ⟨w.heap.size,2,none⟩=false:=HRX.out.frozen 2
    go_wp2_with fail
    have hblk:=((HRX.out.set_ 0 (.int .i64 0)).set_ 1 (.int .i64 0)).set_ 2 (.bool false)
    have hbw:=(((HBX.out.setCell (p:=⟨w.heap.size,0,none⟩) (Nat.le_refl _) (.int .i64 0)).setCell (p:=⟨w.heap.size,1,none⟩) (Nat.le_refl _) (.int .i64 0)).setCell (p:=⟨w.heap.size,2,none⟩) (Nat.le_refl _) (.bool false))
    generalize ((wy.setCell ⟨w.heap.size,0,none⟩ (.int .i64 0)).setCell ⟨w.heap.size,1,none⟩ (.int .i64 0)).setCell ⟨w.heap.size,2,none⟩ (.bool false)=W at *
    have HBW:=Lib.hid hbw
    clear hbw
    have k0:W.cell? ⟨w.heap.size,0,none⟩=some (.int .i64 0):=hblk.cell 0
    have k1:W.cell? ⟨w.heap.size,1,none⟩=some (.int .i64 0):=hblk.cell 1
    have k2:W.cell? ⟨w.heap.size,2,none⟩=some (.bool false):=hblk.cell 2
    clear hblk
    exact bodyPost_ret (v:=errv 13) (by simp [results,Try.results69,go_sem,k0,k1,k2,errv]) rfl ⟨fun h=>absurd H4'.out h,fun _ _=>⟨rfl,HBW.out⟩,fun _ h=>absurd HBAD.out h⟩
 ·have hne:((w16 l 4) != (n:Int))=true:=by simpa using h4
  have H4:=Lib.hid h4
  clear h4
  go_wp2_with fail
  have hblk:=((HR4B.out.set_ 0 (.int .i64 0)).set_ 1 (.int .i64 0)).set_ 2 (.bool false)
  have hbw:=(((HB4.out.setCell (p:=⟨w.heap.size,0,none⟩) (Nat.le_refl _) (.int .i64 0)).setCell (p:=⟨w.heap.size,1,none⟩) (Nat.le_refl _) (.int .i64 0)).setCell (p:=⟨w.heap.size,2,none⟩) (Nat.le_refl _) (.bool false))
  generalize ((w4.setCell ⟨w.heap.size,0,none⟩ (.int .i64 0)).setCell ⟨w.heap.size,1,none⟩ (.int .i64 0)).setCell ⟨w.heap.size,2,none⟩ (.bool false)=W at *
  have HBW:=Lib.hid hbw
  clear hbw
  have k0:W.cell? ⟨w.heap.size,0,none⟩=some (.int .i64 0):=hblk.cell 0
  have k1:W.cell? ⟨w.heap.size,1,none⟩=some (.int .i64 0):=hblk.cell 1
  have k2:W.cell? ⟨w.heap.size,2,none⟩=some (.bool false):=hblk.cell 2
  clear hblk
  exact bodyPost_ret (v:=errv 12) (by simp [results,Try.results69,go_sem,k0,k1,k2,errv]) rfl ⟨fun _=>⟨rfl,HBW.out⟩,fun h=>absurd (by rw [h,HL.out]) H4.out,fun h=>absurd (by rw [h,HL.out]) H4.out⟩
end Go.Proofs.Ytnofddbfogilaaa.udpA
