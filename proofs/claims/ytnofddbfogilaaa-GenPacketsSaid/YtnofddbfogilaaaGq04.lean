/- 8 texts in one. -/
import Derived.Deep.QuietTactic
import Derived.BigQuiet
import Derived.Lib.SmallJoins
import Derived.Deep.Slices
import Derived.Deep.Fields
import Derived.Test.YtnofddbfogilaaaGq01
import Derived.Test.YtnofddbfogilaaaGq02
import Derived.Test.YtnofddbfogilaaaGq03
/- Layer 10: a reader's rest; the header that bytes begin with. -/
namespace Go.Proofs.Ytnofddbfogilaaa.tcpC
set_option maxHeartbeats 4000000
set_option maxRecDepth 100000
open Go.ChangeShapes Go.WideShapes Go.ChangeAt Go.RowKit
open base octA octB octF rdrA udpA
set_option linter.unusedVariables false
theorem left_any (B g:Nat) (l:List Int) (w:World) (h:Rdr w B g l) :
  Calls Try.prog 96 #[.pointer (some ⟨g,0,none⟩)] w fun e w'=>e=.returned (.int .i64 (l.length:Int))∧w=w':=by
 obtain ⟨b,off,c,hblk,_⟩:=h
 have c0:w.cell? ⟨g,0,none⟩=some (.slice (some ⟨b,off,none⟩) l.length c):=hblk.cell 0
 clear hblk
 generalize l.length=n at *
 go_enter Try.func96,Try.ntmps96
 go_wp2
 go_ret
 exact ⟨rfl,rfl⟩
def RestPost (w:World) (g:Nat) (l:List Int) (e:Ending) (w':World):Prop :=
 ∃ v w1,e=.returned v∧Only g w w1∧w'.ownsRow w1.heap.size 5 1 v l.length (l.map (.int .u8))∧Below w1.heap.size w1 w'
theorem rest_big (B g:Nat) (l:List Int) (w:World) (hB:B≤g) (h:Rdr w B g l) (hn:l.length≤100000) :
  Calls Try.prog 84 #[.pointer (some ⟨g,0,none⟩)] w (RestPost w g l):=by
 have hg:=h.lt
 have HL:=Lib.hid (left_any B g l w h)
 have HRW:=Lib.hid (raw_any B g l.length l w hB h (Nat.le_refl _))
 have HT:=Lib.hid (show l.take l.length=l from List.take_length)
 have HN:=Lib.hid (show l.length=l.length from rfl)
 clear h
 generalize hm:l.length=m at *
 have HM:=Lib.hid hm
 clear hm
 go_enter Try.func84,Try.ntmps84
 go_wp2_with fail
 refine HL.out.mono ?_
 rintro e w' ⟨rfl,rfl⟩
 go_wp2_with fail
 refine HRW.out.mono ?_
 rintro e w1 ⟨b,off,rfl,hbB,hlies,_,hon⟩
 rw [HT.out] at hlies
 have HC:=Lib.hid (clone_big (some ⟨b,off,none⟩) m m l w1 HM.out hn (by intro h; cases h) (hlies.row (by rw [hon.size]; omega)))
 have HON:=Lib.hid hon
 clear hlies hon
 go_wp2_with fail
 refine HC.out.mono ?_
 rintro e w2 ⟨v,rfl,hown,hbel,_⟩
 have HO:=Lib.hid hown
 have HB2:=Lib.hid hbel
 clear hown hbel
 go_wp2_with fail
 go_ret
 exact ⟨_,w1,rfl,HON.out,by rw [HM.out]; exact HO.out,HB2.out⟩
theorem rest_any (B g:Nat) (l:List Int) (w:World) (hB:B≤g) (h:Rdr w B g l) (hn:l.length≤1000) :
  Calls Try.prog 84 #[.pointer (some ⟨g,0,none⟩)] w (RestPost w g l):=rest_big B g l w hB h (by omega)
theorem atN_one (l:List Int) (i:Nat):atN (l.drop i) 0 1=l.getD i 0:=by
 show 0*256+(l.drop i).getD (0+0) 0=_
 rw [List.getD_eq_getElem?_getD,List.getElem?_drop,← List.getD_eq_getElem?_getD]
 simp
def w32 (l:List Int) (i:Nat):Int:=w16 l i*65536+w16 l (i+2)
theorem atN_four (l:List Int) (i:Nat):atN (l.drop i) 0 4=w32 l i:=by
 have e:∀ j,(l.drop i).getD j 0=l.getD (i+j) 0:=fun j=>by
  rw [List.getD_eq_getElem?_getD,List.getD_eq_getElem?_getD,List.getElem?_drop]
 show (((0*256+(l.drop i).getD (0+0) 0)*256+(l.drop i).getD (0+1) 0)*256+(l.drop i).getD (0+2) 0)*256+(l.drop i).getD (0+3) 0=_
 rw [e,e,e,e]
 unfold w32 w16
 simp only [Nat.add_zero,Nat.zero_add,Nat.add_assoc]
 show _=(l.getD i 0*256+l.getD (i+1) 0)*65536+(l.getD (i+2) 0*256+l.getD (i+3) 0)
 omega
theorem w32_in (l:List Int) (hb:∀ x ∈ l,0≤x∧x≤255) (i:Nat):0≤w32 l i∧w32 l i≤4294967295:=by
 have a:=w16_in l hb i
 have b:=w16_in l hb (i+2)
 unfold w32
 omega
def NPost (w:World) (B g i k:Nat) (v:Int) (l:List Int) (e:Ending) (w':World):Prop :=
 e=.returned (.int .u64 v)∧Rdr w' B g (l.drop (i+k))∧Only g w w'
theorem num_one (B g i:Nat) (l:List Int) (w:World) (hB:B≤g) (h:Rdr w B g (l.drop i)) (hk:i+1≤l.length) (hb:∀ x ∈ l,0≤x∧x≤255) :
  Calls Try.prog 83 #[.pointer (some ⟨g,0,none⟩),.int .i64 1] w (NPost w B g i 1 (l.getD i 0) l):=by
 refine (num_any B g 1 (l.drop i) w hB h (by rw [List.length_drop]; omega) (by omega) (drop_u8 hb i)).mono ?_
 rintro e w' ⟨rfl,h1,h2⟩
 exact ⟨by rw [atN_one],by rwa [List.drop_drop] at h1,h2⟩
theorem num_four (B g i:Nat) (l:List Int) (w:World) (hB:B≤g) (h:Rdr w B g (l.drop i)) (hk:i+4≤l.length) (hb:∀ x ∈ l,0≤x∧x≤255) :
  Calls Try.prog 83 #[.pointer (some ⟨g,0,none⟩),.int .i64 4] w (NPost w B g i 4 (w32 l i) l):=by
 refine (num_any B g 4 (l.drop i) w hB h (by rw [List.length_drop]; omega) (by omega) (drop_u8 hb i)).mono ?_
 rintro e w' ⟨rfl,h1,h2⟩
 exact ⟨by rw [atN_four],by rwa [List.drop_drop] at h1,h2⟩
def ReadPost (w:World) (l:List Int) (e:Ending) (w':World):Prop :=
 ∃ A n c,e=.returned (.agg #[.int .i64 (w16 l 0),.int .i64 (w16 l 2),.int .u32 (w32 l 4),.int .u32 (w32 l 8),.int .i64 (l.getD 13 0),.int .i64 (w16 l 14),.int .i64 (w16 l 18),.slice A n c])∧n=l.length - 20∧(A=none→c=0)∧w'.ownsRow w.heap.size 5 1 (.slice A n c) n ((l.drop 20).map (.int .u8))∧Below w.heap.size w w'
theorem own_none {w:World} {base:Nat} {e:TypeId} {A:Option Addr} {n c:Nat} {xs:List Value} (h:w.ownsRow base e 1 (.slice A n c) n xs):A=none→c=0:=fun hA=>by
 rcases octE.own_cases h with ⟨h,_⟩ | ⟨g,cap,h,_⟩
 ·injection h
 ·injection h with h; rw [hA] at h; cases h
theorem read_any (b off n c:Nat) (l:List Int) (w:World) (hl:l.length=n) (hn:20≤n) (hn2:n≤1000) (hnc:n≤c) (hc:c≤9223372036854775807) (hb:b<w.heap.size) (hs:Lies w b off l) (hx:∀ x ∈ l,0≤x∧x≤255) :
  Calls Try.prog 85 #[.slice (some ⟨b,off,none⟩) n c] w (ReadPost w l):=by
 have HL:=Lib.hid hl
 have HX:=Lib.hid hx
 have k0:=w16_in l hx 0
 have k2:=w16_in l hx 2
 have k4:=w32_in l hx 4
 have k8:=w32_in l hx 8
 have k13:=getD_in l hx 13
 have k14:=w16_in l hx 14
 have k18:=w16_in l hx 18
 have v4:IntKind.u32.wrap (w32 l 4)=w32 l 4:=by rw [IntKind.wrap_u32]; omega
 have v8:IntKind.u32.wrap (w32 l 8)=w32 l 8:=by rw [IntKind.wrap_u32]; omega
 have V4:=Lib.hid v4
 have V8:=Lib.hid v8
 clear v4 v8
 have hz:(w.alloc (.cells #[.int .i64 0,.int .i64 0,.int .u32 0,.int .u32 0,.int .i64 0,.int .i64 0,.int .i64 0,.slice none 0 0] 72)).heap.size=w.heap.size+1:=by simp
 have HR0:=Lib.hid (read_rdr b off n c w.heap.size l (w.alloc (.cells #[.int .i64 0,.int .i64 0,.int .u32 0,.int .u32 0,.int .i64 0,.int .i64 0,.int .i64 0,.slice none 0 0] 72)) hl hnc hc hb (by simp) (hs.below ((Below.refl _ _).alloc (Nat.le_refl _) _) hb))
 have HZ:=Lib.hid hz
 have HB0:=Lib.hid (show Below w.heap.size w (w.alloc (.cells #[.int .i64 0,.int .i64 0,.int .u32 0,.int .u32 0,.int .i64 0,.int .i64 0,.int .i64 0,.slice none 0 0] 72)) from (Below.refl _ _).alloc (Nat.le_refl _) _)
 have HRES:=Lib.hid (Blk.new w 72 #[.int .i64 0,.int .i64 0,.int .u32 0,.int .u32 0,.int .i64 0,.int .i64 0,.int .i64 0,.slice none 0 0])
 have HLD:=Lib.hid (show (l.drop 20).length=n - 20 by rw [List.length_drop,hl])
 clear hs hx hl hz
 generalize h0:w16 l 0=x0 at *
 generalize h2:w16 l 2=x2 at *
 generalize h4:w32 l 4=x4 at *
 generalize h8:w32 l 8=x8 at *
 generalize h13:l.getD 13 0=x13 at *
 generalize h14:w16 l 14=x14 at *
 generalize h18:w16 l 18=x18 at *
 have H0:=Lib.hid h0
 have H2:=Lib.hid h2
 have H4:=Lib.hid h4
 have H8:=Lib.hid h8
 have H13:=Lib.hid h13
 have H14:=Lib.hid h14
 have H18:=Lib.hid h18
 clear h0 h2 h4 h8 h13 h14 h18
 go_enter Try.func85,Try.ntmps85
 go_wp2_with fail
 refine HR0.out.mono ?_
 rintro e w1 ⟨rfl,hrdr,hbel,hsz⟩
 rw [HZ.out] at hrdr hbel hsz
 have HR:=Lib.hid hrdr
 have HB:=Lib.hid (HB0.out.trans (hbel.mono (by omega)))
 have HRS:=Lib.hid (HRES.out.below hbel (by omega))
 have s1:w.heap.size+1<w1.heap.size:=by omega
 clear hrdr hbel hsz HR0 HB0 HRES
 go_wp2_with fail
 refine (num_two w.heap.size (w.heap.size+1) 0 l _ (by omega) HR.out (by rw [HL.out]; omega) HX.out).mono ?_
 rintro e w2 ⟨he,hrdr,hon⟩
 rw [H0.out] at he
 subst he
 have HR9:=Lib.hid hrdr
 have HB9:=Lib.hid (hon.from HB.out (by omega))
 have HRS9:=Lib.hid (hon.blk HRS.out (by omega))
 have s9:w.heap.size+1<w2.heap.size:=by rw [hon.size]; exact s1
 clear hrdr hon HR HB HRS s1
 have HR:=HR9
 have HB:=HB9
 have HRS:=HRS9
 have s1:=s9
 clear HR9 HB9 HRS9 s9
 go_wp2_with fail
 refine (num_two w.heap.size (w.heap.size+1) 2 l _ (by omega) HR.out (by rw [HL.out]; omega) HX.out).mono ?_
 rintro e w3 ⟨he,hrdr,hon⟩
 rw [H2.out] at he
 subst he
 have HR9:=Lib.hid hrdr
 have HB9:=Lib.hid (hon.from HB.out (by omega))
 have HRS9:=Lib.hid (hon.blk HRS.out (by omega))
 have s9:w.heap.size+1<w3.heap.size:=by rw [hon.size]; exact s1
 clear hrdr hon HR HB HRS s1
 have HR:=HR9
 have HB:=HB9
 have HRS:=HRS9
 have s1:=s9
 clear HR9 HB9 HRS9 s9
 have HR9:=Lib.hid (HR.out.below ((Below.refl w3.heap.size w3).alloc (Nat.le_refl _) (.cells #[.int .i64 x0,.int .i64 x2,.int .u32 0,.int .u32 0,.int .i64 0,.int .i64 0,.int .i64 0,.slice none 0 0] 72)) (by omega) (by omega))
 have HB9:=Lib.hid (HB.out.alloc (by omega) (.cells #[.int .i64 x0,.int .i64 x2,.int .u32 0,.int .u32 0,.int .i64 0,.int .i64 0,.int .i64 0,.slice none 0 0] 72))
 have HRS9:=Lib.hid (HRS.out.alloc (.cells #[.int .i64 x0,.int .i64 x2,.int .u32 0,.int .u32 0,.int .i64 0,.int .i64 0,.int .i64 0,.slice none 0 0] 72))
 have HH:=Lib.hid (Blk.new w3 72 #[.int .i64 x0,.int .i64 x2,.int .u32 0,.int .u32 0,.int .i64 0,.int .i64 0,.int .i64 0,.slice none 0 0])
 have s9:w3.heap.size<(w3.alloc (.cells #[.int .i64 x0,.int .i64 x2,.int .u32 0,.int .u32 0,.int .i64 0,.int .i64 0,.int .i64 0,.slice none 0 0] 72)).heap.size:=by simp
 have s10:=s1
 clear HR HB HRS s1
 go_wp2_with fail
 generalize hh:w3.heap.size=h at *
 clear hh
 generalize w3.alloc (.cells #[.int .i64 x0,.int .i64 x2,.int .u32 0,.int .u32 0,.int .i64 0,.int .i64 0,.int .i64 0,.slice none 0 0] 72)=w4 at *
 have HR:=HR9
 have HB:=HB9
 have HRS:=HRS9
 have s1:=s9
 clear HR9 HB9 HRS9 s9
 refine (num_four w.heap.size (w.heap.size+1) 4 l _ (by omega) HR.out (by rw [HL.out]; omega) HX.out).mono ?_
 rintro e w5 ⟨he,hrdr,hon⟩
 rw [H4.out] at he
 subst he
 have HR9:=Lib.hid hrdr
 have HB9:=Lib.hid (hon.from HB.out (by omega))
 have HRS9:=Lib.hid (hon.blk HRS.out (by omega))
 have HH9:=Lib.hid (hon.blk HH.out (by omega))
 have s9:h<w5.heap.size:=by rw [hon.size]; exact s1
 clear hrdr hon HR HB HRS s1 HH
 have HR:=HR9
 have HB:=HB9
 have HRS:=HRS9
 have s1:=s9
 have HH:=HH9
 clear HH9
 clear HR9 HB9 HRS9 s9
 go_wp2_with fail
 refine (num_four w.heap.size (w.heap.size+1) 8 l _ (by omega) HR.out (by rw [HL.out]; omega) HX.out).mono ?_
 rintro e w6 ⟨he,hrdr,hon⟩
 rw [H8.out] at he
 subst he
 have HR9:=Lib.hid hrdr
 have HB9:=Lib.hid (hon.from HB.out (by omega))
 have HRS9:=Lib.hid (hon.blk HRS.out (by omega))
 have HH9:=Lib.hid (hon.blk HH.out (by omega))
 have s9:h<w6.heap.size:=by rw [hon.size]; exact s1
 clear hrdr hon HR HB HRS s1 HH
 have HR:=HR9
 have HB:=HB9
 have HRS:=HRS9
 have s1:=s9
 have HH:=HH9
 clear HH9
 clear HR9 HB9 HRS9 s9
 have o2:w6.cell? ⟨h,2,none⟩=some (.int .u32 0):=HH.out.cell 2
 have g2:w6.frozen? ⟨h,2,none⟩=false:=HH.out.frozen 2
 have o3:w6.cell? ⟨h,3,none⟩=some (.int .u32 0):=HH.out.cell 3
 have g3:w6.frozen? ⟨h,3,none⟩=false:=HH.out.frozen 3
 have HH9:=Lib.hid ((HH.out.set_ 2 (.int .u32 x4)).set_ 3 (.int .u32 x8))
 have HRS9:=Lib.hid ((HRS.out.far (p:=⟨h,2,none⟩) (show w.heap.size≠h by omega) (.int .u32 x4)).far (p:=⟨h,3,none⟩) (show w.heap.size≠h by omega) (.int .u32 x8))
 have HB9:=Lib.hid ((HB.out.setCell (p:=⟨h,2,none⟩) (show w.heap.size≤h by omega) (.int .u32 x4)).setCell (p:=⟨h,3,none⟩) (show w.heap.size≤h by omega) (.int .u32 x8))
 have v4:=V4.out
 have v8:=V8.out
 go_wp2_with fail
 clear v4 v8
 have HR9:=Lib.hid (HR.out.below (((Below.refl h w6).setCell (p:=⟨h,2,none⟩) (Nat.le_refl h) (.int .u32 x4)).setCell (p:=⟨h,3,none⟩) (Nat.le_refl h) (.int .u32 x8)) (by omega) (by omega))
 have s9:h<((w6.setCell ⟨h,2,none⟩ (.int .u32 x4)).setCell ⟨h,3,none⟩ (.int .u32 x8)).heap.size:=by simpa using s1
 clear HR HB HRS HH s1 o2 g2 o3 g3
 generalize ((w6.setCell ⟨h,2,none⟩ (.int .u32 x4)).setCell ⟨h,3,none⟩ (.int .u32 x8))=w7 at *
 have HR:=HR9
 have HB:=HB9
 have HRS:=HRS9
 have HH:=HH9
 have s1:=s9
 clear HR9 HB9 HRS9 HH9 s9
 refine (num_one w.heap.size (w.heap.size+1) 12 l _ (by omega) HR.out (by rw [HL.out]; omega) HX.out).mono ?_
 rintro e w8 ⟨he,hrdr,hon⟩
 subst he
 have HR9:=Lib.hid hrdr
 have HB9:=Lib.hid (hon.from HB.out (by omega))
 have HRS9:=Lib.hid (hon.blk HRS.out (by omega))
 have HH9:=Lib.hid (hon.blk HH.out (by omega))
 have s9:h<w8.heap.size:=by rw [hon.size]; exact s1
 clear hrdr hon HR HB HRS s1 HH
 have HR:=HR9
 have HB:=HB9
 have HRS:=HRS9
 have s1:=s9
 have HH:=HH9
 clear HH9
 clear HR9 HB9 HRS9 s9
 generalize l.getD 12 0=x12 at *
 go_wp2_with fail
 refine (num_one w.heap.size (w.heap.size+1) 13 l _ (by omega) HR.out (by rw [HL.out]; omega) HX.out).mono ?_
 rintro e w9 ⟨he,hrdr,hon⟩
 rw [H13.out] at he
 subst he
 have HR9:=Lib.hid hrdr
 have HB9:=Lib.hid (hon.from HB.out (by omega))
 have HRS9:=Lib.hid (hon.blk HRS.out (by omega))
 have HH9:=Lib.hid (hon.blk HH.out (by omega))
 have s9:h<w9.heap.size:=by rw [hon.size]; exact s1
 clear hrdr hon HR HB HRS s1 HH
 have HR:=HR9
 have HB:=HB9
 have HRS:=HRS9
 have s1:=s9
 have HH:=HH9
 clear HH9
 clear HR9 HB9 HRS9 s9
 go_wp2_with fail
 refine (num_two w.heap.size (w.heap.size+1) 14 l _ (by omega) HR.out (by rw [HL.out]; omega) HX.out).mono ?_
 rintro e w10 ⟨he,hrdr,hon⟩
 rw [H14.out] at he
 subst he
 have HR9:=Lib.hid hrdr
 have HB9:=Lib.hid (hon.from HB.out (by omega))
 have HRS9:=Lib.hid (hon.blk HRS.out (by omega))
 have HH9:=Lib.hid (hon.blk HH.out (by omega))
 have s9:h<w10.heap.size:=by rw [hon.size]; exact s1
 clear hrdr hon HR HB HRS s1 HH
 have HR:=HR9
 have HB:=HB9
 have HRS:=HRS9
 have s1:=s9
 have HH:=HH9
 clear HH9
 clear HR9 HB9 HRS9 s9
 have o4:w10.cell? ⟨h,4,none⟩=some (.int .i64 0):=HH.out.cell 4
 have g4:w10.frozen? ⟨h,4,none⟩=false:=HH.out.frozen 4
 have o5:w10.cell? ⟨h,5,none⟩=some (.int .i64 0):=HH.out.cell 5
 have g5:w10.frozen? ⟨h,5,none⟩=false:=HH.out.frozen 5
 have HH9:=Lib.hid ((HH.out.set_ 4 (.int .i64 x13)).set_ 5 (.int .i64 x14))
 have HRS9:=Lib.hid ((HRS.out.far (p:=⟨h,4,none⟩) (show w.heap.size≠h by omega) (.int .i64 x13)).far (p:=⟨h,5,none⟩) (show w.heap.size≠h by omega) (.int .i64 x14))
 have HB9:=Lib.hid ((HB.out.setCell (p:=⟨h,4,none⟩) (show w.heap.size≤h by omega) (.int .i64 x13)).setCell (p:=⟨h,5,none⟩) (show w.heap.size≤h by omega) (.int .i64 x14))
 go_wp2_with fail
 have HR9:=Lib.hid (HR.out.below (((Below.refl h w10).setCell (p:=⟨h,4,none⟩) (Nat.le_refl h) (.int .i64 x13)).setCell (p:=⟨h,5,none⟩) (Nat.le_refl h) (.int .i64 x14)) (by omega) (by omega))
 have s9:h<((w10.setCell ⟨h,4,none⟩ (.int .i64 x13)).setCell ⟨h,5,none⟩ (.int .i64 x14)).heap.size:=by simpa using s1
 clear HR HB HRS HH s1 o4 g4 o5 g5
 generalize ((w10.setCell ⟨h,4,none⟩ (.int .i64 x13)).setCell ⟨h,5,none⟩ (.int .i64 x14))=w11 at *
 have HR:=HR9
 have HB:=HB9
 have HRS:=HRS9
 have HH:=HH9
 have s1:=s9
 clear HR9 HB9 HRS9 HH9 s9
 refine (num_two w.heap.size (w.heap.size+1) 16 l _ (by omega) HR.out (by rw [HL.out]; omega) HX.out).mono ?_
 rintro e w12 ⟨he,hrdr,hon⟩
 subst he
 have HR9:=Lib.hid hrdr
 have HB9:=Lib.hid (hon.from HB.out (by omega))
 have HRS9:=Lib.hid (hon.blk HRS.out (by omega))
 have HH9:=Lib.hid (hon.blk HH.out (by omega))
 have s9:h<w12.heap.size:=by rw [hon.size]; exact s1
 clear hrdr hon HR HB HRS s1 HH
 have HR:=HR9
 have HB:=HB9
 have HRS:=HRS9
 have s1:=s9
 have HH:=HH9
 clear HH9
 clear HR9 HB9 HRS9 s9
 generalize w16 l 16=x16 at *
 go_wp2_with fail
 refine (num_two w.heap.size (w.heap.size+1) 18 l _ (by omega) HR.out (by rw [HL.out]; omega) HX.out).mono ?_
 rintro e w13 ⟨he,hrdr,hon⟩
 rw [H18.out] at he
 subst he
 have HR9:=Lib.hid hrdr
 have HB9:=Lib.hid (hon.from HB.out (by omega))
 have HRS9:=Lib.hid (hon.blk HRS.out (by omega))
 have HH9:=Lib.hid (hon.blk HH.out (by omega))
 have s9:h<w13.heap.size:=by rw [hon.size]; exact s1
 clear hrdr hon HR HB HRS s1 HH
 have HR:=HR9
 have HB:=HB9
 have HRS:=HRS9
 have s1:=s9
 have HH:=HH9
 clear HH9
 clear HR9 HB9 HRS9 s9
 have o6:w13.cell? ⟨h,6,none⟩=some (.int .i64 0):=HH.out.cell 6
 have g6:w13.frozen? ⟨h,6,none⟩=false:=HH.out.frozen 6
 have HH9:=Lib.hid (HH.out.set_ 6 (.int .i64 x18))
 have HRS9:=Lib.hid (HRS.out.far (p:=⟨h,6,none⟩) (show w.heap.size≠h by omega) (.int .i64 x18))
 have HB9:=Lib.hid (HB.out.setCell (p:=⟨h,6,none⟩) (show w.heap.size≤h by omega) (.int .i64 x18))
 go_wp2_with fail
 have HR9:=Lib.hid (HR.out.below ((Below.refl h w13).setCell (p:=⟨h,6,none⟩) (Nat.le_refl h) (.int .i64 x18)) (by omega) (by omega))
 have s9:h<(w13.setCell ⟨h,6,none⟩ (.int .i64 x18)).heap.size:=by simpa using s1
 clear HR HB HRS HH s1 o6 g6
 generalize (w13.setCell ⟨h,6,none⟩ (.int .i64 x18))=w14 at *
 have HR:=HR9
 have HB:=HB9
 have HRS:=HRS9
 have HH:=HH9
 have s1:=s9
 clear HR9 HB9 HRS9 HH9 s9
 refine (rest_any w.heap.size (w.heap.size+1) (l.drop 20) _ (by omega) HR.out (by rw [HLD.out]; omega)).mono ?_
 rintro e w16 ⟨v,w15,rfl,hon,hown,hbel⟩
 rw [HLD.out] at hown
 obtain ⟨A,c9,rfl⟩:=own_slice hown
 have hnn:=own_none hown
 have sz:w15.heap.size=w14.heap.size:=hon.size
 have HH9:=Lib.hid ((hon.blk HH.out (by omega)).below hbel (by omega))
 have HRS9:=Lib.hid ((hon.blk HRS.out (by omega)).below hbel (by omega))
 have HB9:=Lib.hid ((hon.from HB.out (by omega)).trans (hbel.mono (by omega)))
 have HOW:=Lib.hid (own_base hown (show h+1≤w15.heap.size by omega))
 have HNN:=Lib.hid hnn
 clear hon hown hbel hnn HH HRS HB HR sz
 have o7:w16.cell? ⟨h,7,none⟩=some (.slice none 0 0):=HH9.out.cell 7
 have g7:w16.frozen? ⟨h,7,none⟩=false:=HH9.out.frozen 7
 have o0:w16.cell? ⟨h,0,none⟩=some (.int .i64 x0):=HH9.out.cell 0
 have o1:w16.cell? ⟨h,1,none⟩=some (.int .i64 x2):=HH9.out.cell 1
 have o2:w16.cell? ⟨h,2,none⟩=some (.int .u32 x4):=HH9.out.cell 2
 have o3:w16.cell? ⟨h,3,none⟩=some (.int .u32 x8):=HH9.out.cell 3
 have o4:w16.cell? ⟨h,4,none⟩=some (.int .i64 x13):=HH9.out.cell 4
 have o5:w16.cell? ⟨h,5,none⟩=some (.int .i64 x14):=HH9.out.cell 5
 have o6:w16.cell? ⟨h,6,none⟩=some (.int .i64 x18):=HH9.out.cell 6
 have r0:w16.cell? ⟨w.heap.size,0,none⟩=some (.int .i64 0):=HRS9.out.cell 0
 have q0:w16.frozen? ⟨w.heap.size,0,none⟩=false:=HRS9.out.frozen 0
 have r1:w16.cell? ⟨w.heap.size,1,none⟩=some (.int .i64 0):=HRS9.out.cell 1
 have q1:w16.frozen? ⟨w.heap.size,1,none⟩=false:=HRS9.out.frozen 1
 have r2:w16.cell? ⟨w.heap.size,2,none⟩=some (.int .u32 0):=HRS9.out.cell 2
 have q2:w16.frozen? ⟨w.heap.size,2,none⟩=false:=HRS9.out.frozen 2
 have r3:w16.cell? ⟨w.heap.size,3,none⟩=some (.int .u32 0):=HRS9.out.cell 3
 have q3:w16.frozen? ⟨w.heap.size,3,none⟩=false:=HRS9.out.frozen 3
 have r4:w16.cell? ⟨w.heap.size,4,none⟩=some (.int .i64 0):=HRS9.out.cell 4
 have q4:w16.frozen? ⟨w.heap.size,4,none⟩=false:=HRS9.out.frozen 4
 have r5:w16.cell? ⟨w.heap.size,5,none⟩=some (.int .i64 0):=HRS9.out.cell 5
 have q5:w16.frozen? ⟨w.heap.size,5,none⟩=false:=HRS9.out.frozen 5
 have r6:w16.cell? ⟨w.heap.size,6,none⟩=some (.int .i64 0):=HRS9.out.cell 6
 have q6:w16.frozen? ⟨w.heap.size,6,none⟩=false:=HRS9.out.frozen 6
 have r7:w16.cell? ⟨w.heap.size,7,none⟩=some (.slice none 0 0):=HRS9.out.cell 7
 have q7:w16.frozen? ⟨w.heap.size,7,none⟩=false:=HRS9.out.frozen 7
 have ne1:¬ h=w.heap.size:=by omega
 have ne2:¬ w.heap.size=h:=by omega
 go_wp2_with fail
 have hrs:=(show Blk _ _ 72 #[.int .i64 x0,.int .i64 x2,.int .u32 x4,.int .u32 x8,.int .i64 x13,.int .i64 x14,.int .i64 x18,.slice A (n - 20) c9] from (show Blk _ _ 72 #[.int .i64 x0,.int .i64 x2,.int .u32 x4,.int .u32 x8,.int .i64 x13,.int .i64 x14,.int .i64 x18,.slice none 0 0] from (show Blk _ _ 72 #[.int .i64 x0,.int .i64 x2,.int .u32 x4,.int .u32 x8,.int .i64 x13,.int .i64 x14,.int .i64 0,.slice none 0 0] from (show Blk _ _ 72 #[.int .i64 x0,.int .i64 x2,.int .u32 x4,.int .u32 x8,.int .i64 x13,.int .i64 0,.int .i64 0,.slice none 0 0] from (show Blk _ _ 72 #[.int .i64 x0,.int .i64 x2,.int .u32 x4,.int .u32 x8,.int .i64 0,.int .i64 0,.int .i64 0,.slice none 0 0] from (show Blk _ _ 72 #[.int .i64 x0,.int .i64 x2,.int .u32 x4,.int .u32 0,.int .i64 0,.int .i64 0,.int .i64 0,.slice none 0 0] from (show Blk _ _ 72 #[.int .i64 x0,.int .i64 x2,.int .u32 0,.int .u32 0,.int .i64 0,.int .i64 0,.int .i64 0,.slice none 0 0] from (show Blk _ _ 72 #[.int .i64 x0,.int .i64 0,.int .u32 0,.int .u32 0,.int .i64 0,.int .i64 0,.int .i64 0,.slice none 0 0] from (HRS9.out.far (p:=⟨h,7,none⟩) (show w.heap.size≠h by omega) (.slice A (n - 20) c9)).set_ 0 (.int .i64 x0)).set_ 1 (.int .i64 x2)).set_ 2 (.int .u32 x4)).set_ 3 (.int .u32 x8)).set_ 4 (.int .i64 x13)).set_ 5 (.int .i64 x14)).set_ 6 (.int .i64 x18)).set_ 7 (.slice A (n - 20) c9))
 have HBW:=Lib.hid (((((((((HB9.out.setCell (p:=⟨h,7,none⟩) (show w.heap.size≤h by omega) (.slice A (n - 20) c9)).setCell (p:=⟨w.heap.size,0,none⟩) (Nat.le_refl _) (.int .i64 x0)).setCell (p:=⟨w.heap.size,1,none⟩) (Nat.le_refl _) (.int .i64 x2)).setCell (p:=⟨w.heap.size,2,none⟩) (Nat.le_refl _) (.int .u32 x4)).setCell (p:=⟨w.heap.size,3,none⟩) (Nat.le_refl _) (.int .u32 x8)).setCell (p:=⟨w.heap.size,4,none⟩) (Nat.le_refl _) (.int .i64 x13)).setCell (p:=⟨w.heap.size,5,none⟩) (Nat.le_refl _) (.int .i64 x14)).setCell (p:=⟨w.heap.size,6,none⟩) (Nat.le_refl _) (.int .i64 x18)).setCell (p:=⟨w.heap.size,7,none⟩) (Nat.le_refl _) (.slice A (n - 20) c9))
 have HOF:=Lib.hid (own_base (own_far (own_far (own_far (own_far (own_far (own_far (own_far (own_far (own_far HOW.out ⟨h,7,none⟩ (Nat.lt_succ_self h) (.slice A (n - 20) c9)) ⟨w.heap.size,0,none⟩ (show w.heap.size<h+1 by omega) (.int .i64 x0)) ⟨w.heap.size,1,none⟩ (show w.heap.size<h+1 by omega) (.int .i64 x2)) ⟨w.heap.size,2,none⟩ (show w.heap.size<h+1 by omega) (.int .u32 x4)) ⟨w.heap.size,3,none⟩ (show w.heap.size<h+1 by omega) (.int .u32 x8)) ⟨w.heap.size,4,none⟩ (show w.heap.size<h+1 by omega) (.int .i64 x13)) ⟨w.heap.size,5,none⟩ (show w.heap.size<h+1 by omega) (.int .i64 x14)) ⟨w.heap.size,6,none⟩ (show w.heap.size<h+1 by omega) (.int .i64 x18)) ⟨w.heap.size,7,none⟩ (show w.heap.size<h+1 by omega) (.slice A (n - 20) c9)) (show w.heap.size≤h+1 by omega))
 clear o0 o1 o2 o3 o4 o5 o6 o7 g7 r0 q0 r1 q1 r2 q2 r3 q3 r4 q4 r5 q5 r6 q6 r7 q7
 generalize (((((((((w16.setCell ⟨h,7,none⟩ (.slice A (n - 20) c9)).setCell ⟨w.heap.size,0,none⟩ (.int .i64 x0)).setCell ⟨w.heap.size,1,none⟩ (.int .i64 x2)).setCell ⟨w.heap.size,2,none⟩ (.int .u32 x4)).setCell ⟨w.heap.size,3,none⟩ (.int .u32 x8)).setCell ⟨w.heap.size,4,none⟩ (.int .i64 x13)).setCell ⟨w.heap.size,5,none⟩ (.int .i64 x14)).setCell ⟨w.heap.size,6,none⟩ (.int .i64 x18)).setCell ⟨w.heap.size,7,none⟩ (.slice A (n - 20) c9))=WW at *
 have z0:WW.cell? ⟨w.heap.size,0,none⟩=some (.int .i64 x0):=hrs.cell 0
 have z1:WW.cell? ⟨w.heap.size,1,none⟩=some (.int .i64 x2):=hrs.cell 1
 have z2:WW.cell? ⟨w.heap.size,2,none⟩=some (.int .u32 x4):=hrs.cell 2
 have z3:WW.cell? ⟨w.heap.size,3,none⟩=some (.int .u32 x8):=hrs.cell 3
 have z4:WW.cell? ⟨w.heap.size,4,none⟩=some (.int .i64 x13):=hrs.cell 4
 have z5:WW.cell? ⟨w.heap.size,5,none⟩=some (.int .i64 x14):=hrs.cell 5
 have z6:WW.cell? ⟨w.heap.size,6,none⟩=some (.int .i64 x18):=hrs.cell 6
 have z7:WW.cell? ⟨w.heap.size,7,none⟩=some (.slice A (n - 20) c9):=hrs.cell 7
 clear hrs
 exact bodyPost_ret (v:=.agg #[.int .i64 x0,.int .i64 x2,.int .u32 x4,.int .u32 x8,.int .i64 x13,.int .i64 x14,.int .i64 x18,.slice A (n - 20) c9]) (by simp [results,Try.results85,go_sem,z0,z1,z2,z3,z4,z5,z6,z7]) rfl ⟨A,n - 20,c9,by rw [H0.out,H2.out,H4.out,H8.out,H13.out,H14.out,H18.out],by rw [HL.out],HNN.out,HOF.out,HBW.out⟩
end Go.Proofs.Ytnofddbfogilaaa.tcpC
namespace Go.Proofs.Ytnofddbfogilaaa.base
end Go.Proofs.Ytnofddbfogilaaa.base
namespace Go.Proofs.Ytnofddbfogilaaa.sumD
end Go.Proofs.Ytnofddbfogilaaa.sumD
namespace Go.Proofs.Ytnofddbfogilaaa.sumE
end Go.Proofs.Ytnofddbfogilaaa.sumE
namespace Go.Proofs.Ytnofddbfogilaaa.sumH
end Go.Proofs.Ytnofddbfogilaaa.sumH
/- Layer 7: numbers put behind bytes, a list of numbers made meanwhile. -/
namespace Go.Proofs.Ytnofddbfogilaaa.octK
set_option maxHeartbeats 400000
set_option maxRecDepth 100000
open Go.ChangeShapes Go.WideShapes Go.ChangeAt Go.RowKit
open base octA octB
set_option linter.unusedVariables false
theorem own_ne {w:World} {base:Nat} {v:Value} {n b:Nat} {xs:List Value} {cs:Array Value} (h:w.ownsRow base 5 1 v n xs) (hb:Blk w b 22 cs):some b≠v.ownBlock:=by
 rcases h.2 with ⟨rfl,_⟩ | ⟨g,cap,cur,rfl,hg,hgg,_⟩
 ·simp [Value.ownBlock]
 ·intro e
  simp [Value.ownBlock] at e
  subst e
  unfold Blk at hb
  rw [hb] at hgg
  injection hgg with h1
  injection h1 with _ h2 _
  exact absurd h2 (by decide)
def PutPostK (b:Nat) (cs:Array Value) (base B:Nat) (a:World) (m k:Nat) (xs:List Value) (ys:List Int) (e:Ending) (w':World):Prop :=
 ∃ v',e=.returned v'∧w'.ownsRow base 5 1 v' (m+k) (xs++ys.map (.int .u8))∧Below B a w'∧base≤w'.heap.size∧Blk w' b 22 cs
theorem put_keep (b:Nat) (cs:Array Value) (v:Value) (m:Nat) (xs:List Value) (n s:Int) (base B:Nat) (a w:World) (hown:w.ownsRow base 5 1 v m xs) (hbase:base≤w.heap.size) (hm:m≤1000000) (hbel:Below B a w) (hB:B≤base) (n0:0≤n) (n1:n<18446744073709551616) (hK:Blk w b 22 cs) :
  Calls Try.prog 58 #[v,.int .u64 n,.int .i64 s] w (PutPostK b cs base B a m (hs s) xs (pb n (hs s) (hs s))):=by
 obtain ⟨i0,hi0,hz0,hz1,hz2⟩:=info_parts info_u8
 have HI0:=Lib.hid hi0
 have HZ0:=Lib.hid hz0
 have HZ1:=Lib.hid hz1
 have HZ2:=Lib.hid hz2
 have HOwn0:=Lib.hid hown
 have HBel0:=Lib.hid hbel
 have hk8:=hs_le s
 have HH:=Lib.hid (fun w=>held_any s w)
 have HK0:=Lib.hid hK
 clear hi0 hz0 hz1 hz2 hown hbel hK
 generalize hs s=k at *
 go_enter Try.func58,Try.ntmps58
 go_wp2_with fail
 refine (HH.out _).mono ?_
 rintro e w' ⟨rfl,rfl⟩
 go_wp2_with fail
 go_loopw [0,7] (fun out i wr=>∃ (j:Nat),j≤k∧i=.int .i64 ((k:Int) - 1 - j)∧wr.ownsRow base 5 1 out (m+j) (xs++(pb n k j).map (.int .u8))∧Below B a wr∧base≤wr.heap.size∧Blk wr b 22 cs) (fun _ i _=>(intOf i+1).toNat)
 case atStart=>exact ⟨0,by omega,by simp,by simpa [pb] using HOwn0.out,HBel0.out,hbase,HK0.out⟩
 case round =>
  obtain ⟨j,hj,rfl,hown,hbel,hbs,hblk⟩:=hrel
  obtain ⟨A3,c3,rfl⟩:=own_slice hown
  have HOwn:=Lib.hid hown
  have HBel:=Lib.hid hbel
  have HBK:=Lib.hid hblk
  by_cases hlt:j<k
  ·obtain ⟨q,hq⟩:∃ q:Nat,k=j+q+1:=⟨k - j - 1,by omega⟩
   have e1:(k:Int) - 1 - j=(q:Int):=by omega
   have hsn:=pb_snoc n k j
   rw [show k - 1 - j=q by omega] at hsn
   have HSN:=Lib.hid hsn
   have hq8:(q:Int)≤7:=by omega
   have hq9:q≤7:=by omega
   have HQ:=Lib.hid hq
   have hdiv:0≤n / 2 ^ (8*q):=Int.ediv_nonneg n0 (Int.le_of_lt (Int.pow_pos (by decide)))
   have hby:IntKind.u8.wrap (n / 2 ^ (8*q))=byteZ n q:=by rw [IntKind.wrap_u8']; rfl
   have hb1:=byteZ_in n q
   rw [e1]
   have hnx:(q:Int) - 1=(k:Int) - 1 - ((j+1:Nat):Int):=by omega
   have HNX:=Lib.hid hnx
   clear hown hbel hblk e1 hsn hq hnx
   go_wp2_with (at_builtin; refine wpList_append_own _ rfl (.tmp 15) (.tmp 21) _ rfl base 5 i0 _ 1 1 Try.underlying47 HI0.out HZ0.out HZ1.out HZ2.out rfl (by omega) _ (m+j) _ rfl (HOwn.out.alloc _) ⟨wr.heap.size,0,none⟩ 1 1 [.int .u8 (byteZ n q)] rfl rfl (one_new _ _ _) (by simp [Value.oneCell']) (by unfold maxLen; omega) (by omega) (by simp; omega) ?_; intro v1 w1 hown1 hg1 _; have HO1:=Lib.hid hown1; have HG1:=Lib.hid hg1; clear hown1 hg1)
   go_roundw
   case rel =>
    refine ⟨j+1,by omega,congrArg (Value.int .i64) HNX.out,?_,below_grown (HBel.out.alloc (by omega) _) (HOwn.out.alloc _) hB (by simp; omega) HG1.out,by have:=HG1.out.size; simp at this; omega,(HBK.out.alloc (.cells #[.int .u8 (byteZ n q)] 5)).grown HG1.out (own_ne (v:=.slice A3 (m+j) c3) (HOwn.out.alloc (.cells #[.int .u8 (byteZ n q)] 5)) (HBK.out.alloc _))⟩
    rw [HSN.out,List.map_append,← List.append_assoc]
    exact HO1.out
   case measure=>first | (simp [intOf]; done) | (simp [intOf]; omega)
  ·obtain rfl:j=k:=by omega
   clear hown hbel hblk
   go_wp2_with fail
   go_ret
   exact ⟨_,rfl,HOwn.out,HBel.out,hbs,HBK.out⟩
theorem all_keep (b:Nat) (cs:Array Value) (v:Value) (m:Nat) (xs:List Value) (s:Int) (n c:Nat) (l:List Int) (base B:Nat) (a w:World) (hown:w.ownsRow base 5 1 v m xs) (hbase:base≤w.heap.size) (hm:m+8*n≤1000000) (hbel:Below B a w) (hB:B≤base)
  (hl:l.length=n) (hK:Blk w b 22 cs) (hcs:cs.toList=l.map (.int .u64)) (hw:∀ x ∈ l,0≤x∧x<18446744073709551616) :
  Calls Try.prog 57 #[v,.int .i64 s,.slice (some ⟨b,0,none⟩) n c] w (PutPostK b cs base B a m (hs s*n) xs (allb (hs s) l)):=by
 have HK0:=Lib.hid hK
 have HCS:=Lib.hid hcs
 have HN:=Lib.hid hl
 have HW:=Lib.hid hw
 have HOwn0:=Lib.hid hown
 have HBel0:=Lib.hid hbel
 have hk8:=hs_le s
 have hkn:hs s*n≤8*n:=Nat.mul_le_mul_right n hk8
 clear hK hcs hl hw hown hbel
 go_enter Try.func57,Try.ntmps57
 go_wp2_with fail
 go_loopw [0,11] (fun out i wr=>∃ (j:Nat),j≤n∧i=.int .i64 j∧wr.ownsRow base 5 1 out (m+hs s*j) (xs++(allb (hs s) (l.take j)).map (.int .u8))∧Below B a wr∧base≤wr.heap.size∧Blk wr b 22 cs) (fun _ i _=>n - (intOf i).toNat)
 case atStart=>exact ⟨0,by omega,rfl,by simpa [allb] using HOwn0.out,HBel0.out,hbase,HK0.out⟩
 case round =>
  obtain ⟨j,hj,rfl,hown,hbel,hbs,hblk⟩:=hrel
  have HOwn:=Lib.hid hown
  have HBel:=Lib.hid hbel
  by_cases hlt:j<n
  ·have hkl:j<l.length:=by rw [HN.out]; exact hlt
   have hcell:wr.cell? ⟨b,j,none⟩=some (.int .u64 (l[j])):=by
    rw [hblk.cell j,← Array.getElem?_toList,HCS.out,List.getElem?_map,List.getElem?_eq_getElem hkl]
    rfl
   have HBK:=Lib.hid hblk
   have hx:=HW.out l[j] (List.getElem_mem hkl)
   have hsn:allb (hs s) (l.take (j+1))=allb (hs s) (l.take j)++pb l[j] (hs s) (hs s):=by rw [take_snoc l j hkl,allb_snoc]
   have HSN:=Lib.hid hsn
   have hmj:hs s*j≤8*j:=Nat.mul_le_mul_right j hk8
   have hmj2:m+hs s*j≤1000000:=by omega
   clear hown hbel hblk hsn hmj
   generalize l[j]=x at *
   obtain ⟨x0,x1⟩:=hx
   go_wp2_with fail
   refine (put_keep b cs _ _ _ x s base B a _ HOwn.out hbs hmj2 HBel.out hB x0 x1 HBK.out).mono ?_
   rintro e w1 ⟨v1,rfl,hown1,hbel1,hbs1,hbk1⟩
   have HO1:=Lib.hid hown1
   have HB1:=Lib.hid hbel1
   have HK1:=Lib.hid hbk1
   clear hown1 hbel1 hbk1
   go_wp2_with fail
   go_roundw
   case rel =>
    refine ⟨j+1,by omega,by go_num,?_,HB1.out,hbs1,HK1.out⟩
    ·rw [HSN.out,List.map_append,← List.append_assoc,Nat.mul_succ,← Nat.add_assoc]
     exact HO1.out
   case measure=>simp [intOf]; omega
  ·obtain rfl:j=n:=by omega
   have hz:l.take j=l:=List.take_of_length_le (by rw [HN.out]; omega)
   rw [hz] at HOwn
   have HBK:=Lib.hid hblk
   clear hown hbel hz hblk
   go_wp2_with fail
   go_ret
   exact ⟨_,rfl,HOwn.out,HBel.out,hbs,HBK.out⟩
end Go.Proofs.Ytnofddbfogilaaa.octK
/- What the cells of a value of plain data are: leaf by leaf, of structs in structs, arrays, slices. -/
namespace Go.Proofs.Ytnofddbfogilaaa.base
open Go.RowKit Go.WideShapes Go.ChangeShapes Go.Joins Go.Deep
set_option linter.unusedVariables false
inductive Leaf where
 | int (k:IntKind)
 | bool
 | str
 | sl (t:TypeId)
def fieldLeafs (P:Program) (rec:TypeId→Option (List Leaf)):List Field→Nat→Option (List Leaf)
 | [],_=>some []
 | f::fs,off=>match rec f.type with
  | some l=>if f.offset=off∧P.cellsOf f.type=l.length then (fieldLeafs P rec fs (off+l.length)).map (l++·) else none
  | none=>none
def many (l:List Leaf):Nat→List Leaf
 | 0=>[]
 | n+1=>many l n++l
def leafs (P:Program):Nat→TypeId→Option (List Leaf)
 | 0,_=>none
 | n+1,t=>match P.underlying t with
  | some .bool=>some [.bool]
  | some (.int k)=>some [.int k]
  | some .string=>some [.str]
  | some (.slice _)=>some [.sl t]
  | some (.struct fs)=>match fieldLeafs P (leafs P n) fs.toList 0 with
   | some l=>if P.cellsOf t=l.length then some l else none
   | none=>none
  | some (.array m e)=>match leafs P n e with
   | some l=>if P.cellsOf e=l.length∧P.cellsOf t=m*l.length then some (many l m) else none
   | none=>none
  | _=>none
section
variable {H:Type} {enc:TypeId × Value→H} {P:Program} {w:World} {base:Nat} {spare:Nat→Bool} {held:Bool}
def LeafOk (enc:TypeId × Value→H) (P:Program) (w:World) (base:Nat) (spare:Nat→Bool) (held:Bool):Leaf→Value→Prop
 | .int k,c=>∃ x,c=.int k x∧(Lit.int k x).wf=true
 | .bool,c=>∃ b,c=.bool b
 | .str,c=>∃ s,c=.string s∧s.size≤maxLen
 | .sl t,c=>∃ n y,DataW.trod enc P w base spare held n t [c]=some y
def Leaves (enc:TypeId × Value→H) (P:Program) (w:World) (base:Nat) (spare:Nat→Bool) (held:Bool):List Leaf→List Value→Prop
 | [],cs=>cs=[]
 | l::ls,cs=>∃ c cs',cs=c::cs'∧LeafOk enc P w base spare held l c∧Leaves enc P w base spare held ls cs'
theorem Leaves.append {a b:List Leaf} {x y:List Value} (ha:Leaves enc P w base spare held a x) (hb:Leaves enc P w base spare held b y):Leaves enc P w base spare held (a++b) (x++y):=by
 induction a generalizing x with
 | nil=>simp only [Leaves] at ha; subst ha; exact hb
 | cons l ls ih =>
  obtain ⟨c,cs,rfl,h1,h2⟩:=ha
  exact ⟨c,cs++y,rfl,h1,ih h2⟩
theorem fields_leaves {rec:TypeId→Option (List Leaf)} (hrec:∀ t l n cs y,rec t=some l→DataW.trod enc P w base spare held n t cs=some y→Leaves enc P w base spare held l cs) :
  ∀ (fs:List Field) (off:Nat) (ls:List Leaf) (cs:List Value),fieldLeafs P rec fs off=some ls →
   (∀ (i:Nat) (f:Field),fs[i]?=some f→∃ n y,DataW.trod enc P w base spare held n f.type ((cs.drop f.offset).take (P.cellsOf f.type))=some y) →
   Leaves enc P w base spare held ls ((cs.drop off).take ls.length):=by
 intro fs
 induction fs with
 | nil =>
  intro off ls cs h _
  simp only [fieldLeafs,Option.some.injEq] at h
  subst h
  simp [Leaves]
 | cons f fs ih =>
  intro off ls cs h hf
  simp only [fieldLeafs] at h
  split at h
  ·rename_i l hl
   split at h
   ·rename_i hc
    obtain ⟨ho,hs⟩:=hc
    cases hr:fieldLeafs P rec fs (off+l.length) with
    | none=>rw [hr] at h; cases h
    | some r =>
     rw [hr] at h
     simp only [Option.map_some,Option.some.injEq] at h
     subst h
     obtain ⟨n,y,h0⟩:=hf 0 f rfl
     have h1:=hrec _ _ _ _ _ hl h0
     have h2:=ih _ _ cs hr (fun i g hg=>hf (i+1) g hg)
     rw [ho,hs] at h1
     have e:(cs.drop off).take (l++r).length=(cs.drop off).take l.length++(cs.drop (off+l.length)).take r.length:=by
      rw [List.length_append,List.take_add,List.drop_drop]
     rw [e]
     exact h1.append h2
   ·cases h
  ·cases h
theorem many_leaves {l:List Leaf} (m:Nat) (cs:List Value) (h:∀ i,i<m→Leaves enc P w base spare held l ((cs.drop (i*l.length)).take l.length)) :
  Leaves enc P w base spare held (many l m) (cs.take (m*l.length)):=by
 induction m with
 | zero=>simp [many,Leaves]
 | succ m ih =>
  have h1:=ih (fun i hi=>h i (by omega))
  have h2:=h m (by omega)
  rw [Nat.succ_mul,List.take_add]
  exact h1.append h2
theorem leaves_of (m:Nat):∀ (t:TypeId) (ls:List Leaf) (n:Nat) (cs:List Value) (y:DataW H × List MemPlace),leafs P m t=some ls→DataW.trod enc P w base spare held n t cs=some y→Leaves enc P w base spare held ls cs:=by
 induction m with
 | zero=>intro t ls n cs y h; simp [leafs] at h
 | succ m ih =>
  intro t ls n cs y h ht
  unfold leafs at h
  cases hu:P.underlying t with
  | none=>rw [hu] at h; simp at h
  | some u =>
   rw [hu] at h
   cases u with
   | bool =>
    simp only [Option.some.injEq] at h
    subst h
    obtain ⟨b,rfl,_⟩:=DataW.trod_bool hu ht
    exact ⟨_,_,rfl,⟨b,rfl⟩,rfl⟩
   | int k =>
    simp only [Option.some.injEq] at h
    subst h
    obtain ⟨x,rfl,_,hx⟩:=DataW.trod_int hu ht
    exact ⟨_,_,rfl,⟨x,rfl,hx⟩,rfl⟩
   | string =>
    simp only [Option.some.injEq] at h
    subst h
    obtain ⟨x,rfl,_,hx⟩:=DataW.trod_string hu ht
    exact ⟨_,_,rfl,⟨x,rfl,hx⟩,rfl⟩
   | slice e =>
    simp only [Option.some.injEq] at h
    subst h
    obtain ⟨a,l,c,rfl⟩:=slice_form hu ht
    exact ⟨_,_,rfl,⟨n,y,ht⟩,rfl⟩
   | struct fs =>
    simp only at h
    split at h
    ·rename_i l hl
     split at h
     ·rename_i hc
      simp only [Option.some.injEq] at h
      subst h
      obtain ⟨xs,k,_,rfl,hlen,hx,hf⟩:=DataW.trod_struct hu ht
      have:=fields_leaves (enc:=enc) (w:=w) (base:=base) (spare:=spare) (held:=held) (fun t l n cs y=>ih t l n cs y) fs.toList 0 l cs hl (fun i f hi=>by
       have hi':fs[i]?=some f:=by simpa using hi
       have g:=hf i f hi'
       have hlt:i<fs.size:=(Array.getElem?_eq_some_iff.1 hi').1
       rw [List.getElem?_eq_getElem (by omega)] at g
       exact ⟨_,_,g⟩)
      rw [List.drop_zero,List.take_of_length_le (by omega)] at this
      exact this
     ·cases h
    ·cases h
   | array k e =>
    simp only at h
    split at h
    ·rename_i l hl
     split at h
     ·rename_i hc
      simp only [Option.some.injEq] at h
      subst h
      obtain ⟨xs,n',_,rfl,hlen,hx,hf⟩:=DataW.trod_array hu ht
      have:=many_leaves (enc:=enc) (P:=P) (w:=w) (base:=base) (spare:=spare) (held:=held) (l:=l) k cs (fun i hi=>by
       have g:=hf i hi
       rw [List.getElem?_eq_getElem (by omega)] at g
       rw [← hc.1]
       exact ih e l _ _ _ hl g)
      rw [List.take_of_length_le (by omega)] at this
      exact this
     ·cases h
    ·cases h
   | _=>simp at h
theorem open_leaves {r:Reach} {b0:Nat} {t:TypeId} {fs:Array Field} {v:Value} {d:DataW H} {p:List MemPlace} (m:Nat) (ls:List Leaf) (hs:P.underlying t=some (.struct fs)) (hl:leafs P m t=some ls)
  (hv:Value.okWide P w r b0 t v) (h:DataW.Trod enc P w base spare held t v d p):∃ cs:List Value,v=.agg cs.toArray∧Leaves enc P w base spare held ls cs:=by
 obtain ⟨cs,rfl,hsz⟩:=okWide_struct hs hv
 obtain ⟨n,hn⟩:=h
 exact ⟨cs.toList,by simp,leaves_of m t ls n _ _ hl hn⟩
end
end Go.Proofs.Ytnofddbfogilaaa.base
/- What the packages over octet and sum share: facts carried over a step, bytes of numbers, what comes in. -/
namespace Go.Proofs.Ytnofddbfogilaaa.net
open Go.ChangeShapes Go.WideShapes Go.ChangeAt Go.RowKit Go.Joins Go.Deep
open base sumA sumB octA rdrA
set_option linter.unusedVariables false
theorem pb_two (x:Int) (h0:0≤x) (h1:x≤65535):pb x 2 2=[x / 256,x % 256]:=by
 show [byteZ x (2 - 1 - 0),byteZ x (2 - 1 - 1)]=_
 unfold byteZ
 have a:x / 2 ^ (8*(2 - 1 - 0))=x / 256:=rfl
 have b:x / 2 ^ (8*(2 - 1 - 1))=x:=by show x / 1=x; omega
 rw [a,b]
 congr 1
 omega
theorem own_keep {w w':World} {base n:Nat} {e:TypeId} {v:Value} {xs:List Value} (h:w.ownsRow base e 1 v n xs) (hb:Below w.heap.size w w'):w'.ownsRow base e 1 v n xs:=by
 refine ⟨h.1,?_⟩
 rcases h.2 with hn | ⟨g,cap,cur,rfl,hg,hgg,rest⟩
 ·exact .inl hn
 ·exact .inr ⟨g,cap,cur,rfl,hg,(hb.block g (Array.getElem?_eq_some_iff.1 hgg).1).trans hgg,rest⟩
theorem bneT {a b:Int} (h:a≠b):(a != b)=true:=by simpa using h
theorem bneF {a b:Int} (h:a=b):(a != b)=false:=by subst h; simp
theorem eqT {a b:Int} (h:a=b):(a == b)=true:=by simpa using h
theorem eqF {a b:Int} (h:a≠b):(a == b)=false:=by simpa using h
theorem wsum_app:∀ (n:Nat) (a b:List Int),a.length=2*n→wsum (a++b)=wsum a+wsum b:=by
 intro n
 induction n with
 | zero=>intro a b h; have e:a=[]:=List.eq_nil_of_length_eq_zero (by omega); subst e; simp [wsum]
 | succ n ih =>
  intro a b h
  match a,h with
  | x::y::a,h =>
   have:=ih a b (by simp at h; omega)
   show wsum (x::y::(a++b))=wsum (x::y::a)+wsum b
   simp only [wsum]
   rw [this]
   omega
theorem pb_four (x:Int) (h0:0≤x) (h1:x≤4294967295):pb x 4 4=[x / 65536 / 256,x / 65536 % 256,x % 65536 / 256,x % 65536 % 256]:=by
 show [byteZ x 3,byteZ x 2,byteZ x 1,byteZ x 0]=_
 unfold byteZ
 have a:x / 2 ^ (8*3)=x / 16777216:=rfl
 have b:x / 2 ^ (8*2)=x / 65536:=rfl
 have c:x / 2 ^ (8*1)=x / 256:=rfl
 have d:x / 2 ^ (8*0)=x:=by show x / 1=x; omega
 rw [a,b,c,d]
 congr 1
 ·omega
 ·congr 1
  congr 1
  ·omega
  ·congr 1
   omega
theorem pb_one (x:Int) (h0:0≤x) (h1:x≤255):pb x 1 1=[x]:=by
 show [byteZ x 0]=_
 unfold byteZ
 have d:x / 2 ^ (8*0)=x:=by show x / 1=x; omega
 rw [d]
 congr 1
 omega
theorem fo_full (s:Int) (h:0≤s):fo (s+(65535 - fo s))=65535∨fo s=65535:=by
 have a:=fo_bd s h
 have b:=fo_add (x:=s) (t:=65535 - fo s) h (by omega)
 refine .inl ?_
 rw [← b,show fo s+(65535 - fo s)=65535 by omega]
 rfl
theorem take_u8 {l:List Int} {m:Nat} (h:∀ x ∈ l,(Lit.int .u8 x).wf=true):∀ x ∈ l.take m,0≤x∧x≤255:=fun x hx=>bounds_u8 (h x (List.mem_of_mem_take hx))
section
variable {H:Type} {enc:TypeId × Value→H} {P:Program} {w:World} {base:Nat} {held:Bool}
end
section
variable {w w':World}
theorem Rdr_keep {B g:Nat} {l:List Int} (h:Rdr w B g l) (hB:B≤w.heap.size) (hb:Below w.heap.size w w'):Rdr w' B g l:=h.below hb hB h.lt
end
end Go.Proofs.Ytnofddbfogilaaa.net
