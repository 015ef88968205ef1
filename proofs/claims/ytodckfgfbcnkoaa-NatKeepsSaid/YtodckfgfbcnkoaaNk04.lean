/- 6 texts in one. -/
import Derived.Deep.QuietTactic
import Derived.BigQuiet
import Derived.Test.YtodckfgfbcnkoaaNk01
import Derived.Test.YtodckfgfbcnkoaaNk02
import Derived.Test.YtodckfgfbcnkoaaNk03
set_option linter.unusedVariables false
open Go.ChangeShapes Go.WideShapes Go.ChangeAt Go.RowKit
/- Layer 10: a reader's rest; the header that bytes begin with. -/
namespace Go.Proofs.Ytodckfgfbcnkoaa.tcpC
set_option maxHeartbeats 4000000
set_option maxRecDepth 100000
open base octA octB octF rdrA udpA
theorem left_any (B g:Nat) (l:List Int) (w:World) (h:Rdr w B g l) :
  Calls Try.prog 96 #[.pointer (some ⟨g,0,none⟩)] w fun e w'=>e=.returned (.int .i64 (l.length:Int))∧w=w':=by
 obtain ⟨b,off,c,hblk,_⟩:=h
 have c0:w.cell? ⟨g,0,none⟩=some (.slice (some ⟨b,off,none⟩) l.length c):=hblk.cell 0
 clear hblk
 generalize l.length=n at *
 go_enter Try.func96,Try.ntmps96
 go_wp2
 go_ret
 exact ⟨rfl,rfl⟩
def RestPost (w:World) (g:Nat) (l:List Int) (e:Ending) (w':World):Prop :=
 ∃ v w1,e=.returned v∧Only g w w1∧w'.ownsRow w1.heap.size 5 1 v l.length (l.map (.int .u8))∧Below w1.heap.size w1 w'
theorem rest_big (B g:Nat) (l:List Int) (w:World) (hB:B≤g) (h:Rdr w B g l) (hn:l.length≤100000) :
  Calls Try.prog 81 #[.pointer (some ⟨g,0,none⟩)] w (RestPost w g l):=by
 have hg:=h.lt
 have HL:=Lib.hid (left_any B g l w h)
 have HRW:=Lib.hid (raw_any B g l.length l w hB h (Nat.le_refl _))
 have HT:=Lib.hid (show l.take l.length=l from List.take_length)
 have HN:=Lib.hid (show l.length=l.length from rfl)
 clear h
 generalize hm:l.length=m at *
 have HM:=Lib.hid hm
 clear hm
 go_enter Try.func81,Try.ntmps81
 go_wp2_with fail
 refine HL.out.mono ?_
 rintro e w' ⟨rfl,rfl⟩
 go_wp2_with fail
 refine HRW.out.mono ?_
 rintro e w1 ⟨b,off,rfl,hbB,hlies,_,hon⟩
 rw [HT.out] at hlies
 have HC:=Lib.hid (clone_big (some ⟨b,off,none⟩) m m l w1 HM.out hn (by intro h; cases h) (hlies.row (by rw [hon.size]; omega)))
 have HON:=Lib.hid hon
 clear hlies hon
 go_wp2_with fail
 refine HC.out.mono ?_
 rintro e w2 ⟨v,rfl,hown,hbel,_⟩
 have HO:=Lib.hid hown
 have HB2:=Lib.hid hbel
 clear hown hbel
 go_wp2_with fail
 go_ret
 exact ⟨_,w1,rfl,HON.out,by rw [HM.out]; exact HO.out,HB2.out⟩
theorem rest_any (B g:Nat) (l:List Int) (w:World) (hB:B≤g) (h:Rdr w B g l) (hn:l.length≤1000) :
  Calls Try.prog 81 #[.pointer (some ⟨g,0,none⟩)] w (RestPost w g l):=rest_big B g l w hB h (by omega)
theorem atN_one (l:List Int) (i:Nat):atN (l.drop i) 0 1=l.getD i 0:=by
 show 0*256+(l.drop i).getD (0+0) 0=_
 rw [List.getD_eq_getElem?_getD,List.getElem?_drop,← List.getD_eq_getElem?_getD]
 simp
def w32 (l:List Int) (i:Nat):Int:=w16 l i*65536+w16 l (i+2)
theorem atN_four (l:List Int) (i:Nat):atN (l.drop i) 0 4=w32 l i:=by
 have e:∀ j,(l.drop i).getD j 0=l.getD (i+j) 0:=fun j=>by
  rw [List.getD_eq_getElem?_getD,List.getD_eq_getElem?_getD,List.getElem?_drop]
 show (((0*256+(l.drop i).getD (0+0) 0)*256+(l.drop i).getD (0+1) 0)*256+(l.drop i).getD (0+2) 0)*256+(l.drop i).getD (0+3) 0=_
 rw [e,e,e,e]
 unfold w32 w16
 simp only [Nat.add_zero,Nat.zero_add,Nat.add_assoc]
 show _=(l.getD i 0*256+l.getD (i+1) 0)*65536+(l.getD (i+2) 0*256+l.getD (i+3) 0)
 omega
theorem w32_in (l:List Int) (hb:∀ x ∈ l,0≤x∧x≤255) (i:Nat):0≤w32 l i∧w32 l i≤4294967295:=by
 have a:=w16_in l hb i
 have b:=w16_in l hb (i+2)
 unfold w32
 omega
def NPost (w:World) (B g i k:Nat) (v:Int) (l:List Int) (e:Ending) (w':World):Prop :=
 e=.returned (.int .u64 v)∧Rdr w' B g (l.drop (i+k))∧Only g w w'
theorem num_one (B g i:Nat) (l:List Int) (w:World) (hB:B≤g) (h:Rdr w B g (l.drop i)) (hk:i+1≤l.length) (hb:∀ x ∈ l,0≤x∧x≤255) :
  Calls Try.prog 76 #[.pointer (some ⟨g,0,none⟩),.int .i64 1] w (NPost w B g i 1 (l.getD i 0) l):=by
 refine (num_any B g 1 (l.drop i) w hB h (by rw [List.length_drop]; omega) (by omega) (drop_u8 hb i)).mono ?_
 rintro e w' ⟨rfl,h1,h2⟩
 exact ⟨by rw [atN_one],by rwa [List.drop_drop] at h1,h2⟩
theorem num_four (B g i:Nat) (l:List Int) (w:World) (hB:B≤g) (h:Rdr w B g (l.drop i)) (hk:i+4≤l.length) (hb:∀ x ∈ l,0≤x∧x≤255) :
  Calls Try.prog 76 #[.pointer (some ⟨g,0,none⟩),.int .i64 4] w (NPost w B g i 4 (w32 l i) l):=by
 refine (num_any B g 4 (l.drop i) w hB h (by rw [List.length_drop]; omega) (by omega) (drop_u8 hb i)).mono ?_
 rintro e w' ⟨rfl,h1,h2⟩
 exact ⟨by rw [atN_four],by rwa [List.drop_drop] at h1,h2⟩
def ReadPost (w:World) (l:List Int) (e:Ending) (w':World):Prop :=
 ∃ A n c,e=.returned (.agg #[.int .i64 (w16 l 0),.int .i64 (w16 l 2),.int .u32 (w32 l 4),.int .u32 (w32 l 8),.int .i64 (l.getD 13 0),.int .i64 (w16 l 14),.int .i64 (w16 l 18),.slice A n c])∧n=l.length - 20∧(A=none→c=0)∧w'.ownsRow w.heap.size 5 1 (.slice A n c) n ((l.drop 20).map (.int .u8))∧Below w.heap.size w w'
theorem own_none {w:World} {base:Nat} {e:TypeId} {A:Option Addr} {n c:Nat} {xs:List Value} (h:w.ownsRow base e 1 (.slice A n c) n xs):A=none→c=0:=fun hA=>by
 rcases octE.own_cases h with ⟨h,_⟩ | ⟨g,cap,h,_⟩
 ·injection h
 ·injection h with h; rw [hA] at h; cases h
theorem read_any (b off n c:Nat) (l:List Int) (w:World) (hl:l.length=n) (hn:20≤n) (hn2:n≤1000) (hnc:n≤c) (hc:c≤9223372036854775807) (hb:b<w.heap.size) (hs:Lies w b off l) (hx:∀ x ∈ l,0≤x∧x≤255) :
  Calls Try.prog 100 #[.slice (some ⟨b,off,none⟩) n c] w (ReadPost w l):=by
 have HL:=Lib.hid hl
 have HX:=Lib.hid hx
 have k0:=w16_in l hx 0
 have k2:=w16_in l hx 2
 have k4:=w32_in l hx 4
 have k8:=w32_in l hx 8
 have k13:=getD_in l hx 13
 have k14:=w16_in l hx 14
 have k18:=w16_in l hx 18
 have v4:IntKind.u32.wrap (w32 l 4)=w32 l 4:=by rw [IntKind.wrap_u32]; omega
 have v8:IntKind.u32.wrap (w32 l 8)=w32 l 8:=by rw [IntKind.wrap_u32]; omega
 have V4:=Lib.hid v4
 have V8:=Lib.hid v8
 clear v4 v8
 have hz:(w.alloc (.cells #[.int .i64 0,.int .i64 0,.int .u32 0,.int .u32 0,.int .i64 0,.int .i64 0,.int .i64 0,.slice none 0 0] 93)).heap.size=w.heap.size+1:=by simp
 have HR0:=Lib.hid (read_rdr b off n c w.heap.size l (w.alloc (.cells #[.int .i64 0,.int .i64 0,.int .u32 0,.int .u32 0,.int .i64 0,.int .i64 0,.int .i64 0,.slice none 0 0] 93)) hl hnc hc hb (by simp) (hs.below ((Below.refl _ _).alloc (Nat.le_refl _) _) hb))
 have HZ:=Lib.hid hz
 have HB0:=Lib.hid (show Below w.heap.size w (w.alloc (.cells #[.int .i64 0,.int .i64 0,.int .u32 0,.int .u32 0,.int .i64 0,.int .i64 0,.int .i64 0,.slice none 0 0] 93)) from (Below.refl _ _).alloc (Nat.le_refl _) _)
 have HRES:=Lib.hid (Blk.new w 93 #[.int .i64 0,.int .i64 0,.int .u32 0,.int .u32 0,.int .i64 0,.int .i64 0,.int .i64 0,.slice none 0 0])
 have HLD:=Lib.hid (show (l.drop 20).length=n - 20 by rw [List.length_drop,hl])
 clear hs hx hl hz
 generalize h0:w16 l 0=x0 at *
 generalize h2:w16 l 2=x2 at *
 generalize h4:w32 l 4=x4 at *
 generalize h8:w32 l 8=x8 at *
 generalize h13:l.getD 13 0=x13 at *
 generalize h14:w16 l 14=x14 at *
 generalize h18:w16 l 18=x18 at *
 have H0:=Lib.hid h0
 have H2:=Lib.hid h2
 have H4:=Lib.hid h4
 have H8:=Lib.hid h8
 have H13:=Lib.hid h13
 have H14:=Lib.hid h14
 have H18:=Lib.hid h18
 clear h0 h2 h4 h8 h13 h14 h18
 go_enter Try.func100,Try.ntmps100
 go_wp2_with fail
 refine HR0.out.mono ?_
 rintro e w1 ⟨rfl,hrdr,hbel,hsz⟩
 rw [HZ.out] at hrdr hbel hsz
 have HR:=Lib.hid hrdr
 have HB:=Lib.hid (HB0.out.trans (hbel.mono (by omega)))
 have HRS:=Lib.hid (HRES.out.below hbel (by omega))
 have s1:w.heap.size+1<w1.heap.size:=by omega
 clear hrdr hbel hsz HR0 HB0 HRES
 go_wp2_with fail
 refine (num_two w.heap.size (w.heap.size+1) 0 l _ (by omega) HR.out (by rw [HL.out]; omega) HX.out).mono ?_
 rintro e w2 ⟨he,hrdr,hon⟩
 rw [H0.out] at he
 subst he
 have HR9:=Lib.hid hrdr
 have HB9:=Lib.hid (hon.from HB.out (by omega))
 have HRS9:=Lib.hid (hon.blk HRS.out (by omega))
 have s9:w.heap.size+1<w2.heap.size:=by rw [hon.size]; exact s1
 clear hrdr hon HR HB HRS s1
 have HR:=HR9
 have HB:=HB9
 have HRS:=HRS9
 have s1:=s9
 clear HR9 HB9 HRS9 s9
 go_wp2_with fail
 refine (num_two w.heap.size (w.heap.size+1) 2 l _ (by omega) HR.out (by rw [HL.out]; omega) HX.out).mono ?_
 rintro e w3 ⟨he,hrdr,hon⟩
 rw [H2.out] at he
 subst he
 have HR9:=Lib.hid hrdr
 have HB9:=Lib.hid (hon.from HB.out (by omega))
 have HRS9:=Lib.hid (hon.blk HRS.out (by omega))
 have s9:w.heap.size+1<w3.heap.size:=by rw [hon.size]; exact s1
 clear hrdr hon HR HB HRS s1
 have HR:=HR9
 have HB:=HB9
 have HRS:=HRS9
 have s1:=s9
 clear HR9 HB9 HRS9 s9
 have HR9:=Lib.hid (HR.out.below ((Below.refl w3.heap.size w3).alloc (Nat.le_refl _) (.cells #[.int .i64 x0,.int .i64 x2,.int .u32 0,.int .u32 0,.int .i64 0,.int .i64 0,.int .i64 0,.slice none 0 0] 93)) (by omega) (by omega))
 have HB9:=Lib.hid (HB.out.alloc (by omega) (.cells #[.int .i64 x0,.int .i64 x2,.int .u32 0,.int .u32 0,.int .i64 0,.int .i64 0,.int .i64 0,.slice none 0 0] 93))
 have HRS9:=Lib.hid (HRS.out.alloc (.cells #[.int .i64 x0,.int .i64 x2,.int .u32 0,.int .u32 0,.int .i64 0,.int .i64 0,.int .i64 0,.slice none 0 0] 93))
 have HH:=Lib.hid (Blk.new w3 93 #[.int .i64 x0,.int .i64 x2,.int .u32 0,.int .u32 0,.int .i64 0,.int .i64 0,.int .i64 0,.slice none 0 0])
 have s9:w3.heap.size<(w3.alloc (.cells #[.int .i64 x0,.int .i64 x2,.int .u32 0,.int .u32 0,.int .i64 0,.int .i64 0,.int .i64 0,.slice none 0 0] 93)).heap.size:=by simp
 have s10:=s1
 clear HR HB HRS s1
 go_wp2_with fail
 generalize hh:w3.heap.size=h at *
 clear hh
 generalize w3.alloc (.cells #[.int .i64 x0,.int .i64 x2,.int .u32 0,.int .u32 0,.int .i64 0,.int .i64 0,.int .i64 0,.slice none 0 0] 93)=w4 at *
 have HR:=HR9
 have HB:=HB9
 have HRS:=HRS9
 have s1:=s9
 clear HR9 HB9 HRS9 s9
 refine (num_four w.heap.size (w.heap.size+1) 4 l _ (by omega) HR.out (by rw [HL.out]; omega) HX.out).mono ?_
 rintro e w5 ⟨he,hrdr,hon⟩
 rw [H4.out] at he
 subst he
 have HR9:=Lib.hid hrdr
 have HB9:=Lib.hid (hon.from HB.out (by omega))
 have HRS9:=Lib.hid (hon.blk HRS.out (by omega))
 have HH9:=Lib.hid (hon.blk HH.out (by omega))
 have s9:h<w5.heap.size:=by rw [hon.size]; exact s1
 clear hrdr hon HR HB HRS s1 HH
 have HR:=HR9
 have HB:=HB9
 have HRS:=HRS9
 have s1:=s9
 have HH:=HH9
 clear HH9
 clear HR9 HB9 HRS9 s9
 go_wp2_with fail
 refine (num_four w.heap.size (w.heap.size+1) 8 l _ (by omega) HR.out (by rw [HL.out]; omega) HX.out).mono ?_
 rintro e w6 ⟨he,hrdr,hon⟩
 rw [H8.out] at he
 subst he
 have HR9:=Lib.hid hrdr
 have HB9:=Lib.hid (hon.from HB.out (by omega))
 have HRS9:=Lib.hid (hon.blk HRS.out (by omega))
 have HH9:=Lib.hid (hon.blk HH.out (by omega))
 have s9:h<w6.heap.size:=by rw [hon.size]; exact s1
 clear hrdr hon HR HB HRS s1 HH
 have HR:=HR9
 have HB:=HB9
 have HRS:=HRS9
 have s1:=s9
 have HH:=HH9
 clear HH9
 clear HR9 HB9 HRS9 s9
 have o2:w6.cell? ⟨h,2,none⟩=some (.int .u32 0):=HH.out.cell 2
 have g2:w6.frozen? ⟨h,2,none⟩=false:=HH.out.frozen 2
 have o3:w6.cell? ⟨h,3,none⟩=some (.int .u32 0):=HH.out.cell 3
 have g3:w6.frozen? ⟨h,3,none⟩=false:=HH.out.frozen 3
 have HH9:=Lib.hid ((HH.out.set_ 2 (.int .u32 x4)).set_ 3 (.int .u32 x8))
 have HRS9:=Lib.hid ((HRS.out.far (p:=⟨h,2,none⟩) (show w.heap.size≠h by omega) (.int .u32 x4)).far (p:=⟨h,3,none⟩) (show w.heap.size≠h by omega) (.int .u32 x8))
 have HB9:=Lib.hid ((HB.out.setCell (p:=⟨h,2,none⟩) (show w.heap.size≤h by omega) (.int .u32 x4)).setCell (p:=⟨h,3,none⟩) (show w.heap.size≤h by omega) (.int .u32 x8))
 have v4:=V4.out
 have v8:=V8.out
 go_wp2_with fail
 clear v4 v8
 have HR9:=Lib.hid (HR.out.below (((Below.refl h w6).setCell (p:=⟨h,2,none⟩) (Nat.le_refl h) (.int .u32 x4)).setCell (p:=⟨h,3,none⟩) (Nat.le_refl h) (.int .u32 x8)) (by omega) (by omega))
 have s9:h<((w6.setCell ⟨h,2,none⟩ (.int .u32 x4)).setCell ⟨h,3,none⟩ (.int .u32 x8)).heap.size:=by simpa using s1
 clear HR HB HRS HH s1 o2 g2 o3 g3
 generalize ((w6.setCell ⟨h,2,none⟩ (.int .u32 x4)).setCell ⟨h,3,none⟩ (.int .u32 x8))=w7 at *
 have HR:=HR9
 have HB:=HB9
 have HRS:=HRS9
 have HH:=HH9
 have s1:=s9
 clear HR9 HB9 HRS9 HH9 s9
 refine (num_one w.heap.size (w.heap.size+1) 12 l _ (by omega) HR.out (by rw [HL.out]; omega) HX.out).mono ?_
 rintro e w8 ⟨he,hrdr,hon⟩
 subst he
 have HR9:=Lib.hid hrdr
 have HB9:=Lib.hid (hon.from HB.out (by omega))
 have HRS9:=Lib.hid (hon.blk HRS.out (by omega))
 have HH9:=Lib.hid (hon.blk HH.out (by omega))
 have s9:h<w8.heap.size:=by rw [hon.size]; exact s1
 clear hrdr hon HR HB HRS s1 HH
 have HR:=HR9
 have HB:=HB9
 have HRS:=HRS9
 have s1:=s9
 have HH:=HH9
 clear HH9
 clear HR9 HB9 HRS9 s9
 generalize l.getD 12 0=x12 at *
 go_wp2_with fail
 refine (num_one w.heap.size (w.heap.size+1) 13 l _ (by omega) HR.out (by rw [HL.out]; omega) HX.out).mono ?_
 rintro e w9 ⟨he,hrdr,hon⟩
 rw [H13.out] at he
 subst he
 have HR9:=Lib.hid hrdr
 have HB9:=Lib.hid (hon.from HB.out (by omega))
 have HRS9:=Lib.hid (hon.blk HRS.out (by omega))
 have HH9:=Lib.hid (hon.blk HH.out (by omega))
 have s9:h<w9.heap.size:=by rw [hon.size]; exact s1
 clear hrdr hon HR HB HRS s1 HH
 have HR:=HR9
 have HB:=HB9
 have HRS:=HRS9
 have s1:=s9
 have HH:=HH9
 clear HH9
 clear HR9 HB9 HRS9 s9
 go_wp2_with fail
 refine (num_two w.heap.size (w.heap.size+1) 14 l _ (by omega) HR.out (by rw [HL.out]; omega) HX.out).mono ?_
 rintro e w10 ⟨he,hrdr,hon⟩
 rw [H14.out] at he
 subst he
 have HR9:=Lib.hid hrdr
 have HB9:=Lib.hid (hon.from HB.out (by omega))
 have HRS9:=Lib.hid (hon.blk HRS.out (by omega))
 have HH9:=Lib.hid (hon.blk HH.out (by omega))
 have s9:h<w10.heap.size:=by rw [hon.size]; exact s1
 clear hrdr hon HR HB HRS s1 HH
 have HR:=HR9
 have HB:=HB9
 have HRS:=HRS9
 have s1:=s9
 have HH:=HH9
 clear HH9
 clear HR9 HB9 HRS9 s9
 have o4:w10.cell? ⟨h,4,none⟩=some (.int .i64 0):=HH.out.cell 4
 have g4:w10.frozen? ⟨h,4,none⟩=false:=HH.out.frozen 4
 have o5:w10.cell? ⟨h,5,none⟩=some (.int .i64 0):=HH.out.cell 5
 have g5:w10.frozen? ⟨h,5,none⟩=false:=HH.out.frozen 5
 have HH9:=Lib.hid ((HH.out.set_ 4 (.int .i64 x13)).set_ 5 (.int .i64 x14))
 have HRS9:=Lib.hid ((HRS.out.far (p:=⟨h,4,none⟩) (show w.heap.size≠h by omega) (.int .i64 x13)).far (p:=⟨h,5,none⟩) (show w.heap.size≠h by omega) (.int .i64 x14))
 have HB9:=Lib.hid ((HB.out.setCell (p:=⟨h,4,none⟩) (show w.heap.size≤h by omega) (.int .i64 x13)).setCell (p:=⟨h,5,none⟩) (show w.heap.size≤h by omega) (.int .i64 x14))
 go_wp2_with fail
 have HR9:=Lib.hid (HR.out.below (((Below.refl h w10).setCell (p:=⟨h,4,none⟩) (Nat.le_refl h) (.int .i64 x13)).setCell (p:=⟨h,5,none⟩) (Nat.le_refl h) (.int .i64 x14)) (by omega) (by omega))
 have s9:h<((w10.setCell ⟨h,4,none⟩ (.int .i64 x13)).setCell ⟨h,5,none⟩ (.int .i64 x14)).heap.size:=by simpa using s1
 clear HR HB HRS HH s1 o4 g4 o5 g5
 generalize ((w10.setCell ⟨h,4,none⟩ (.int .i64 x13)).setCell ⟨h,5,none⟩ (.int .i64 x14))=w11 at *
 have HR:=HR9
 have HB:=HB9
 have HRS:=HRS9
 have HH:=HH9
 have s1:=s9
 clear HR9 HB9 HRS9 HH9 s9
 refine (num_two w.heap.size (w.heap.size+1) 16 l _ (by omega) HR.out (by rw [HL.out]; omega) HX.out).mono ?_
 rintro e w12 ⟨he,hrdr,hon⟩
 subst he
 have HR9:=Lib.hid hrdr
 have HB9:=Lib.hid (hon.from HB.out (by omega))
 have HRS9:=Lib.hid (hon.blk HRS.out (by omega))
 have HH9:=Lib.hid (hon.blk HH.out (by omega))
 have s9:h<w12.heap.size:=by rw [hon.size]; exact s1
 clear hrdr hon HR HB HRS s1 HH
 have HR:=HR9
 have HB:=HB9
 have HRS:=HRS9
 have s1:=s9
 have HH:=HH9
 clear HH9
 clear HR9 HB9 HRS9 s9
 generalize w16 l 16=x16 at *
 go_wp2_with fail
 refine (num_two w.heap.size (w.heap.size+1) 18 l _ (by omega) HR.out (by rw [HL.out]; omega) HX.out).mono ?_
 rintro e w13 ⟨he,hrdr,hon⟩
 rw [H18.out] at he
 subst he
 have HR9:=Lib.hid hrdr
 have HB9:=Lib.hid (hon.from HB.out (by omega))
 have HRS9:=Lib.hid (hon.blk HRS.out (by omega))
 have HH9:=Lib.hid (hon.blk HH.out (by omega))
 have s9:h<w13.heap.size:=by rw [hon.size]; exact s1
 clear hrdr hon HR HB HRS s1 HH
 have HR:=HR9
 have HB:=HB9
 have HRS:=HRS9
 have s1:=s9
 have HH:=HH9
 clear HH9
 clear HR9 HB9 HRS9 s9
 have o6:w13.cell? ⟨h,6,none⟩=some (.int .i64 0):=HH.out.cell 6
 have g6:w13.frozen? ⟨h,6,none⟩=false:=HH.out.frozen 6
 have HH9:=Lib.hid (HH.out.set_ 6 (.int .i64 x18))
 have HRS9:=Lib.hid (HRS.out.far (p:=⟨h,6,none⟩) (show w.heap.size≠h by omega) (.int .i64 x18))
 have HB9:=Lib.hid (HB.out.setCell (p:=⟨h,6,none⟩) (show w.heap.size≤h by omega) (.int .i64 x18))
 go_wp2_with fail
 have HR9:=Lib.hid (HR.out.below ((Below.refl h w13).setCell (p:=⟨h,6,none⟩) (Nat.le_refl h) (.int .i64 x18)) (by omega) (by omega))
 have s9:h<(w13.setCell ⟨h,6,none⟩ (.int .i64 x18)).heap.size:=by simpa using s1
 clear HR HB HRS HH s1 o6 g6
 generalize (w13.setCell ⟨h,6,none⟩ (.int .i64 x18))=w14 at *
 have HR:=HR9
 have HB:=HB9
 have HRS:=HRS9
 have HH:=HH9
 have s1:=s9
 clear HR9 HB9 HRS9 HH9 s9
 refine (rest_any w.heap.size (w.heap.size+1) (l.drop 20) _ (by omega) HR.out (by rw [HLD.out]; omega)).mono ?_
 rintro e w16 ⟨v,w15,rfl,hon,hown,hbel⟩
 rw [HLD.out] at hown
 obtain ⟨A,c9,rfl⟩:=own_slice hown
 have hnn:=own_none hown
 have sz:w15.heap.size=w14.heap.size:=hon.size
 have HH9:=Lib.hid ((hon.blk HH.out (by omega)).below hbel (by omega))
 have HRS9:=Lib.hid ((hon.blk HRS.out (by omega)).below hbel (by omega))
 have HB9:=Lib.hid ((hon.from HB.out (by omega)).trans (hbel.mono (by omega)))
 have HOW:=Lib.hid (own_base hown (show h+1≤w15.heap.size by omega))
 have HNN:=Lib.hid hnn
 clear hon hown hbel hnn HH HRS HB HR sz
 have o7:w16.cell? ⟨h,7,none⟩=some (.slice none 0 0):=HH9.out.cell 7
 have g7:w16.frozen? ⟨h,7,none⟩=false:=HH9.out.frozen 7
 have o0:w16.cell? ⟨h,0,none⟩=some (.int .i64 x0):=HH9.out.cell 0
 have o1:w16.cell? ⟨h,1,none⟩=some (.int .i64 x2):=HH9.out.cell 1
 have o2:w16.cell? ⟨h,2,none⟩=some (.int .u32 x4):=HH9.out.cell 2
 have o3:w16.cell? ⟨h,3,none⟩=some (.int .u32 x8):=HH9.out.cell 3
 have o4:w16.cell? ⟨h,4,none⟩=some (.int .i64 x13):=HH9.out.cell 4
 have o5:w16.cell? ⟨h,5,none⟩=some (.int .i64 x14):=HH9.out.cell 5
 have o6:w16.cell? ⟨h,6,none⟩=some (.int .i64 x18):=HH9.out.cell 6
 have r0:w16.cell? ⟨w.heap.size,0,none⟩=some (.int .i64 0):=HRS9.out.cell 0
 have q0:w16.frozen? ⟨w.heap.size,0,none⟩=false:=HRS9.out.frozen 0
 have r1:w16.cell? ⟨w.heap.size,1,none⟩=some (.int .i64 0):=HRS9.out.cell 1
 have q1:w16.frozen? ⟨w.heap.size,1,none⟩=false:=HRS9.out.frozen 1
 have r2:w16.cell? ⟨w.heap.size,2,none⟩=some (.int .u32 0):=HRS9.out.cell 2
 have q2:w16.frozen? ⟨w.heap.size,2,none⟩=false:=HRS9.out.frozen 2
 have r3:w16.cell? ⟨w.heap.size,3,none⟩=some (.int .u32 0):=HRS9.out.cell 3
 have q3:w16.frozen? ⟨w.heap.size,3,none⟩=false:=HRS9.out.frozen 3
 have r4:w16.cell? ⟨w.heap.size,4,none⟩=some (.int .i64 0):=HRS9.out.cell 4
 have q4:w16.frozen? ⟨w.heap.size,4,none⟩=false:=HRS9.out.frozen 4
 have r5:w16.cell? ⟨w.heap.size,5,none⟩=some (.int .i64 0):=HRS9.out.cell 5
 have q5:w16.frozen? ⟨w.heap.size,5,none⟩=false:=HRS9.out.frozen 5
 have r6:w16.cell? ⟨w.heap.size,6,none⟩=some (.int .i64 0):=HRS9.out.cell 6
 have q6:w16.frozen? ⟨w.heap.size,6,none⟩=false:=HRS9.out.frozen 6
 have r7:w16.cell? ⟨w.heap.size,7,none⟩=some (.slice none 0 0):=HRS9.out.cell 7
 have q7:w16.frozen? ⟨w.heap.size,7,none⟩=false:=HRS9.out.frozen 7
 have ne1:¬ h=w.heap.size:=by omega
 have ne2:¬ w.heap.size=h:=by omega
 go_wp2_with fail
 have hrs:=(show Blk _ _ 93 #[.int .i64 x0,.int .i64 x2,.int .u32 x4,.int .u32 x8,.int .i64 x13,.int .i64 x14,.int .i64 x18,.slice A (n - 20) c9] from (show Blk _ _ 93 #[.int .i64 x0,.int .i64 x2,.int .u32 x4,.int .u32 x8,.int .i64 x13,.int .i64 x14,.int .i64 x18,.slice none 0 0] from (show Blk _ _ 93 #[.int .i64 x0,.int .i64 x2,.int .u32 x4,.int .u32 x8,.int .i64 x13,.int .i64 x14,.int .i64 0,.slice none 0 0] from (show Blk _ _ 93 #[.int .i64 x0,.int .i64 x2,.int .u32 x4,.int .u32 x8,.int .i64 x13,.int .i64 0,.int .i64 0,.slice none 0 0] from (show Blk _ _ 93 #[.int .i64 x0,.int .i64 x2,.int .u32 x4,.int .u32 x8,.int .i64 0,.int .i64 0,.int .i64 0,.slice none 0 0] from (show Blk _ _ 93 #[.int .i64 x0,.int .i64 x2,.int .u32 x4,.int .u32 0,.int .i64 0,.int .i64 0,.int .i64 0,.slice none 0 0] from (show Blk _ _ 93 #[.int .i64 x0,.int .i64 x2,.int .u32 0,.int .u32 0,.int .i64 0,.int .i64 0,.int .i64 0,.slice none 0 0] from (show Blk _ _ 93 #[.int .i64 x0,.int .i64 0,.int .u32 0,.int .u32 0,.int .i64 0,.int .i64 0,.int .i64 0,.slice none 0 0] from (HRS9.out.far (p:=⟨h,7,none⟩) (show w.heap.size≠h by omega) (.slice A (n - 20) c9)).set_ 0 (.int .i64 x0)).set_ 1 (.int .i64 x2)).set_ 2 (.int .u32 x4)).set_ 3 (.int .u32 x8)).set_ 4 (.int .i64 x13)).set_ 5 (.int .i64 x14)).set_ 6 (.int .i64 x18)).set_ 7 (.slice A (n - 20) c9))
 have HBW:=Lib.hid (((((((((HB9.out.setCell (p:=⟨h,7,none⟩) (show w.heap.size≤h by omega) (.slice A (n - 20) c9)).setCell (p:=⟨w.heap.size,0,none⟩) (Nat.le_refl _) (.int .i64 x0)).setCell (p:=⟨w.heap.size,1,none⟩) (Nat.le_refl _) (.int .i64 x2)).setCell (p:=⟨w.heap.size,2,none⟩) (Nat.le_refl _) (.int .u32 x4)).setCell (p:=⟨w.heap.size,3,none⟩) (Nat.le_refl _) (.int .u32 x8)).setCell (p:=⟨w.heap.size,4,none⟩) (Nat.le_refl _) (.int .i64 x13)).setCell (p:=⟨w.heap.size,5,none⟩) (Nat.le_refl _) (.int .i64 x14)).setCell (p:=⟨w.heap.size,6,none⟩) (Nat.le_refl _) (.int .i64 x18)).setCell (p:=⟨w.heap.size,7,none⟩) (Nat.le_refl _) (.slice A (n - 20) c9))
 have HOF:=Lib.hid (own_base (own_far (own_far (own_far (own_far (own_far (own_far (own_far (own_far (own_far HOW.out ⟨h,7,none⟩ (Nat.lt_succ_self h) (.slice A (n - 20) c9)) ⟨w.heap.size,0,none⟩ (show w.heap.size<h+1 by omega) (.int .i64 x0)) ⟨w.heap.size,1,none⟩ (show w.heap.size<h+1 by omega) (.int .i64 x2)) ⟨w.heap.size,2,none⟩ (show w.heap.size<h+1 by omega) (.int .u32 x4)) ⟨w.heap.size,3,none⟩ (show w.heap.size<h+1 by omega) (.int .u32 x8)) ⟨w.heap.size,4,none⟩ (show w.heap.size<h+1 by omega) (.int .i64 x13)) ⟨w.heap.size,5,none⟩ (show w.heap.size<h+1 by omega) (.int .i64 x14)) ⟨w.heap.size,6,none⟩ (show w.heap.size<h+1 by omega) (.int .i64 x18)) ⟨w.heap.size,7,none⟩ (show w.heap.size<h+1 by omega) (.slice A (n - 20) c9)) (show w.heap.size≤h+1 by omega))
 clear o0 o1 o2 o3 o4 o5 o6 o7 g7 r0 q0 r1 q1 r2 q2 r3 q3 r4 q4 r5 q5 r6 q6 r7 q7
 generalize (((((((((w16.setCell ⟨h,7,none⟩ (.slice A (n - 20) c9)).setCell ⟨w.heap.size,0,none⟩ (.int .i64 x0)).setCell ⟨w.heap.size,1,none⟩ (.int .i64 x2)).setCell ⟨w.heap.size,2,none⟩ (.int .u32 x4)).setCell ⟨w.heap.size,3,none⟩ (.int .u32 x8)).setCell ⟨w.heap.size,4,none⟩ (.int .i64 x13)).setCell ⟨w.heap.size,5,none⟩ (.int .i64 x14)).setCell ⟨w.heap.size,6,none⟩ (.int .i64 x18)).setCell ⟨w.heap.size,7,none⟩ (.slice A (n - 20) c9))=WW at *
 have z0:WW.cell? ⟨w.heap.size,0,none⟩=some (.int .i64 x0):=hrs.cell 0
 have z1:WW.cell? ⟨w.heap.size,1,none⟩=some (.int .i64 x2):=hrs.cell 1
 have z2:WW.cell? ⟨w.heap.size,2,none⟩=some (.int .u32 x4):=hrs.cell 2
 have z3:WW.cell? ⟨w.heap.size,3,none⟩=some (.int .u32 x8):=hrs.cell 3
 have z4:WW.cell? ⟨w.heap.size,4,none⟩=some (.int .i64 x13):=hrs.cell 4
 have z5:WW.cell? ⟨w.heap.size,5,none⟩=some (.int .i64 x14):=hrs.cell 5
 have z6:WW.cell? ⟨w.heap.size,6,none⟩=some (.int .i64 x18):=hrs.cell 6
 have z7:WW.cell? ⟨w.heap.size,7,none⟩=some (.slice A (n - 20) c9):=hrs.cell 7
 clear hrs
 exact bodyPost_ret (v:=.agg #[.int .i64 x0,.int .i64 x2,.int .u32 x4,.int .u32 x8,.int .i64 x13,.int .i64 x14,.int .i64 x18,.slice A (n - 20) c9]) (by simp [results,Try.results100,go_sem,z0,z1,z2,z3,z4,z5,z6,z7]) rfl ⟨A,n - 20,c9,by rw [H0.out,H2.out,H4.out,H8.out,H13.out,H14.out,H18.out],by rw [HL.out],HNN.out,HOF.out,HBW.out⟩
end Go.Proofs.Ytodckfgfbcnkoaa.tcpC
/- Quiet calls in a region that draws its order. -/
namespace Go.Proofs.Ytodckfgfbcnkoaa.base
open Go.RowKit Go.WideShapes Go.ChangeShapes
theorem quiet_add_left {P:Program} {f:FuncId} {args:Array Value} {w:World} {a n:Nat} {v:Value}
  (h:Calls P f args (w.drewN (a+n)) fun e w'=>e=.returned v∧w.drewN (a+n)=w') :
  Calls P f args (w.drewN (a+n)) fun e w''=>e=.returned v∧∃ m,w''=w.drewN (a+m) :=
 h.mono fun _ _ ⟨he,hm⟩=>⟨he,n,hm.symm⟩
end Go.Proofs.Ytodckfgfbcnkoaa.base
/- Layer 4: checks turned by words, and the words of a number. -/
namespace Go.Proofs.Ytodckfgfbcnkoaa.sumD
open base sumA
def turn (c f t:Int):Int:=65535 - fo (65535 - c+(65535 - f)+t)
def turns (c:Int):List Int→List Int→Int
 | f::fs,t::ts=>turns (turn c f t) fs ts
 | _,_=>c
theorem turn_bd (c f t:Int) (a1:c≤65535) (b1:f≤65535) (c0:0≤t):0≤turn c f t∧turn c f t≤65535:=by
 have:=fo_bd (65535 - c+(65535 - f)+t) (by omega)
 unfold turn; omega
theorem turns_snoc:∀ (fs ts:List Int) (c f t:Int),fs.length=ts.length→turns c (fs++[f]) (ts++[t])=turn (turns c fs ts) f t
 | [],[],c,f,t,_=>rfl
 | f'::fs,t'::ts,c,f,t,h=>by
  simp only [List.cons_append,turns]
  exact turns_snoc fs ts _ f t (by simpa using h)
 | [],_::_,_,_,_,h=>by simp at h
 | _::_,[],_,_,_,h=>by simp at h
theorem turns_min:∀ (fs ts:List Int) (c:Int),turns c (fs.take (min fs.length ts.length)) (ts.take (min fs.length ts.length))=turns c fs ts
 | [],_,c=>by simp [turns]
 | f::fs,[],c=>by simp [turns]
 | f::fs,t::ts,c=>by
  have e:min (f::fs).length (t::ts).length=min fs.length ts.length+1:=by simp only [List.length_cons]; omega
  rw [e]
  simp only [List.take_succ_cons,turns]
  exact turns_min fs ts _
theorem take_snoc {α:Type} (l:List α) (k:Nat) (h:k<l.length):l.take (k+1)=l.take k++[l[k]]:=by
 rw [List.take_succ_eq_append_getElem h]
theorem words_any (c:Int) (A A':Option Addr) (n n' c1 c2:Nat) (fs ts:List Int) (w:World) (B:Nat) (c0:0≤c) (c9:c≤65535) (hn:fs.length=n) (hn':ts.length=n') (hl:n≤9223372036854775807) (hl':n'≤9223372036854775807)
  (hr:Row w B A (fs.map (.int .u16))) (hr':Row w B A' (ts.map (.int .u16))) (hf:∀ x ∈ fs,0≤x∧x≤65535) (ht:∀ x ∈ ts,0≤x∧x≤65535) :
  Calls Try.prog 84 #[.int .u16 c,.slice A n c1,.slice A' n' c2] w fun e w'=>e=.returned (.int .u16 (turns c fs ts))∧∃ m,w'=w.drewN m:=by
 have HR:=Lib.hid hr
 have HR':=Lib.hid hr'
 have HN:=Lib.hid hn
 have HN':=Lib.hid hn'
 have HF:=Lib.hid hf
 have HT:=Lib.hid ht
 clear hr hr' hn hn' hf ht
 by_cases hnn:n'<n
 ·have hM:min fs.length ts.length=n':=by rw [HN.out,HN'.out]; omega
  have HM:=Lib.hid hM
  clear hM
  go_enter Try.func84,Try.ntmps84
  go_wp2_with fail
  go_loopw [0,7,13] (fun t x i wr=>∃ k m:Nat,k≤n'∧i=.int .i64 k∧t=.int .u16 (turns c (fs.take k) (ts.take k))∧0≤turns c (fs.take k) (ts.take k)∧turns c (fs.take k) (ts.take k)≤65535∧wr=w.drewN m) (fun _ _ i _=>n' - (intOf i).toNat)
  case atStart=>exact ⟨0,0,by omega,rfl,by simp [turns],by simpa [turns] using c0,by simpa [turns] using c9,rfl⟩
  case round =>
   obtain ⟨k,m,hk,rfl,rfl,hb0,hb1,rfl⟩:=hrel
   by_cases hlt:k<n'
   ·have hk1:k<fs.length:=by rw [HN.out]; omega
    have hk2:k<ts.length:=by rw [HN'.out]; omega
    obtain ⟨b,off,rfl,hbl,hc⟩:=HR.out.at_ (by intro h; simp at h; rw [h] at hk1; simp at hk1)
    obtain ⟨b2,off2,rfl,hbl2,hc2⟩:=HR'.out.at_ (by intro h; simp at h; rw [h] at hk2; simp at hk2)
    have hcell:w.cell? ⟨b,off+k,none⟩=some (.int .u16 (fs[k])):=hc k _ (by simp [hk1])
    have hcell2:w.cell? ⟨b2,off2+k,none⟩=some (.int .u16 (ts[k])):=hc2 k _ (by simp [hk2])
    have hs:=turns_snoc (fs.take k) (ts.take k) c fs[k] ts[k] (by simp; omega)
    rw [← take_snoc fs k hk1,← take_snoc ts k hk2] at hs
    obtain ⟨f0,f1⟩:=HF.out fs[k] (List.getElem_mem hk1)
    obtain ⟨t0,t1⟩:=HT.out ts[k] (List.getElem_mem hk2)
    clear hc hc2
    generalize turns c (fs.take k) (ts.take k)=z at *
    generalize fs[k]=f at *
    generalize ts[k]=t at *
    have hbd:=turn_bd z f t hb1 f1 t0
    rw [← hs] at hbd
    have HS:=Lib.hid hs
    have HBD:=Lib.hid hbd
    clear hs hbd
    go_wp2_with fail
    go_quiet ((go_at_call 64; exact quiet_add_left (turn_any _ _ _ hb0 hb1 f0 f1 t0 t1 _)))
    go_wp2_with fail
    go_roundw
    case rel=>exact ⟨k+1,_,by omega,by go_num,by rw [HS.out]; rfl,HBD.out.1,HBD.out.2,rfl⟩
    case measure=>simp [intOf]; omega
   ·have e:turns c (fs.take k) (ts.take k)=turns c fs ts:=by
     have:k=min fs.length ts.length:=by rw [HM.out]; omega
     rw [this,turns_min]
    rw [e] at hb0 hb1 ⊢
    clear e
    go_wp2
    go_ret
    exact ⟨rfl,m,rfl⟩
 ·have hM:min fs.length ts.length=n:=by rw [HN.out,HN'.out]; omega
  have HM:=Lib.hid hM
  clear hM
  go_enter Try.func84,Try.ntmps84
  go_wp2_with fail
  go_loopw [0,7,13] (fun t x i wr=>∃ k m:Nat,k≤n∧i=.int .i64 k∧t=.int .u16 (turns c (fs.take k) (ts.take k))∧0≤turns c (fs.take k) (ts.take k)∧turns c (fs.take k) (ts.take k)≤65535∧wr=w.drewN m) (fun _ _ i _=>n - (intOf i).toNat)
  case atStart=>exact ⟨0,0,by omega,rfl,by simp [turns],by simpa [turns] using c0,by simpa [turns] using c9,rfl⟩
  case round =>
   obtain ⟨k,m,hk,rfl,rfl,hb0,hb1,rfl⟩:=hrel
   by_cases hlt:k<n
   ·have hk1:k<fs.length:=by rw [HN.out]; omega
    have hk2:k<ts.length:=by rw [HN'.out]; omega
    obtain ⟨b,off,rfl,hbl,hc⟩:=HR.out.at_ (by intro h; simp at h; rw [h] at hk1; simp at hk1)
    obtain ⟨b2,off2,rfl,hbl2,hc2⟩:=HR'.out.at_ (by intro h; simp at h; rw [h] at hk2; simp at hk2)
    have hcell:w.cell? ⟨b,off+k,none⟩=some (.int .u16 (fs[k])):=hc k _ (by simp [hk1])
    have hcell2:w.cell? ⟨b2,off2+k,none⟩=some (.int .u16 (ts[k])):=hc2 k _ (by simp [hk2])
    have hs:=turns_snoc (fs.take k) (ts.take k) c fs[k] ts[k] (by simp; omega)
    rw [← take_snoc fs k hk1,← take_snoc ts k hk2] at hs
    obtain ⟨f0,f1⟩:=HF.out fs[k] (List.getElem_mem hk1)
    obtain ⟨t0,t1⟩:=HT.out ts[k] (List.getElem_mem hk2)
    clear hc hc2
    generalize turns c (fs.take k) (ts.take k)=z at *
    generalize fs[k]=f at *
    generalize ts[k]=t at *
    have hbd:=turn_bd z f t hb1 f1 t0
    rw [← hs] at hbd
    have HS:=Lib.hid hs
    have HBD:=Lib.hid hbd
    clear hs hbd
    go_wp2_with fail
    go_quiet ((go_at_call 64; exact quiet_add_left (turn_any _ _ _ hb0 hb1 f0 f1 t0 t1 _)))
    go_wp2_with fail
    go_roundw
    case rel=>exact ⟨k+1,_,by omega,by go_num,by rw [HS.out]; rfl,HBD.out.1,HBD.out.2,rfl⟩
    case measure=>simp [intOf]; omega
   ·have e:turns c (fs.take k) (ts.take k)=turns c fs ts:=by
     have:k=min fs.length ts.length:=by rw [HM.out]; omega
     rw [this,turns_min]
    rw [e] at hb0 hb1 ⊢
    clear e
    go_wp2
    go_ret
    exact ⟨rfl,m,rfl⟩
end Go.Proofs.Ytodckfgfbcnkoaa.sumD
/- Layer 4: the words of a number. -/
namespace Go.Proofs.Ytodckfgfbcnkoaa.sumE
open base
theorem info_u16:(Try.prog.info? 97).map (fun i=>(i.zero,i.size,i.bytes))=some (some (.int .u16 0),1,2):=by kernel_rfl
def held4 (n:Int):Nat:=(max (min n 4) 0).toNat
def wordAt (n:Int) (size k:Nat):Int:=n / 2 ^ (16*(size - 1 - k)) % 65536
def words (n:Int) (size k:Nat):List Int:=(List.range k).map (wordAt n size)
theorem words_snoc (n:Int) (size k:Nat):words n size (k+1)=words n size k++[wordAt n size k]:=by simp [words,List.range_succ]
theorem split_any (n:Int) (size:Int) (n0:0≤n) (n1:n<18446744073709551616) (w:World) :
  Calls Try.prog 57 #[.int .u64 n,.int .i64 size] w fun e w'=>∃ v,e=.returned v∧w'.ownsRow w.heap.size 97 1 v (held4 size) ((words n (held4 size) (held4 size)).map (.int .u16))∧Below w.heap.size w w':=by
 obtain ⟨i0,hi0,hz0,hz1,hz2⟩:=info_parts info_u16
 have HI0:=Lib.hid hi0
 have HZ0:=Lib.hid hz0
 have HZ1:=Lib.hid hz1
 have HZ2:=Lib.hid hz2
 clear hi0 hz0 hz1 hz2
 obtain ⟨S,hS⟩:∃ S:Nat,S=held4 size:=⟨_,rfl⟩
 have hS4:S≤4:=by rw [hS]; unfold held4; omega
 have hd:max (min size 4) 0=(S:Int):=by rw [hS]; unfold held4; omega
 rw [← hS]
 have HS:=Lib.hid hS
 have HD:=Lib.hid hd
 clear hS hd
 rcases Int.lt_or_le size 0 with h0 | h0
 ·have hS0:S=0:=by have:=HD.out; omega
  go_enter Try.func57,Try.ntmps57
  go_wp2_with fail
  go_loopw [5,6] (fun out i wr=>∃ (k:Nat) (z:Int),k≤S∧i=.int .i64 z∧Hid (z=(S:Int) - 1 - k)∧wr.ownsRow w.heap.size 97 1 out k ((words n S k).map (.int .u16))∧Below w.heap.size w wr) (fun _ i _=>(intOf i+1).toNat)
  case atStart=>exact ⟨0,(-1),by omega,rfl,by show (-1)=(S:Int) - 1 - 0; omega,World.ownsRow_lit w #[] 0 (Nat.le_refl _) (by unfold maxLen; omega) rfl,(Below.refl _ _).alloc (Nat.le_refl _) _⟩
  case round =>
   obtain ⟨k,z,hk,rfl,HZ,hown,hbel⟩:=hrel
   have hz:z = -1:=by have:=HZ.out; omega
   subst hz
   have hk2:k=S:=by omega
   obtain ⟨A,c,rfl⟩:=own_slice hown
   have HOwn:=Lib.hid hown
   have HBel:=Lib.hid hbel
   have HK:=Lib.hid hk2
   clear hown hbel hk2
   go_wp2
   go_ret
   exact ⟨_,rfl,by have e:=HK.out; subst e; exact HOwn.out,HBel.out⟩
 ·rcases Int.lt_or_le 4 size with h4 | h4
  ·have hS0:4=S:=by have:=HD.out; omega
   subst hS0
   go_enter Try.func57,Try.ntmps57
   go_wp2_with fail
   go_loopw [5,6] (fun out i wr=>∃ (k:Nat) (z:Int),k≤4∧i=.int .i64 z∧Hid (z=((4:Nat):Int) - 1 - k)∧wr.ownsRow w.heap.size 97 1 out k ((words n 4 k).map (.int .u16))∧Below w.heap.size w wr) (fun _ i _=>(intOf i+1).toNat)
   case atStart=>exact ⟨0,3,by omega,rfl,by show 3=((4:Nat):Int) - 1 - 0; omega,World.ownsRow_lit w #[] 0 (Nat.le_refl _) (by unfold maxLen; omega) rfl,(Below.refl _ _).alloc (Nat.le_refl _) _⟩
   case round =>
    obtain ⟨k,z,hk,rfl,HZ,hown,hbel⟩:=hrel
    by_cases hlt:k<4
    ·obtain ⟨j,rfl⟩:∃ j:Nat,z=j:=⟨4 - 1 - k,by have:=HZ.out; omega⟩
     have hj4:j≤3:=by have:=HZ.out; omega
     have hjk:4 - 1 - k=j:=by have:=HZ.out; omega
     have hsn:=words_snoc n 4 k
     have hwa:wordAt n 4 k=n / 2 ^ (16*j) % 65536:=by unfold wordAt; rw [hjk]
     rw [hwa] at hsn
     have HSN:=Lib.hid hsn
     have HJK:=Lib.hid hjk
     have HOwn:=Lib.hid hown
     have HBel:=Lib.hid hbel
     have hbs:=hbel.size
     have hcv:IntKind.u16.wrap (n / 2 ^ (16*j))=n / 2 ^ (16*j) % 65536:=by simp [IntKind.wrap_u16]
     clear hsn hwa hjk hown hbel
     go_wp2_with (at_builtin; refine wpList_append_own _ rfl (.tmp 16) (.tmp 22) _ rfl w.heap.size 97 i0 _ 1 2 Try.underlying82 HI0.out HZ0.out HZ1.out HZ2.out rfl (by omega) _ k _ rfl (HOwn.out.alloc _) ⟨wr.heap.size,0,none⟩ 1 1 [.int .u16 (n / 2 ^ (16*j) % 65536)] rfl rfl (one_new _ _ _) (by simp [Value.oneCell']) (by unfold maxLen; omega) (by omega) (by simp; omega) ?_; intro v1 w1 hown1 hg1 _; have HO1:=Lib.hid hown1; have HG1:=Lib.hid hg1; clear hown1 hg1)
     go_roundw
     case rel =>
      refine ⟨k+1,(j:Int) - 1,by omega,rfl,by show (j:Int) - 1=((4:Nat):Int) - 1 - ((k+1:Nat):Int); have:=HZ.out; omega,?_,below_grown (HBel.out.alloc hbs _) (HOwn.out.alloc _) (Nat.le_refl _) (by simp; omega) HG1.out⟩
      rw [HSN.out,List.map_append]
      exact HO1.out
     case measure=>simp [intOf]
    ·have hz:z = -1:=by have:=HZ.out; omega
     subst hz
     have hk2:k=4:=by omega
     obtain ⟨A,c,rfl⟩:=own_slice hown
     have HOwn:=Lib.hid hown
     have HBel:=Lib.hid hbel
     have HK:=Lib.hid hk2
     clear hown hbel hk2
     go_wp2
     go_ret
     exact ⟨_,rfl,by have e:=HK.out; subst e; exact HOwn.out,HBel.out⟩
  ·obtain rfl:size=(S:Int):=by have:=HD.out; omega
   go_enter Try.func57,Try.ntmps57
   go_wp2_with fail
   go_loopw [5,6] (fun out i wr=>∃ (k:Nat) (z:Int),k≤S∧i=.int .i64 z∧Hid (z=(S:Int) - 1 - k)∧wr.ownsRow w.heap.size 97 1 out k ((words n S k).map (.int .u16))∧Below w.heap.size w wr) (fun _ i _=>(intOf i+1).toNat)
   case atStart=>exact ⟨0,((S:Int) - 1),by omega,rfl,by show ((S:Int) - 1)=(S:Int) - 1 - 0; omega,World.ownsRow_lit w #[] 0 (Nat.le_refl _) (by unfold maxLen; omega) rfl,(Below.refl _ _).alloc (Nat.le_refl _) _⟩
   case round =>
    obtain ⟨k,z,hk,rfl,HZ,hown,hbel⟩:=hrel
    by_cases hlt:k<S
    ·obtain ⟨j,rfl⟩:∃ j:Nat,z=j:=⟨S - 1 - k,by have:=HZ.out; omega⟩
     have hj4:j≤3:=by have:=HZ.out; omega
     have hjk:S - 1 - k=j:=by have:=HZ.out; omega
     have hsn:=words_snoc n S k
     have hwa:wordAt n S k=n / 2 ^ (16*j) % 65536:=by unfold wordAt; rw [hjk]
     rw [hwa] at hsn
     have HSN:=Lib.hid hsn
     have HJK:=Lib.hid hjk
     have HOwn:=Lib.hid hown
     have HBel:=Lib.hid hbel
     have hbs:=hbel.size
     have hcv:IntKind.u16.wrap (n / 2 ^ (16*j))=n / 2 ^ (16*j) % 65536:=by simp [IntKind.wrap_u16]
     clear hsn hwa hjk hown hbel
     go_wp2_with (at_builtin; refine wpList_append_own _ rfl (.tmp 16) (.tmp 22) _ rfl w.heap.size 97 i0 _ 1 2 Try.underlying82 HI0.out HZ0.out HZ1.out HZ2.out rfl (by omega) _ k _ rfl (HOwn.out.alloc _) ⟨wr.heap.size,0,none⟩ 1 1 [.int .u16 (n / 2 ^ (16*j) % 65536)] rfl rfl (one_new _ _ _) (by simp [Value.oneCell']) (by unfold maxLen; omega) (by omega) (by simp; omega) ?_; intro v1 w1 hown1 hg1 _; have HO1:=Lib.hid hown1; have HG1:=Lib.hid hg1; clear hown1 hg1)
     go_roundw
     case rel =>
      refine ⟨k+1,(j:Int) - 1,by omega,rfl,by show (j:Int) - 1=(S:Int) - 1 - ((k+1:Nat):Int); have:=HZ.out; omega,?_,below_grown (HBel.out.alloc hbs _) (HOwn.out.alloc _) (Nat.le_refl _) (by simp; omega) HG1.out⟩
      rw [HSN.out,List.map_append]
      exact HO1.out
     case measure=>simp [intOf]
    ·have hz:z = -1:=by have:=HZ.out; omega
     subst hz
     have hk2:k=S:=by omega
     obtain ⟨A,c,rfl⟩:=own_slice hown
     have HOwn:=Lib.hid hown
     have HBel:=Lib.hid hbel
     have HK:=Lib.hid hk2
     clear hown hbel hk2
     go_wp2
     go_ret
     exact ⟨_,rfl,by have e:=HK.out; subst e; exact HOwn.out,HBel.out⟩
end Go.Proofs.Ytodckfgfbcnkoaa.sumE
namespace Go.Proofs.Ytodckfgfbcnkoaa.sumH
end Go.Proofs.Ytodckfgfbcnkoaa.sumH
/- Layer 7: numbers put behind bytes, a list of numbers made meanwhile. -/
namespace Go.Proofs.Ytodckfgfbcnkoaa.octK
set_option maxHeartbeats 400000
set_option maxRecDepth 100000
open base octA octB
theorem own_ne {w:World} {base:Nat} {v:Value} {n b:Nat} {xs:List Value} {cs:Array Value} (h:w.ownsRow base 5 1 v n xs) (hb:Blk w b 30 cs):some b≠v.ownBlock:=by
 rcases h.2 with ⟨rfl,_⟩ | ⟨g,cap,cur,rfl,hg,hgg,_⟩
 ·simp [Value.ownBlock]
 ·intro e
  simp [Value.ownBlock] at e
  subst e
  unfold Blk at hb
  rw [hb] at hgg
  injection hgg with h1
  injection h1 with _ h2 _
  exact absurd h2 (by decide)
def PutPostK (b:Nat) (cs:Array Value) (base B:Nat) (a:World) (m k:Nat) (xs:List Value) (ys:List Int) (e:Ending) (w':World):Prop :=
 ∃ v',e=.returned v'∧w'.ownsRow base 5 1 v' (m+k) (xs++ys.map (.int .u8))∧Below B a w'∧base≤w'.heap.size∧Blk w' b 30 cs
theorem put_keep (b:Nat) (cs:Array Value) (v:Value) (m:Nat) (xs:List Value) (n s:Int) (base B:Nat) (a w:World) (hown:w.ownsRow base 5 1 v m xs) (hbase:base≤w.heap.size) (hm:m≤1000000) (hbel:Below B a w) (hB:B≤base) (n0:0≤n) (n1:n<18446744073709551616) (hK:Blk w b 30 cs) :
  Calls Try.prog 55 #[v,.int .u64 n,.int .i64 s] w (PutPostK b cs base B a m (hs s) xs (pb n (hs s) (hs s))):=by
 obtain ⟨i0,hi0,hz0,hz1,hz2⟩:=info_parts info_u8
 have HI0:=Lib.hid hi0
 have HZ0:=Lib.hid hz0
 have HZ1:=Lib.hid hz1
 have HZ2:=Lib.hid hz2
 have HOwn0:=Lib.hid hown
 have HBel0:=Lib.hid hbel
 have hk8:=hs_le s
 have HH:=Lib.hid (fun w=>held_any s w)
 have HK0:=Lib.hid hK
 clear hi0 hz0 hz1 hz2 hown hbel hK
 generalize hs s=k at *
 go_enter Try.func55,Try.ntmps55
 go_wp2_with fail
 refine (HH.out _).mono ?_
 rintro e w' ⟨rfl,rfl⟩
 go_wp2_with fail
 go_loopw [0,7] (fun out i wr=>∃ (j:Nat),j≤k∧i=.int .i64 ((k:Int) - 1 - j)∧wr.ownsRow base 5 1 out (m+j) (xs++(pb n k j).map (.int .u8))∧Below B a wr∧base≤wr.heap.size∧Blk wr b 30 cs) (fun _ i _=>(intOf i+1).toNat)
 case atStart=>exact ⟨0,by omega,by simp,by simpa [pb] using HOwn0.out,HBel0.out,hbase,HK0.out⟩
 case round =>
  obtain ⟨j,hj,rfl,hown,hbel,hbs,hblk⟩:=hrel
  obtain ⟨A3,c3,rfl⟩:=own_slice hown
  have HOwn:=Lib.hid hown
  have HBel:=Lib.hid hbel
  have HBK:=Lib.hid hblk
  by_cases hlt:j<k
  ·obtain ⟨q,hq⟩:∃ q:Nat,k=j+q+1:=⟨k - j - 1,by omega⟩
   have e1:(k:Int) - 1 - j=(q:Int):=by omega
   have hsn:=pb_snoc n k j
   rw [show k - 1 - j=q by omega] at hsn
   have HSN:=Lib.hid hsn
   have hq8:(q:Int)≤7:=by omega
   have hq9:q≤7:=by omega
   have HQ:=Lib.hid hq
   have hdiv:0≤n / 2 ^ (8*q):=Int.ediv_nonneg n0 (Int.le_of_lt (Int.pow_pos (by decide)))
   have hby:IntKind.u8.wrap (n / 2 ^ (8*q))=byteZ n q:=by rw [IntKind.wrap_u8']; rfl
   have hb1:=byteZ_in n q
   rw [e1]
   have hnx:(q:Int) - 1=(k:Int) - 1 - ((j+1:Nat):Int):=by omega
   have HNX:=Lib.hid hnx
   clear hown hbel hblk e1 hsn hq hnx
   go_wp2_with (at_builtin; refine wpList_append_own _ rfl (.tmp 15) (.tmp 21) _ rfl base 5 i0 _ 1 1 Try.underlying22 HI0.out HZ0.out HZ1.out HZ2.out rfl (by omega) _ (m+j) _ rfl (HOwn.out.alloc _) ⟨wr.heap.size,0,none⟩ 1 1 [.int .u8 (byteZ n q)] rfl rfl (one_new _ _ _) (by simp [Value.oneCell']) (by unfold maxLen; omega) (by omega) (by simp; omega) ?_; intro v1 w1 hown1 hg1 _; have HO1:=Lib.hid hown1; have HG1:=Lib.hid hg1; clear hown1 hg1)
   go_roundw
   case rel =>
    refine ⟨j+1,by omega,congrArg (Value.int .i64) HNX.out,?_,below_grown (HBel.out.alloc (by omega) _) (HOwn.out.alloc _) hB (by simp; omega) HG1.out,by have:=HG1.out.size; simp at this; omega,(HBK.out.alloc (.cells #[.int .u8 (byteZ n q)] 5)).grown HG1.out (own_ne (v:=.slice A3 (m+j) c3) (HOwn.out.alloc (.cells #[.int .u8 (byteZ n q)] 5)) (HBK.out.alloc _))⟩
    rw [HSN.out,List.map_append,← List.append_assoc]
    exact HO1.out
   case measure=>first | (simp [intOf]; done) | (simp [intOf]; omega)
  ·obtain rfl:j=k:=by omega
   clear hown hbel hblk
   go_wp2_with fail
   go_ret
   exact ⟨_,rfl,HOwn.out,HBel.out,hbs,HBK.out⟩
theorem all_keep (b:Nat) (cs:Array Value) (v:Value) (m:Nat) (xs:List Value) (s:Int) (n c:Nat) (l:List Int) (base B:Nat) (a w:World) (hown:w.ownsRow base 5 1 v m xs) (hbase:base≤w.heap.size) (hm:m+8*n≤1000000) (hbel:Below B a w) (hB:B≤base)
  (hl:l.length=n) (hK:Blk w b 30 cs) (hcs:cs.toList=l.map (.int .u64)) (hw:∀ x ∈ l,0≤x∧x<18446744073709551616) :
  Calls Try.prog 65 #[v,.int .i64 s,.slice (some ⟨b,0,none⟩) n c] w (PutPostK b cs base B a m (hs s*n) xs (allb (hs s) l)):=by
 have HK0:=Lib.hid hK
 have HCS:=Lib.hid hcs
 have HN:=Lib.hid hl
 have HW:=Lib.hid hw
 have HOwn0:=Lib.hid hown
 have HBel0:=Lib.hid hbel
 have hk8:=hs_le s
 have hkn:hs s*n≤8*n:=Nat.mul_le_mul_right n hk8
 clear hK hcs hl hw hown hbel
 go_enter Try.func65,Try.ntmps65
 go_wp2_with fail
 go_loopw [0,11] (fun out i wr=>∃ (j:Nat),j≤n∧i=.int .i64 j∧wr.ownsRow base 5 1 out (m+hs s*j) (xs++(allb (hs s) (l.take j)).map (.int .u8))∧Below B a wr∧base≤wr.heap.size∧Blk wr b 30 cs) (fun _ i _=>n - (intOf i).toNat)
 case atStart=>exact ⟨0,by omega,rfl,by simpa [allb] using HOwn0.out,HBel0.out,hbase,HK0.out⟩
 case round =>
  obtain ⟨j,hj,rfl,hown,hbel,hbs,hblk⟩:=hrel
  have HOwn:=Lib.hid hown
  have HBel:=Lib.hid hbel
  by_cases hlt:j<n
  ·have hkl:j<l.length:=by rw [HN.out]; exact hlt
   have hcell:wr.cell? ⟨b,j,none⟩=some (.int .u64 (l[j])):=by
    rw [hblk.cell j,← Array.getElem?_toList,HCS.out,List.getElem?_map,List.getElem?_eq_getElem hkl]
    rfl
   have HBK:=Lib.hid hblk
   have hx:=HW.out l[j] (List.getElem_mem hkl)
   have hsn:allb (hs s) (l.take (j+1))=allb (hs s) (l.take j)++pb l[j] (hs s) (hs s):=by rw [take_snoc l j hkl,allb_snoc]
   have HSN:=Lib.hid hsn
   have hmj:hs s*j≤8*j:=Nat.mul_le_mul_right j hk8
   have hmj2:m+hs s*j≤1000000:=by omega
   clear hown hbel hblk hsn hmj
   generalize l[j]=x at *
   obtain ⟨x0,x1⟩:=hx
   go_wp2_with fail
   refine (put_keep b cs _ _ _ x s base B a _ HOwn.out hbs hmj2 HBel.out hB x0 x1 HBK.out).mono ?_
   rintro e w1 ⟨v1,rfl,hown1,hbel1,hbs1,hbk1⟩
   have HO1:=Lib.hid hown1
   have HB1:=Lib.hid hbel1
   have HK1:=Lib.hid hbk1
   clear hown1 hbel1 hbk1
   go_wp2_with fail
   go_roundw
   case rel =>
    refine ⟨j+1,by omega,by go_num,?_,HB1.out,hbs1,HK1.out⟩
    ·rw [HSN.out,List.map_append,← List.append_assoc,Nat.mul_succ,← Nat.add_assoc]
     exact HO1.out
   case measure=>simp [intOf]; omega
  ·obtain rfl:j=n:=by omega
   have hz:l.take j=l:=List.take_of_length_le (by rw [HN.out]; omega)
   rw [hz] at HOwn
   have HBK:=Lib.hid hblk
   clear hown hbel hz hblk
   go_wp2_with fail
   go_ret
   exact ⟨_,rfl,HOwn.out,HBel.out,hbs,HBK.out⟩
end Go.Proofs.Ytodckfgfbcnkoaa.octK
