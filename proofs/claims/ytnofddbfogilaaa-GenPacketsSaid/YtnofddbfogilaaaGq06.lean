/- 1 texts in one. -/
import Derived.Test.YtnofddbfogilaaaGq04
import Derived.Test.YtnofddbfogilaaaGq05
/- Layer 12: bytes as a message. -/
namespace Go.Proofs.Ytnofddbfogilaaa.icmpC
set_option maxHeartbeats 4000000
set_option maxRecDepth 100000
open Go.ChangeShapes Go.WideShapes Go.ChangeAt Go.RowKit
open base sumA sumB octA octB rdrA udpA tcpC net
set_option linter.unusedVariables false
theorem parse_short (A A2:Option Addr) (n c n2 c2:Nat) (w:World) (hn:n<8) :
  Calls Try.prog 86 #[.slice A n c,.slice A2 n2 c2] w fun e w'=>e=.returned (.tuple #[.agg #[.int .i64 0,.int .i64 0,.int .u32 0,.slice none 0 0],.int .i64 2])∧Below w.heap.size w w':=by
 go_enter Try.func86,Try.ntmps86
 go_wp2
 exact bodyPost_ret (v:=.tuple #[.agg #[.int .i64 0,.int .i64 0,.int .u32 0,.slice none 0 0],.int .i64 2]) (by simp [results,Try.results86,go_sem]) rfl ⟨rfl,(((Below.refl _ _).alloc (Nat.le_refl _) _))⟩
theorem parse_sum (b off n c n2 c2:Nat) (A2:Option Addr) (l ps:List Int) (w:World) (hl:l.length=n) (hn:8≤n) (hn2:n≤1000) (hb:b<w.heap.size) (hs:Lies w b off l) (hx:∀ x ∈ l,0≤x∧x≤255)
  (pl:ps.length=n2) (pn:n2≤1000) (pr:Row w w.heap.size A2 (ps.map (.int .u8))) (px:∀ x ∈ ps,0≤x∧x≤255) (hS:fo (wsum (ps++l))≠65535) :
  Calls Try.prog 86 #[.slice (some ⟨b,off,none⟩) n c,.slice A2 n2 c2] w fun e w'=>e=.returned (.tuple #[.agg #[.int .i64 0,.int .i64 0,.int .u32 0,.slice none 0 0],.int .i64 13])∧Below w.heap.size w w':=by
 have HB0:=Lib.hid (show Below w.heap.size w (w.alloc (.cells #[.int .i64 0,.int .i64 0,.int .u32 0,.slice none 0 0] 131)) from (Below.refl _ _).alloc (Nat.le_refl _) _)
 have HRS:=Lib.hid (Blk.new w 131 #[.int .i64 0,.int .i64 0,.int .u32 0,.slice none 0 0])
 have HSZ:=Lib.hid (show (w.alloc (.cells #[.int .i64 0,.int .i64 0,.int .u32 0,.slice none 0 0] 131)).heap.size=w.heap.size+1 by simp)
 have tS:(fo (wsum (ps++l)) == 65535)=false:=eqF hS
 have HRT:=Lib.hid (right_at (w.heap.size+1) A2 (some ⟨b,off,none⟩) n2 n c2 c ps l w (w.alloc (.cells #[.int .i64 0,.int .i64 0,.int .u32 0,.slice none 0 0] 131)) 47 HSZ.out pl hl (by omega) (by omega) pr (hs.row hb) px hx HB0.out)
 clear hs hx pl pr px hl hS
 generalize fo (wsum (ps++l))=fs at *
 go_enter Try.func86,Try.ntmps86
 go_wp2_with fail
 refine HRT.out.mono ?_
 rintro e w6 ⟨rfl,rfl⟩
 rw [tS]
 clear tS
 have HRY:=Lib.hid (HRS.out.alloc (.cells #[.slice A2 n2 c2,.slice (some ⟨b,off,none⟩) n c] 47))
 have HBY:=Lib.hid (HB0.out.alloc (by rw [HSZ.out]; omega) (.cells #[.slice A2 n2 c2,.slice (some ⟨b,off,none⟩) n c] 47))
 generalize (w.alloc (.cells #[.int .i64 0,.int .i64 0,.int .u32 0,.slice none 0 0] 131)).alloc (.cells #[.slice A2 n2 c2,.slice (some ⟨b,off,none⟩) n c] 47)=wy at *
 have r0:wy.cell? ⟨w.heap.size,0,none⟩=some (.int .i64 0):=HRY.out.cell 0
 have q0:wy.frozen? ⟨w.heap.size,0,none⟩=false:=HRY.out.frozen 0
 have r1:wy.cell? ⟨w.heap.size,1,none⟩=some (.int .i64 0):=HRY.out.cell 1
 have q1:wy.frozen? ⟨w.heap.size,1,none⟩=false:=HRY.out.frozen 1
 have r2:wy.cell? ⟨w.heap.size,2,none⟩=some (.int .u32 0):=HRY.out.cell 2
 have q2:wy.frozen? ⟨w.heap.size,2,none⟩=false:=HRY.out.frozen 2
 have r3:wy.cell? ⟨w.heap.size,3,none⟩=some (.slice none 0 0):=HRY.out.cell 3
 have q3:wy.frozen? ⟨w.heap.size,3,none⟩=false:=HRY.out.frozen 3
 go_wp2_with fail
 have hrs:=(show Blk _ _ 131 #[.int .i64 0,.int .i64 0,.int .u32 0,.slice none 0 0] from (show Blk _ _ 131 #[.int .i64 0,.int .i64 0,.int .u32 0,.slice none 0 0] from (show Blk _ _ 131 #[.int .i64 0,.int .i64 0,.int .u32 0,.slice none 0 0] from (show Blk _ _ 131 #[.int .i64 0,.int .i64 0,.int .u32 0,.slice none 0 0] from HRY.out.set_ 0 (.int .i64 0)).set_ 1 (.int .i64 0)).set_ 2 (.int .u32 0)).set_ 3 (.slice none 0 0))
 have HBW:=Lib.hid ((((HBY.out.setCell (p:=⟨w.heap.size,0,none⟩) (Nat.le_refl _) (.int .i64 0)).setCell (p:=⟨w.heap.size,1,none⟩) (Nat.le_refl _) (.int .i64 0)).setCell (p:=⟨w.heap.size,2,none⟩) (Nat.le_refl _) (.int .u32 0)).setCell (p:=⟨w.heap.size,3,none⟩) (Nat.le_refl _) (.slice none 0 0))
 clear r0 q0 r1 q1 r2 q2 r3 q3
 generalize ((((wy.setCell ⟨w.heap.size,0,none⟩ (.int .i64 0)).setCell ⟨w.heap.size,1,none⟩ (.int .i64 0)).setCell ⟨w.heap.size,2,none⟩ (.int .u32 0)).setCell ⟨w.heap.size,3,none⟩ (.slice none 0 0))=WW at *
 have z0:WW.cell? ⟨w.heap.size,0,none⟩=some (.int .i64 0):=hrs.cell 0
 have z1:WW.cell? ⟨w.heap.size,1,none⟩=some (.int .i64 0):=hrs.cell 1
 have z2:WW.cell? ⟨w.heap.size,2,none⟩=some (.int .u32 0):=hrs.cell 2
 have z3:WW.cell? ⟨w.heap.size,3,none⟩=some (.slice none 0 0):=hrs.cell 3
 exact bodyPost_ret (v:=.tuple #[.agg #[.int .i64 0,.int .i64 0,.int .u32 0,.slice none 0 0],.int .i64 13]) (by simp [results,Try.results86,go_sem,z0,z1,z2,z3]) rfl ⟨rfl,HBW.out⟩
def OkPost (w:World) (l:List Int) (e:Ending) (w':World):Prop :=
 ∃ A m c,m=l.length - 8∧e=.returned (.tuple #[.agg #[.int .i64 (l.getD 0 0),.int .i64 (l.getD 1 0),.int .u32 (w32 l 4),.slice A m c],.int .i64 0])∧(A=none→c=0)∧w'.ownsRow w.heap.size 5 1 (.slice A m c) m ((l.drop 8).map (.int .u8))∧Below w.heap.size w w'
theorem parse_ok (b off n c n2 c2:Nat) (A2:Option Addr) (l ps:List Int) (w:World) (hl:l.length=n) (hn:8≤n) (hn2:n≤1000) (hnc:n≤c) (hc:c≤9223372036854775807) (hb:b<w.heap.size) (hs:Lies w b off l) (hx:∀ x ∈ l,0≤x∧x≤255)
  (pl:ps.length=n2) (pn:n2≤1000) (pr:Row w w.heap.size A2 (ps.map (.int .u8))) (px:∀ x ∈ ps,0≤x∧x≤255) (hS:fo (wsum (ps++l))=65535) :
  Calls Try.prog 86 #[.slice (some ⟨b,off,none⟩) n c,.slice A2 n2 c2] w (OkPost w l):=by
 have HB0:=Lib.hid (show Below w.heap.size w (w.alloc (.cells #[.int .i64 0,.int .i64 0,.int .u32 0,.slice none 0 0] 131)) from (Below.refl _ _).alloc (Nat.le_refl _) _)
 have HRS0:=Lib.hid (Blk.new w 131 #[.int .i64 0,.int .i64 0,.int .u32 0,.slice none 0 0])
 have HSZ:=Lib.hid (show (w.alloc (.cells #[.int .i64 0,.int .i64 0,.int .u32 0,.slice none 0 0] 131)).heap.size=w.heap.size+1 by simp)
 have tS:(fo (wsum (ps++l)) == 65535)=true:=eqT hS
 have HRT:=Lib.hid (right_at (w.heap.size+1) A2 (some ⟨b,off,none⟩) n2 n c2 c ps l w (w.alloc (.cells #[.int .i64 0,.int .i64 0,.int .u32 0,.slice none 0 0] 131)) 47 HSZ.out pl hl (by omega) (by omega) pr (hs.row hb) px hx HB0.out)
 have HL:=Lib.hid hl
 have HX:=Lib.hid hx
 have HS:=Lib.hid hs
 have k4:=w32_in l hx 4
 have k0:=getD_in l hx 0
 have k1:=getD_in l hx 1
 have V4:=Lib.hid (show IntKind.u32.wrap (w32 l 4)=w32 l 4 by rw [IntKind.wrap_u32]; omega)
 have HLD:=Lib.hid (show (l.drop 8).length=n - 8 by rw [List.length_drop,hl])
 clear hs hx pl pr px hl hS
 generalize fo (wsum (ps++l))=fs at *
 generalize h0:l.getD 0 0=x0 at *
 generalize h1:l.getD 1 0=x1 at *
 generalize h4:w32 l 4=x4 at *
 have H0:=Lib.hid h0
 have H1:=Lib.hid h1
 have H4:=Lib.hid h4
 clear h0 h1 h4
 go_enter Try.func86,Try.ntmps86
 go_wp2_with fail
 refine HRT.out.mono ?_
 rintro e w6 ⟨rfl,rfl⟩
 rw [tS]
 clear tS
 have HRS:=Lib.hid (HRS0.out.alloc (.cells #[.slice A2 n2 c2,.slice (some ⟨b,off,none⟩) n c] 47))
 have HB:=Lib.hid (HB0.out.alloc (by rw [HSZ.out]; omega) (.cells #[.slice A2 n2 c2,.slice (some ⟨b,off,none⟩) n c] 47))
 clear HB0 HRS0 HSZ HRT
 generalize (w.alloc (.cells #[.int .i64 0,.int .i64 0,.int .u32 0,.slice none 0 0] 131)).alloc (.cells #[.slice A2 n2 c2,.slice (some ⟨b,off,none⟩) n c] 47)=wy at *
 have hg:=HRS.out.lt
 have HRD:=Lib.hid (read_rdr b off n c w.heap.size l wy HL.out hnc hc hb (by omega) (HS.out.below HB.out hb))
 go_wp2_with fail
 refine HRD.out.mono ?_
 rintro e w1 ⟨rfl,hrdr,hbel,hsz⟩
 have HR9:=Lib.hid hrdr
 have HB9:=Lib.hid (bel_call HB.out hbel)
 have HRS9:=Lib.hid (HRS.out.below hbel HRS.out.lt)
 clear hrdr hbel hsz HB HRS HRD
 generalize wy.heap.size=g at *
 have HR:=HR9
 have HB:=HB9
 have HRS:=HRS9
 clear HR9 HB9 HRS9
 go_wp2_with fail
 refine (num_one w.heap.size g 0 l _ (by omega) HR.out (by rw [HL.out]; omega) HX.out).mono ?_
 rintro e w2 ⟨he,hrdr,hon⟩
 rw [H0.out] at he
 subst he
 have HR_9:=Lib.hid hrdr
 have HB_9:=Lib.hid (hon.from HB.out (by omega))
 have HRS_9:=Lib.hid (hon.blk HRS.out (by omega))
 clear hrdr hon HR HB HRS
 have HR:=HR_9
 have HB:=HB_9
 have HRS:=HRS_9
 clear HR_9 HB_9 HRS_9
 go_wp2_with fail
 refine (num_one w.heap.size g 1 l _ (by omega) HR.out (by rw [HL.out]; omega) HX.out).mono ?_
 rintro e w3 ⟨he,hrdr,hon⟩
 rw [H1.out] at he
 subst he
 have HR_9:=Lib.hid hrdr
 have HB_9:=Lib.hid (hon.from HB.out (by omega))
 have HRS_9:=Lib.hid (hon.blk HRS.out (by omega))
 clear hrdr hon HR HB HRS
 have HR:=HR_9
 have HB:=HB_9
 have HRS:=HRS_9
 clear HR_9 HB_9 HRS_9
 go_wp2_with fail
 have HH:=Lib.hid (Blk.new w3 131 #[.int .i64 x0,.int .i64 x1,.int .u32 0,.slice none 0 0])
 have hgh:g<w3.heap.size:=HR.out.lt
 have HR_9:=Lib.hid (Rdr_keep HR.out (HB.out.size) ((Below.refl _ _).alloc (Nat.le_refl _) (.cells #[.int .i64 x0,.int .i64 x1,.int .u32 0,.slice none 0 0] 131)))
 have HB_9:=Lib.hid (bel_alloc HB.out (.cells #[.int .i64 x0,.int .i64 x1,.int .u32 0,.slice none 0 0] 131))
 have HRS_9:=Lib.hid (HRS.out.alloc (.cells #[.int .i64 x0,.int .i64 x1,.int .u32 0,.slice none 0 0] 131))
 clear HR HB HRS
 have HR:=HR_9
 have HB:=HB_9
 have HRS:=HRS_9
 clear HR_9 HB_9 HRS_9
 generalize w3.alloc (.cells #[.int .i64 x0,.int .i64 x1,.int .u32 0,.slice none 0 0] 131)=w4 at *
 generalize w3.heap.size=h at *
 refine (num_two w.heap.size g 2 l _ (by omega) HR.out (by rw [HL.out]; omega) HX.out).mono ?_
 rintro e w5 ⟨he,hrdr,hon⟩
 subst he
 have HR_9:=Lib.hid hrdr
 have HB_9:=Lib.hid (hon.from HB.out (by omega))
 have HRS_9:=Lib.hid (hon.blk HRS.out (by omega))
 have HH_9:=Lib.hid (hon.blk HH.out (by omega))
 clear hrdr hon HR HB HRS HH
 have HR:=HR_9
 have HB:=HB_9
 have HRS:=HRS_9
 have HH:=HH_9
 clear HR_9 HB_9 HRS_9 HH_9
 generalize w16 l 2=x2 at *
 go_wp2_with fail
 refine (num_four w.heap.size g 4 l _ (by omega) HR.out (by rw [HL.out]; omega) HX.out).mono ?_
 rintro e w6 ⟨he,hrdr,hon⟩
 rw [H4.out] at he
 subst he
 have HR_9:=Lib.hid hrdr
 have HB_9:=Lib.hid (hon.from HB.out (by omega))
 have HRS_9:=Lib.hid (hon.blk HRS.out (by omega))
 have HH_9:=Lib.hid (hon.blk HH.out (by omega))
 clear hrdr hon HR HB HRS HH
 have HR:=HR_9
 have HB:=HB_9
 have HRS:=HRS_9
 have HH:=HH_9
 clear HR_9 HB_9 HRS_9 HH_9
 have o2:w6.cell? ⟨h,2,none⟩=some (.int .u32 0):=HH.out.cell 2
 have g2:w6.frozen? ⟨h,2,none⟩=false:=HH.out.frozen 2
 have v4:=V4.out
 go_wp2_with fail
 clear v4 o2 g2
 have HR_9:=Lib.hid (HR.out.below ((Below.refl h w6).setCell (p:=⟨h,2,none⟩) (Nat.le_refl h) (.int .u32 x4)) (by omega) hgh)
 have HB_9:=Lib.hid (HB.out.setCell (p:=⟨h,2,none⟩) (show w.heap.size≤h by omega) (.int .u32 x4))
 have HRS_9:=Lib.hid (HRS.out.far (p:=⟨h,2,none⟩) (show w.heap.size≠h by omega) (.int .u32 x4))
 have HH_9:=Lib.hid (HH.out.set_ 2 (.int .u32 x4))
 clear HR HB HRS HH
 have HR:=HR_9
 have HB:=HB_9
 have HRS:=HRS_9
 have HH:=HH_9
 clear HR_9 HB_9 HRS_9 HH_9
 generalize w6.setCell ⟨h,2,none⟩ (.int .u32 x4)=w7 at *
 have hR:=HR.out
 rw [show 4+4=8 from rfl] at hR
 refine (rest_any w.heap.size g (l.drop 8) _ (by omega) hR (by rw [HLD.out]; omega)).mono ?_
 clear hR
 rintro e w9 ⟨v,w8,rfl,hon,hown,hbel⟩
 rw [HLD.out] at hown
 obtain ⟨A,c9,rfl⟩:=own_slice hown
 have hnn:=own_none hown
 have hh:=HH.out.lt
 have sz:w8.heap.size=w7.heap.size:=hon.size
 have HH9:=Lib.hid ((hon.blk HH.out (by omega)).below hbel (by omega))
 have HRS9:=Lib.hid ((hon.blk HRS.out (by omega)).below hbel (by omega))
 have HB9:=Lib.hid ((hon.from HB.out (by omega)).trans (hbel.mono (by omega)))
 have HOW:=Lib.hid (own_base hown (show h+1≤w8.heap.size by omega))
 have HNN:=Lib.hid hnn
 clear hon hown hbel hnn HH HRS HB HR sz hh
 have o3:w9.cell? ⟨h,3,none⟩=some (.slice none 0 0):=HH9.out.cell 3
 have g3:w9.frozen? ⟨h,3,none⟩=false:=HH9.out.frozen 3
 have o0:w9.cell? ⟨h,0,none⟩=some (.int .i64 x0):=HH9.out.cell 0
 have o1:w9.cell? ⟨h,1,none⟩=some (.int .i64 x1):=HH9.out.cell 1
 have o2:w9.cell? ⟨h,2,none⟩=some (.int .u32 x4):=HH9.out.cell 2
 have r0:w9.cell? ⟨w.heap.size,0,none⟩=some (.int .i64 0):=HRS9.out.cell 0
 have q0:w9.frozen? ⟨w.heap.size,0,none⟩=false:=HRS9.out.frozen 0
 have r1:w9.cell? ⟨w.heap.size,1,none⟩=some (.int .i64 0):=HRS9.out.cell 1
 have q1:w9.frozen? ⟨w.heap.size,1,none⟩=false:=HRS9.out.frozen 1
 have r2:w9.cell? ⟨w.heap.size,2,none⟩=some (.int .u32 0):=HRS9.out.cell 2
 have q2:w9.frozen? ⟨w.heap.size,2,none⟩=false:=HRS9.out.frozen 2
 have r3:w9.cell? ⟨w.heap.size,3,none⟩=some (.slice none 0 0):=HRS9.out.cell 3
 have q3:w9.frozen? ⟨w.heap.size,3,none⟩=false:=HRS9.out.frozen 3
 have ne1:¬ h=w.heap.size:=by omega
 have ne2:¬ w.heap.size=h:=by omega
 go_wp2_with fail
 have hrs:=(show Blk _ _ 131 #[.int .i64 x0,.int .i64 x1,.int .u32 x4,.slice A (n - 8) c9] from (show Blk _ _ 131 #[.int .i64 x0,.int .i64 x1,.int .u32 x4,.slice none 0 0] from (show Blk _ _ 131 #[.int .i64 x0,.int .i64 x1,.int .u32 0,.slice none 0 0] from (show Blk _ _ 131 #[.int .i64 x0,.int .i64 0,.int .u32 0,.slice none 0 0] from (HRS9.out.far (p:=⟨h,3,none⟩) (show w.heap.size≠h by omega) (.slice A (n - 8) c9)).set_ 0 (.int .i64 x0)).set_ 1 (.int .i64 x1)).set_ 2 (.int .u32 x4)).set_ 3 (.slice A (n - 8) c9))
 have HBW:=Lib.hid (((((HB9.out.setCell (p:=⟨h,3,none⟩) (show w.heap.size≤h by omega) (.slice A (n - 8) c9)).setCell (p:=⟨w.heap.size,0,none⟩) (Nat.le_refl _) (.int .i64 x0)).setCell (p:=⟨w.heap.size,1,none⟩) (Nat.le_refl _) (.int .i64 x1)).setCell (p:=⟨w.heap.size,2,none⟩) (Nat.le_refl _) (.int .u32 x4)).setCell (p:=⟨w.heap.size,3,none⟩) (Nat.le_refl _) (.slice A (n - 8) c9))
 have HOF:=Lib.hid (own_base (own_far (own_far (own_far (own_far (own_far HOW.out ⟨h,3,none⟩ (Nat.lt_succ_self h) (.slice A (n - 8) c9)) ⟨w.heap.size,0,none⟩ (show w.heap.size<h+1 by omega) (.int .i64 x0)) ⟨w.heap.size,1,none⟩ (show w.heap.size<h+1 by omega) (.int .i64 x1)) ⟨w.heap.size,2,none⟩ (show w.heap.size<h+1 by omega) (.int .u32 x4)) ⟨w.heap.size,3,none⟩ (show w.heap.size<h+1 by omega) (.slice A (n - 8) c9)) (show w.heap.size≤h+1 by omega))
 clear o0 r0 q0 o1 r1 q1 o2 r2 q2 o3 r3 q3 g3
 generalize (((((w9.setCell ⟨h,3,none⟩ (.slice A (n - 8) c9)).setCell ⟨w.heap.size,0,none⟩ (.int .i64 x0)).setCell ⟨w.heap.size,1,none⟩ (.int .i64 x1)).setCell ⟨w.heap.size,2,none⟩ (.int .u32 x4)).setCell ⟨w.heap.size,3,none⟩ (.slice A (n - 8) c9))=WW at *
 have z0:WW.cell? ⟨w.heap.size,0,none⟩=some (.int .i64 x0):=hrs.cell 0
 have z1:WW.cell? ⟨w.heap.size,1,none⟩=some (.int .i64 x1):=hrs.cell 1
 have z2:WW.cell? ⟨w.heap.size,2,none⟩=some (.int .u32 x4):=hrs.cell 2
 have z3:WW.cell? ⟨w.heap.size,3,none⟩=some (.slice A (n - 8) c9):=hrs.cell 3
 clear hrs
 exact bodyPost_ret (v:=.tuple #[.agg #[.int .i64 x0,.int .i64 x1,.int .u32 x4,.slice A (n - 8) c9],.int .i64 0]) (by simp [results,Try.results86,go_sem,z0,z1,z2,z3]) rfl ⟨A,n - 8,c9,by rw [HL.out],by rw [H0.out,H1.out,H4.out],HNN.out,HOF.out,HBW.out⟩
end Go.Proofs.Ytnofddbfogilaaa.icmpC
