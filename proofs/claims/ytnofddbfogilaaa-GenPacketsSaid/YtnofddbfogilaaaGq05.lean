/- 2 texts in one. -/
import Derived.Deep.RegionHeld3
import Derived.BigQuiet
import Derived.Test.YtnofddbfogilaaaGq01
import Derived.Test.YtnofddbfogilaaaGq04
/- Layer 10: bytes as the segment that they are. -/
namespace Go.Proofs.Ytnofddbfogilaaa.tcpDn
set_option maxHeartbeats 4000000
set_option maxRecDepth 100000
open Go.ChangeShapes Go.WideShapes Go.ChangeAt Go.RowKit
open base sumA sumB octA octB octF rdrA udpA net tcpC
set_option linter.unusedVariables false
theorem and15 (y:Int) (h0:0≤y) (h1:y≤255):bits .and .u8 y 15=y % 16:=by
 obtain ⟨n,rfl⟩:=Int.eq_ofNat_of_zero_le h0
 have hn:n<256:=by omega
 have h:∀ n:Fin 256,bits .and .u8 ((n.val:Nat):Int) 15=((n.val:Nat):Int) % 16:=by decide +kernel
 exact h ⟨n,hn⟩
def errt (k:Int):Value:=.tuple #[.agg #[.int .i64 0,.int .i64 0,.int .u32 0,.int .u32 0,.int .i64 0,.int .i64 0,.int .i64 0,.slice none 0 0],.slice none 0 0,.int .i64 k]
theorem parse_short (A A2:Option Addr) (n c n2 c2:Nat) (w:World) (hn:n<20) :
  Calls Try.prog 68 #[.slice A n c,.slice A2 n2 c2] w fun e w'=>e=.returned (errt 2)∧Below w.heap.size w w':=by
 go_enter Try.func68,Try.ntmps68
 go_wp2
 exact bodyPost_ret (v:=errt 2) (by simp [results,Try.results68,go_sem,errt]) rfl ⟨rfl,(((Below.refl _ _).alloc (Nat.le_refl _) _))⟩
theorem parse_head (b off n c n2 c2:Nat) (A2:Option Addr) (l ps:List Int) (w:World) (hl:l.length=n) (hn:20≤n) (hn2:n≤1000) (hnc:n≤c) (hc:c≤9223372036854775807) (hb:b<w.heap.size) (hs:Lies w b off l) (hx:∀ x ∈ l,0≤x∧x≤255)
  (pl:ps.length=n2) (pn:n2≤1000) (pr:Row w w.heap.size A2 (ps.map (.int .u8))) (px:∀ x ∈ ps,0≤x∧x≤255)
  (hw:l.getD 12 0 / 16*4<20∨(20≤l.getD 12 0 / 16*4∧(n:Int)<l.getD 12 0 / 16*4)∨(20≤l.getD 12 0 / 16*4∧l.getD 12 0 / 16*4≤n∧l.getD 12 0 % 16≠0)) :
  Calls Try.prog 68 #[.slice (some ⟨b,off,none⟩) n c,.slice A2 n2 c2] w fun e w'=>e=.returned (errt 11)∧Below w.heap.size w w':=by
 have hx12:=getD_in l hx 12
 have q12:(w.alloc (.cells #[.int .i64 0,.int .i64 0,.int .u32 0,.int .u32 0,.int .i64 0,.int .i64 0,.int .i64 0,.slice none 0 0] 72)).cell? ⟨b,off+12,none⟩=some (.int .u8 (l.getD 12 0)):=(hs.below ((Below.refl _ _).alloc (Nat.le_refl _) (.cells #[.int .i64 0,.int .i64 0,.int .u32 0,.int .u32 0,.int .i64 0,.int .i64 0,.int .i64 0,.slice none 0 0] 72)) hb) 12 (by omega)
 have hand:=and15 (l.getD 12 0) hx12.1 hx12.2
 have HB0:=Lib.hid (show Below w.heap.size w (w.alloc (.cells #[.int .i64 0,.int .i64 0,.int .u32 0,.int .u32 0,.int .i64 0,.int .i64 0,.int .i64 0,.slice none 0 0] 72)) from (Below.refl _ _).alloc (Nat.le_refl _) _)
 have HRS:=Lib.hid (Blk.new w 72 #[.int .i64 0,.int .i64 0,.int .u32 0,.int .u32 0,.int .i64 0,.int .i64 0,.int .i64 0,.slice none 0 0])
 have y12:(12:Int)<(n:Int):=by omega
 clear hs hx pl pr px hl
 generalize l.getD 12 0=y at *
 obtain ⟨z0,z1⟩:=hx12
 rcases hw with hw | ⟨hw1,hw⟩ | ⟨hw1,hw2,hw⟩
 ·have t1:decide (y / 16*4<20)=true:=decide_eq_true hw
  clear hw
  go_enter Try.func68,Try.ntmps68
  go_wp2_with fail
  exact bodyPost_ret (v:=errt 11) (by simp [results,Try.results68,go_sem,errt]) rfl ⟨rfl,HB0.out⟩
 ·have t1:decide (y / 16*4<20)=false:=decide_eq_false (by omega)
  have t2:decide ((n:Int)<y / 16*4)=true:=decide_eq_true hw
  clear hw hw1
  go_enter Try.func68,Try.ntmps68
  go_wp2_with fail
  exact bodyPost_ret (v:=errt 11) (by simp [results,Try.results68,go_sem,errt]) rfl ⟨rfl,HB0.out⟩
 ·have t1:decide (y / 16*4<20)=false:=decide_eq_false (by omega)
  have t2:decide ((n:Int)<y / 16*4)=false:=decide_eq_false (by omega)
  have t3:(y % 16 != 0)=true:=bneT hw
  clear hw hw1 hw2
  go_enter Try.func68,Try.ntmps68
  go_wp2_with fail
  exact bodyPost_ret (v:=errt 11) (by simp [results,Try.results68,go_sem,errt]) rfl ⟨rfl,HB0.out⟩
theorem parse_sum (b off n c n2 c2:Nat) (A2:Option Addr) (l ps:List Int) (w:World) (hl:l.length=n) (hn:20≤n) (hn2:n≤1000) (hnc:n≤c) (hc:c≤9223372036854775807) (hb:b<w.heap.size) (hs:Lies w b off l) (hx:∀ x ∈ l,0≤x∧x≤255)
  (pl:ps.length=n2) (pn:n2≤1000) (pr:Row w w.heap.size A2 (ps.map (.int .u8))) (px:∀ x ∈ ps,0≤x∧x≤255)
  (h1:20≤l.getD 12 0 / 16*4) (h2:l.getD 12 0 / 16*4≤n) (h3:l.getD 12 0 % 16=0) (hS:¬ fo (wsum (ps++l))=65535) :
  Calls Try.prog 68 #[.slice (some ⟨b,off,none⟩) n c,.slice A2 n2 c2] w fun e w'=>e=.returned (errt 13)∧Below w.heap.size w w':=by
 have hx12:=getD_in l hx 12
 have q12:(w.alloc (.cells #[.int .i64 0,.int .i64 0,.int .u32 0,.int .u32 0,.int .i64 0,.int .i64 0,.int .i64 0,.slice none 0 0] 72)).cell? ⟨b,off+12,none⟩=some (.int .u8 (l.getD 12 0)):=(hs.below ((Below.refl _ _).alloc (Nat.le_refl _) (.cells #[.int .i64 0,.int .i64 0,.int .u32 0,.int .u32 0,.int .i64 0,.int .i64 0,.int .i64 0,.slice none 0 0] 72)) hb) 12 (by omega)
 have hand:=and15 (l.getD 12 0) hx12.1 hx12.2
 have HB0:=Lib.hid (show Below w.heap.size w (w.alloc (.cells #[.int .i64 0,.int .i64 0,.int .u32 0,.int .u32 0,.int .i64 0,.int .i64 0,.int .i64 0,.slice none 0 0] 72)) from (Below.refl _ _).alloc (Nat.le_refl _) _)
 have HRS:=Lib.hid (Blk.new w 72 #[.int .i64 0,.int .i64 0,.int .u32 0,.int .u32 0,.int .i64 0,.int .i64 0,.int .i64 0,.slice none 0 0])
 have y12:(12:Int)<(n:Int):=by omega
 have t1:decide (l.getD 12 0 / 16*4<20)=false:=decide_eq_false (by omega)
 have t2:decide ((n:Int)<l.getD 12 0 / 16*4)=false:=decide_eq_false (by omega)
 have t3:(l.getD 12 0 % 16 != 0)=false:=bneF h3
 have HS:=Lib.hid hs
 have HX:=Lib.hid hx
 have HL:=Lib.hid hl
 have PL:=Lib.hid pl
 have PR:=Lib.hid pr
 have PX:=Lib.hid px
 have HSZ:=Lib.hid (show (w.alloc (.cells #[.int .i64 0,.int .i64 0,.int .u32 0,.int .u32 0,.int .i64 0,.int .i64 0,.int .i64 0,.slice none 0 0] 72)).heap.size=w.heap.size+1 by simp)
 have tS:(fo (wsum (ps++l)) == 65535)=false:=eqF hS
 clear hs hx pl pr px hl hS h3
 generalize l.getD 12 0=y at *
 obtain ⟨z0,z1⟩:=hx12
 go_enter Try.func68,Try.ntmps68
 go_wp2_with fail
 refine (right_at (w.heap.size+1) A2 (some ⟨b,off,none⟩) n2 n c2 c ps l w _ _ HSZ.out PL.out HL.out (by omega) (by omega) PR.out (HS.out.row hb) PX.out HX.out HB0.out).mono ?_
 rintro e w6 ⟨rfl,rfl⟩
 have HRY:=Lib.hid (HRS.out.alloc (.cells #[.slice A2 n2 c2,.slice (some ⟨b,off,none⟩) n c] 47))
 have HBY:=Lib.hid (HB0.out.alloc (by rw [HSZ.out]; omega) (.cells #[.slice A2 n2 c2,.slice (some ⟨b,off,none⟩) n c] 47))
 have HSY:=Lib.hid (show ((w.alloc (.cells #[.int .i64 0,.int .i64 0,.int .u32 0,.int .u32 0,.int .i64 0,.int .i64 0,.int .i64 0,.slice none 0 0] 72)).alloc (.cells #[.slice A2 n2 c2,.slice (some ⟨b,off,none⟩) n c] 47)).heap.size=w.heap.size+1+1 by simp)
 clear HRS HB0 HSZ q12
 generalize (w.alloc (.cells #[.int .i64 0,.int .i64 0,.int .u32 0,.int .u32 0,.int .i64 0,.int .i64 0,.int .i64 0,.slice none 0 0] 72)).alloc (.cells #[.slice A2 n2 c2,.slice (some ⟨b,off,none⟩) n c] 47)=wy at *
 rw [tS]
 clear tS
 have r0:wy.cell? ⟨w.heap.size,0,none⟩=some (.int .i64 0):=HRY.out.cell 0
 have f0:wy.frozen? ⟨w.heap.size,0,none⟩=false:=HRY.out.frozen 0
 have r1:wy.cell? ⟨w.heap.size,1,none⟩=some (.int .i64 0):=HRY.out.cell 1
 have f1:wy.frozen? ⟨w.heap.size,1,none⟩=false:=HRY.out.frozen 1
 have r2:wy.cell? ⟨w.heap.size,2,none⟩=some (.int .u32 0):=HRY.out.cell 2
 have f2:wy.frozen? ⟨w.heap.size,2,none⟩=false:=HRY.out.frozen 2
 have r3:wy.cell? ⟨w.heap.size,3,none⟩=some (.int .u32 0):=HRY.out.cell 3
 have f3:wy.frozen? ⟨w.heap.size,3,none⟩=false:=HRY.out.frozen 3
 have r4:wy.cell? ⟨w.heap.size,4,none⟩=some (.int .i64 0):=HRY.out.cell 4
 have f4:wy.frozen? ⟨w.heap.size,4,none⟩=false:=HRY.out.frozen 4
 have r5:wy.cell? ⟨w.heap.size,5,none⟩=some (.int .i64 0):=HRY.out.cell 5
 have f5:wy.frozen? ⟨w.heap.size,5,none⟩=false:=HRY.out.frozen 5
 have r6:wy.cell? ⟨w.heap.size,6,none⟩=some (.int .i64 0):=HRY.out.cell 6
 have f6:wy.frozen? ⟨w.heap.size,6,none⟩=false:=HRY.out.frozen 6
 have r7:wy.cell? ⟨w.heap.size,7,none⟩=some (.slice none 0 0):=HRY.out.cell 7
 have f7:wy.frozen? ⟨w.heap.size,7,none⟩=false:=HRY.out.frozen 7
 go_wp2_with fail
 have hblk:=(show Blk _ _ 72 #[.int .i64 0,.int .i64 0,.int .u32 0,.int .u32 0,.int .i64 0,.int .i64 0,.int .i64 0,.slice none 0 0] from (show Blk _ _ 72 #[.int .i64 0,.int .i64 0,.int .u32 0,.int .u32 0,.int .i64 0,.int .i64 0,.int .i64 0,.slice none 0 0] from (show Blk _ _ 72 #[.int .i64 0,.int .i64 0,.int .u32 0,.int .u32 0,.int .i64 0,.int .i64 0,.int .i64 0,.slice none 0 0] from (show Blk _ _ 72 #[.int .i64 0,.int .i64 0,.int .u32 0,.int .u32 0,.int .i64 0,.int .i64 0,.int .i64 0,.slice none 0 0] from (show Blk _ _ 72 #[.int .i64 0,.int .i64 0,.int .u32 0,.int .u32 0,.int .i64 0,.int .i64 0,.int .i64 0,.slice none 0 0] from (show Blk _ _ 72 #[.int .i64 0,.int .i64 0,.int .u32 0,.int .u32 0,.int .i64 0,.int .i64 0,.int .i64 0,.slice none 0 0] from (show Blk _ _ 72 #[.int .i64 0,.int .i64 0,.int .u32 0,.int .u32 0,.int .i64 0,.int .i64 0,.int .i64 0,.slice none 0 0] from (show Blk _ _ 72 #[.int .i64 0,.int .i64 0,.int .u32 0,.int .u32 0,.int .i64 0,.int .i64 0,.int .i64 0,.slice none 0 0] from HRY.out.set_ 0 (.int .i64 0)).set_ 1 (.int .i64 0)).set_ 2 (.int .u32 0)).set_ 3 (.int .u32 0)).set_ 4 (.int .i64 0)).set_ 5 (.int .i64 0)).set_ 6 (.int .i64 0)).set_ 7 (.slice none 0 0))
 have HBW:=Lib.hid ((((((((HBY.out.setCell (p:=⟨w.heap.size,0,none⟩) (Nat.le_refl _) (.int .i64 0)).setCell (p:=⟨w.heap.size,1,none⟩) (Nat.le_refl _) (.int .i64 0)).setCell (p:=⟨w.heap.size,2,none⟩) (Nat.le_refl _) (.int .u32 0)).setCell (p:=⟨w.heap.size,3,none⟩) (Nat.le_refl _) (.int .u32 0)).setCell (p:=⟨w.heap.size,4,none⟩) (Nat.le_refl _) (.int .i64 0)).setCell (p:=⟨w.heap.size,5,none⟩) (Nat.le_refl _) (.int .i64 0)).setCell (p:=⟨w.heap.size,6,none⟩) (Nat.le_refl _) (.int .i64 0)).setCell (p:=⟨w.heap.size,7,none⟩) (Nat.le_refl _) (.slice none 0 0))
 clear r0 f0 r1 f1 r2 f2 r3 f3 r4 f4 r5 f5 r6 f6 r7 f7
 generalize ((((((((wy.setCell ⟨w.heap.size,0,none⟩ (.int .i64 0)).setCell ⟨w.heap.size,1,none⟩ (.int .i64 0)).setCell ⟨w.heap.size,2,none⟩ (.int .u32 0)).setCell ⟨w.heap.size,3,none⟩ (.int .u32 0)).setCell ⟨w.heap.size,4,none⟩ (.int .i64 0)).setCell ⟨w.heap.size,5,none⟩ (.int .i64 0)).setCell ⟨w.heap.size,6,none⟩ (.int .i64 0)).setCell ⟨w.heap.size,7,none⟩ (.slice none 0 0))=WW at *
 have z0:WW.cell? ⟨w.heap.size,0,none⟩=some (.int .i64 0):=hblk.cell 0
 have z1:WW.cell? ⟨w.heap.size,1,none⟩=some (.int .i64 0):=hblk.cell 1
 have z2:WW.cell? ⟨w.heap.size,2,none⟩=some (.int .u32 0):=hblk.cell 2
 have z3:WW.cell? ⟨w.heap.size,3,none⟩=some (.int .u32 0):=hblk.cell 3
 have z4:WW.cell? ⟨w.heap.size,4,none⟩=some (.int .i64 0):=hblk.cell 4
 have z5:WW.cell? ⟨w.heap.size,5,none⟩=some (.int .i64 0):=hblk.cell 5
 have z6:WW.cell? ⟨w.heap.size,6,none⟩=some (.int .i64 0):=hblk.cell 6
 have z7:WW.cell? ⟨w.heap.size,7,none⟩=some (.slice none 0 0):=hblk.cell 7
 clear hblk
 exact bodyPost_ret (v:=errt 13) (by simp [results,Try.results68,go_sem,errt,z0,z1,z2,z3,z4,z5,z6,z7]) rfl ⟨rfl,HBW.out⟩
def OkPost (w:World) (l:List Int) (s:Nat) (e:Ending) (w':World):Prop :=
 ∃ A c v,e=.returned (.tuple #[.agg #[.int .i64 (w16 l 0),.int .i64 (w16 l 2),.int .u32 (w32 l 4),.int .u32 (w32 l 8),.int .i64 (l.getD 13 0),.int .i64 (w16 l 14),.int .i64 (w16 l 18),.slice A (s - 20) c],v,.int .i64 0])∧(A=none→c=0)∧w'.ownsRow w.heap.size 5 1 (.slice A (s - 20) c) (s - 20) (((l.take s).drop 20).map (.int .u8))∧w'.ownsRow w.heap.size 5 1 v (l.length - s) ((l.drop s).map (.int .u8))∧Below w.heap.size w w'
theorem getD_take (l:List Int) (s i:Nat) (h:i<s):(l.take s).getD i 0=l.getD i 0:=by
 rw [List.getD_eq_getElem?_getD,List.getD_eq_getElem?_getD,List.getElem?_take,if_pos h]
theorem w16_take (l:List Int) (s i:Nat) (h:i+1<s):w16 (l.take s) i=w16 l i:=by
 unfold w16
 rw [getD_take l s i (by omega),getD_take l s (i+1) h]
theorem w32_take (l:List Int) (s i:Nat) (h:i+3<s):w32 (l.take s) i=w32 l i:=by
 unfold w32
 rw [w16_take l s i (by omega),w16_take l s (i+2) (by omega)]
theorem take_u8 {l:List Int} (h:∀ x ∈ l,0≤x∧x≤255) (k:Nat):∀ x ∈ l.take k,0≤x∧x≤255:=fun x hx=>h x (List.mem_of_mem_take hx)
theorem parse_ok_edge (b off s n2 c2:Nat) (A2:Option Addr) (l ps:List Int) (w:World) (hl:l.length=s) (hn:20≤s) (hn2:s≤1000) (hc:s≤9223372036854775807) (hb:b<w.heap.size) (hs:Lies w b off l) (hx:∀ x ∈ l,0≤x∧x≤255)
  (pl:ps.length=n2) (pn:n2≤1000) (pr:Row w w.heap.size A2 (ps.map (.int .u8))) (px:∀ x ∈ ps,0≤x∧x≤255)
  (h1:20≤l.getD 12 0 / 16*4) (h2:l.getD 12 0 / 16*4≤s) (h3:l.getD 12 0 % 16=0) (hS:fo (wsum (ps++l))=65535) (hsz:l.getD 12 0 / 16*4=(s:Int)) :
  Calls Try.prog 68 #[.slice (some ⟨b,off,none⟩) s s,.slice A2 n2 c2] w (OkPost w l s):=by
 have hx12:=getD_in l hx 12
 have q12:(w.alloc (.cells #[.int .i64 0,.int .i64 0,.int .u32 0,.int .u32 0,.int .i64 0,.int .i64 0,.int .i64 0,.slice none 0 0] 72)).cell? ⟨b,off+12,none⟩=some (.int .u8 (l.getD 12 0)):=(hs.below ((Below.refl _ _).alloc (Nat.le_refl _) (.cells #[.int .i64 0,.int .i64 0,.int .u32 0,.int .u32 0,.int .i64 0,.int .i64 0,.int .i64 0,.slice none 0 0] 72)) hb) 12 (by omega)
 have hand:=and15 (l.getD 12 0) hx12.1 hx12.2
 have HB0:=Lib.hid (show Below w.heap.size w (w.alloc (.cells #[.int .i64 0,.int .i64 0,.int .u32 0,.int .u32 0,.int .i64 0,.int .i64 0,.int .i64 0,.slice none 0 0] 72)) from (Below.refl _ _).alloc (Nat.le_refl _) _)
 have HRS:=Lib.hid (Blk.new w 72 #[.int .i64 0,.int .i64 0,.int .u32 0,.int .u32 0,.int .i64 0,.int .i64 0,.int .i64 0,.slice none 0 0])
 have y12:(12:Int)<(s:Int):=by omega
 have t1:decide (l.getD 12 0 / 16*4<20)=false:=decide_eq_false (by omega)
 have t2:decide ((s:Int)<l.getD 12 0 / 16*4)=false:=decide_eq_false (by omega)
 have t3:(l.getD 12 0 % 16 != 0)=false:=bneF h3
 have HS:=Lib.hid hs
 have HX:=Lib.hid hx
 have HL:=Lib.hid hl
 have PL:=Lib.hid pl
 have PR:=Lib.hid pr
 have PX:=Lib.hid px
 have HSZ:=Lib.hid (show (w.alloc (.cells #[.int .i64 0,.int .i64 0,.int .u32 0,.int .u32 0,.int .i64 0,.int .i64 0,.int .i64 0,.slice none 0 0] 72)).heap.size=w.heap.size+1 by simp)
 have tS:(fo (wsum (ps++l)) == 65535)=true:=eqT hS
 have s20:20≤s:=by omega
 have hnc:s≤s:=Nat.le_refl s
 have sn:s≤s:=by omega
 have HTL:=Lib.hid (show (l.take s).length=s by rw [List.length_take]; omega)
 have HTX:=Lib.hid (take_u8 hx s)
 have H0:=Lib.hid (w16_take l s 0 (by omega))
 have H2:=Lib.hid (w16_take l s 2 (by omega))
 have H4:=Lib.hid (w32_take l s 4 (by omega))
 have H8:=Lib.hid (w32_take l s 8 (by omega))
 have H13:=Lib.hid (getD_take l s 13 (by omega))
 have H14:=Lib.hid (w16_take l s 14 (by omega))
 have H18:=Lib.hid (w16_take l s 18 (by omega))
 have HLN:=Lib.hid (show 0=l.length - s by rw [hl,Nat.sub_self])
 clear hs hx pl pr px hl hS h3 h1 h2
 generalize hy:l.getD 12 0=y at *
 clear hy
 obtain ⟨z0,z1⟩:=hx12
 rw [hsz] at t1 t2
 go_enter Try.func68,Try.ntmps68
 go_wp2_with fail
 refine (right_at (w.heap.size+1) A2 (some ⟨b,off,none⟩) n2 s c2 s ps l w _ _ HSZ.out PL.out HL.out (by omega) (by omega) PR.out (HS.out.row hb) PX.out HX.out HB0.out).mono ?_
 rintro e w6 ⟨rfl,rfl⟩
 have HRY:=Lib.hid (HRS.out.alloc (.cells #[.slice A2 n2 c2,.slice (some ⟨b,off,none⟩) s s] 47))
 have HBY:=Lib.hid (HB0.out.alloc (by rw [HSZ.out]; omega) (.cells #[.slice A2 n2 c2,.slice (some ⟨b,off,none⟩) s s] 47))
 have HSY:=Lib.hid (show ((w.alloc (.cells #[.int .i64 0,.int .i64 0,.int .u32 0,.int .u32 0,.int .i64 0,.int .i64 0,.int .i64 0,.slice none 0 0] 72)).alloc (.cells #[.slice A2 n2 c2,.slice (some ⟨b,off,none⟩) s s] 47)).heap.size=w.heap.size+1+1 by simp)
 clear HRS HB0 HSZ q12
 generalize (w.alloc (.cells #[.int .i64 0,.int .i64 0,.int .u32 0,.int .u32 0,.int .i64 0,.int .i64 0,.int .i64 0,.slice none 0 0] 72)).alloc (.cells #[.slice A2 n2 c2,.slice (some ⟨b,off,none⟩) s s] 47)=wy at *
 rw [tS]
 clear tS
 clear hand t3
 have HBD:=Lib.hid HBY.out.drew
 have HSD:=Lib.hid (show wy.drew.heap.size=w.heap.size+1+1 from HSY.out)
 have HRDX:=Lib.hid (read_any b off s s (l.take s) wy.drew HTL.out s20 (by omega) (by omega) hc (by rw [HSD.out]; omega) ((HS.out.below HBD.out hb).take s) HTX.out)
 have HCX:=Lib.hid (fun (W:World) (hbw:Below w.heap.size w W)=>clone_any (some ⟨b,off,none⟩) 0 0 (l.drop s) W (by rw [List.length_drop,HL.out,Nat.sub_self]) (by omega) (by intro h; cases h) (.inl (by rw [List.drop_eq_nil_of_le (by rw [HL.out]; omega)]; rfl)))
 generalize ha0:w16 l 0=a0 at *
 generalize ha2:w16 l 2=a2 at *
 generalize ha4:w32 l 4=a4 at *
 generalize ha8:w32 l 8=a8 at *
 generalize ha13:l.getD 13 0=a13 at *
 generalize ha14:w16 l 14=a14 at *
 generalize ha18:w16 l 18=a18 at *
 have A0:=Lib.hid ha0
 have A2':=Lib.hid ha2
 have A4:=Lib.hid ha4
 have A8':=Lib.hid ha8
 have A13:=Lib.hid ha13
 have A14:=Lib.hid ha14
 have A18:=Lib.hid ha18
 clear ha0 ha2 ha4 ha8 ha13 ha14 ha18
 have i1:(0:Int)≤(s:Int):=by omega
 have i2:(s:Int)≤(s:Int):=by omega
 have i3:(s:Int)≤(s:Int):=by omega
 go_wp2_with fail
 go_region_held3 (fun w'=>Below w.heap.size w w') (first | with_reducible exact HBZ.out | with_reducible exact HB7.out | with_reducible exact HB6.out | with_reducible exact HBD.out | with_reducible exact HBY.out) (first
  | (go_at_call 85; refine HRDX.out.mono ?_; rintro e w7 ⟨A,m9,c9,he,hm,hnn,hown,hbel⟩; rw [H0.out,H2.out,H4.out,H8.out,H13.out,H14.out,H18.out] at he; rw [HTL.out] at hm; subst hm; subst he; have HNN:=Lib.hid hnn; have HO1a:=Lib.hid (own_base hown (show w.heap.size+1≤_ by rw [HSD.out]; omega)); have HB6:=Lib.hid (bel_call HBD.out hbel); have HR7:=Lib.hid (HRY.out.drew.below hbel HRY.out.drew.lt); have HS7:=Lib.hid (Nat.le_trans (Nat.le_of_eq HSD.out.symm) hbel.size); clear hown hbel hnn)
  | (go_at_call 67; refine (HCX.out w7 HB6.out).mono ?_; rintro e w8 ⟨v8,rfl,hown,hbel,hsz8⟩; have HO1:=Lib.hid (own_keep HO1a.out hbel); have HO2:=Lib.hid (own_base hown (show w.heap.size+1≤_ by have:=HS7.out; omega)); have HB7:=Lib.hid (bel_call HB6.out hbel); have HR8:=Lib.hid (HR7.out.below hbel HR7.out.lt); have r0:w8.cell? ⟨w.heap.size,0,none⟩=some (.int .i64 0):=HR8.out.cell 0; have f0:w8.frozen? ⟨w.heap.size,0,none⟩=false:=HR8.out.frozen 0; have r1:w8.cell? ⟨w.heap.size,1,none⟩=some (.int .i64 0):=HR8.out.cell 1; have f1:w8.frozen? ⟨w.heap.size,1,none⟩=false:=HR8.out.frozen 1; have r2:w8.cell? ⟨w.heap.size,2,none⟩=some (.int .u32 0):=HR8.out.cell 2; have f2:w8.frozen? ⟨w.heap.size,2,none⟩=false:=HR8.out.frozen 2; have r3:w8.cell? ⟨w.heap.size,3,none⟩=some (.int .u32 0):=HR8.out.cell 3; have f3:w8.frozen? ⟨w.heap.size,3,none⟩=false:=HR8.out.frozen 3; have r4:w8.cell? ⟨w.heap.size,4,none⟩=some (.int .i64 0):=HR8.out.cell 4; have f4:w8.frozen? ⟨w.heap.size,4,none⟩=false:=HR8.out.frozen 4; have r5:w8.cell? ⟨w.heap.size,5,none⟩=some (.int .i64 0):=HR8.out.cell 5; have f5:w8.frozen? ⟨w.heap.size,5,none⟩=false:=HR8.out.frozen 5; have r6:w8.cell? ⟨w.heap.size,6,none⟩=some (.int .i64 0):=HR8.out.cell 6; have f6:w8.frozen? ⟨w.heap.size,6,none⟩=false:=HR8.out.frozen 6; have r7:w8.cell? ⟨w.heap.size,7,none⟩=some (.slice none 0 0):=HR8.out.cell 7; have f7:w8.frozen? ⟨w.heap.size,7,none⟩=false:=HR8.out.frozen 7; have HBZ:=Lib.hid ((((((((HB7.out.setCell (p:=⟨w.heap.size,0,none⟩) (Nat.le_refl _) (.int .i64 a0)).setCell (p:=⟨w.heap.size,1,none⟩) (Nat.le_refl _) (.int .i64 a2)).setCell (p:=⟨w.heap.size,2,none⟩) (Nat.le_refl _) (.int .u32 a4)).setCell (p:=⟨w.heap.size,3,none⟩) (Nat.le_refl _) (.int .u32 a8)).setCell (p:=⟨w.heap.size,4,none⟩) (Nat.le_refl _) (.int .i64 a13)).setCell (p:=⟨w.heap.size,5,none⟩) (Nat.le_refl _) (.int .i64 a14)).setCell (p:=⟨w.heap.size,6,none⟩) (Nat.le_refl _) (.int .i64 a18)).setCell (p:=⟨w.heap.size,7,none⟩) (Nat.le_refl _) (.slice A (s - 20) c9)); clear hown hbel hsz8))
 go_wp2_with fail
 have hblk:=(show Blk _ _ 72 #[.int .i64 a0,.int .i64 a2,.int .u32 a4,.int .u32 a8,.int .i64 a13,.int .i64 a14,.int .i64 a18,.slice A (s - 20) c9] from (show Blk _ _ 72 #[.int .i64 a0,.int .i64 a2,.int .u32 a4,.int .u32 a8,.int .i64 a13,.int .i64 a14,.int .i64 a18,.slice none 0 0] from (show Blk _ _ 72 #[.int .i64 a0,.int .i64 a2,.int .u32 a4,.int .u32 a8,.int .i64 a13,.int .i64 a14,.int .i64 0,.slice none 0 0] from (show Blk _ _ 72 #[.int .i64 a0,.int .i64 a2,.int .u32 a4,.int .u32 a8,.int .i64 a13,.int .i64 0,.int .i64 0,.slice none 0 0] from (show Blk _ _ 72 #[.int .i64 a0,.int .i64 a2,.int .u32 a4,.int .u32 a8,.int .i64 0,.int .i64 0,.int .i64 0,.slice none 0 0] from (show Blk _ _ 72 #[.int .i64 a0,.int .i64 a2,.int .u32 a4,.int .u32 0,.int .i64 0,.int .i64 0,.int .i64 0,.slice none 0 0] from (show Blk _ _ 72 #[.int .i64 a0,.int .i64 a2,.int .u32 0,.int .u32 0,.int .i64 0,.int .i64 0,.int .i64 0,.slice none 0 0] from (show Blk _ _ 72 #[.int .i64 a0,.int .i64 0,.int .u32 0,.int .u32 0,.int .i64 0,.int .i64 0,.int .i64 0,.slice none 0 0] from HR8.out.set_ 0 (.int .i64 a0)).set_ 1 (.int .i64 a2)).set_ 2 (.int .u32 a4)).set_ 3 (.int .u32 a8)).set_ 4 (.int .i64 a13)).set_ 5 (.int .i64 a14)).set_ 6 (.int .i64 a18)).set_ 7 (.slice A (s - 20) c9))
 have HOA:=Lib.hid (own_base (own_far (own_far (own_far (own_far (own_far (own_far (own_far (own_far HO1.out ⟨w.heap.size,0,none⟩ (Nat.lt_succ_self _) (.int .i64 a0)) ⟨w.heap.size,1,none⟩ (Nat.lt_succ_self _) (.int .i64 a2)) ⟨w.heap.size,2,none⟩ (Nat.lt_succ_self _) (.int .u32 a4)) ⟨w.heap.size,3,none⟩ (Nat.lt_succ_self _) (.int .u32 a8)) ⟨w.heap.size,4,none⟩ (Nat.lt_succ_self _) (.int .i64 a13)) ⟨w.heap.size,5,none⟩ (Nat.lt_succ_self _) (.int .i64 a14)) ⟨w.heap.size,6,none⟩ (Nat.lt_succ_self _) (.int .i64 a18)) ⟨w.heap.size,7,none⟩ (Nat.lt_succ_self _) (.slice A (s - 20) c9)) (Nat.le_succ _))
 have HOB:=Lib.hid (own_base (own_far (own_far (own_far (own_far (own_far (own_far (own_far (own_far HO2.out ⟨w.heap.size,0,none⟩ (Nat.lt_succ_self _) (.int .i64 a0)) ⟨w.heap.size,1,none⟩ (Nat.lt_succ_self _) (.int .i64 a2)) ⟨w.heap.size,2,none⟩ (Nat.lt_succ_self _) (.int .u32 a4)) ⟨w.heap.size,3,none⟩ (Nat.lt_succ_self _) (.int .u32 a8)) ⟨w.heap.size,4,none⟩ (Nat.lt_succ_self _) (.int .i64 a13)) ⟨w.heap.size,5,none⟩ (Nat.lt_succ_self _) (.int .i64 a14)) ⟨w.heap.size,6,none⟩ (Nat.lt_succ_self _) (.int .i64 a18)) ⟨w.heap.size,7,none⟩ (Nat.lt_succ_self _) (.slice A (s - 20) c9)) (Nat.le_succ _))
 clear r0 f0 r1 f1 r2 f2 r3 f3 r4 f4 r5 f5 r6 f6 r7 f7
 generalize ((((((((w8.setCell ⟨w.heap.size,0,none⟩ (.int .i64 a0)).setCell ⟨w.heap.size,1,none⟩ (.int .i64 a2)).setCell ⟨w.heap.size,2,none⟩ (.int .u32 a4)).setCell ⟨w.heap.size,3,none⟩ (.int .u32 a8)).setCell ⟨w.heap.size,4,none⟩ (.int .i64 a13)).setCell ⟨w.heap.size,5,none⟩ (.int .i64 a14)).setCell ⟨w.heap.size,6,none⟩ (.int .i64 a18)).setCell ⟨w.heap.size,7,none⟩ (.slice A (s - 20) c9))=WW at *
 have y0:WW.cell? ⟨w.heap.size,0,none⟩=some (.int .i64 a0):=hblk.cell 0
 have y1:WW.cell? ⟨w.heap.size,1,none⟩=some (.int .i64 a2):=hblk.cell 1
 have y2:WW.cell? ⟨w.heap.size,2,none⟩=some (.int .u32 a4):=hblk.cell 2
 have y3:WW.cell? ⟨w.heap.size,3,none⟩=some (.int .u32 a8):=hblk.cell 3
 have y4:WW.cell? ⟨w.heap.size,4,none⟩=some (.int .i64 a13):=hblk.cell 4
 have y5:WW.cell? ⟨w.heap.size,5,none⟩=some (.int .i64 a14):=hblk.cell 5
 have y6:WW.cell? ⟨w.heap.size,6,none⟩=some (.int .i64 a18):=hblk.cell 6
 have y7:WW.cell? ⟨w.heap.size,7,none⟩=some (.slice A (s - 20) c9):=hblk.cell 7
 clear hblk
 rw [HLN.out] at HOB
 exact bodyPost_ret (v:=.tuple #[.agg #[.int .i64 a0,.int .i64 a2,.int .u32 a4,.int .u32 a8,.int .i64 a13,.int .i64 a14,.int .i64 a18,.slice A (s - 20) c9],v8,.int .i64 0]) (by simp [results,Try.results68,go_sem,y0,y1,y2,y3,y4,y5,y6,y7]) rfl ⟨A,c9,v8,by rw [A0.out,A2'.out,A4.out,A8'.out,A13.out,A14.out,A18.out],HNN.out,HOA.out,HOB.out,HBZ.out⟩
theorem parse_ok_far (b off n c n2 c2:Nat) (A2:Option Addr) (l ps:List Int) (w:World) (hl:l.length=n) (hn:20≤n) (hn2:n≤1000) (hnc:n≤c) (hc:c≤9223372036854775807) (hb:b<w.heap.size) (hs:Lies w b off l) (hx:∀ x ∈ l,0≤x∧x≤255)
  (pl:ps.length=n2) (pn:n2≤1000) (pr:Row w w.heap.size A2 (ps.map (.int .u8))) (px:∀ x ∈ ps,0≤x∧x≤255)
  (h1:20≤l.getD 12 0 / 16*4) (h2:l.getD 12 0 / 16*4≤n) (h3:l.getD 12 0 % 16=0) (hS:fo (wsum (ps++l))=65535) (s:Nat) (hsz:l.getD 12 0 / 16*4=(s:Int)) (hcs:¬ c=s) :
  Calls Try.prog 68 #[.slice (some ⟨b,off,none⟩) n c,.slice A2 n2 c2] w (OkPost w l s):=by
 have hx12:=getD_in l hx 12
 have q12:(w.alloc (.cells #[.int .i64 0,.int .i64 0,.int .u32 0,.int .u32 0,.int .i64 0,.int .i64 0,.int .i64 0,.slice none 0 0] 72)).cell? ⟨b,off+12,none⟩=some (.int .u8 (l.getD 12 0)):=(hs.below ((Below.refl _ _).alloc (Nat.le_refl _) (.cells #[.int .i64 0,.int .i64 0,.int .u32 0,.int .u32 0,.int .i64 0,.int .i64 0,.int .i64 0,.slice none 0 0] 72)) hb) 12 (by omega)
 have hand:=and15 (l.getD 12 0) hx12.1 hx12.2
 have HB0:=Lib.hid (show Below w.heap.size w (w.alloc (.cells #[.int .i64 0,.int .i64 0,.int .u32 0,.int .u32 0,.int .i64 0,.int .i64 0,.int .i64 0,.slice none 0 0] 72)) from (Below.refl _ _).alloc (Nat.le_refl _) _)
 have HRS:=Lib.hid (Blk.new w 72 #[.int .i64 0,.int .i64 0,.int .u32 0,.int .u32 0,.int .i64 0,.int .i64 0,.int .i64 0,.slice none 0 0])
 have y12:(12:Int)<(n:Int):=by omega
 have t1:decide (l.getD 12 0 / 16*4<20)=false:=decide_eq_false (by omega)
 have t2:decide ((n:Int)<l.getD 12 0 / 16*4)=false:=decide_eq_false (by omega)
 have t3:(l.getD 12 0 % 16 != 0)=false:=bneF h3
 have HS:=Lib.hid hs
 have HX:=Lib.hid hx
 have HL:=Lib.hid hl
 have PL:=Lib.hid pl
 have PR:=Lib.hid pr
 have PX:=Lib.hid px
 have HSZ:=Lib.hid (show (w.alloc (.cells #[.int .i64 0,.int .i64 0,.int .u32 0,.int .u32 0,.int .i64 0,.int .i64 0,.int .i64 0,.slice none 0 0] 72)).heap.size=w.heap.size+1 by simp)
 have tS:(fo (wsum (ps++l)) == 65535)=true:=eqT hS
 have s20:20≤s:=by omega
 have sn:s≤n:=by omega
 have HTL:=Lib.hid (show (l.take s).length=s by rw [List.length_take]; omega)
 have HTX:=Lib.hid (take_u8 hx s)
 have H0:=Lib.hid (w16_take l s 0 (by omega))
 have H2:=Lib.hid (w16_take l s 2 (by omega))
 have H4:=Lib.hid (w32_take l s 4 (by omega))
 have H8:=Lib.hid (w32_take l s 8 (by omega))
 have H13:=Lib.hid (getD_take l s 13 (by omega))
 have H14:=Lib.hid (w16_take l s 14 (by omega))
 have H18:=Lib.hid (w16_take l s 18 (by omega))
 have HLN:=Lib.hid (show n - s=l.length - s by rw [hl])
 clear hs hx pl pr px hl hS h3 h1 h2
 generalize hy:l.getD 12 0=y at *
 clear hy
 obtain ⟨z0,z1⟩:=hx12
 rw [hsz] at t1 t2
 go_enter Try.func68,Try.ntmps68
 go_wp2_with fail
 refine (right_at (w.heap.size+1) A2 (some ⟨b,off,none⟩) n2 n c2 c ps l w _ _ HSZ.out PL.out HL.out (by omega) (by omega) PR.out (HS.out.row hb) PX.out HX.out HB0.out).mono ?_
 rintro e w6 ⟨rfl,rfl⟩
 have HRY:=Lib.hid (HRS.out.alloc (.cells #[.slice A2 n2 c2,.slice (some ⟨b,off,none⟩) n c] 47))
 have HBY:=Lib.hid (HB0.out.alloc (by rw [HSZ.out]; omega) (.cells #[.slice A2 n2 c2,.slice (some ⟨b,off,none⟩) n c] 47))
 have HSY:=Lib.hid (show ((w.alloc (.cells #[.int .i64 0,.int .i64 0,.int .u32 0,.int .u32 0,.int .i64 0,.int .i64 0,.int .i64 0,.slice none 0 0] 72)).alloc (.cells #[.slice A2 n2 c2,.slice (some ⟨b,off,none⟩) n c] 47)).heap.size=w.heap.size+1+1 by simp)
 clear HRS HB0 HSZ q12
 generalize (w.alloc (.cells #[.int .i64 0,.int .i64 0,.int .u32 0,.int .u32 0,.int .i64 0,.int .i64 0,.int .i64 0,.slice none 0 0] 72)).alloc (.cells #[.slice A2 n2 c2,.slice (some ⟨b,off,none⟩) n c] 47)=wy at *
 rw [tS]
 clear tS
 clear hand t3
 have HBD:=Lib.hid HBY.out.drew
 have HSD:=Lib.hid (show wy.drew.heap.size=w.heap.size+1+1 from HSY.out)
 have HRDX:=Lib.hid (read_any b off s c (l.take s) wy.drew HTL.out s20 (by omega) (by omega) hc (by rw [HSD.out]; omega) ((HS.out.below HBD.out hb).take s) HTX.out)
 have HCX:=Lib.hid (fun (W:World) (hbw:Below w.heap.size w W)=>clone_any (some ⟨b,off+s,none⟩) (n - s) (c - s) (l.drop s) W (by rw [List.length_drop,HL.out]) (by omega) (by intro h; cases h) (((HS.out.below hbw hb).drop s).row (by have:=hbw.size; omega)))
 generalize ha0:w16 l 0=a0 at *
 generalize ha2:w16 l 2=a2 at *
 generalize ha4:w32 l 4=a4 at *
 generalize ha8:w32 l 8=a8 at *
 generalize ha13:l.getD 13 0=a13 at *
 generalize ha14:w16 l 14=a14 at *
 generalize ha18:w16 l 18=a18 at *
 have A0:=Lib.hid ha0
 have A2':=Lib.hid ha2
 have A4:=Lib.hid ha4
 have A8':=Lib.hid ha8
 have A13:=Lib.hid ha13
 have A14:=Lib.hid ha14
 have A18:=Lib.hid ha18
 clear ha0 ha2 ha4 ha8 ha13 ha14 ha18
 have i1:(0:Int)≤(s:Int):=by omega
 have i2:(s:Int)≤(n:Int):=by omega
 have i3:(s:Int)≤(c:Int):=by omega
 go_wp2_with fail
 go_region_held3 (fun w'=>Below w.heap.size w w') (first | with_reducible exact HBZ.out | with_reducible exact HB7.out | with_reducible exact HB6.out | with_reducible exact HBD.out | with_reducible exact HBY.out) (first
  | (go_at_call 85; refine HRDX.out.mono ?_; rintro e w7 ⟨A,m9,c9,he,hm,hnn,hown,hbel⟩; rw [H0.out,H2.out,H4.out,H8.out,H13.out,H14.out,H18.out] at he; rw [HTL.out] at hm; subst hm; subst he; have HNN:=Lib.hid hnn; have HO1a:=Lib.hid (own_base hown (show w.heap.size+1≤_ by rw [HSD.out]; omega)); have HB6:=Lib.hid (bel_call HBD.out hbel); have HR7:=Lib.hid (HRY.out.drew.below hbel HRY.out.drew.lt); have HS7:=Lib.hid (Nat.le_trans (Nat.le_of_eq HSD.out.symm) hbel.size); clear hown hbel hnn)
  | (go_at_call 67; refine (HCX.out w7 HB6.out).mono ?_; rintro e w8 ⟨v8,rfl,hown,hbel,hsz8⟩; have HO1:=Lib.hid (own_keep HO1a.out hbel); have HO2:=Lib.hid (own_base hown (show w.heap.size+1≤_ by have:=HS7.out; omega)); have HB7:=Lib.hid (bel_call HB6.out hbel); have HR8:=Lib.hid (HR7.out.below hbel HR7.out.lt); have r0:w8.cell? ⟨w.heap.size,0,none⟩=some (.int .i64 0):=HR8.out.cell 0; have f0:w8.frozen? ⟨w.heap.size,0,none⟩=false:=HR8.out.frozen 0; have r1:w8.cell? ⟨w.heap.size,1,none⟩=some (.int .i64 0):=HR8.out.cell 1; have f1:w8.frozen? ⟨w.heap.size,1,none⟩=false:=HR8.out.frozen 1; have r2:w8.cell? ⟨w.heap.size,2,none⟩=some (.int .u32 0):=HR8.out.cell 2; have f2:w8.frozen? ⟨w.heap.size,2,none⟩=false:=HR8.out.frozen 2; have r3:w8.cell? ⟨w.heap.size,3,none⟩=some (.int .u32 0):=HR8.out.cell 3; have f3:w8.frozen? ⟨w.heap.size,3,none⟩=false:=HR8.out.frozen 3; have r4:w8.cell? ⟨w.heap.size,4,none⟩=some (.int .i64 0):=HR8.out.cell 4; have f4:w8.frozen? ⟨w.heap.size,4,none⟩=false:=HR8.out.frozen 4; have r5:w8.cell? ⟨w.heap.size,5,none⟩=some (.int .i64 0):=HR8.out.cell 5; have f5:w8.frozen? ⟨w.heap.size,5,none⟩=false:=HR8.out.frozen 5; have r6:w8.cell? ⟨w.heap.size,6,none⟩=some (.int .i64 0):=HR8.out.cell 6; have f6:w8.frozen? ⟨w.heap.size,6,none⟩=false:=HR8.out.frozen 6; have r7:w8.cell? ⟨w.heap.size,7,none⟩=some (.slice none 0 0):=HR8.out.cell 7; have f7:w8.frozen? ⟨w.heap.size,7,none⟩=false:=HR8.out.frozen 7; have HBZ:=Lib.hid ((((((((HB7.out.setCell (p:=⟨w.heap.size,0,none⟩) (Nat.le_refl _) (.int .i64 a0)).setCell (p:=⟨w.heap.size,1,none⟩) (Nat.le_refl _) (.int .i64 a2)).setCell (p:=⟨w.heap.size,2,none⟩) (Nat.le_refl _) (.int .u32 a4)).setCell (p:=⟨w.heap.size,3,none⟩) (Nat.le_refl _) (.int .u32 a8)).setCell (p:=⟨w.heap.size,4,none⟩) (Nat.le_refl _) (.int .i64 a13)).setCell (p:=⟨w.heap.size,5,none⟩) (Nat.le_refl _) (.int .i64 a14)).setCell (p:=⟨w.heap.size,6,none⟩) (Nat.le_refl _) (.int .i64 a18)).setCell (p:=⟨w.heap.size,7,none⟩) (Nat.le_refl _) (.slice A (s - 20) c9)); clear hown hbel hsz8))
 go_wp2_with fail
 have hblk:=(show Blk _ _ 72 #[.int .i64 a0,.int .i64 a2,.int .u32 a4,.int .u32 a8,.int .i64 a13,.int .i64 a14,.int .i64 a18,.slice A (s - 20) c9] from (show Blk _ _ 72 #[.int .i64 a0,.int .i64 a2,.int .u32 a4,.int .u32 a8,.int .i64 a13,.int .i64 a14,.int .i64 a18,.slice none 0 0] from (show Blk _ _ 72 #[.int .i64 a0,.int .i64 a2,.int .u32 a4,.int .u32 a8,.int .i64 a13,.int .i64 a14,.int .i64 0,.slice none 0 0] from (show Blk _ _ 72 #[.int .i64 a0,.int .i64 a2,.int .u32 a4,.int .u32 a8,.int .i64 a13,.int .i64 0,.int .i64 0,.slice none 0 0] from (show Blk _ _ 72 #[.int .i64 a0,.int .i64 a2,.int .u32 a4,.int .u32 a8,.int .i64 0,.int .i64 0,.int .i64 0,.slice none 0 0] from (show Blk _ _ 72 #[.int .i64 a0,.int .i64 a2,.int .u32 a4,.int .u32 0,.int .i64 0,.int .i64 0,.int .i64 0,.slice none 0 0] from (show Blk _ _ 72 #[.int .i64 a0,.int .i64 a2,.int .u32 0,.int .u32 0,.int .i64 0,.int .i64 0,.int .i64 0,.slice none 0 0] from (show Blk _ _ 72 #[.int .i64 a0,.int .i64 0,.int .u32 0,.int .u32 0,.int .i64 0,.int .i64 0,.int .i64 0,.slice none 0 0] from HR8.out.set_ 0 (.int .i64 a0)).set_ 1 (.int .i64 a2)).set_ 2 (.int .u32 a4)).set_ 3 (.int .u32 a8)).set_ 4 (.int .i64 a13)).set_ 5 (.int .i64 a14)).set_ 6 (.int .i64 a18)).set_ 7 (.slice A (s - 20) c9))
 have HOA:=Lib.hid (own_base (own_far (own_far (own_far (own_far (own_far (own_far (own_far (own_far HO1.out ⟨w.heap.size,0,none⟩ (Nat.lt_succ_self _) (.int .i64 a0)) ⟨w.heap.size,1,none⟩ (Nat.lt_succ_self _) (.int .i64 a2)) ⟨w.heap.size,2,none⟩ (Nat.lt_succ_self _) (.int .u32 a4)) ⟨w.heap.size,3,none⟩ (Nat.lt_succ_self _) (.int .u32 a8)) ⟨w.heap.size,4,none⟩ (Nat.lt_succ_self _) (.int .i64 a13)) ⟨w.heap.size,5,none⟩ (Nat.lt_succ_self _) (.int .i64 a14)) ⟨w.heap.size,6,none⟩ (Nat.lt_succ_self _) (.int .i64 a18)) ⟨w.heap.size,7,none⟩ (Nat.lt_succ_self _) (.slice A (s - 20) c9)) (Nat.le_succ _))
 have HOB:=Lib.hid (own_base (own_far (own_far (own_far (own_far (own_far (own_far (own_far (own_far HO2.out ⟨w.heap.size,0,none⟩ (Nat.lt_succ_self _) (.int .i64 a0)) ⟨w.heap.size,1,none⟩ (Nat.lt_succ_self _) (.int .i64 a2)) ⟨w.heap.size,2,none⟩ (Nat.lt_succ_self _) (.int .u32 a4)) ⟨w.heap.size,3,none⟩ (Nat.lt_succ_self _) (.int .u32 a8)) ⟨w.heap.size,4,none⟩ (Nat.lt_succ_self _) (.int .i64 a13)) ⟨w.heap.size,5,none⟩ (Nat.lt_succ_self _) (.int .i64 a14)) ⟨w.heap.size,6,none⟩ (Nat.lt_succ_self _) (.int .i64 a18)) ⟨w.heap.size,7,none⟩ (Nat.lt_succ_self _) (.slice A (s - 20) c9)) (Nat.le_succ _))
 clear r0 f0 r1 f1 r2 f2 r3 f3 r4 f4 r5 f5 r6 f6 r7 f7
 generalize ((((((((w8.setCell ⟨w.heap.size,0,none⟩ (.int .i64 a0)).setCell ⟨w.heap.size,1,none⟩ (.int .i64 a2)).setCell ⟨w.heap.size,2,none⟩ (.int .u32 a4)).setCell ⟨w.heap.size,3,none⟩ (.int .u32 a8)).setCell ⟨w.heap.size,4,none⟩ (.int .i64 a13)).setCell ⟨w.heap.size,5,none⟩ (.int .i64 a14)).setCell ⟨w.heap.size,6,none⟩ (.int .i64 a18)).setCell ⟨w.heap.size,7,none⟩ (.slice A (s - 20) c9))=WW at *
 have y0:WW.cell? ⟨w.heap.size,0,none⟩=some (.int .i64 a0):=hblk.cell 0
 have y1:WW.cell? ⟨w.heap.size,1,none⟩=some (.int .i64 a2):=hblk.cell 1
 have y2:WW.cell? ⟨w.heap.size,2,none⟩=some (.int .u32 a4):=hblk.cell 2
 have y3:WW.cell? ⟨w.heap.size,3,none⟩=some (.int .u32 a8):=hblk.cell 3
 have y4:WW.cell? ⟨w.heap.size,4,none⟩=some (.int .i64 a13):=hblk.cell 4
 have y5:WW.cell? ⟨w.heap.size,5,none⟩=some (.int .i64 a14):=hblk.cell 5
 have y6:WW.cell? ⟨w.heap.size,6,none⟩=some (.int .i64 a18):=hblk.cell 6
 have y7:WW.cell? ⟨w.heap.size,7,none⟩=some (.slice A (s - 20) c9):=hblk.cell 7
 clear hblk
 rw [HLN.out] at HOB
 exact bodyPost_ret (v:=.tuple #[.agg #[.int .i64 a0,.int .i64 a2,.int .u32 a4,.int .u32 a8,.int .i64 a13,.int .i64 a14,.int .i64 a18,.slice A (s - 20) c9],v8,.int .i64 0]) (by simp [results,Try.results68,go_sem,y0,y1,y2,y3,y4,y5,y6,y7]) rfl ⟨A,c9,v8,by rw [A0.out,A2'.out,A4.out,A8'.out,A13.out,A14.out,A18.out],HNN.out,HOA.out,HOB.out,HBZ.out⟩
end Go.Proofs.Ytnofddbfogilaaa.tcpDn
/- Layer 12: a flow the other way round. -/
namespace Go.Proofs.Ytnofddbfogilaaa.icmpA
open Go.ChangeShapes Go.WideShapes Go.ChangeAt Go.RowKit
open base
set_option linter.unusedVariables false
theorem back_any (p:Int) (s6:Bool) (sh sl:Int) (d6:Bool) (dh dl sp dp:Int) (w:World) :
  Calls Try.prog 88 #[.agg #[.int .i64 p,.bool s6,.int .u64 sh,.int .u64 sl,.bool d6,.int .u64 dh,.int .u64 dl,.int .i64 sp,.int .i64 dp]] w
   fun e w'=>e=.returned (.agg #[.int .i64 p,.bool d6,.int .u64 dh,.int .u64 dl,.bool s6,.int .u64 sh,.int .u64 sl,.int .i64 dp,.int .i64 sp])∧Below w.heap.size w w':=by
 go_enter Try.func88,Try.ntmps88
 go_wp2_with fail
 exact bodyPost_ret (v:=.agg #[.int .i64 p,.bool d6,.int .u64 dh,.int .u64 dl,.bool s6,.int .u64 sh,.int .u64 sl,.int .i64 dp,.int .i64 sp]) (by simp [results,Try.results88,go_sem]) rfl ⟨rfl,((Below.refl _ _).alloc (Nat.le_refl _) _).alloc (by simp) _⟩
end Go.Proofs.Ytnofddbfogilaaa.icmpA
