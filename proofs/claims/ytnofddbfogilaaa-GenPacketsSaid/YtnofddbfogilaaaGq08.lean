/- 1 texts in one. -/
import Derived.Deep.RegionHeld3
import Derived.Test.YtnofddbfogilaaaGq07
/- Layer 8: bytes as a packet; what bytes quote. -/
namespace Go.Proofs.Ytnofddbfogilaaa.fourB
set_option maxHeartbeats 4000000
set_option maxRecDepth 100000
open Go.ChangeShapes Go.WideShapes Go.ChangeAt Go.RowKit
open base sumA sumB octA octB octC octF rdrA udpA tcpC net fourA
set_option linter.unusedVariables false
def err (k:Int):Value:=.tuple #[.agg #[.int .i64 0,.int .i64 0,.bool false,.bool false,.int .i64 0,.int .i64 0,.int .i64 0,.bool false,.int .u64 0,.int .u64 0,.bool false,.int .u64 0,.int .u64 0,.slice none 0 0],.slice none 0 0,.int .i64 k]
theorem take_u8' {l:List Int} (h:∀ x ∈ l,0≤x∧x≤255) (s:Nat):∀ x ∈ l.take s,0≤x∧x≤255:=fun x hx=>h x (List.mem_of_mem_take hx)
theorem getD_take (l:List Int) (s i:Nat) (h:i<s):(l.take s).getD i 0=l.getD i 0:=by
 rw [List.getD_eq_getElem?_getD,List.getD_eq_getElem?_getD,List.getElem?_take,if_pos h]
theorem w16_take (l:List Int) (s i:Nat) (h:i+1<s):w16 (l.take s) i=w16 l i:=by
 unfold w16
 rw [getD_take l s i (by omega),getD_take l s (i+1) h]
theorem w32_take (l:List Int) (s i:Nat) (h:i+3<s):w32 (l.take s) i=w32 l i:=by
 unfold w32
 rw [w16_take l s i (by omega),w16_take l s (i+2) (by omega)]
theorem hd_take (l:List Int) (s:Nat) (h:20≤s) (A:Option Addr) (n c:Nat):hd (l.take s) A n c=hd l A n c:=by
 unfold hd
 rw [getD_take l s 1 (by omega),getD_take l s 8 (by omega),getD_take l s 9 (by omega),w16_take l s 4 (by omega),w16_take l s 6 (by omega),w32_take l s 12 (by omega),w32_take l s 16 (by omega)]
theorem right_one (k:Nat) (A1:Option Addr) (n1 c1:Nat) (l1:List Int) (w W:World) (t:TypeId) (hk:W.heap.size=k) (h1:l1.length=n1) (k1:n1≤100000) (r1:Row w w.heap.size A1 (l1.map (.int .u8))) (b1:∀ x ∈ l1,0≤x∧x≤255) (hb:Below w.heap.size w W) :
  Calls Try.prog 65 #[.slice (some ⟨k,0,none⟩) 1 1] (W.alloc (.cells #[.slice A1 n1 c1] t)) fun e w'=>e=.returned (.bool (fo (wsum l1) == 65535))∧W.alloc (.cells #[.slice A1 n1 c1] t)=w':=by
 subst hk h1
 have hs:=hb.size
 have hb2:=hb.alloc hs (.cells #[.slice A1 l1.length c1] t)
 have e:flat [⟨A1,c1,l1⟩]=l1:=by simp [flat]
 have:=sumC.right_any (some ⟨W.heap.size,0,none⟩) 1 1 [⟨A1,c1,l1⟩] (W.alloc (.cells #[.slice A1 l1.length c1] t)) (W.heap.size+1) rfl (by omega) (by rw [e]; omega) ((sumC.row_blk (Blk.new W t _)).more (by simp)) (fun p hp=>by
  simp only [List.mem_cons,List.not_mem_nil,or_false] at hp
  subst hp
  exact ⟨(r1.below hb2).more (by omega),b1⟩)
 rwa [e] at this
theorem parse_begin (A:Option Addr) (n c:Nat) (k:Int) (hk:k≠0) (w:World) (h:∀ w,Calls Try.prog 63 #[.slice A n c] w fun e w'=>e=.returned (.tuple #[.int .i64 0,.int .i64 k])∧w=w') :
  Calls Try.prog 44 #[.slice A n c] w fun e w'=>e=.returned (err k)∧Below w.heap.size w w':=by
 have tk:(k != 0)=true:=bneT hk
 have H:=Lib.hid h
 clear h hk
 go_enter Try.func44,Try.ntmps44
 go_wp2_with fail
 refine (H.out _).mono ?_
 rintro e w1 ⟨rfl,rfl⟩
 go_wp2_with fail
 exact bodyPost_ret (v:=err k) (by simp [results,Try.results44,go_sem,err]) rfl ⟨rfl,(Below.refl _ _).alloc (Nat.le_refl _) _⟩
theorem quote_begin (A:Option Addr) (n c:Nat) (k:Int) (hk:k≠0) (w:World) (h:∀ w,Calls Try.prog 63 #[.slice A n c] w fun e w'=>e=.returned (.tuple #[.int .i64 0,.int .i64 k])∧w=w') :
  Calls Try.prog 102 #[.slice A n c] w fun e w'=>e=.returned (err k)∧Below w.heap.size w w':=by
 have tk:(k != 0)=true:=bneT hk
 have H:=Lib.hid h
 clear h hk
 go_enter Try.func102,Try.ntmps102
 go_wp2_with fail
 refine (H.out _).mono ?_
 rintro e w1 ⟨rfl,rfl⟩
 go_wp2_with fail
 exact bodyPost_ret (v:=err k) (by simp [results,Try.results102,go_sem,err]) rfl ⟨rfl,(Below.refl _ _).alloc (Nat.le_refl _) _⟩
theorem at_two (f:Nat) (A:Option Addr) (n c:Nat) (l:List Int) (w:World) (hl:l.length=n) (hn:n≤1000) (hc:n≤c) (hcm:c≤9223372036854775807) (hz:A=none→c=0) (hr:Row w w.heap.size A (l.map (.int .u8))) (hb:∀ x ∈ l,0≤x∧x≤255) (hf:f<100) :
  Calls Try.prog 64 #[.slice A n c,.int .i64 f,.int .i64 2] w fun e w'=>e=.returned (.int .u64 (w16 l f))∧w=w':=by
 have h:=at_any A n c l f 2 w hl (by omega) hc hcm hz hr hb (by omega)
 have e:atZ l f 2=w16 l f:=by
  unfold atZ
  rw [if_neg (by omega),show hs 2=2 from by decide,Int.toNat_natCast]
  show (0*256+l.getD (f+0) 0)*256+l.getD (f+1) 0=_
  unfold w16
  rw [Nat.add_zero,Int.zero_mul,Int.zero_add]
 rwa [e] at h
def OkPost (w:World) (l r:List Int) (s m:Nat) (e:Ending) (w':World):Prop :=
 ∃ A c v,e=.returned (.tuple #[hd l A (s - 20) c,v,.int .i64 0])∧(A=none→c=0)∧w'.ownsRow w.heap.size 5 1 (.slice A (s - 20) c) (s - 20) (((l.take s).drop 20).map (.int .u8))∧w'.ownsRow w.heap.size 5 1 v m (r.map (.int .u8))∧Below w.heap.size w w'
theorem quote_far (b off n c s:Nat) (l:List Int) (w:World) (hl':l.length=n) (hn:20≤n) (hn2:n≤1000) (hnc:n≤c) (hc:c≤9223372036854775807) (hb:b<w.heap.size) (hs:Lies w b off l) (hx:∀ x ∈ l,0≤x∧x≤255)
  (h1:l.getD 0 0 / 16=4) (h2:20≤s) (h3:s≤n) (hsz:hl l=(s:Int)) (hcs:¬ c=s) :
  Calls Try.prog 102 #[.slice (some ⟨b,off,none⟩) n c] w (OkPost w l (l.drop s) s (n - s)):=by
 have HBG:=Lib.hid (begin_ok b off n c l (w.alloc (.cells #[.int .i64 0,.int .i64 0,.bool false,.bool false,.int .i64 0,.int .i64 0,.int .i64 0,.bool false,.int .u64 0,.int .u64 0,.bool false,.int .u64 0,.int .u64 0,.slice none 0 0] 82)) hl' hn (by simp; omega) (hs.below ((Below.refl _ _).alloc (Nat.le_refl _) _) hb) hx h1 (by omega) (by omega))
 rw [hsz] at HBG
 have HL:=Lib.hid hl'
 have HS:=Lib.hid hs
 have HX:=Lib.hid hx
 have HTL:=Lib.hid (show (l.take s).length=s by rw [List.length_take]; omega)
 have HTX:=Lib.hid (take_u8' hx s)
 have HHT:=Lib.hid (hd_take l s h2)
 have HB0:=Lib.hid (show Below w.heap.size w (w.alloc (.cells #[.int .i64 0,.int .i64 0,.bool false,.bool false,.int .i64 0,.int .i64 0,.int .i64 0,.bool false,.int .u64 0,.int .u64 0,.bool false,.int .u64 0,.int .u64 0,.slice none 0 0] 82)) from (Below.refl _ _).alloc (Nat.le_refl _) _)
 have HR0:=Lib.hid (Blk.new w 82 #[.int .i64 0,.int .i64 0,.bool false,.bool false,.int .i64 0,.int .i64 0,.int .i64 0,.bool false,.int .u64 0,.int .u64 0,.bool false,.int .u64 0,.int .u64 0,.slice none 0 0])
 have HZ0:=Lib.hid (show w.heap.size+1≤(w.alloc (.cells #[.int .i64 0,.int .i64 0,.bool false,.bool false,.int .i64 0,.int .i64 0,.int .i64 0,.bool false,.int .u64 0,.int .u64 0,.bool false,.int .u64 0,.int .u64 0,.slice none 0 0] 82)).heap.size by simp)
 have i1:(0:Int)≤(s:Int):=by omega
 have i2:(s:Int)≤(n:Int):=by omega
 have i3:(s:Int)≤(c:Int):=by omega
 have HCX:=Lib.hid (fun (W:World) (hbw:Below w.heap.size w W)=>clone_any (some ⟨b,off+s,none⟩) (n - s) (c - s) (l.drop s) W (by rw [List.length_drop,hl']) (by omega) (by intro h; cases h) (((HS.out.below hbw hb).drop s).row (Nat.lt_of_lt_of_le hb hbw.size)))
 have HHD0:∀ A n c,hd l A n c=.agg #[.int .i64 (l.getD 1 0),.int .i64 (w16 l 4),.bool (decide (w16 l 6 / 16384 % 2=1)),.bool (decide (w16 l 6 / 8192 % 2=1)),.int .i64 (w16 l 6 % 8192),.int .i64 (l.getD 8 0),.int .i64 (l.getD 9 0),.bool false,.int .u64 0,.int .u64 (w32 l 12),.bool false,.int .u64 0,.int .u64 (w32 l 16),.slice A n c]:=fun _ _ _=>rfl
 generalize l.getD 1 0=a0 at *
 generalize w16 l 4=a1 at *
 generalize decide (w16 l 6 / 16384 % 2=1)=a2 at *
 generalize decide (w16 l 6 / 8192 % 2=1)=a3 at *
 generalize w16 l 6 % 8192=a4 at *
 generalize l.getD 8 0=a5 at *
 generalize l.getD 9 0=a6 at *
 generalize w32 l 12=a9 at *
 generalize w32 l 16=a12 at *
 have HHD:=Lib.hid HHD0
 clear HHD0
 clear hs hx hl' h1 hsz
 go_enter Try.func102,Try.ntmps102
 go_wp2_with fail
 refine HBG.out.mono ?_
 rintro e w1 ⟨rfl,hw⟩
 subst hw
 have HBY:=HB0
 have HRY:=HR0
 have HSY:=HZ0
 clear HB0 HR0 HZ0 HBG
 generalize (w.alloc (.cells #[.int .i64 0,.int .i64 0,.bool false,.bool false,.int .i64 0,.int .i64 0,.int .i64 0,.bool false,.int .u64 0,.int .u64 0,.bool false,.int .u64 0,.int .u64 0,.slice none 0 0] 82))=wy at *
 have HBD:=Lib.hid HBY.out.drew
 have HSD:=Lib.hid (show w.heap.size+1≤wy.drew.heap.size from HSY.out)
 have HRDX:=Lib.hid (fourA.read_any b off s c (l.take s) wy.drew HTL.out h2 (by omega) (by omega) hc (by have:=HSD.out; omega) ((HS.out.below HBD.out hb).take _) HTX.out)
 go_wp2_with fail
 go_region_held3 (fun w'=>Below w.heap.size w w') (first | with_reducible exact HBZ.out | with_reducible exact HB7.out | with_reducible exact HB6.out | with_reducible exact HBD.out | with_reducible exact HBY.out) (first
  | (go_at_call 66; refine HRDX.out.mono ?_; rintro e w7 ⟨A,m9,c9,hm,he,hnn,hown,hbel⟩; rw [HTL.out] at hm; subst hm; rw [HHT.out,HHD.out] at he; subst he; have HNN:=Lib.hid hnn; have HO1a:=Lib.hid (own_base hown (show w.heap.size+1≤_ from HSD.out)); have HB6:=Lib.hid (bel_call HBD.out hbel); have HR7:=Lib.hid (HRY.out.drew.below hbel HRY.out.drew.lt); have HS7:=Lib.hid (Nat.le_trans HSD.out hbel.size); clear hown hbel hnn)
  | (go_at_call 67; refine (HCX.out w7 HB6.out).mono ?_; rintro e w8 ⟨v8,rfl,hown,hbel,hsz8⟩; have HO1:=Lib.hid (own_keep HO1a.out hbel); have HO2:=Lib.hid (own_base hown HS7.out); have HB7:=Lib.hid (bel_call HB6.out hbel); have HR8:=Lib.hid (HR7.out.below hbel HR7.out.lt); have r0:w8.cell? ⟨w.heap.size,0,none⟩=some (.int .i64 0):=HR8.out.cell 0; have f0:w8.frozen? ⟨w.heap.size,0,none⟩=false:=HR8.out.frozen 0; have r1:w8.cell? ⟨w.heap.size,1,none⟩=some (.int .i64 0):=HR8.out.cell 1; have f1:w8.frozen? ⟨w.heap.size,1,none⟩=false:=HR8.out.frozen 1; have r2:w8.cell? ⟨w.heap.size,2,none⟩=some (.bool false):=HR8.out.cell 2; have f2:w8.frozen? ⟨w.heap.size,2,none⟩=false:=HR8.out.frozen 2; have r3:w8.cell? ⟨w.heap.size,3,none⟩=some (.bool false):=HR8.out.cell 3; have f3:w8.frozen? ⟨w.heap.size,3,none⟩=false:=HR8.out.frozen 3; have r4:w8.cell? ⟨w.heap.size,4,none⟩=some (.int .i64 0):=HR8.out.cell 4; have f4:w8.frozen? ⟨w.heap.size,4,none⟩=false:=HR8.out.frozen 4; have r5:w8.cell? ⟨w.heap.size,5,none⟩=some (.int .i64 0):=HR8.out.cell 5; have f5:w8.frozen? ⟨w.heap.size,5,none⟩=false:=HR8.out.frozen 5; have r6:w8.cell? ⟨w.heap.size,6,none⟩=some (.int .i64 0):=HR8.out.cell 6; have f6:w8.frozen? ⟨w.heap.size,6,none⟩=false:=HR8.out.frozen 6; have r7:w8.cell? ⟨w.heap.size,7,none⟩=some (.bool false):=HR8.out.cell 7; have f7:w8.frozen? ⟨w.heap.size,7,none⟩=false:=HR8.out.frozen 7; have r8:w8.cell? ⟨w.heap.size,8,none⟩=some (.int .u64 0):=HR8.out.cell 8; have f8:w8.frozen? ⟨w.heap.size,8,none⟩=false:=HR8.out.frozen 8; have r9:w8.cell? ⟨w.heap.size,9,none⟩=some (.int .u64 0):=HR8.out.cell 9; have f9:w8.frozen? ⟨w.heap.size,9,none⟩=false:=HR8.out.frozen 9; have r10:w8.cell? ⟨w.heap.size,10,none⟩=some (.bool false):=HR8.out.cell 10; have f10:w8.frozen? ⟨w.heap.size,10,none⟩=false:=HR8.out.frozen 10; have r11:w8.cell? ⟨w.heap.size,11,none⟩=some (.int .u64 0):=HR8.out.cell 11; have f11:w8.frozen? ⟨w.heap.size,11,none⟩=false:=HR8.out.frozen 11; have r12:w8.cell? ⟨w.heap.size,12,none⟩=some (.int .u64 0):=HR8.out.cell 12; have f12:w8.frozen? ⟨w.heap.size,12,none⟩=false:=HR8.out.frozen 12; have r13:w8.cell? ⟨w.heap.size,13,none⟩=some (.slice none 0 0):=HR8.out.cell 13; have f13:w8.frozen? ⟨w.heap.size,13,none⟩=false:=HR8.out.frozen 13; have HBZ:=Lib.hid ((((((((((((((HB7.out.setCell (p:=⟨w.heap.size,0,none⟩) (Nat.le_refl _) (.int .i64 a0)).setCell (p:=⟨w.heap.size,1,none⟩) (Nat.le_refl _) (.int .i64 a1)).setCell (p:=⟨w.heap.size,2,none⟩) (Nat.le_refl _) (.bool a2)).setCell (p:=⟨w.heap.size,3,none⟩) (Nat.le_refl _) (.bool a3)).setCell (p:=⟨w.heap.size,4,none⟩) (Nat.le_refl _) (.int .i64 a4)).setCell (p:=⟨w.heap.size,5,none⟩) (Nat.le_refl _) (.int .i64 a5)).setCell (p:=⟨w.heap.size,6,none⟩) (Nat.le_refl _) (.int .i64 a6)).setCell (p:=⟨w.heap.size,7,none⟩) (Nat.le_refl _) (.bool false)).setCell (p:=⟨w.heap.size,8,none⟩) (Nat.le_refl _) (.int .u64 0)).setCell (p:=⟨w.heap.size,9,none⟩) (Nat.le_refl _) (.int .u64 a9)).setCell (p:=⟨w.heap.size,10,none⟩) (Nat.le_refl _) (.bool false)).setCell (p:=⟨w.heap.size,11,none⟩) (Nat.le_refl _) (.int .u64 0)).setCell (p:=⟨w.heap.size,12,none⟩) (Nat.le_refl _) (.int .u64 a12)).setCell (p:=⟨w.heap.size,13,none⟩) (Nat.le_refl _) (.slice A (s - 20) c9)); clear hown hbel hsz8))
 go_wp2_with fail
 have hblk:=(show Blk _ _ 82 #[.int .i64 a0,.int .i64 a1,.bool a2,.bool a3,.int .i64 a4,.int .i64 a5,.int .i64 a6,.bool false,.int .u64 0,.int .u64 a9,.bool false,.int .u64 0,.int .u64 a12,.slice A (s - 20) c9] from (show Blk _ _ 82 #[.int .i64 a0,.int .i64 a1,.bool a2,.bool a3,.int .i64 a4,.int .i64 a5,.int .i64 a6,.bool false,.int .u64 0,.int .u64 a9,.bool false,.int .u64 0,.int .u64 a12,.slice none 0 0] from (show Blk _ _ 82 #[.int .i64 a0,.int .i64 a1,.bool a2,.bool a3,.int .i64 a4,.int .i64 a5,.int .i64 a6,.bool false,.int .u64 0,.int .u64 a9,.bool false,.int .u64 0,.int .u64 0,.slice none 0 0] from (show Blk _ _ 82 #[.int .i64 a0,.int .i64 a1,.bool a2,.bool a3,.int .i64 a4,.int .i64 a5,.int .i64 a6,.bool false,.int .u64 0,.int .u64 a9,.bool false,.int .u64 0,.int .u64 0,.slice none 0 0] from (show Blk _ _ 82 #[.int .i64 a0,.int .i64 a1,.bool a2,.bool a3,.int .i64 a4,.int .i64 a5,.int .i64 a6,.bool false,.int .u64 0,.int .u64 a9,.bool false,.int .u64 0,.int .u64 0,.slice none 0 0] from (show Blk _ _ 82 #[.int .i64 a0,.int .i64 a1,.bool a2,.bool a3,.int .i64 a4,.int .i64 a5,.int .i64 a6,.bool false,.int .u64 0,.int .u64 0,.bool false,.int .u64 0,.int .u64 0,.slice none 0 0] from (show Blk _ _ 82 #[.int .i64 a0,.int .i64 a1,.bool a2,.bool a3,.int .i64 a4,.int .i64 a5,.int .i64 a6,.bool false,.int .u64 0,.int .u64 0,.bool false,.int .u64 0,.int .u64 0,.slice none 0 0] from (show Blk _ _ 82 #[.int .i64 a0,.int .i64 a1,.bool a2,.bool a3,.int .i64 a4,.int .i64 a5,.int .i64 a6,.bool false,.int .u64 0,.int .u64 0,.bool false,.int .u64 0,.int .u64 0,.slice none 0 0] from (show Blk _ _ 82 #[.int .i64 a0,.int .i64 a1,.bool a2,.bool a3,.int .i64 a4,.int .i64 a5,.int .i64 0,.bool false,.int .u64 0,.int .u64 0,.bool false,.int .u64 0,.int .u64 0,.slice none 0 0] from (show Blk _ _ 82 #[.int .i64 a0,.int .i64 a1,.bool a2,.bool a3,.int .i64 a4,.int .i64 0,.int .i64 0,.bool false,.int .u64 0,.int .u64 0,.bool false,.int .u64 0,.int .u64 0,.slice none 0 0] from (show Blk _ _ 82 #[.int .i64 a0,.int .i64 a1,.bool a2,.bool a3,.int .i64 0,.int .i64 0,.int .i64 0,.bool false,.int .u64 0,.int .u64 0,.bool false,.int .u64 0,.int .u64 0,.slice none 0 0] from (show Blk _ _ 82 #[.int .i64 a0,.int .i64 a1,.bool a2,.bool false,.int .i64 0,.int .i64 0,.int .i64 0,.bool false,.int .u64 0,.int .u64 0,.bool false,.int .u64 0,.int .u64 0,.slice none 0 0] from (show Blk _ _ 82 #[.int .i64 a0,.int .i64 a1,.bool false,.bool false,.int .i64 0,.int .i64 0,.int .i64 0,.bool false,.int .u64 0,.int .u64 0,.bool false,.int .u64 0,.int .u64 0,.slice none 0 0] from (show Blk _ _ 82 #[.int .i64 a0,.int .i64 0,.bool false,.bool false,.int .i64 0,.int .i64 0,.int .i64 0,.bool false,.int .u64 0,.int .u64 0,.bool false,.int .u64 0,.int .u64 0,.slice none 0 0] from HR8.out.set_ 0 (.int .i64 a0)).set_ 1 (.int .i64 a1)).set_ 2 (.bool a2)).set_ 3 (.bool a3)).set_ 4 (.int .i64 a4)).set_ 5 (.int .i64 a5)).set_ 6 (.int .i64 a6)).set_ 7 (.bool false)).set_ 8 (.int .u64 0)).set_ 9 (.int .u64 a9)).set_ 10 (.bool false)).set_ 11 (.int .u64 0)).set_ 12 (.int .u64 a12)).set_ 13 (.slice A (s - 20) c9))
 have HOA:=Lib.hid (own_base (own_far (own_far (own_far (own_far (own_far (own_far (own_far (own_far (own_far (own_far (own_far (own_far (own_far (own_far HO1.out ⟨w.heap.size,0,none⟩ (Nat.lt_succ_self _) (.int .i64 a0)) ⟨w.heap.size,1,none⟩ (Nat.lt_succ_self _) (.int .i64 a1)) ⟨w.heap.size,2,none⟩ (Nat.lt_succ_self _) (.bool a2)) ⟨w.heap.size,3,none⟩ (Nat.lt_succ_self _) (.bool a3)) ⟨w.heap.size,4,none⟩ (Nat.lt_succ_self _) (.int .i64 a4)) ⟨w.heap.size,5,none⟩ (Nat.lt_succ_self _) (.int .i64 a5)) ⟨w.heap.size,6,none⟩ (Nat.lt_succ_self _) (.int .i64 a6)) ⟨w.heap.size,7,none⟩ (Nat.lt_succ_self _) (.bool false)) ⟨w.heap.size,8,none⟩ (Nat.lt_succ_self _) (.int .u64 0)) ⟨w.heap.size,9,none⟩ (Nat.lt_succ_self _) (.int .u64 a9)) ⟨w.heap.size,10,none⟩ (Nat.lt_succ_self _) (.bool false)) ⟨w.heap.size,11,none⟩ (Nat.lt_succ_self _) (.int .u64 0)) ⟨w.heap.size,12,none⟩ (Nat.lt_succ_self _) (.int .u64 a12)) ⟨w.heap.size,13,none⟩ (Nat.lt_succ_self _) (.slice A (s - 20) c9)) (Nat.le_succ _))
 have HOB:=Lib.hid (own_base (own_far (own_far (own_far (own_far (own_far (own_far (own_far (own_far (own_far (own_far (own_far (own_far (own_far (own_far HO2.out ⟨w.heap.size,0,none⟩ (Nat.lt_succ_self _) (.int .i64 a0)) ⟨w.heap.size,1,none⟩ (Nat.lt_succ_self _) (.int .i64 a1)) ⟨w.heap.size,2,none⟩ (Nat.lt_succ_self _) (.bool a2)) ⟨w.heap.size,3,none⟩ (Nat.lt_succ_self _) (.bool a3)) ⟨w.heap.size,4,none⟩ (Nat.lt_succ_self _) (.int .i64 a4)) ⟨w.heap.size,5,none⟩ (Nat.lt_succ_self _) (.int .i64 a5)) ⟨w.heap.size,6,none⟩ (Nat.lt_succ_self _) (.int .i64 a6)) ⟨w.heap.size,7,none⟩ (Nat.lt_succ_self _) (.bool false)) ⟨w.heap.size,8,none⟩ (Nat.lt_succ_self _) (.int .u64 0)) ⟨w.heap.size,9,none⟩ (Nat.lt_succ_self _) (.int .u64 a9)) ⟨w.heap.size,10,none⟩ (Nat.lt_succ_self _) (.bool false)) ⟨w.heap.size,11,none⟩ (Nat.lt_succ_self _) (.int .u64 0)) ⟨w.heap.size,12,none⟩ (Nat.lt_succ_self _) (.int .u64 a12)) ⟨w.heap.size,13,none⟩ (Nat.lt_succ_self _) (.slice A (s - 20) c9)) (Nat.le_succ _))
 clear r0 f0 r1 f1 r2 f2 r3 f3 r4 f4 r5 f5 r6 f6 r7 f7 r8 f8 r9 f9 r10 f10 r11 f11 r12 f12 r13 f13
 generalize ((((((((((((((w8.setCell ⟨w.heap.size,0,none⟩ (.int .i64 a0)).setCell ⟨w.heap.size,1,none⟩ (.int .i64 a1)).setCell ⟨w.heap.size,2,none⟩ (.bool a2)).setCell ⟨w.heap.size,3,none⟩ (.bool a3)).setCell ⟨w.heap.size,4,none⟩ (.int .i64 a4)).setCell ⟨w.heap.size,5,none⟩ (.int .i64 a5)).setCell ⟨w.heap.size,6,none⟩ (.int .i64 a6)).setCell ⟨w.heap.size,7,none⟩ (.bool false)).setCell ⟨w.heap.size,8,none⟩ (.int .u64 0)).setCell ⟨w.heap.size,9,none⟩ (.int .u64 a9)).setCell ⟨w.heap.size,10,none⟩ (.bool false)).setCell ⟨w.heap.size,11,none⟩ (.int .u64 0)).setCell ⟨w.heap.size,12,none⟩ (.int .u64 a12)).setCell ⟨w.heap.size,13,none⟩ (.slice A (s - 20) c9))=WW at *
 have y0:WW.cell? ⟨w.heap.size,0,none⟩=some (.int .i64 a0):=hblk.cell 0
 have y1:WW.cell? ⟨w.heap.size,1,none⟩=some (.int .i64 a1):=hblk.cell 1
 have y2:WW.cell? ⟨w.heap.size,2,none⟩=some (.bool a2):=hblk.cell 2
 have y3:WW.cell? ⟨w.heap.size,3,none⟩=some (.bool a3):=hblk.cell 3
 have y4:WW.cell? ⟨w.heap.size,4,none⟩=some (.int .i64 a4):=hblk.cell 4
 have y5:WW.cell? ⟨w.heap.size,5,none⟩=some (.int .i64 a5):=hblk.cell 5
 have y6:WW.cell? ⟨w.heap.size,6,none⟩=some (.int .i64 a6):=hblk.cell 6
 have y7:WW.cell? ⟨w.heap.size,7,none⟩=some (.bool false):=hblk.cell 7
 have y8:WW.cell? ⟨w.heap.size,8,none⟩=some (.int .u64 0):=hblk.cell 8
 have y9:WW.cell? ⟨w.heap.size,9,none⟩=some (.int .u64 a9):=hblk.cell 9
 have y10:WW.cell? ⟨w.heap.size,10,none⟩=some (.bool false):=hblk.cell 10
 have y11:WW.cell? ⟨w.heap.size,11,none⟩=some (.int .u64 0):=hblk.cell 11
 have y12:WW.cell? ⟨w.heap.size,12,none⟩=some (.int .u64 a12):=hblk.cell 12
 have y13:WW.cell? ⟨w.heap.size,13,none⟩=some (.slice A (s - 20) c9):=hblk.cell 13
 clear hblk
 exact bodyPost_ret (v:=.tuple #[.agg #[.int .i64 a0,.int .i64 a1,.bool a2,.bool a3,.int .i64 a4,.int .i64 a5,.int .i64 a6,.bool false,.int .u64 0,.int .u64 a9,.bool false,.int .u64 0,.int .u64 a12,.slice A (s - 20) c9],v8,.int .i64 0]) (by simp [results,Try.results102,go_sem,y0,y1,y2,y3,y4,y5,y6,y7,y8,y9,y10,y11,y12,y13]) rfl ⟨A,c9,v8,by rw [HHD.out],HNN.out,HOA.out,HOB.out,HBZ.out⟩
theorem quote_near (b off n c s:Nat) (l:List Int) (w:World) (hl':l.length=n) (hn:20≤n) (hn2:n≤1000) (hnc:n≤c) (hc:c≤9223372036854775807) (hb:b<w.heap.size) (hs:Lies w b off l) (hx:∀ x ∈ l,0≤x∧x≤255)
  (h1:l.getD 0 0 / 16=4) (h2:20≤s) (h3:s≤n) (hsz:hl l=(s:Int)) (hcs:c=s) :
  Calls Try.prog 102 #[.slice (some ⟨b,off,none⟩) n c] w (OkPost w l (l.drop s) s (n - s)):=by
 have HBG:=Lib.hid (begin_ok b off n c l (w.alloc (.cells #[.int .i64 0,.int .i64 0,.bool false,.bool false,.int .i64 0,.int .i64 0,.int .i64 0,.bool false,.int .u64 0,.int .u64 0,.bool false,.int .u64 0,.int .u64 0,.slice none 0 0] 82)) hl' hn (by simp; omega) (hs.below ((Below.refl _ _).alloc (Nat.le_refl _) _) hb) hx h1 (by omega) (by omega))
 rw [hsz] at HBG
 have HCN:=Lib.hid (show n≤s by omega)
 have HL:=Lib.hid hl'
 have HS:=Lib.hid hs
 have HX:=Lib.hid hx
 have HTL:=Lib.hid (show (l.take s).length=s by rw [List.length_take]; omega)
 have HTX:=Lib.hid (take_u8' hx s)
 have HHT:=Lib.hid (hd_take l s h2)
 have HB0:=Lib.hid (show Below w.heap.size w (w.alloc (.cells #[.int .i64 0,.int .i64 0,.bool false,.bool false,.int .i64 0,.int .i64 0,.int .i64 0,.bool false,.int .u64 0,.int .u64 0,.bool false,.int .u64 0,.int .u64 0,.slice none 0 0] 82)) from (Below.refl _ _).alloc (Nat.le_refl _) _)
 have HR0:=Lib.hid (Blk.new w 82 #[.int .i64 0,.int .i64 0,.bool false,.bool false,.int .i64 0,.int .i64 0,.int .i64 0,.bool false,.int .u64 0,.int .u64 0,.bool false,.int .u64 0,.int .u64 0,.slice none 0 0])
 have HZ0:=Lib.hid (show w.heap.size+1≤(w.alloc (.cells #[.int .i64 0,.int .i64 0,.bool false,.bool false,.int .i64 0,.int .i64 0,.int .i64 0,.bool false,.int .u64 0,.int .u64 0,.bool false,.int .u64 0,.int .u64 0,.slice none 0 0] 82)).heap.size by simp)
 have i1:(0:Int)≤(s:Int):=by omega
 have i2:(s:Int)≤(n:Int):=by omega
 have i3:(s:Int)≤(c:Int):=by omega
 have HCX:=Lib.hid (fun (W:World) (hbw:Below w.heap.size w W)=>clone_any (some ⟨b,off,none⟩) (n - s) (c - s) (l.drop s) W (by rw [List.length_drop,hl']) (by omega) (by intro h; cases h) (.inl (by rw [List.drop_eq_nil_of_le (by rw [HL.out]; exact HCN.out)]; rfl)))
 have HHD0:∀ A n c,hd l A n c=.agg #[.int .i64 (l.getD 1 0),.int .i64 (w16 l 4),.bool (decide (w16 l 6 / 16384 % 2=1)),.bool (decide (w16 l 6 / 8192 % 2=1)),.int .i64 (w16 l 6 % 8192),.int .i64 (l.getD 8 0),.int .i64 (l.getD 9 0),.bool false,.int .u64 0,.int .u64 (w32 l 12),.bool false,.int .u64 0,.int .u64 (w32 l 16),.slice A n c]:=fun _ _ _=>rfl
 generalize l.getD 1 0=a0 at *
 generalize w16 l 4=a1 at *
 generalize decide (w16 l 6 / 16384 % 2=1)=a2 at *
 generalize decide (w16 l 6 / 8192 % 2=1)=a3 at *
 generalize w16 l 6 % 8192=a4 at *
 generalize l.getD 8 0=a5 at *
 generalize l.getD 9 0=a6 at *
 generalize w32 l 12=a9 at *
 generalize w32 l 16=a12 at *
 have HHD:=Lib.hid HHD0
 clear HHD0
 obtain rfl:c=n:=by omega
 obtain rfl:c=s:=by omega
 clear hs hx hl' h1 hsz i2 i3 hnc h3 HCN
 rw [Nat.sub_self] at HCX ⊢
 go_enter Try.func102,Try.ntmps102
 go_wp2_with fail
 refine HBG.out.mono ?_
 rintro e w1 ⟨rfl,hw⟩
 subst hw
 have HBY:=HB0
 have HRY:=HR0
 have HSY:=HZ0
 clear HB0 HR0 HZ0 HBG
 generalize (w.alloc (.cells #[.int .i64 0,.int .i64 0,.bool false,.bool false,.int .i64 0,.int .i64 0,.int .i64 0,.bool false,.int .u64 0,.int .u64 0,.bool false,.int .u64 0,.int .u64 0,.slice none 0 0] 82))=wy at *
 have HBD:=Lib.hid HBY.out.drew
 have HSD:=Lib.hid (show w.heap.size+1≤wy.drew.heap.size from HSY.out)
 have HRDX:=Lib.hid (fourA.read_any b off c c (l.take c) wy.drew HTL.out h2 (by omega) (by omega) hc (by have:=HSD.out; omega) ((HS.out.below HBD.out hb).take _) HTX.out)
 go_wp2_with fail
 go_region_held3 (fun w'=>Below w.heap.size w w') (first | with_reducible exact HBZ.out | with_reducible exact HB7.out | with_reducible exact HB6.out | with_reducible exact HBD.out | with_reducible exact HBY.out) (first
  | (go_at_call 66; refine HRDX.out.mono ?_; rintro e w7 ⟨A,m9,c9,hm,he,hnn,hown,hbel⟩; rw [HTL.out] at hm; subst hm; rw [HHT.out,HHD.out] at he; subst he; have HNN:=Lib.hid hnn; have HO1a:=Lib.hid (own_base hown (show w.heap.size+1≤_ from HSD.out)); have HB6:=Lib.hid (bel_call HBD.out hbel); have HR7:=Lib.hid (HRY.out.drew.below hbel HRY.out.drew.lt); have HS7:=Lib.hid (Nat.le_trans HSD.out hbel.size); clear hown hbel hnn)
  | (go_at_call 67; refine (HCX.out w7 HB6.out).mono ?_; rintro e w8 ⟨v8,rfl,hown,hbel,hsz8⟩; have HO1:=Lib.hid (own_keep HO1a.out hbel); have HO2:=Lib.hid (own_base hown HS7.out); have HB7:=Lib.hid (bel_call HB6.out hbel); have HR8:=Lib.hid (HR7.out.below hbel HR7.out.lt); have r0:w8.cell? ⟨w.heap.size,0,none⟩=some (.int .i64 0):=HR8.out.cell 0; have f0:w8.frozen? ⟨w.heap.size,0,none⟩=false:=HR8.out.frozen 0; have r1:w8.cell? ⟨w.heap.size,1,none⟩=some (.int .i64 0):=HR8.out.cell 1; have f1:w8.frozen? ⟨w.heap.size,1,none⟩=false:=HR8.out.frozen 1; have r2:w8.cell? ⟨w.heap.size,2,none⟩=some (.bool false):=HR8.out.cell 2; have f2:w8.frozen? ⟨w.heap.size,2,none⟩=false:=HR8.out.frozen 2; have r3:w8.cell? ⟨w.heap.size,3,none⟩=some (.bool false):=HR8.out.cell 3; have f3:w8.frozen? ⟨w.heap.size,3,none⟩=false:=HR8.out.frozen 3; have r4:w8.cell? ⟨w.heap.size,4,none⟩=some (.int .i64 0):=HR8.out.cell 4; have f4:w8.frozen? ⟨w.heap.size,4,none⟩=false:=HR8.out.frozen 4; have r5:w8.cell? ⟨w.heap.size,5,none⟩=some (.int .i64 0):=HR8.out.cell 5; have f5:w8.frozen? ⟨w.heap.size,5,none⟩=false:=HR8.out.frozen 5; have r6:w8.cell? ⟨w.heap.size,6,none⟩=some (.int .i64 0):=HR8.out.cell 6; have f6:w8.frozen? ⟨w.heap.size,6,none⟩=false:=HR8.out.frozen 6; have r7:w8.cell? ⟨w.heap.size,7,none⟩=some (.bool false):=HR8.out.cell 7; have f7:w8.frozen? ⟨w.heap.size,7,none⟩=false:=HR8.out.frozen 7; have r8:w8.cell? ⟨w.heap.size,8,none⟩=some (.int .u64 0):=HR8.out.cell 8; have f8:w8.frozen? ⟨w.heap.size,8,none⟩=false:=HR8.out.frozen 8; have r9:w8.cell? ⟨w.heap.size,9,none⟩=some (.int .u64 0):=HR8.out.cell 9; have f9:w8.frozen? ⟨w.heap.size,9,none⟩=false:=HR8.out.frozen 9; have r10:w8.cell? ⟨w.heap.size,10,none⟩=some (.bool false):=HR8.out.cell 10; have f10:w8.frozen? ⟨w.heap.size,10,none⟩=false:=HR8.out.frozen 10; have r11:w8.cell? ⟨w.heap.size,11,none⟩=some (.int .u64 0):=HR8.out.cell 11; have f11:w8.frozen? ⟨w.heap.size,11,none⟩=false:=HR8.out.frozen 11; have r12:w8.cell? ⟨w.heap.size,12,none⟩=some (.int .u64 0):=HR8.out.cell 12; have f12:w8.frozen? ⟨w.heap.size,12,none⟩=false:=HR8.out.frozen 12; have r13:w8.cell? ⟨w.heap.size,13,none⟩=some (.slice none 0 0):=HR8.out.cell 13; have f13:w8.frozen? ⟨w.heap.size,13,none⟩=false:=HR8.out.frozen 13; have HBZ:=Lib.hid ((((((((((((((HB7.out.setCell (p:=⟨w.heap.size,0,none⟩) (Nat.le_refl _) (.int .i64 a0)).setCell (p:=⟨w.heap.size,1,none⟩) (Nat.le_refl _) (.int .i64 a1)).setCell (p:=⟨w.heap.size,2,none⟩) (Nat.le_refl _) (.bool a2)).setCell (p:=⟨w.heap.size,3,none⟩) (Nat.le_refl _) (.bool a3)).setCell (p:=⟨w.heap.size,4,none⟩) (Nat.le_refl _) (.int .i64 a4)).setCell (p:=⟨w.heap.size,5,none⟩) (Nat.le_refl _) (.int .i64 a5)).setCell (p:=⟨w.heap.size,6,none⟩) (Nat.le_refl _) (.int .i64 a6)).setCell (p:=⟨w.heap.size,7,none⟩) (Nat.le_refl _) (.bool false)).setCell (p:=⟨w.heap.size,8,none⟩) (Nat.le_refl _) (.int .u64 0)).setCell (p:=⟨w.heap.size,9,none⟩) (Nat.le_refl _) (.int .u64 a9)).setCell (p:=⟨w.heap.size,10,none⟩) (Nat.le_refl _) (.bool false)).setCell (p:=⟨w.heap.size,11,none⟩) (Nat.le_refl _) (.int .u64 0)).setCell (p:=⟨w.heap.size,12,none⟩) (Nat.le_refl _) (.int .u64 a12)).setCell (p:=⟨w.heap.size,13,none⟩) (Nat.le_refl _) (.slice A (c - 20) c9)); clear hown hbel hsz8))
 go_wp2_with fail
 have hblk:=(show Blk _ _ 82 #[.int .i64 a0,.int .i64 a1,.bool a2,.bool a3,.int .i64 a4,.int .i64 a5,.int .i64 a6,.bool false,.int .u64 0,.int .u64 a9,.bool false,.int .u64 0,.int .u64 a12,.slice A (c - 20) c9] from (show Blk _ _ 82 #[.int .i64 a0,.int .i64 a1,.bool a2,.bool a3,.int .i64 a4,.int .i64 a5,.int .i64 a6,.bool false,.int .u64 0,.int .u64 a9,.bool false,.int .u64 0,.int .u64 a12,.slice none 0 0] from (show Blk _ _ 82 #[.int .i64 a0,.int .i64 a1,.bool a2,.bool a3,.int .i64 a4,.int .i64 a5,.int .i64 a6,.bool false,.int .u64 0,.int .u64 a9,.bool false,.int .u64 0,.int .u64 0,.slice none 0 0] from (show Blk _ _ 82 #[.int .i64 a0,.int .i64 a1,.bool a2,.bool a3,.int .i64 a4,.int .i64 a5,.int .i64 a6,.bool false,.int .u64 0,.int .u64 a9,.bool false,.int .u64 0,.int .u64 0,.slice none 0 0] from (show Blk _ _ 82 #[.int .i64 a0,.int .i64 a1,.bool a2,.bool a3,.int .i64 a4,.int .i64 a5,.int .i64 a6,.bool false,.int .u64 0,.int .u64 a9,.bool false,.int .u64 0,.int .u64 0,.slice none 0 0] from (show Blk _ _ 82 #[.int .i64 a0,.int .i64 a1,.bool a2,.bool a3,.int .i64 a4,.int .i64 a5,.int .i64 a6,.bool false,.int .u64 0,.int .u64 0,.bool false,.int .u64 0,.int .u64 0,.slice none 0 0] from (show Blk _ _ 82 #[.int .i64 a0,.int .i64 a1,.bool a2,.bool a3,.int .i64 a4,.int .i64 a5,.int .i64 a6,.bool false,.int .u64 0,.int .u64 0,.bool false,.int .u64 0,.int .u64 0,.slice none 0 0] from (show Blk _ _ 82 #[.int .i64 a0,.int .i64 a1,.bool a2,.bool a3,.int .i64 a4,.int .i64 a5,.int .i64 a6,.bool false,.int .u64 0,.int .u64 0,.bool false,.int .u64 0,.int .u64 0,.slice none 0 0] from (show Blk _ _ 82 #[.int .i64 a0,.int .i64 a1,.bool a2,.bool a3,.int .i64 a4,.int .i64 a5,.int .i64 0,.bool false,.int .u64 0,.int .u64 0,.bool false,.int .u64 0,.int .u64 0,.slice none 0 0] from (show Blk _ _ 82 #[.int .i64 a0,.int .i64 a1,.bool a2,.bool a3,.int .i64 a4,.int .i64 0,.int .i64 0,.bool false,.int .u64 0,.int .u64 0,.bool false,.int .u64 0,.int .u64 0,.slice none 0 0] from (show Blk _ _ 82 #[.int .i64 a0,.int .i64 a1,.bool a2,.bool a3,.int .i64 0,.int .i64 0,.int .i64 0,.bool false,.int .u64 0,.int .u64 0,.bool false,.int .u64 0,.int .u64 0,.slice none 0 0] from (show Blk _ _ 82 #[.int .i64 a0,.int .i64 a1,.bool a2,.bool false,.int .i64 0,.int .i64 0,.int .i64 0,.bool false,.int .u64 0,.int .u64 0,.bool false,.int .u64 0,.int .u64 0,.slice none 0 0] from (show Blk _ _ 82 #[.int .i64 a0,.int .i64 a1,.bool false,.bool false,.int .i64 0,.int .i64 0,.int .i64 0,.bool false,.int .u64 0,.int .u64 0,.bool false,.int .u64 0,.int .u64 0,.slice none 0 0] from (show Blk _ _ 82 #[.int .i64 a0,.int .i64 0,.bool false,.bool false,.int .i64 0,.int .i64 0,.int .i64 0,.bool false,.int .u64 0,.int .u64 0,.bool false,.int .u64 0,.int .u64 0,.slice none 0 0] from HR8.out.set_ 0 (.int .i64 a0)).set_ 1 (.int .i64 a1)).set_ 2 (.bool a2)).set_ 3 (.bool a3)).set_ 4 (.int .i64 a4)).set_ 5 (.int .i64 a5)).set_ 6 (.int .i64 a6)).set_ 7 (.bool false)).set_ 8 (.int .u64 0)).set_ 9 (.int .u64 a9)).set_ 10 (.bool false)).set_ 11 (.int .u64 0)).set_ 12 (.int .u64 a12)).set_ 13 (.slice A (c - 20) c9))
 have HOA:=Lib.hid (own_base (own_far (own_far (own_far (own_far (own_far (own_far (own_far (own_far (own_far (own_far (own_far (own_far (own_far (own_far HO1.out ⟨w.heap.size,0,none⟩ (Nat.lt_succ_self _) (.int .i64 a0)) ⟨w.heap.size,1,none⟩ (Nat.lt_succ_self _) (.int .i64 a1)) ⟨w.heap.size,2,none⟩ (Nat.lt_succ_self _) (.bool a2)) ⟨w.heap.size,3,none⟩ (Nat.lt_succ_self _) (.bool a3)) ⟨w.heap.size,4,none⟩ (Nat.lt_succ_self _) (.int .i64 a4)) ⟨w.heap.size,5,none⟩ (Nat.lt_succ_self _) (.int .i64 a5)) ⟨w.heap.size,6,none⟩ (Nat.lt_succ_self _) (.int .i64 a6)) ⟨w.heap.size,7,none⟩ (Nat.lt_succ_self _) (.bool false)) ⟨w.heap.size,8,none⟩ (Nat.lt_succ_self _) (.int .u64 0)) ⟨w.heap.size,9,none⟩ (Nat.lt_succ_self _) (.int .u64 a9)) ⟨w.heap.size,10,none⟩ (Nat.lt_succ_self _) (.bool false)) ⟨w.heap.size,11,none⟩ (Nat.lt_succ_self _) (.int .u64 0)) ⟨w.heap.size,12,none⟩ (Nat.lt_succ_self _) (.int .u64 a12)) ⟨w.heap.size,13,none⟩ (Nat.lt_succ_self _) (.slice A (c - 20) c9)) (Nat.le_succ _))
 have HOB:=Lib.hid (own_base (own_far (own_far (own_far (own_far (own_far (own_far (own_far (own_far (own_far (own_far (own_far (own_far (own_far (own_far HO2.out ⟨w.heap.size,0,none⟩ (Nat.lt_succ_self _) (.int .i64 a0)) ⟨w.heap.size,1,none⟩ (Nat.lt_succ_self _) (.int .i64 a1)) ⟨w.heap.size,2,none⟩ (Nat.lt_succ_self _) (.bool a2)) ⟨w.heap.size,3,none⟩ (Nat.lt_succ_self _) (.bool a3)) ⟨w.heap.size,4,none⟩ (Nat.lt_succ_self _) (.int .i64 a4)) ⟨w.heap.size,5,none⟩ (Nat.lt_succ_self _) (.int .i64 a5)) ⟨w.heap.size,6,none⟩ (Nat.lt_succ_self _) (.int .i64 a6)) ⟨w.heap.size,7,none⟩ (Nat.lt_succ_self _) (.bool false)) ⟨w.heap.size,8,none⟩ (Nat.lt_succ_self _) (.int .u64 0)) ⟨w.heap.size,9,none⟩ (Nat.lt_succ_self _) (.int .u64 a9)) ⟨w.heap.size,10,none⟩ (Nat.lt_succ_self _) (.bool false)) ⟨w.heap.size,11,none⟩ (Nat.lt_succ_self _) (.int .u64 0)) ⟨w.heap.size,12,none⟩ (Nat.lt_succ_self _) (.int .u64 a12)) ⟨w.heap.size,13,none⟩ (Nat.lt_succ_self _) (.slice A (c - 20) c9)) (Nat.le_succ _))
 clear r0 f0 r1 f1 r2 f2 r3 f3 r4 f4 r5 f5 r6 f6 r7 f7 r8 f8 r9 f9 r10 f10 r11 f11 r12 f12 r13 f13
 generalize ((((((((((((((w8.setCell ⟨w.heap.size,0,none⟩ (.int .i64 a0)).setCell ⟨w.heap.size,1,none⟩ (.int .i64 a1)).setCell ⟨w.heap.size,2,none⟩ (.bool a2)).setCell ⟨w.heap.size,3,none⟩ (.bool a3)).setCell ⟨w.heap.size,4,none⟩ (.int .i64 a4)).setCell ⟨w.heap.size,5,none⟩ (.int .i64 a5)).setCell ⟨w.heap.size,6,none⟩ (.int .i64 a6)).setCell ⟨w.heap.size,7,none⟩ (.bool false)).setCell ⟨w.heap.size,8,none⟩ (.int .u64 0)).setCell ⟨w.heap.size,9,none⟩ (.int .u64 a9)).setCell ⟨w.heap.size,10,none⟩ (.bool false)).setCell ⟨w.heap.size,11,none⟩ (.int .u64 0)).setCell ⟨w.heap.size,12,none⟩ (.int .u64 a12)).setCell ⟨w.heap.size,13,none⟩ (.slice A (c - 20) c9))=WW at *
 have y0:WW.cell? ⟨w.heap.size,0,none⟩=some (.int .i64 a0):=hblk.cell 0
 have y1:WW.cell? ⟨w.heap.size,1,none⟩=some (.int .i64 a1):=hblk.cell 1
 have y2:WW.cell? ⟨w.heap.size,2,none⟩=some (.bool a2):=hblk.cell 2
 have y3:WW.cell? ⟨w.heap.size,3,none⟩=some (.bool a3):=hblk.cell 3
 have y4:WW.cell? ⟨w.heap.size,4,none⟩=some (.int .i64 a4):=hblk.cell 4
 have y5:WW.cell? ⟨w.heap.size,5,none⟩=some (.int .i64 a5):=hblk.cell 5
 have y6:WW.cell? ⟨w.heap.size,6,none⟩=some (.int .i64 a6):=hblk.cell 6
 have y7:WW.cell? ⟨w.heap.size,7,none⟩=some (.bool false):=hblk.cell 7
 have y8:WW.cell? ⟨w.heap.size,8,none⟩=some (.int .u64 0):=hblk.cell 8
 have y9:WW.cell? ⟨w.heap.size,9,none⟩=some (.int .u64 a9):=hblk.cell 9
 have y10:WW.cell? ⟨w.heap.size,10,none⟩=some (.bool false):=hblk.cell 10
 have y11:WW.cell? ⟨w.heap.size,11,none⟩=some (.int .u64 0):=hblk.cell 11
 have y12:WW.cell? ⟨w.heap.size,12,none⟩=some (.int .u64 a12):=hblk.cell 12
 have y13:WW.cell? ⟨w.heap.size,13,none⟩=some (.slice A (c - 20) c9):=hblk.cell 13
 clear hblk
 exact bodyPost_ret (v:=.tuple #[.agg #[.int .i64 a0,.int .i64 a1,.bool a2,.bool a3,.int .i64 a4,.int .i64 a5,.int .i64 a6,.bool false,.int .u64 0,.int .u64 a9,.bool false,.int .u64 0,.int .u64 a12,.slice A (c - 20) c9],v8,.int .i64 0]) (by simp [results,Try.results102,go_sem,y0,y1,y2,y3,y4,y5,y6,y7,y8,y9,y10,y11,y12,y13]) rfl ⟨A,c9,v8,by rw [HHD.out],HNN.out,HOA.out,HOB.out,HBZ.out⟩
theorem parse_bit (b off n c s:Nat) (l:List Int) (w:World) (hl':l.length=n) (hn:20≤n) (hn2:n≤1000) (hnc:n≤c) (hc:c≤9223372036854775807) (hb:b<w.heap.size) (hs:Lies w b off l) (hx:∀ x ∈ l,0≤x∧x≤255)
  (h1:l.getD 0 0 / 16=4) (h2:20≤s) (h3:s≤n) (hsz:hl l=(s:Int)) (hq:32768≤w16 l 6) :
  Calls Try.prog 44 #[.slice (some ⟨b,off,none⟩) n c] w fun e w'=>e=.returned (err 11)∧Below w.heap.size w w':=by
 have HBG:=Lib.hid (begin_ok b off n c l (w.alloc (.cells #[.int .i64 0,.int .i64 0,.bool false,.bool false,.int .i64 0,.int .i64 0,.int .i64 0,.bool false,.int .u64 0,.int .u64 0,.bool false,.int .u64 0,.int .u64 0,.slice none 0 0] 82)) hl' hn (by simp; omega) (hs.below ((Below.refl _ _).alloc (Nat.le_refl _) _) hb) hx h1 (by omega) (by omega))
 rw [hsz] at HBG
 have k6:=w16_in l hx 6
 have k2:=w16_in l hx 2
 have t6:(bits .and .u64 (w16 l 6) 32768 != 0)=true:=by rw [bit15 _ k6.1 k6.2]; simp; omega
 have HL:=Lib.hid hl'
 have HS:=Lib.hid hs
 have HX:=Lib.hid hx
 have HTL:=Lib.hid (show (l.take s).length=s by rw [List.length_take]; omega)
 have HTX:=Lib.hid (take_u8' hx s)
 have HHT:=Lib.hid (hd_take l s h2)
 have HB0:=Lib.hid (show Below w.heap.size w (w.alloc (.cells #[.int .i64 0,.int .i64 0,.bool false,.bool false,.int .i64 0,.int .i64 0,.int .i64 0,.bool false,.int .u64 0,.int .u64 0,.bool false,.int .u64 0,.int .u64 0,.slice none 0 0] 82)) from (Below.refl _ _).alloc (Nat.le_refl _) _)
 have HR0:=Lib.hid (Blk.new w 82 #[.int .i64 0,.int .i64 0,.bool false,.bool false,.int .i64 0,.int .i64 0,.int .i64 0,.bool false,.int .u64 0,.int .u64 0,.bool false,.int .u64 0,.int .u64 0,.slice none 0 0])
 have HZ0:=Lib.hid (show w.heap.size+1≤(w.alloc (.cells #[.int .i64 0,.int .i64 0,.bool false,.bool false,.int .i64 0,.int .i64 0,.int .i64 0,.bool false,.int .u64 0,.int .u64 0,.bool false,.int .u64 0,.int .u64 0,.slice none 0 0] 82)).heap.size by simp)
 have i1:(0:Int)≤(s:Int):=by omega
 have i2:(s:Int)≤(n:Int):=by omega
 have i3:(s:Int)≤(c:Int):=by omega
 generalize hv2:w16 l 2=v2 at *
 have HV2:=Lib.hid hv2
 clear hv2
 obtain ⟨k20,k21⟩:=k2
 obtain ⟨k60,k61⟩:=k6
 generalize hv6:w16 l 6=v6 at *
 have HV6:=Lib.hid hv6
 clear hv6
 clear hs hx hl' h1 hsz
 go_enter Try.func44,Try.ntmps44
 go_wp2_with fail
 refine HBG.out.mono ?_
 rintro e w1 ⟨rfl,hw⟩
 subst hw
 have HBY:=HB0
 have HRY:=HR0
 have HSY:=HZ0
 clear HB0 HR0 HZ0 HBG
 generalize (w.alloc (.cells #[.int .i64 0,.int .i64 0,.bool false,.bool false,.int .i64 0,.int .i64 0,.int .i64 0,.bool false,.int .u64 0,.int .u64 0,.bool false,.int .u64 0,.int .u64 0,.slice none 0 0] 82))=wy at *
 have HRW:=Lib.hid ((HS.out.below HBY.out hb).row (Nat.lt_of_lt_of_le hb HBY.out.size))
 have HA6:=Lib.hid (at_two 6 (some ⟨b,off,none⟩) n c l wy HL.out hn2 hnc hc (by intro h; cases h) HRW.out HX.out (by omega))
 have HA2:=Lib.hid (at_two 2 (some ⟨b,off,none⟩) n c l wy HL.out hn2 hnc hc (by intro h; cases h) HRW.out HX.out (by omega))
 rw [HV6.out] at HA6
 rw [HV2.out] at HA2
 go_wp2_with fail
 refine HA6.out.mono ?_
 rintro e w2 ⟨rfl,rfl⟩
 have r0:wy.cell? ⟨w.heap.size,0,none⟩=some (.int .i64 0):=HRY.out.cell 0
 have q0:wy.frozen? ⟨w.heap.size,0,none⟩=false:=HRY.out.frozen 0
 have r1:wy.cell? ⟨w.heap.size,1,none⟩=some (.int .i64 0):=HRY.out.cell 1
 have q1:wy.frozen? ⟨w.heap.size,1,none⟩=false:=HRY.out.frozen 1
 have r2:wy.cell? ⟨w.heap.size,2,none⟩=some (.bool false):=HRY.out.cell 2
 have q2:wy.frozen? ⟨w.heap.size,2,none⟩=false:=HRY.out.frozen 2
 have r3:wy.cell? ⟨w.heap.size,3,none⟩=some (.bool false):=HRY.out.cell 3
 have q3:wy.frozen? ⟨w.heap.size,3,none⟩=false:=HRY.out.frozen 3
 have r4:wy.cell? ⟨w.heap.size,4,none⟩=some (.int .i64 0):=HRY.out.cell 4
 have q4:wy.frozen? ⟨w.heap.size,4,none⟩=false:=HRY.out.frozen 4
 have r5:wy.cell? ⟨w.heap.size,5,none⟩=some (.int .i64 0):=HRY.out.cell 5
 have q5:wy.frozen? ⟨w.heap.size,5,none⟩=false:=HRY.out.frozen 5
 have r6:wy.cell? ⟨w.heap.size,6,none⟩=some (.int .i64 0):=HRY.out.cell 6
 have q6:wy.frozen? ⟨w.heap.size,6,none⟩=false:=HRY.out.frozen 6
 have r7:wy.cell? ⟨w.heap.size,7,none⟩=some (.bool false):=HRY.out.cell 7
 have q7:wy.frozen? ⟨w.heap.size,7,none⟩=false:=HRY.out.frozen 7
 have r8:wy.cell? ⟨w.heap.size,8,none⟩=some (.int .u64 0):=HRY.out.cell 8
 have q8:wy.frozen? ⟨w.heap.size,8,none⟩=false:=HRY.out.frozen 8
 have r9:wy.cell? ⟨w.heap.size,9,none⟩=some (.int .u64 0):=HRY.out.cell 9
 have q9:wy.frozen? ⟨w.heap.size,9,none⟩=false:=HRY.out.frozen 9
 have r10:wy.cell? ⟨w.heap.size,10,none⟩=some (.bool false):=HRY.out.cell 10
 have q10:wy.frozen? ⟨w.heap.size,10,none⟩=false:=HRY.out.frozen 10
 have r11:wy.cell? ⟨w.heap.size,11,none⟩=some (.int .u64 0):=HRY.out.cell 11
 have q11:wy.frozen? ⟨w.heap.size,11,none⟩=false:=HRY.out.frozen 11
 have r12:wy.cell? ⟨w.heap.size,12,none⟩=some (.int .u64 0):=HRY.out.cell 12
 have q12:wy.frozen? ⟨w.heap.size,12,none⟩=false:=HRY.out.frozen 12
 have r13:wy.cell? ⟨w.heap.size,13,none⟩=some (.slice none 0 0):=HRY.out.cell 13
 have q13:wy.frozen? ⟨w.heap.size,13,none⟩=false:=HRY.out.frozen 13
 go_wp2_with fail
 have hrs:=(show Blk _ _ 82 #[.int .i64 0,.int .i64 0,.bool false,.bool false,.int .i64 0,.int .i64 0,.int .i64 0,.bool false,.int .u64 0,.int .u64 0,.bool false,.int .u64 0,.int .u64 0,.slice none 0 0] from (show Blk _ _ 82 #[.int .i64 0,.int .i64 0,.bool false,.bool false,.int .i64 0,.int .i64 0,.int .i64 0,.bool false,.int .u64 0,.int .u64 0,.bool false,.int .u64 0,.int .u64 0,.slice none 0 0] from (show Blk _ _ 82 #[.int .i64 0,.int .i64 0,.bool false,.bool false,.int .i64 0,.int .i64 0,.int .i64 0,.bool false,.int .u64 0,.int .u64 0,.bool false,.int .u64 0,.int .u64 0,.slice none 0 0] from (show Blk _ _ 82 #[.int .i64 0,.int .i64 0,.bool false,.bool false,.int .i64 0,.int .i64 0,.int .i64 0,.bool false,.int .u64 0,.int .u64 0,.bool false,.int .u64 0,.int .u64 0,.slice none 0 0] from (show Blk _ _ 82 #[.int .i64 0,.int .i64 0,.bool false,.bool false,.int .i64 0,.int .i64 0,.int .i64 0,.bool false,.int .u64 0,.int .u64 0,.bool false,.int .u64 0,.int .u64 0,.slice none 0 0] from (show Blk _ _ 82 #[.int .i64 0,.int .i64 0,.bool false,.bool false,.int .i64 0,.int .i64 0,.int .i64 0,.bool false,.int .u64 0,.int .u64 0,.bool false,.int .u64 0,.int .u64 0,.slice none 0 0] from (show Blk _ _ 82 #[.int .i64 0,.int .i64 0,.bool false,.bool false,.int .i64 0,.int .i64 0,.int .i64 0,.bool false,.int .u64 0,.int .u64 0,.bool false,.int .u64 0,.int .u64 0,.slice none 0 0] from (show Blk _ _ 82 #[.int .i64 0,.int .i64 0,.bool false,.bool false,.int .i64 0,.int .i64 0,.int .i64 0,.bool false,.int .u64 0,.int .u64 0,.bool false,.int .u64 0,.int .u64 0,.slice none 0 0] from (show Blk _ _ 82 #[.int .i64 0,.int .i64 0,.bool false,.bool false,.int .i64 0,.int .i64 0,.int .i64 0,.bool false,.int .u64 0,.int .u64 0,.bool false,.int .u64 0,.int .u64 0,.slice none 0 0] from (show Blk _ _ 82 #[.int .i64 0,.int .i64 0,.bool false,.bool false,.int .i64 0,.int .i64 0,.int .i64 0,.bool false,.int .u64 0,.int .u64 0,.bool false,.int .u64 0,.int .u64 0,.slice none 0 0] from (show Blk _ _ 82 #[.int .i64 0,.int .i64 0,.bool false,.bool false,.int .i64 0,.int .i64 0,.int .i64 0,.bool false,.int .u64 0,.int .u64 0,.bool false,.int .u64 0,.int .u64 0,.slice none 0 0] from (show Blk _ _ 82 #[.int .i64 0,.int .i64 0,.bool false,.bool false,.int .i64 0,.int .i64 0,.int .i64 0,.bool false,.int .u64 0,.int .u64 0,.bool false,.int .u64 0,.int .u64 0,.slice none 0 0] from (show Blk _ _ 82 #[.int .i64 0,.int .i64 0,.bool false,.bool false,.int .i64 0,.int .i64 0,.int .i64 0,.bool false,.int .u64 0,.int .u64 0,.bool false,.int .u64 0,.int .u64 0,.slice none 0 0] from (show Blk _ _ 82 #[.int .i64 0,.int .i64 0,.bool false,.bool false,.int .i64 0,.int .i64 0,.int .i64 0,.bool false,.int .u64 0,.int .u64 0,.bool false,.int .u64 0,.int .u64 0,.slice none 0 0] from HRY.out.set_ 0 (.int .i64 0)).set_ 1 (.int .i64 0)).set_ 2 (.bool false)).set_ 3 (.bool false)).set_ 4 (.int .i64 0)).set_ 5 (.int .i64 0)).set_ 6 (.int .i64 0)).set_ 7 (.bool false)).set_ 8 (.int .u64 0)).set_ 9 (.int .u64 0)).set_ 10 (.bool false)).set_ 11 (.int .u64 0)).set_ 12 (.int .u64 0)).set_ 13 (.slice none 0 0))
 have HBW:=Lib.hid ((((((((((((((HBY.out.setCell (p:=⟨w.heap.size,0,none⟩) (Nat.le_refl _) (.int .i64 0)).setCell (p:=⟨w.heap.size,1,none⟩) (Nat.le_refl _) (.int .i64 0)).setCell (p:=⟨w.heap.size,2,none⟩) (Nat.le_refl _) (.bool false)).setCell (p:=⟨w.heap.size,3,none⟩) (Nat.le_refl _) (.bool false)).setCell (p:=⟨w.heap.size,4,none⟩) (Nat.le_refl _) (.int .i64 0)).setCell (p:=⟨w.heap.size,5,none⟩) (Nat.le_refl _) (.int .i64 0)).setCell (p:=⟨w.heap.size,6,none⟩) (Nat.le_refl _) (.int .i64 0)).setCell (p:=⟨w.heap.size,7,none⟩) (Nat.le_refl _) (.bool false)).setCell (p:=⟨w.heap.size,8,none⟩) (Nat.le_refl _) (.int .u64 0)).setCell (p:=⟨w.heap.size,9,none⟩) (Nat.le_refl _) (.int .u64 0)).setCell (p:=⟨w.heap.size,10,none⟩) (Nat.le_refl _) (.bool false)).setCell (p:=⟨w.heap.size,11,none⟩) (Nat.le_refl _) (.int .u64 0)).setCell (p:=⟨w.heap.size,12,none⟩) (Nat.le_refl _) (.int .u64 0)).setCell (p:=⟨w.heap.size,13,none⟩) (Nat.le_refl _) (.slice none 0 0))
 clear r0 q0 r1 q1 r2 q2 r3 q3 r4 q4 r5 q5 r6 q6 r7 q7 r8 q8 r9 q9 r10 q10 r11 q11 r12 q12 r13 q13
 generalize ((((((((((((((wy.setCell ⟨w.heap.size,0,none⟩ (.int .i64 0)).setCell ⟨w.heap.size,1,none⟩ (.int .i64 0)).setCell ⟨w.heap.size,2,none⟩ (.bool false)).setCell ⟨w.heap.size,3,none⟩ (.bool false)).setCell ⟨w.heap.size,4,none⟩ (.int .i64 0)).setCell ⟨w.heap.size,5,none⟩ (.int .i64 0)).setCell ⟨w.heap.size,6,none⟩ (.int .i64 0)).setCell ⟨w.heap.size,7,none⟩ (.bool false)).setCell ⟨w.heap.size,8,none⟩ (.int .u64 0)).setCell ⟨w.heap.size,9,none⟩ (.int .u64 0)).setCell ⟨w.heap.size,10,none⟩ (.bool false)).setCell ⟨w.heap.size,11,none⟩ (.int .u64 0)).setCell ⟨w.heap.size,12,none⟩ (.int .u64 0)).setCell ⟨w.heap.size,13,none⟩ (.slice none 0 0))=WW at *
 have z0:WW.cell? ⟨w.heap.size,0,none⟩=some (.int .i64 0):=hrs.cell 0
 have z1:WW.cell? ⟨w.heap.size,1,none⟩=some (.int .i64 0):=hrs.cell 1
 have z2:WW.cell? ⟨w.heap.size,2,none⟩=some (.bool false):=hrs.cell 2
 have z3:WW.cell? ⟨w.heap.size,3,none⟩=some (.bool false):=hrs.cell 3
 have z4:WW.cell? ⟨w.heap.size,4,none⟩=some (.int .i64 0):=hrs.cell 4
 have z5:WW.cell? ⟨w.heap.size,5,none⟩=some (.int .i64 0):=hrs.cell 5
 have z6:WW.cell? ⟨w.heap.size,6,none⟩=some (.int .i64 0):=hrs.cell 6
 have z7:WW.cell? ⟨w.heap.size,7,none⟩=some (.bool false):=hrs.cell 7
 have z8:WW.cell? ⟨w.heap.size,8,none⟩=some (.int .u64 0):=hrs.cell 8
 have z9:WW.cell? ⟨w.heap.size,9,none⟩=some (.int .u64 0):=hrs.cell 9
 have z10:WW.cell? ⟨w.heap.size,10,none⟩=some (.bool false):=hrs.cell 10
 have z11:WW.cell? ⟨w.heap.size,11,none⟩=some (.int .u64 0):=hrs.cell 11
 have z12:WW.cell? ⟨w.heap.size,12,none⟩=some (.int .u64 0):=hrs.cell 12
 have z13:WW.cell? ⟨w.heap.size,13,none⟩=some (.slice none 0 0):=hrs.cell 13
 exact bodyPost_ret (v:=err 11) (by simp [results,Try.results44,go_sem,err,z0,z1,z2,z3,z4,z5,z6,z7,z8,z9,z10,z11,z12,z13]) rfl ⟨rfl,HBW.out⟩
theorem parse_less (b off n c s:Nat) (l:List Int) (w:World) (hl':l.length=n) (hn:20≤n) (hn2:n≤1000) (hnc:n≤c) (hc:c≤9223372036854775807) (hb:b<w.heap.size) (hs:Lies w b off l) (hx:∀ x ∈ l,0≤x∧x≤255)
  (h1:l.getD 0 0 / 16=4) (h2:20≤s) (h3:s≤n) (hsz:hl l=(s:Int)) (hq:w16 l 6<32768) (ha:w16 l 2<s) :
  Calls Try.prog 44 #[.slice (some ⟨b,off,none⟩) n c] w fun e w'=>e=.returned (err 12)∧Below w.heap.size w w':=by
 have HBG:=Lib.hid (begin_ok b off n c l (w.alloc (.cells #[.int .i64 0,.int .i64 0,.bool false,.bool false,.int .i64 0,.int .i64 0,.int .i64 0,.bool false,.int .u64 0,.int .u64 0,.bool false,.int .u64 0,.int .u64 0,.slice none 0 0] 82)) hl' hn (by simp; omega) (hs.below ((Below.refl _ _).alloc (Nat.le_refl _) _) hb) hx h1 (by omega) (by omega))
 rw [hsz] at HBG
 have k6:=w16_in l hx 6
 have k2:=w16_in l hx 2
 have t6:(bits .and .u64 (w16 l 6) 32768 != 0)=false:=by rw [bit15 _ k6.1 k6.2]; simp; omega
 have t2:decide (w16 l 2<(s:Int))=true:=decide_eq_true ha
 have HL:=Lib.hid hl'
 have HS:=Lib.hid hs
 have HX:=Lib.hid hx
 have HTL:=Lib.hid (show (l.take s).length=s by rw [List.length_take]; omega)
 have HTX:=Lib.hid (take_u8' hx s)
 have HHT:=Lib.hid (hd_take l s h2)
 have HB0:=Lib.hid (show Below w.heap.size w (w.alloc (.cells #[.int .i64 0,.int .i64 0,.bool false,.bool false,.int .i64 0,.int .i64 0,.int .i64 0,.bool false,.int .u64 0,.int .u64 0,.bool false,.int .u64 0,.int .u64 0,.slice none 0 0] 82)) from (Below.refl _ _).alloc (Nat.le_refl _) _)
 have HR0:=Lib.hid (Blk.new w 82 #[.int .i64 0,.int .i64 0,.bool false,.bool false,.int .i64 0,.int .i64 0,.int .i64 0,.bool false,.int .u64 0,.int .u64 0,.bool false,.int .u64 0,.int .u64 0,.slice none 0 0])
 have HZ0:=Lib.hid (show w.heap.size+1≤(w.alloc (.cells #[.int .i64 0,.int .i64 0,.bool false,.bool false,.int .i64 0,.int .i64 0,.int .i64 0,.bool false,.int .u64 0,.int .u64 0,.bool false,.int .u64 0,.int .u64 0,.slice none 0 0] 82)).heap.size by simp)
 have i1:(0:Int)≤(s:Int):=by omega
 have i2:(s:Int)≤(n:Int):=by omega
 have i3:(s:Int)≤(c:Int):=by omega
 generalize hv2:w16 l 2=v2 at *
 have HV2:=Lib.hid hv2
 clear hv2
 obtain ⟨k20,k21⟩:=k2
 obtain ⟨k60,k61⟩:=k6
 generalize hv6:w16 l 6=v6 at *
 have HV6:=Lib.hid hv6
 clear hv6
 clear hs hx hl' h1 hsz ha
 go_enter Try.func44,Try.ntmps44
 go_wp2_with fail
 refine HBG.out.mono ?_
 rintro e w1 ⟨rfl,hw⟩
 subst hw
 have HBY:=HB0
 have HRY:=HR0
 have HSY:=HZ0
 clear HB0 HR0 HZ0 HBG
 generalize (w.alloc (.cells #[.int .i64 0,.int .i64 0,.bool false,.bool false,.int .i64 0,.int .i64 0,.int .i64 0,.bool false,.int .u64 0,.int .u64 0,.bool false,.int .u64 0,.int .u64 0,.slice none 0 0] 82))=wy at *
 have HRW:=Lib.hid ((HS.out.below HBY.out hb).row (Nat.lt_of_lt_of_le hb HBY.out.size))
 have HA6:=Lib.hid (at_two 6 (some ⟨b,off,none⟩) n c l wy HL.out hn2 hnc hc (by intro h; cases h) HRW.out HX.out (by omega))
 have HA2:=Lib.hid (at_two 2 (some ⟨b,off,none⟩) n c l wy HL.out hn2 hnc hc (by intro h; cases h) HRW.out HX.out (by omega))
 rw [HV6.out] at HA6
 rw [HV2.out] at HA2
 go_wp2_with fail
 refine HA6.out.mono ?_
 rintro e w2 ⟨rfl,rfl⟩
 go_wp2_with fail
 refine HA2.out.mono ?_
 rintro e w3 ⟨rfl,rfl⟩
 have r0:wy.cell? ⟨w.heap.size,0,none⟩=some (.int .i64 0):=HRY.out.cell 0
 have q0:wy.frozen? ⟨w.heap.size,0,none⟩=false:=HRY.out.frozen 0
 have r1:wy.cell? ⟨w.heap.size,1,none⟩=some (.int .i64 0):=HRY.out.cell 1
 have q1:wy.frozen? ⟨w.heap.size,1,none⟩=false:=HRY.out.frozen 1
 have r2:wy.cell? ⟨w.heap.size,2,none⟩=some (.bool false):=HRY.out.cell 2
 have q2:wy.frozen? ⟨w.heap.size,2,none⟩=false:=HRY.out.frozen 2
 have r3:wy.cell? ⟨w.heap.size,3,none⟩=some (.bool false):=HRY.out.cell 3
 have q3:wy.frozen? ⟨w.heap.size,3,none⟩=false:=HRY.out.frozen 3
 have r4:wy.cell? ⟨w.heap.size,4,none⟩=some (.int .i64 0):=HRY.out.cell 4
 have q4:wy.frozen? ⟨w.heap.size,4,none⟩=false:=HRY.out.frozen 4
 have r5:wy.cell? ⟨w.heap.size,5,none⟩=some (.int .i64 0):=HRY.out.cell 5
 have q5:wy.frozen? ⟨w.heap.size,5,none⟩=false:=HRY.out.frozen 5
 have r6:wy.cell? ⟨w.heap.size,6,none⟩=some (.int .i64 0):=HRY.out.cell 6
 have q6:wy.frozen? ⟨w.heap.size,6,none⟩=false:=HRY.out.frozen 6
 have r7:wy.cell? ⟨w.heap.size,7,none⟩=some (.bool false):=HRY.out.cell 7
 have q7:wy.frozen? ⟨w.heap.size,7,none⟩=false:=HRY.out.frozen 7
 have r8:wy.cell? ⟨w.heap.size,8,none⟩=some (.int .u64 0):=HRY.out.cell 8
 have q8:wy.frozen? ⟨w.heap.size,8,none⟩=false:=HRY.out.frozen 8
 have r9:wy.cell? ⟨w.heap.size,9,none⟩=some (.int .u64 0):=HRY.out.cell 9
 have q9:wy.frozen? ⟨w.heap.size,9,none⟩=false:=HRY.out.frozen 9
 have r10:wy.cell? ⟨w.heap.size,10,none⟩=some (.bool false):=HRY.out.cell 10
 have q10:wy.frozen? ⟨w.heap.size,10,none⟩=false:=HRY.out.frozen 10
 have r11:wy.cell? ⟨w.heap.size,11,none⟩=some (.int .u64 0):=HRY.out.cell 11
 have q11:wy.frozen? ⟨w.heap.size,11,none⟩=false:=HRY.out.frozen 11
 have r12:wy.cell? ⟨w.heap.size,12,none⟩=some (.int .u64 0):=HRY.out.cell 12
 have q12:wy.frozen? ⟨w.heap.size,12,none⟩=false:=HRY.out.frozen 12
 have r13:wy.cell? ⟨w.heap.size,13,none⟩=some (.slice none 0 0):=HRY.out.cell 13
 have q13:wy.frozen? ⟨w.heap.size,13,none⟩=false:=HRY.out.frozen 13
 go_wp2_with fail
 have hrs:=(show Blk _ _ 82 #[.int .i64 0,.int .i64 0,.bool false,.bool false,.int .i64 0,.int .i64 0,.int .i64 0,.bool false,.int .u64 0,.int .u64 0,.bool false,.int .u64 0,.int .u64 0,.slice none 0 0] from (show Blk _ _ 82 #[.int .i64 0,.int .i64 0,.bool false,.bool false,.int .i64 0,.int .i64 0,.int .i64 0,.bool false,.int .u64 0,.int .u64 0,.bool false,.int .u64 0,.int .u64 0,.slice none 0 0] from (show Blk _ _ 82 #[.int .i64 0,.int .i64 0,.bool false,.bool false,.int .i64 0,.int .i64 0,.int .i64 0,.bool false,.int .u64 0,.int .u64 0,.bool false,.int .u64 0,.int .u64 0,.slice none 0 0] from (show Blk _ _ 82 #[.int .i64 0,.int .i64 0,.bool false,.bool false,.int .i64 0,.int .i64 0,.int .i64 0,.bool false,.int .u64 0,.int .u64 0,.bool false,.int .u64 0,.int .u64 0,.slice none 0 0] from (show Blk _ _ 82 #[.int .i64 0,.int .i64 0,.bool false,.bool false,.int .i64 0,.int .i64 0,.int .i64 0,.bool false,.int .u64 0,.int .u64 0,.bool false,.int .u64 0,.int .u64 0,.slice none 0 0] from (show Blk _ _ 82 #[.int .i64 0,.int .i64 0,.bool false,.bool false,.int .i64 0,.int .i64 0,.int .i64 0,.bool false,.int .u64 0,.int .u64 0,.bool false,.int .u64 0,.int .u64 0,.slice none 0 0] from (show Blk _ _ 82 #[.int .i64 0,.int .i64 0,.bool false,.bool false,.int .i64 0,.int .i64 0,.int .i64 0,.bool false,.int .u64 0,.int .u64 0,.bool false,.int .u64 0,.int .u64 0,.slice none 0 0] from (show Blk _ _ 82 #[.int .i64 0,.int .i64 0,.bool false,.bool false,.int .i64 0,.int .i64 0,.int .i64 0,.bool false,.int .u64 0,.int .u64 0,.bool false,.int .u64 0,.int .u64 0,.slice none 0 0] from (show Blk _ _ 82 #[.int .i64 0,.int .i64 0,.bool false,.bool false,.int .i64 0,.int .i64 0,.int .i64 0,.bool false,.int .u64 0,.int .u64 0,.bool false,.int .u64 0,.int .u64 0,.slice none 0 0] from (show Blk _ _ 82 #[.int .i64 0,.int .i64 0,.bool false,.bool false,.int .i64 0,.int .i64 0,.int .i64 0,.bool false,.int .u64 0,.int .u64 0,.bool false,.int .u64 0,.int .u64 0,.slice none 0 0] from (show Blk _ _ 82 #[.int .i64 0,.int .i64 0,.bool false,.bool false,.int .i64 0,.int .i64 0,.int .i64 0,.bool false,.int .u64 0,.int .u64 0,.bool false,.int .u64 0,.int .u64 0,.slice none 0 0] from (show Blk _ _ 82 #[.int .i64 0,.int .i64 0,.bool false,.bool false,.int .i64 0,.int .i64 0,.int .i64 0,.bool false,.int .u64 0,.int .u64 0,.bool false,.int .u64 0,.int .u64 0,.slice none 0 0] from (show Blk _ _ 82 #[.int .i64 0,.int .i64 0,.bool false,.bool false,.int .i64 0,.int .i64 0,.int .i64 0,.bool false,.int .u64 0,.int .u64 0,.bool false,.int .u64 0,.int .u64 0,.slice none 0 0] from (show Blk _ _ 82 #[.int .i64 0,.int .i64 0,.bool false,.bool false,.int .i64 0,.int .i64 0,.int .i64 0,.bool false,.int .u64 0,.int .u64 0,.bool false,.int .u64 0,.int .u64 0,.slice none 0 0] from HRY.out.set_ 0 (.int .i64 0)).set_ 1 (.int .i64 0)).set_ 2 (.bool false)).set_ 3 (.bool false)).set_ 4 (.int .i64 0)).set_ 5 (.int .i64 0)).set_ 6 (.int .i64 0)).set_ 7 (.bool false)).set_ 8 (.int .u64 0)).set_ 9 (.int .u64 0)).set_ 10 (.bool false)).set_ 11 (.int .u64 0)).set_ 12 (.int .u64 0)).set_ 13 (.slice none 0 0))
 have HBW:=Lib.hid ((((((((((((((HBY.out.setCell (p:=⟨w.heap.size,0,none⟩) (Nat.le_refl _) (.int .i64 0)).setCell (p:=⟨w.heap.size,1,none⟩) (Nat.le_refl _) (.int .i64 0)).setCell (p:=⟨w.heap.size,2,none⟩) (Nat.le_refl _) (.bool false)).setCell (p:=⟨w.heap.size,3,none⟩) (Nat.le_refl _) (.bool false)).setCell (p:=⟨w.heap.size,4,none⟩) (Nat.le_refl _) (.int .i64 0)).setCell (p:=⟨w.heap.size,5,none⟩) (Nat.le_refl _) (.int .i64 0)).setCell (p:=⟨w.heap.size,6,none⟩) (Nat.le_refl _) (.int .i64 0)).setCell (p:=⟨w.heap.size,7,none⟩) (Nat.le_refl _) (.bool false)).setCell (p:=⟨w.heap.size,8,none⟩) (Nat.le_refl _) (.int .u64 0)).setCell (p:=⟨w.heap.size,9,none⟩) (Nat.le_refl _) (.int .u64 0)).setCell (p:=⟨w.heap.size,10,none⟩) (Nat.le_refl _) (.bool false)).setCell (p:=⟨w.heap.size,11,none⟩) (Nat.le_refl _) (.int .u64 0)).setCell (p:=⟨w.heap.size,12,none⟩) (Nat.le_refl _) (.int .u64 0)).setCell (p:=⟨w.heap.size,13,none⟩) (Nat.le_refl _) (.slice none 0 0))
 clear r0 q0 r1 q1 r2 q2 r3 q3 r4 q4 r5 q5 r6 q6 r7 q7 r8 q8 r9 q9 r10 q10 r11 q11 r12 q12 r13 q13
 generalize ((((((((((((((wy.setCell ⟨w.heap.size,0,none⟩ (.int .i64 0)).setCell ⟨w.heap.size,1,none⟩ (.int .i64 0)).setCell ⟨w.heap.size,2,none⟩ (.bool false)).setCell ⟨w.heap.size,3,none⟩ (.bool false)).setCell ⟨w.heap.size,4,none⟩ (.int .i64 0)).setCell ⟨w.heap.size,5,none⟩ (.int .i64 0)).setCell ⟨w.heap.size,6,none⟩ (.int .i64 0)).setCell ⟨w.heap.size,7,none⟩ (.bool false)).setCell ⟨w.heap.size,8,none⟩ (.int .u64 0)).setCell ⟨w.heap.size,9,none⟩ (.int .u64 0)).setCell ⟨w.heap.size,10,none⟩ (.bool false)).setCell ⟨w.heap.size,11,none⟩ (.int .u64 0)).setCell ⟨w.heap.size,12,none⟩ (.int .u64 0)).setCell ⟨w.heap.size,13,none⟩ (.slice none 0 0))=WW at *
 have z0:WW.cell? ⟨w.heap.size,0,none⟩=some (.int .i64 0):=hrs.cell 0
 have z1:WW.cell? ⟨w.heap.size,1,none⟩=some (.int .i64 0):=hrs.cell 1
 have z2:WW.cell? ⟨w.heap.size,2,none⟩=some (.bool false):=hrs.cell 2
 have z3:WW.cell? ⟨w.heap.size,3,none⟩=some (.bool false):=hrs.cell 3
 have z4:WW.cell? ⟨w.heap.size,4,none⟩=some (.int .i64 0):=hrs.cell 4
 have z5:WW.cell? ⟨w.heap.size,5,none⟩=some (.int .i64 0):=hrs.cell 5
 have z6:WW.cell? ⟨w.heap.size,6,none⟩=some (.int .i64 0):=hrs.cell 6
 have z7:WW.cell? ⟨w.heap.size,7,none⟩=some (.bool false):=hrs.cell 7
 have z8:WW.cell? ⟨w.heap.size,8,none⟩=some (.int .u64 0):=hrs.cell 8
 have z9:WW.cell? ⟨w.heap.size,9,none⟩=some (.int .u64 0):=hrs.cell 9
 have z10:WW.cell? ⟨w.heap.size,10,none⟩=some (.bool false):=hrs.cell 10
 have z11:WW.cell? ⟨w.heap.size,11,none⟩=some (.int .u64 0):=hrs.cell 11
 have z12:WW.cell? ⟨w.heap.size,12,none⟩=some (.int .u64 0):=hrs.cell 12
 have z13:WW.cell? ⟨w.heap.size,13,none⟩=some (.slice none 0 0):=hrs.cell 13
 exact bodyPost_ret (v:=err 12) (by simp [results,Try.results44,go_sem,err,z0,z1,z2,z3,z4,z5,z6,z7,z8,z9,z10,z11,z12,z13]) rfl ⟨rfl,HBW.out⟩
theorem parse_more (b off n c s:Nat) (l:List Int) (w:World) (hl':l.length=n) (hn:20≤n) (hn2:n≤1000) (hnc:n≤c) (hc:c≤9223372036854775807) (hb:b<w.heap.size) (hs:Lies w b off l) (hx:∀ x ∈ l,0≤x∧x≤255)
  (h1:l.getD 0 0 / 16=4) (h2:20≤s) (h3:s≤n) (hsz:hl l=(s:Int)) (hq:w16 l 6<32768) (ha0:(s:Int)≤w16 l 2) (ha:(n:Int)<w16 l 2) :
  Calls Try.prog 44 #[.slice (some ⟨b,off,none⟩) n c] w fun e w'=>e=.returned (err 12)∧Below w.heap.size w w':=by
 have HBG:=Lib.hid (begin_ok b off n c l (w.alloc (.cells #[.int .i64 0,.int .i64 0,.bool false,.bool false,.int .i64 0,.int .i64 0,.int .i64 0,.bool false,.int .u64 0,.int .u64 0,.bool false,.int .u64 0,.int .u64 0,.slice none 0 0] 82)) hl' hn (by simp; omega) (hs.below ((Below.refl _ _).alloc (Nat.le_refl _) _) hb) hx h1 (by omega) (by omega))
 rw [hsz] at HBG
 have k6:=w16_in l hx 6
 have k2:=w16_in l hx 2
 have t6:(bits .and .u64 (w16 l 6) 32768 != 0)=false:=by rw [bit15 _ k6.1 k6.2]; simp; omega
 have t2:decide (w16 l 2<(s:Int))=false:=decide_eq_false (by omega)
 have t3:decide ((n:Int)<w16 l 2)=true:=decide_eq_true ha
 have HL:=Lib.hid hl'
 have HS:=Lib.hid hs
 have HX:=Lib.hid hx
 have HTL:=Lib.hid (show (l.take s).length=s by rw [List.length_take]; omega)
 have HTX:=Lib.hid (take_u8' hx s)
 have HHT:=Lib.hid (hd_take l s h2)
 have HB0:=Lib.hid (show Below w.heap.size w (w.alloc (.cells #[.int .i64 0,.int .i64 0,.bool false,.bool false,.int .i64 0,.int .i64 0,.int .i64 0,.bool false,.int .u64 0,.int .u64 0,.bool false,.int .u64 0,.int .u64 0,.slice none 0 0] 82)) from (Below.refl _ _).alloc (Nat.le_refl _) _)
 have HR0:=Lib.hid (Blk.new w 82 #[.int .i64 0,.int .i64 0,.bool false,.bool false,.int .i64 0,.int .i64 0,.int .i64 0,.bool false,.int .u64 0,.int .u64 0,.bool false,.int .u64 0,.int .u64 0,.slice none 0 0])
 have HZ0:=Lib.hid (show w.heap.size+1≤(w.alloc (.cells #[.int .i64 0,.int .i64 0,.bool false,.bool false,.int .i64 0,.int .i64 0,.int .i64 0,.bool false,.int .u64 0,.int .u64 0,.bool false,.int .u64 0,.int .u64 0,.slice none 0 0] 82)).heap.size by simp)
 have i1:(0:Int)≤(s:Int):=by omega
 have i2:(s:Int)≤(n:Int):=by omega
 have i3:(s:Int)≤(c:Int):=by omega
 generalize hv2:w16 l 2=v2 at *
 have HV2:=Lib.hid hv2
 clear hv2
 obtain ⟨k20,k21⟩:=k2
 obtain ⟨k60,k61⟩:=k6
 generalize hv6:w16 l 6=v6 at *
 have HV6:=Lib.hid hv6
 clear hv6
 clear hs hx hl' h1 hsz ha
 go_enter Try.func44,Try.ntmps44
 go_wp2_with fail
 refine HBG.out.mono ?_
 rintro e w1 ⟨rfl,hw⟩
 subst hw
 have HBY:=HB0
 have HRY:=HR0
 have HSY:=HZ0
 clear HB0 HR0 HZ0 HBG
 generalize (w.alloc (.cells #[.int .i64 0,.int .i64 0,.bool false,.bool false,.int .i64 0,.int .i64 0,.int .i64 0,.bool false,.int .u64 0,.int .u64 0,.bool false,.int .u64 0,.int .u64 0,.slice none 0 0] 82))=wy at *
 have HRW:=Lib.hid ((HS.out.below HBY.out hb).row (Nat.lt_of_lt_of_le hb HBY.out.size))
 have HA6:=Lib.hid (at_two 6 (some ⟨b,off,none⟩) n c l wy HL.out hn2 hnc hc (by intro h; cases h) HRW.out HX.out (by omega))
 have HA2:=Lib.hid (at_two 2 (some ⟨b,off,none⟩) n c l wy HL.out hn2 hnc hc (by intro h; cases h) HRW.out HX.out (by omega))
 rw [HV6.out] at HA6
 rw [HV2.out] at HA2
 go_wp2_with fail
 refine HA6.out.mono ?_
 rintro e w2 ⟨rfl,rfl⟩
 go_wp2_with fail
 refine HA2.out.mono ?_
 rintro e w3 ⟨rfl,rfl⟩
 have r0:wy.cell? ⟨w.heap.size,0,none⟩=some (.int .i64 0):=HRY.out.cell 0
 have q0:wy.frozen? ⟨w.heap.size,0,none⟩=false:=HRY.out.frozen 0
 have r1:wy.cell? ⟨w.heap.size,1,none⟩=some (.int .i64 0):=HRY.out.cell 1
 have q1:wy.frozen? ⟨w.heap.size,1,none⟩=false:=HRY.out.frozen 1
 have r2:wy.cell? ⟨w.heap.size,2,none⟩=some (.bool false):=HRY.out.cell 2
 have q2:wy.frozen? ⟨w.heap.size,2,none⟩=false:=HRY.out.frozen 2
 have r3:wy.cell? ⟨w.heap.size,3,none⟩=some (.bool false):=HRY.out.cell 3
 have q3:wy.frozen? ⟨w.heap.size,3,none⟩=false:=HRY.out.frozen 3
 have r4:wy.cell? ⟨w.heap.size,4,none⟩=some (.int .i64 0):=HRY.out.cell 4
 have q4:wy.frozen? ⟨w.heap.size,4,none⟩=false:=HRY.out.frozen 4
 have r5:wy.cell? ⟨w.heap.size,5,none⟩=some (.int .i64 0):=HRY.out.cell 5
 have q5:wy.frozen? ⟨w.heap.size,5,none⟩=false:=HRY.out.frozen 5
 have r6:wy.cell? ⟨w.heap.size,6,none⟩=some (.int .i64 0):=HRY.out.cell 6
 have q6:wy.frozen? ⟨w.heap.size,6,none⟩=false:=HRY.out.frozen 6
 have r7:wy.cell? ⟨w.heap.size,7,none⟩=some (.bool false):=HRY.out.cell 7
 have q7:wy.frozen? ⟨w.heap.size,7,none⟩=false:=HRY.out.frozen 7
 have r8:wy.cell? ⟨w.heap.size,8,none⟩=some (.int .u64 0):=HRY.out.cell 8
 have q8:wy.frozen? ⟨w.heap.size,8,none⟩=false:=HRY.out.frozen 8
 have r9:wy.cell? ⟨w.heap.size,9,none⟩=some (.int .u64 0):=HRY.out.cell 9
 have q9:wy.frozen? ⟨w.heap.size,9,none⟩=false:=HRY.out.frozen 9
 have r10:wy.cell? ⟨w.heap.size,10,none⟩=some (.bool false):=HRY.out.cell 10
 have q10:wy.frozen? ⟨w.heap.size,10,none⟩=false:=HRY.out.frozen 10
 have r11:wy.cell? ⟨w.heap.size,11,none⟩=some (.int .u64 0):=HRY.out.cell 11
 have q11:wy.frozen? ⟨w.heap.size,11,none⟩=false:=HRY.out.frozen 11
 have r12:wy.cell? ⟨w.heap.size,12,none⟩=some (.int .u64 0):=HRY.out.cell 12
 have q12:wy.frozen? ⟨w.heap.size,12,none⟩=false:=HRY.out.frozen 12
 have r13:wy.cell? ⟨w.heap.size,13,none⟩=some (.slice none 0 0):=HRY.out.cell 13
 have q13:wy.frozen? ⟨w.heap.size,13,none⟩=false:=HRY.out.frozen 13
 go_wp2_with fail
 have hrs:=(show Blk _ _ 82 #[.int .i64 0,.int .i64 0,.bool false,.bool false,.int .i64 0,.int .i64 0,.int .i64 0,.bool false,.int .u64 0,.int .u64 0,.bool false,.int .u64 0,.int .u64 0,.slice none 0 0] from (show Blk _ _ 82 #[.int .i64 0,.int .i64 0,.bool false,.bool false,.int .i64 0,.int .i64 0,.int .i64 0,.bool false,.int .u64 0,.int .u64 0,.bool false,.int .u64 0,.int .u64 0,.slice none 0 0] from (show Blk _ _ 82 #[.int .i64 0,.int .i64 0,.bool false,.bool false,.int .i64 0,.int .i64 0,.int .i64 0,.bool false,.int .u64 0,.int .u64 0,.bool false,.int .u64 0,.int .u64 0,.slice none 0 0] from (show Blk _ _ 82 #[.int .i64 0,.int .i64 0,.bool false,.bool false,.int .i64 0,.int .i64 0,.int .i64 0,.bool false,.int .u64 0,.int .u64 0,.bool false,.int .u64 0,.int .u64 0,.slice none 0 0] from (show Blk _ _ 82 #[.int .i64 0,.int .i64 0,.bool false,.bool false,.int .i64 0,.int .i64 0,.int .i64 0,.bool false,.int .u64 0,.int .u64 0,.bool false,.int .u64 0,.int .u64 0,.slice none 0 0] from (show Blk _ _ 82 #[.int .i64 0,.int .i64 0,.bool false,.bool false,.int .i64 0,.int .i64 0,.int .i64 0,.bool false,.int .u64 0,.int .u64 0,.bool false,.int .u64 0,.int .u64 0,.slice none 0 0] from (show Blk _ _ 82 #[.int .i64 0,.int .i64 0,.bool false,.bool false,.int .i64 0,.int .i64 0,.int .i64 0,.bool false,.int .u64 0,.int .u64 0,.bool false,.int .u64 0,.int .u64 0,.slice none 0 0] from (show Blk _ _ 82 #[.int .i64 0,.int .i64 0,.bool false,.bool false,.int .i64 0,.int .i64 0,.int .i64 0,.bool false,.int .u64 0,.int .u64 0,.bool false,.int .u64 0,.int .u64 0,.slice none 0 0] from (show Blk _ _ 82 #[.int .i64 0,.int .i64 0,.bool false,.bool false,.int .i64 0,.int .i64 0,.int .i64 0,.bool false,.int .u64 0,.int .u64 0,.bool false,.int .u64 0,.int .u64 0,.slice none 0 0] from (show Blk _ _ 82 #[.int .i64 0,.int .i64 0,.bool false,.bool false,.int .i64 0,.int .i64 0,.int .i64 0,.bool false,.int .u64 0,.int .u64 0,.bool false,.int .u64 0,.int .u64 0,.slice none 0 0] from (show Blk _ _ 82 #[.int .i64 0,.int .i64 0,.bool false,.bool false,.int .i64 0,.int .i64 0,.int .i64 0,.bool false,.int .u64 0,.int .u64 0,.bool false,.int .u64 0,.int .u64 0,.slice none 0 0] from (show Blk _ _ 82 #[.int .i64 0,.int .i64 0,.bool false,.bool false,.int .i64 0,.int .i64 0,.int .i64 0,.bool false,.int .u64 0,.int .u64 0,.bool false,.int .u64 0,.int .u64 0,.slice none 0 0] from (show Blk _ _ 82 #[.int .i64 0,.int .i64 0,.bool false,.bool false,.int .i64 0,.int .i64 0,.int .i64 0,.bool false,.int .u64 0,.int .u64 0,.bool false,.int .u64 0,.int .u64 0,.slice none 0 0] from (show Blk _ _ 82 #[.int .i64 0,.int .i64 0,.bool false,.bool false,.int .i64 0,.int .i64 0,.int .i64 0,.bool false,.int .u64 0,.int .u64 0,.bool false,.int .u64 0,.int .u64 0,.slice none 0 0] from HRY.out.set_ 0 (.int .i64 0)).set_ 1 (.int .i64 0)).set_ 2 (.bool false)).set_ 3 (.bool false)).set_ 4 (.int .i64 0)).set_ 5 (.int .i64 0)).set_ 6 (.int .i64 0)).set_ 7 (.bool false)).set_ 8 (.int .u64 0)).set_ 9 (.int .u64 0)).set_ 10 (.bool false)).set_ 11 (.int .u64 0)).set_ 12 (.int .u64 0)).set_ 13 (.slice none 0 0))
 have HBW:=Lib.hid ((((((((((((((HBY.out.setCell (p:=⟨w.heap.size,0,none⟩) (Nat.le_refl _) (.int .i64 0)).setCell (p:=⟨w.heap.size,1,none⟩) (Nat.le_refl _) (.int .i64 0)).setCell (p:=⟨w.heap.size,2,none⟩) (Nat.le_refl _) (.bool false)).setCell (p:=⟨w.heap.size,3,none⟩) (Nat.le_refl _) (.bool false)).setCell (p:=⟨w.heap.size,4,none⟩) (Nat.le_refl _) (.int .i64 0)).setCell (p:=⟨w.heap.size,5,none⟩) (Nat.le_refl _) (.int .i64 0)).setCell (p:=⟨w.heap.size,6,none⟩) (Nat.le_refl _) (.int .i64 0)).setCell (p:=⟨w.heap.size,7,none⟩) (Nat.le_refl _) (.bool false)).setCell (p:=⟨w.heap.size,8,none⟩) (Nat.le_refl _) (.int .u64 0)).setCell (p:=⟨w.heap.size,9,none⟩) (Nat.le_refl _) (.int .u64 0)).setCell (p:=⟨w.heap.size,10,none⟩) (Nat.le_refl _) (.bool false)).setCell (p:=⟨w.heap.size,11,none⟩) (Nat.le_refl _) (.int .u64 0)).setCell (p:=⟨w.heap.size,12,none⟩) (Nat.le_refl _) (.int .u64 0)).setCell (p:=⟨w.heap.size,13,none⟩) (Nat.le_refl _) (.slice none 0 0))
 clear r0 q0 r1 q1 r2 q2 r3 q3 r4 q4 r5 q5 r6 q6 r7 q7 r8 q8 r9 q9 r10 q10 r11 q11 r12 q12 r13 q13
 generalize ((((((((((((((wy.setCell ⟨w.heap.size,0,none⟩ (.int .i64 0)).setCell ⟨w.heap.size,1,none⟩ (.int .i64 0)).setCell ⟨w.heap.size,2,none⟩ (.bool false)).setCell ⟨w.heap.size,3,none⟩ (.bool false)).setCell ⟨w.heap.size,4,none⟩ (.int .i64 0)).setCell ⟨w.heap.size,5,none⟩ (.int .i64 0)).setCell ⟨w.heap.size,6,none⟩ (.int .i64 0)).setCell ⟨w.heap.size,7,none⟩ (.bool false)).setCell ⟨w.heap.size,8,none⟩ (.int .u64 0)).setCell ⟨w.heap.size,9,none⟩ (.int .u64 0)).setCell ⟨w.heap.size,10,none⟩ (.bool false)).setCell ⟨w.heap.size,11,none⟩ (.int .u64 0)).setCell ⟨w.heap.size,12,none⟩ (.int .u64 0)).setCell ⟨w.heap.size,13,none⟩ (.slice none 0 0))=WW at *
 have z0:WW.cell? ⟨w.heap.size,0,none⟩=some (.int .i64 0):=hrs.cell 0
 have z1:WW.cell? ⟨w.heap.size,1,none⟩=some (.int .i64 0):=hrs.cell 1
 have z2:WW.cell? ⟨w.heap.size,2,none⟩=some (.bool false):=hrs.cell 2
 have z3:WW.cell? ⟨w.heap.size,3,none⟩=some (.bool false):=hrs.cell 3
 have z4:WW.cell? ⟨w.heap.size,4,none⟩=some (.int .i64 0):=hrs.cell 4
 have z5:WW.cell? ⟨w.heap.size,5,none⟩=some (.int .i64 0):=hrs.cell 5
 have z6:WW.cell? ⟨w.heap.size,6,none⟩=some (.int .i64 0):=hrs.cell 6
 have z7:WW.cell? ⟨w.heap.size,7,none⟩=some (.bool false):=hrs.cell 7
 have z8:WW.cell? ⟨w.heap.size,8,none⟩=some (.int .u64 0):=hrs.cell 8
 have z9:WW.cell? ⟨w.heap.size,9,none⟩=some (.int .u64 0):=hrs.cell 9
 have z10:WW.cell? ⟨w.heap.size,10,none⟩=some (.bool false):=hrs.cell 10
 have z11:WW.cell? ⟨w.heap.size,11,none⟩=some (.int .u64 0):=hrs.cell 11
 have z12:WW.cell? ⟨w.heap.size,12,none⟩=some (.int .u64 0):=hrs.cell 12
 have z13:WW.cell? ⟨w.heap.size,13,none⟩=some (.slice none 0 0):=hrs.cell 13
 exact bodyPost_ret (v:=err 12) (by simp [results,Try.results44,go_sem,err,z0,z1,z2,z3,z4,z5,z6,z7,z8,z9,z10,z11,z12,z13]) rfl ⟨rfl,HBW.out⟩
theorem parse_sum (b off n c s:Nat) (l:List Int) (w:World) (hl':l.length=n) (hn:20≤n) (hn2:n≤1000) (hnc:n≤c) (hc:c≤9223372036854775807) (hb:b<w.heap.size) (hs:Lies w b off l) (hx:∀ x ∈ l,0≤x∧x≤255)
  (h1:l.getD 0 0 / 16=4) (h2:20≤s) (h3:s≤n) (hsz:hl l=(s:Int)) (hq:w16 l 6<32768) (a:Nat) (ha:w16 l 2=(a:Int)) (ha1:s≤a) (ha2:a≤n) (hS:fo (wsum (l.take s))≠65535) :
  Calls Try.prog 44 #[.slice (some ⟨b,off,none⟩) n c] w fun e w'=>e=.returned (err 13)∧Below w.heap.size w w':=by
 have HBG:=Lib.hid (begin_ok b off n c l (w.alloc (.cells #[.int .i64 0,.int .i64 0,.bool false,.bool false,.int .i64 0,.int .i64 0,.int .i64 0,.bool false,.int .u64 0,.int .u64 0,.bool false,.int .u64 0,.int .u64 0,.slice none 0 0] 82)) hl' hn (by simp; omega) (hs.below ((Below.refl _ _).alloc (Nat.le_refl _) _) hb) hx h1 (by omega) (by omega))
 rw [hsz] at HBG
 have k6:=w16_in l hx 6
 have k2:=w16_in l hx 2
 have t6:(bits .and .u64 (w16 l 6) 32768 != 0)=false:=by rw [bit15 _ k6.1 k6.2]; simp; omega
 have t2:decide ((a:Int)<(s:Int))=false:=decide_eq_false (by omega)
 have t2n:decide (a<s)=false:=decide_eq_false (by omega)
 have t3:decide ((n:Int)<(a:Int))=false:=decide_eq_false (by omega)
 have t3n:decide (n<a)=false:=decide_eq_false (by omega)
 have HL:=Lib.hid hl'
 have HS:=Lib.hid hs
 have HX:=Lib.hid hx
 have HTL:=Lib.hid (show (l.take s).length=s by rw [List.length_take]; omega)
 have HTX:=Lib.hid (take_u8' hx s)
 have HHT:=Lib.hid (hd_take l s h2)
 have HB0:=Lib.hid (show Below w.heap.size w (w.alloc (.cells #[.int .i64 0,.int .i64 0,.bool false,.bool false,.int .i64 0,.int .i64 0,.int .i64 0,.bool false,.int .u64 0,.int .u64 0,.bool false,.int .u64 0,.int .u64 0,.slice none 0 0] 82)) from (Below.refl _ _).alloc (Nat.le_refl _) _)
 have HR0:=Lib.hid (Blk.new w 82 #[.int .i64 0,.int .i64 0,.bool false,.bool false,.int .i64 0,.int .i64 0,.int .i64 0,.bool false,.int .u64 0,.int .u64 0,.bool false,.int .u64 0,.int .u64 0,.slice none 0 0])
 have HZ0:=Lib.hid (show w.heap.size+1≤(w.alloc (.cells #[.int .i64 0,.int .i64 0,.bool false,.bool false,.int .i64 0,.int .i64 0,.int .i64 0,.bool false,.int .u64 0,.int .u64 0,.bool false,.int .u64 0,.int .u64 0,.slice none 0 0] 82)).heap.size by simp)
 have i1:(0:Int)≤(s:Int):=by omega
 have i2:(s:Int)≤(n:Int):=by omega
 have i3:(s:Int)≤(c:Int):=by omega
 have HSM:=Lib.hid (show (fo (wsum (l.take s)) == 65535)=false from eqF hS)
 have HV2:=Lib.hid ha
 obtain ⟨k60,k61⟩:=k6
 obtain ⟨k20,k21⟩:=k2
 rw [ha] at k20 k21
 generalize hv6:w16 l 6=v6 at *
 have HV6:=Lib.hid hv6
 clear hv6
 clear hs hx hl' h1 hsz hS ha
 go_enter Try.func44,Try.ntmps44
 go_wp2_with fail
 refine HBG.out.mono ?_
 rintro e w1 ⟨rfl,hw⟩
 subst hw
 have HBY:=HB0
 have HRY:=HR0
 have HSY:=HZ0
 clear HB0 HR0 HZ0 HBG
 generalize (w.alloc (.cells #[.int .i64 0,.int .i64 0,.bool false,.bool false,.int .i64 0,.int .i64 0,.int .i64 0,.bool false,.int .u64 0,.int .u64 0,.bool false,.int .u64 0,.int .u64 0,.slice none 0 0] 82))=wy at *
 have HRW:=Lib.hid ((HS.out.below HBY.out hb).row (Nat.lt_of_lt_of_le hb HBY.out.size))
 have HA6:=Lib.hid (at_two 6 (some ⟨b,off,none⟩) n c l wy HL.out hn2 hnc hc (by intro h; cases h) HRW.out HX.out (by omega))
 have HA2:=Lib.hid (at_two 2 (some ⟨b,off,none⟩) n c l wy HL.out hn2 hnc hc (by intro h; cases h) HRW.out HX.out (by omega))
 rw [HV6.out] at HA6
 rw [HV2.out] at HA2
 go_wp2_with fail
 refine HA6.out.mono ?_
 rintro e w2 ⟨rfl,rfl⟩
 go_wp2_with fail
 refine HA2.out.mono ?_
 rintro e w3 ⟨rfl,rfl⟩
 have HSR:=Lib.hid (right_one wy.heap.size (some ⟨b,off,none⟩) s c (l.take s) w wy 47 rfl HTL.out (by omega) ((HS.out.take s).row hb) HTX.out HBY.out)
 rw [HSM.out] at HSR
 go_wp2_with fail
 refine HSR.out.mono ?_
 rintro e w4 ⟨rfl,rfl⟩
 have HBY_9:=Lib.hid (bel_alloc HBY.out (.cells #[.slice (some ⟨b,off,none⟩) s c] 47))
 have HRY_9:=Lib.hid (HRY.out.alloc (.cells #[.slice (some ⟨b,off,none⟩) s c] 47))
 have HSY_9:=Lib.hid (Nat.le_trans HSY.out ((Below.refl 0 _).alloc (Nat.zero_le _) (.cells #[.slice (some ⟨b,off,none⟩) s c] 47)).size)
 clear HBY HRY HSY HSR HA6 HA2 HRW
 have HBY:=HBY_9
 have HRY:=HRY_9
 have HSY:=HSY_9
 clear HBY_9 HRY_9 HSY_9
 generalize wy.alloc (.cells #[.slice (some ⟨b,off,none⟩) s c] 47)=wz at *
 generalize hwy:wz=wy at *
 clear hwy
 have r0:wy.cell? ⟨w.heap.size,0,none⟩=some (.int .i64 0):=HRY.out.cell 0
 have q0:wy.frozen? ⟨w.heap.size,0,none⟩=false:=HRY.out.frozen 0
 have r1:wy.cell? ⟨w.heap.size,1,none⟩=some (.int .i64 0):=HRY.out.cell 1
 have q1:wy.frozen? ⟨w.heap.size,1,none⟩=false:=HRY.out.frozen 1
 have r2:wy.cell? ⟨w.heap.size,2,none⟩=some (.bool false):=HRY.out.cell 2
 have q2:wy.frozen? ⟨w.heap.size,2,none⟩=false:=HRY.out.frozen 2
 have r3:wy.cell? ⟨w.heap.size,3,none⟩=some (.bool false):=HRY.out.cell 3
 have q3:wy.frozen? ⟨w.heap.size,3,none⟩=false:=HRY.out.frozen 3
 have r4:wy.cell? ⟨w.heap.size,4,none⟩=some (.int .i64 0):=HRY.out.cell 4
 have q4:wy.frozen? ⟨w.heap.size,4,none⟩=false:=HRY.out.frozen 4
 have r5:wy.cell? ⟨w.heap.size,5,none⟩=some (.int .i64 0):=HRY.out.cell 5
 have q5:wy.frozen? ⟨w.heap.size,5,none⟩=false:=HRY.out.frozen 5
 have r6:wy.cell? ⟨w.heap.size,6,none⟩=some (.int .i64 0):=HRY.out.cell 6
 have q6:wy.frozen? ⟨w.heap.size,6,none⟩=false:=HRY.out.frozen 6
 have r7:wy.cell? ⟨w.heap.size,7,none⟩=some (.bool false):=HRY.out.cell 7
 have q7:wy.frozen? ⟨w.heap.size,7,none⟩=false:=HRY.out.frozen 7
 have r8:wy.cell? ⟨w.heap.size,8,none⟩=some (.int .u64 0):=HRY.out.cell 8
 have q8:wy.frozen? ⟨w.heap.size,8,none⟩=false:=HRY.out.frozen 8
 have r9:wy.cell? ⟨w.heap.size,9,none⟩=some (.int .u64 0):=HRY.out.cell 9
 have q9:wy.frozen? ⟨w.heap.size,9,none⟩=false:=HRY.out.frozen 9
 have r10:wy.cell? ⟨w.heap.size,10,none⟩=some (.bool false):=HRY.out.cell 10
 have q10:wy.frozen? ⟨w.heap.size,10,none⟩=false:=HRY.out.frozen 10
 have r11:wy.cell? ⟨w.heap.size,11,none⟩=some (.int .u64 0):=HRY.out.cell 11
 have q11:wy.frozen? ⟨w.heap.size,11,none⟩=false:=HRY.out.frozen 11
 have r12:wy.cell? ⟨w.heap.size,12,none⟩=some (.int .u64 0):=HRY.out.cell 12
 have q12:wy.frozen? ⟨w.heap.size,12,none⟩=false:=HRY.out.frozen 12
 have r13:wy.cell? ⟨w.heap.size,13,none⟩=some (.slice none 0 0):=HRY.out.cell 13
 have q13:wy.frozen? ⟨w.heap.size,13,none⟩=false:=HRY.out.frozen 13
 go_wp2_with fail
 have hrs:=(show Blk _ _ 82 #[.int .i64 0,.int .i64 0,.bool false,.bool false,.int .i64 0,.int .i64 0,.int .i64 0,.bool false,.int .u64 0,.int .u64 0,.bool false,.int .u64 0,.int .u64 0,.slice none 0 0] from (show Blk _ _ 82 #[.int .i64 0,.int .i64 0,.bool false,.bool false,.int .i64 0,.int .i64 0,.int .i64 0,.bool false,.int .u64 0,.int .u64 0,.bool false,.int .u64 0,.int .u64 0,.slice none 0 0] from (show Blk _ _ 82 #[.int .i64 0,.int .i64 0,.bool false,.bool false,.int .i64 0,.int .i64 0,.int .i64 0,.bool false,.int .u64 0,.int .u64 0,.bool false,.int .u64 0,.int .u64 0,.slice none 0 0] from (show Blk _ _ 82 #[.int .i64 0,.int .i64 0,.bool false,.bool false,.int .i64 0,.int .i64 0,.int .i64 0,.bool false,.int .u64 0,.int .u64 0,.bool false,.int .u64 0,.int .u64 0,.slice none 0 0] from (show Blk _ _ 82 #[.int .i64 0,.int .i64 0,.bool false,.bool false,.int .i64 0,.int .i64 0,.int .i64 0,.bool false,.int .u64 0,.int .u64 0,.bool false,.int .u64 0,.int .u64 0,.slice none 0 0] from (show Blk _ _ 82 #[.int .i64 0,.int .i64 0,.bool false,.bool false,.int .i64 0,.int .i64 0,.int .i64 0,.bool false,.int .u64 0,.int .u64 0,.bool false,.int .u64 0,.int .u64 0,.slice none 0 0] from (show Blk _ _ 82 #[.int .i64 0,.int .i64 0,.bool false,.bool false,.int .i64 0,.int .i64 0,.int .i64 0,.bool false,.int .u64 0,.int .u64 0,.bool false,.int .u64 0,.int .u64 0,.slice none 0 0] from (show Blk _ _ 82 #[.int .i64 0,.int .i64 0,.bool false,.bool false,.int .i64 0,.int .i64 0,.int .i64 0,.bool false,.int .u64 0,.int .u64 0,.bool false,.int .u64 0,.int .u64 0,.slice none 0 0] from (show Blk _ _ 82 #[.int .i64 0,.int .i64 0,.bool false,.bool false,.int .i64 0,.int .i64 0,.int .i64 0,.bool false,.int .u64 0,.int .u64 0,.bool false,.int .u64 0,.int .u64 0,.slice none 0 0] from (show Blk _ _ 82 #[.int .i64 0,.int .i64 0,.bool false,.bool false,.int .i64 0,.int .i64 0,.int .i64 0,.bool false,.int .u64 0,.int .u64 0,.bool false,.int .u64 0,.int .u64 0,.slice none 0 0] from (show Blk _ _ 82 #[.int .i64 0,.int .i64 0,.bool false,.bool false,.int .i64 0,.int .i64 0,.int .i64 0,.bool false,.int .u64 0,.int .u64 0,.bool false,.int .u64 0,.int .u64 0,.slice none 0 0] from (show Blk _ _ 82 #[.int .i64 0,.int .i64 0,.bool false,.bool false,.int .i64 0,.int .i64 0,.int .i64 0,.bool false,.int .u64 0,.int .u64 0,.bool false,.int .u64 0,.int .u64 0,.slice none 0 0] from (show Blk _ _ 82 #[.int .i64 0,.int .i64 0,.bool false,.bool false,.int .i64 0,.int .i64 0,.int .i64 0,.bool false,.int .u64 0,.int .u64 0,.bool false,.int .u64 0,.int .u64 0,.slice none 0 0] from (show Blk _ _ 82 #[.int .i64 0,.int .i64 0,.bool false,.bool false,.int .i64 0,.int .i64 0,.int .i64 0,.bool false,.int .u64 0,.int .u64 0,.bool false,.int .u64 0,.int .u64 0,.slice none 0 0] from HRY.out.set_ 0 (.int .i64 0)).set_ 1 (.int .i64 0)).set_ 2 (.bool false)).set_ 3 (.bool false)).set_ 4 (.int .i64 0)).set_ 5 (.int .i64 0)).set_ 6 (.int .i64 0)).set_ 7 (.bool false)).set_ 8 (.int .u64 0)).set_ 9 (.int .u64 0)).set_ 10 (.bool false)).set_ 11 (.int .u64 0)).set_ 12 (.int .u64 0)).set_ 13 (.slice none 0 0))
 have HBW:=Lib.hid ((((((((((((((HBY.out.setCell (p:=⟨w.heap.size,0,none⟩) (Nat.le_refl _) (.int .i64 0)).setCell (p:=⟨w.heap.size,1,none⟩) (Nat.le_refl _) (.int .i64 0)).setCell (p:=⟨w.heap.size,2,none⟩) (Nat.le_refl _) (.bool false)).setCell (p:=⟨w.heap.size,3,none⟩) (Nat.le_refl _) (.bool false)).setCell (p:=⟨w.heap.size,4,none⟩) (Nat.le_refl _) (.int .i64 0)).setCell (p:=⟨w.heap.size,5,none⟩) (Nat.le_refl _) (.int .i64 0)).setCell (p:=⟨w.heap.size,6,none⟩) (Nat.le_refl _) (.int .i64 0)).setCell (p:=⟨w.heap.size,7,none⟩) (Nat.le_refl _) (.bool false)).setCell (p:=⟨w.heap.size,8,none⟩) (Nat.le_refl _) (.int .u64 0)).setCell (p:=⟨w.heap.size,9,none⟩) (Nat.le_refl _) (.int .u64 0)).setCell (p:=⟨w.heap.size,10,none⟩) (Nat.le_refl _) (.bool false)).setCell (p:=⟨w.heap.size,11,none⟩) (Nat.le_refl _) (.int .u64 0)).setCell (p:=⟨w.heap.size,12,none⟩) (Nat.le_refl _) (.int .u64 0)).setCell (p:=⟨w.heap.size,13,none⟩) (Nat.le_refl _) (.slice none 0 0))
 clear r0 q0 r1 q1 r2 q2 r3 q3 r4 q4 r5 q5 r6 q6 r7 q7 r8 q8 r9 q9 r10 q10 r11 q11 r12 q12 r13 q13
 generalize ((((((((((((((wy.setCell ⟨w.heap.size,0,none⟩ (.int .i64 0)).setCell ⟨w.heap.size,1,none⟩ (.int .i64 0)).setCell ⟨w.heap.size,2,none⟩ (.bool false)).setCell ⟨w.heap.size,3,none⟩ (.bool false)).setCell ⟨w.heap.size,4,none⟩ (.int .i64 0)).setCell ⟨w.heap.size,5,none⟩ (.int .i64 0)).setCell ⟨w.heap.size,6,none⟩ (.int .i64 0)).setCell ⟨w.heap.size,7,none⟩ (.bool false)).setCell ⟨w.heap.size,8,none⟩ (.int .u64 0)).setCell ⟨w.heap.size,9,none⟩ (.int .u64 0)).setCell ⟨w.heap.size,10,none⟩ (.bool false)).setCell ⟨w.heap.size,11,none⟩ (.int .u64 0)).setCell ⟨w.heap.size,12,none⟩ (.int .u64 0)).setCell ⟨w.heap.size,13,none⟩ (.slice none 0 0))=WW at *
 have z0:WW.cell? ⟨w.heap.size,0,none⟩=some (.int .i64 0):=hrs.cell 0
 have z1:WW.cell? ⟨w.heap.size,1,none⟩=some (.int .i64 0):=hrs.cell 1
 have z2:WW.cell? ⟨w.heap.size,2,none⟩=some (.bool false):=hrs.cell 2
 have z3:WW.cell? ⟨w.heap.size,3,none⟩=some (.bool false):=hrs.cell 3
 have z4:WW.cell? ⟨w.heap.size,4,none⟩=some (.int .i64 0):=hrs.cell 4
 have z5:WW.cell? ⟨w.heap.size,5,none⟩=some (.int .i64 0):=hrs.cell 5
 have z6:WW.cell? ⟨w.heap.size,6,none⟩=some (.int .i64 0):=hrs.cell 6
 have z7:WW.cell? ⟨w.heap.size,7,none⟩=some (.bool false):=hrs.cell 7
 have z8:WW.cell? ⟨w.heap.size,8,none⟩=some (.int .u64 0):=hrs.cell 8
 have z9:WW.cell? ⟨w.heap.size,9,none⟩=some (.int .u64 0):=hrs.cell 9
 have z10:WW.cell? ⟨w.heap.size,10,none⟩=some (.bool false):=hrs.cell 10
 have z11:WW.cell? ⟨w.heap.size,11,none⟩=some (.int .u64 0):=hrs.cell 11
 have z12:WW.cell? ⟨w.heap.size,12,none⟩=some (.int .u64 0):=hrs.cell 12
 have z13:WW.cell? ⟨w.heap.size,13,none⟩=some (.slice none 0 0):=hrs.cell 13
 exact bodyPost_ret (v:=err 13) (by simp [results,Try.results44,go_sem,err,z0,z1,z2,z3,z4,z5,z6,z7,z8,z9,z10,z11,z12,z13]) rfl ⟨rfl,HBW.out⟩
theorem parse_far (b off n c s:Nat) (l:List Int) (w:World) (hl':l.length=n) (hn:20≤n) (hn2:n≤1000) (hnc:n≤c) (hc:c≤9223372036854775807) (hb:b<w.heap.size) (hs:Lies w b off l) (hx:∀ x ∈ l,0≤x∧x≤255)
  (h1:l.getD 0 0 / 16=4) (h2:20≤s) (h3:s≤n) (hsz:hl l=(s:Int)) (hq:w16 l 6<32768) (a:Nat) (ha:w16 l 2=(a:Int)) (ha1:s≤a) (ha2:a≤n) (hS:fo (wsum (l.take s))=65535) (hcs:¬ c=s) :
  Calls Try.prog 44 #[.slice (some ⟨b,off,none⟩) n c] w (OkPost w l ((l.drop s).take (a - s)) s (a - s)):=by
 have HBG:=Lib.hid (begin_ok b off n c l (w.alloc (.cells #[.int .i64 0,.int .i64 0,.bool false,.bool false,.int .i64 0,.int .i64 0,.int .i64 0,.bool false,.int .u64 0,.int .u64 0,.bool false,.int .u64 0,.int .u64 0,.slice none 0 0] 82)) hl' hn (by simp; omega) (hs.below ((Below.refl _ _).alloc (Nat.le_refl _) _) hb) hx h1 (by omega) (by omega))
 rw [hsz] at HBG
 have k6:=w16_in l hx 6
 have k2:=w16_in l hx 2
 have t6:(bits .and .u64 (w16 l 6) 32768 != 0)=false:=by rw [bit15 _ k6.1 k6.2]; simp; omega
 have t2:decide ((a:Int)<(s:Int))=false:=decide_eq_false (by omega)
 have t2n:decide (a<s)=false:=decide_eq_false (by omega)
 have t3:decide ((n:Int)<(a:Int))=false:=decide_eq_false (by omega)
 have t3n:decide (n<a)=false:=decide_eq_false (by omega)
 have HL:=Lib.hid hl'
 have HS:=Lib.hid hs
 have HX:=Lib.hid hx
 have HTL:=Lib.hid (show (l.take s).length=s by rw [List.length_take]; omega)
 have HTX:=Lib.hid (take_u8' hx s)
 have HHT:=Lib.hid (hd_take l s h2)
 have HB0:=Lib.hid (show Below w.heap.size w (w.alloc (.cells #[.int .i64 0,.int .i64 0,.bool false,.bool false,.int .i64 0,.int .i64 0,.int .i64 0,.bool false,.int .u64 0,.int .u64 0,.bool false,.int .u64 0,.int .u64 0,.slice none 0 0] 82)) from (Below.refl _ _).alloc (Nat.le_refl _) _)
 have HR0:=Lib.hid (Blk.new w 82 #[.int .i64 0,.int .i64 0,.bool false,.bool false,.int .i64 0,.int .i64 0,.int .i64 0,.bool false,.int .u64 0,.int .u64 0,.bool false,.int .u64 0,.int .u64 0,.slice none 0 0])
 have HZ0:=Lib.hid (show w.heap.size+1≤(w.alloc (.cells #[.int .i64 0,.int .i64 0,.bool false,.bool false,.int .i64 0,.int .i64 0,.int .i64 0,.bool false,.int .u64 0,.int .u64 0,.bool false,.int .u64 0,.int .u64 0,.slice none 0 0] 82)).heap.size by simp)
 have i1:(0:Int)≤(s:Int):=by omega
 have i2:(s:Int)≤(n:Int):=by omega
 have i3:(s:Int)≤(c:Int):=by omega
 have HSM:=Lib.hid (show (fo (wsum (l.take s)) == 65535)=true from eqT hS)
 have HCX:=Lib.hid (fun (W:World) (hbw:Below w.heap.size w W)=>clone_any (some ⟨b,off+s,none⟩) (a - s) (c - s) ((l.drop s).take (a - s)) W (by rw [List.length_take,List.length_drop,hl']; omega) (by omega) (by intro h; cases h) ((((HS.out.below hbw hb).drop s).take (a - s)).row (Nat.lt_of_lt_of_le hb hbw.size)))
 have i4:(a:Int)≤(c:Int):=by omega
 have i5:(s:Int)≤(a:Int):=by omega
 have i6:(0:Int)≤(a:Int):=by omega
 have HHD0:∀ A n c,hd l A n c=.agg #[.int .i64 (l.getD 1 0),.int .i64 (w16 l 4),.bool (decide (w16 l 6 / 16384 % 2=1)),.bool (decide (w16 l 6 / 8192 % 2=1)),.int .i64 (w16 l 6 % 8192),.int .i64 (l.getD 8 0),.int .i64 (l.getD 9 0),.bool false,.int .u64 0,.int .u64 (w32 l 12),.bool false,.int .u64 0,.int .u64 (w32 l 16),.slice A n c]:=fun _ _ _=>rfl
 generalize l.getD 1 0=a0 at *
 generalize w16 l 4=a1 at *
 generalize decide (w16 l 6 / 16384 % 2=1)=a2 at *
 generalize decide (w16 l 6 / 8192 % 2=1)=a3 at *
 generalize w16 l 6 % 8192=a4 at *
 generalize l.getD 8 0=a5 at *
 generalize l.getD 9 0=a6 at *
 generalize w32 l 12=a9 at *
 generalize w32 l 16=a12 at *
 have HHD:=Lib.hid HHD0
 clear HHD0
 have HV2:=Lib.hid ha
 obtain ⟨k60,k61⟩:=k6
 obtain ⟨k20,k21⟩:=k2
 rw [ha] at k20 k21
 generalize hv6:w16 l 6=v6 at *
 have HV6:=Lib.hid hv6
 clear hv6
 clear hs hx hl' h1 hsz hS ha
 go_enter Try.func44,Try.ntmps44
 go_wp2_with fail
 refine HBG.out.mono ?_
 rintro e w1 ⟨rfl,hw⟩
 subst hw
 have HBY:=HB0
 have HRY:=HR0
 have HSY:=HZ0
 clear HB0 HR0 HZ0 HBG
 generalize (w.alloc (.cells #[.int .i64 0,.int .i64 0,.bool false,.bool false,.int .i64 0,.int .i64 0,.int .i64 0,.bool false,.int .u64 0,.int .u64 0,.bool false,.int .u64 0,.int .u64 0,.slice none 0 0] 82))=wy at *
 have HRW:=Lib.hid ((HS.out.below HBY.out hb).row (Nat.lt_of_lt_of_le hb HBY.out.size))
 have HA6:=Lib.hid (at_two 6 (some ⟨b,off,none⟩) n c l wy HL.out hn2 hnc hc (by intro h; cases h) HRW.out HX.out (by omega))
 have HA2:=Lib.hid (at_two 2 (some ⟨b,off,none⟩) n c l wy HL.out hn2 hnc hc (by intro h; cases h) HRW.out HX.out (by omega))
 rw [HV6.out] at HA6
 rw [HV2.out] at HA2
 go_wp2_with fail
 refine HA6.out.mono ?_
 rintro e w2 ⟨rfl,rfl⟩
 go_wp2_with fail
 refine HA2.out.mono ?_
 rintro e w3 ⟨rfl,rfl⟩
 have HSR:=Lib.hid (right_one wy.heap.size (some ⟨b,off,none⟩) s c (l.take s) w wy 47 rfl HTL.out (by omega) ((HS.out.take s).row hb) HTX.out HBY.out)
 rw [HSM.out] at HSR
 go_wp2_with fail
 refine HSR.out.mono ?_
 rintro e w4 ⟨rfl,rfl⟩
 have HBY_9:=Lib.hid (bel_alloc HBY.out (.cells #[.slice (some ⟨b,off,none⟩) s c] 47))
 have HRY_9:=Lib.hid (HRY.out.alloc (.cells #[.slice (some ⟨b,off,none⟩) s c] 47))
 have HSY_9:=Lib.hid (Nat.le_trans HSY.out ((Below.refl 0 _).alloc (Nat.zero_le _) (.cells #[.slice (some ⟨b,off,none⟩) s c] 47)).size)
 clear HBY HRY HSY HSR HA6 HA2 HRW
 have HBY:=HBY_9
 have HRY:=HRY_9
 have HSY:=HSY_9
 clear HBY_9 HRY_9 HSY_9
 generalize wy.alloc (.cells #[.slice (some ⟨b,off,none⟩) s c] 47)=wz at *
 generalize hwy:wz=wy at *
 clear hwy
 have HBD:=Lib.hid HBY.out.drew
 have HSD:=Lib.hid (show w.heap.size+1≤wy.drew.heap.size from HSY.out)
 have HRDX:=Lib.hid (fourA.read_any b off s c (l.take s) wy.drew HTL.out h2 (by omega) (by omega) hc (by have:=HSD.out; omega) ((HS.out.below HBD.out hb).take _) HTX.out)
 go_wp2_with fail
 go_region_held3 (fun w'=>Below w.heap.size w w') (first | with_reducible exact HBZ.out | with_reducible exact HB7.out | with_reducible exact HB6.out | with_reducible exact HBD.out | with_reducible exact HBY.out) (first
  | (go_at_call 66; refine HRDX.out.mono ?_; rintro e w7 ⟨A,m9,c9,hm,he,hnn,hown,hbel⟩; rw [HTL.out] at hm; subst hm; rw [HHT.out,HHD.out] at he; subst he; have HNN:=Lib.hid hnn; have HO1a:=Lib.hid (own_base hown (show w.heap.size+1≤_ from HSD.out)); have HB6:=Lib.hid (bel_call HBD.out hbel); have HR7:=Lib.hid (HRY.out.drew.below hbel HRY.out.drew.lt); have HS7:=Lib.hid (Nat.le_trans HSD.out hbel.size); clear hown hbel hnn)
  | (go_at_call 67; refine (HCX.out w7 HB6.out).mono ?_; rintro e w8 ⟨v8,rfl,hown,hbel,hsz8⟩; have HO1:=Lib.hid (own_keep HO1a.out hbel); have HO2:=Lib.hid (own_base hown HS7.out); have HB7:=Lib.hid (bel_call HB6.out hbel); have HR8:=Lib.hid (HR7.out.below hbel HR7.out.lt); have r0:w8.cell? ⟨w.heap.size,0,none⟩=some (.int .i64 0):=HR8.out.cell 0; have f0:w8.frozen? ⟨w.heap.size,0,none⟩=false:=HR8.out.frozen 0; have r1:w8.cell? ⟨w.heap.size,1,none⟩=some (.int .i64 0):=HR8.out.cell 1; have f1:w8.frozen? ⟨w.heap.size,1,none⟩=false:=HR8.out.frozen 1; have r2:w8.cell? ⟨w.heap.size,2,none⟩=some (.bool false):=HR8.out.cell 2; have f2:w8.frozen? ⟨w.heap.size,2,none⟩=false:=HR8.out.frozen 2; have r3:w8.cell? ⟨w.heap.size,3,none⟩=some (.bool false):=HR8.out.cell 3; have f3:w8.frozen? ⟨w.heap.size,3,none⟩=false:=HR8.out.frozen 3; have r4:w8.cell? ⟨w.heap.size,4,none⟩=some (.int .i64 0):=HR8.out.cell 4; have f4:w8.frozen? ⟨w.heap.size,4,none⟩=false:=HR8.out.frozen 4; have r5:w8.cell? ⟨w.heap.size,5,none⟩=some (.int .i64 0):=HR8.out.cell 5; have f5:w8.frozen? ⟨w.heap.size,5,none⟩=false:=HR8.out.frozen 5; have r6:w8.cell? ⟨w.heap.size,6,none⟩=some (.int .i64 0):=HR8.out.cell 6; have f6:w8.frozen? ⟨w.heap.size,6,none⟩=false:=HR8.out.frozen 6; have r7:w8.cell? ⟨w.heap.size,7,none⟩=some (.bool false):=HR8.out.cell 7; have f7:w8.frozen? ⟨w.heap.size,7,none⟩=false:=HR8.out.frozen 7; have r8:w8.cell? ⟨w.heap.size,8,none⟩=some (.int .u64 0):=HR8.out.cell 8; have f8:w8.frozen? ⟨w.heap.size,8,none⟩=false:=HR8.out.frozen 8; have r9:w8.cell? ⟨w.heap.size,9,none⟩=some (.int .u64 0):=HR8.out.cell 9; have f9:w8.frozen? ⟨w.heap.size,9,none⟩=false:=HR8.out.frozen 9; have r10:w8.cell? ⟨w.heap.size,10,none⟩=some (.bool false):=HR8.out.cell 10; have f10:w8.frozen? ⟨w.heap.size,10,none⟩=false:=HR8.out.frozen 10; have r11:w8.cell? ⟨w.heap.size,11,none⟩=some (.int .u64 0):=HR8.out.cell 11; have f11:w8.frozen? ⟨w.heap.size,11,none⟩=false:=HR8.out.frozen 11; have r12:w8.cell? ⟨w.heap.size,12,none⟩=some (.int .u64 0):=HR8.out.cell 12; have f12:w8.frozen? ⟨w.heap.size,12,none⟩=false:=HR8.out.frozen 12; have r13:w8.cell? ⟨w.heap.size,13,none⟩=some (.slice none 0 0):=HR8.out.cell 13; have f13:w8.frozen? ⟨w.heap.size,13,none⟩=false:=HR8.out.frozen 13; have HBZ:=Lib.hid ((((((((((((((HB7.out.setCell (p:=⟨w.heap.size,0,none⟩) (Nat.le_refl _) (.int .i64 a0)).setCell (p:=⟨w.heap.size,1,none⟩) (Nat.le_refl _) (.int .i64 a1)).setCell (p:=⟨w.heap.size,2,none⟩) (Nat.le_refl _) (.bool a2)).setCell (p:=⟨w.heap.size,3,none⟩) (Nat.le_refl _) (.bool a3)).setCell (p:=⟨w.heap.size,4,none⟩) (Nat.le_refl _) (.int .i64 a4)).setCell (p:=⟨w.heap.size,5,none⟩) (Nat.le_refl _) (.int .i64 a5)).setCell (p:=⟨w.heap.size,6,none⟩) (Nat.le_refl _) (.int .i64 a6)).setCell (p:=⟨w.heap.size,7,none⟩) (Nat.le_refl _) (.bool false)).setCell (p:=⟨w.heap.size,8,none⟩) (Nat.le_refl _) (.int .u64 0)).setCell (p:=⟨w.heap.size,9,none⟩) (Nat.le_refl _) (.int .u64 a9)).setCell (p:=⟨w.heap.size,10,none⟩) (Nat.le_refl _) (.bool false)).setCell (p:=⟨w.heap.size,11,none⟩) (Nat.le_refl _) (.int .u64 0)).setCell (p:=⟨w.heap.size,12,none⟩) (Nat.le_refl _) (.int .u64 a12)).setCell (p:=⟨w.heap.size,13,none⟩) (Nat.le_refl _) (.slice A (s - 20) c9)); clear hown hbel hsz8))
 go_wp2_with fail
 have hblk:=(show Blk _ _ 82 #[.int .i64 a0,.int .i64 a1,.bool a2,.bool a3,.int .i64 a4,.int .i64 a5,.int .i64 a6,.bool false,.int .u64 0,.int .u64 a9,.bool false,.int .u64 0,.int .u64 a12,.slice A (s - 20) c9] from (show Blk _ _ 82 #[.int .i64 a0,.int .i64 a1,.bool a2,.bool a3,.int .i64 a4,.int .i64 a5,.int .i64 a6,.bool false,.int .u64 0,.int .u64 a9,.bool false,.int .u64 0,.int .u64 a12,.slice none 0 0] from (show Blk _ _ 82 #[.int .i64 a0,.int .i64 a1,.bool a2,.bool a3,.int .i64 a4,.int .i64 a5,.int .i64 a6,.bool false,.int .u64 0,.int .u64 a9,.bool false,.int .u64 0,.int .u64 0,.slice none 0 0] from (show Blk _ _ 82 #[.int .i64 a0,.int .i64 a1,.bool a2,.bool a3,.int .i64 a4,.int .i64 a5,.int .i64 a6,.bool false,.int .u64 0,.int .u64 a9,.bool false,.int .u64 0,.int .u64 0,.slice none 0 0] from (show Blk _ _ 82 #[.int .i64 a0,.int .i64 a1,.bool a2,.bool a3,.int .i64 a4,.int .i64 a5,.int .i64 a6,.bool false,.int .u64 0,.int .u64 a9,.bool false,.int .u64 0,.int .u64 0,.slice none 0 0] from (show Blk _ _ 82 #[.int .i64 a0,.int .i64 a1,.bool a2,.bool a3,.int .i64 a4,.int .i64 a5,.int .i64 a6,.bool false,.int .u64 0,.int .u64 0,.bool false,.int .u64 0,.int .u64 0,.slice none 0 0] from (show Blk _ _ 82 #[.int .i64 a0,.int .i64 a1,.bool a2,.bool a3,.int .i64 a4,.int .i64 a5,.int .i64 a6,.bool false,.int .u64 0,.int .u64 0,.bool false,.int .u64 0,.int .u64 0,.slice none 0 0] from (show Blk _ _ 82 #[.int .i64 a0,.int .i64 a1,.bool a2,.bool a3,.int .i64 a4,.int .i64 a5,.int .i64 a6,.bool false,.int .u64 0,.int .u64 0,.bool false,.int .u64 0,.int .u64 0,.slice none 0 0] from (show Blk _ _ 82 #[.int .i64 a0,.int .i64 a1,.bool a2,.bool a3,.int .i64 a4,.int .i64 a5,.int .i64 0,.bool false,.int .u64 0,.int .u64 0,.bool false,.int .u64 0,.int .u64 0,.slice none 0 0] from (show Blk _ _ 82 #[.int .i64 a0,.int .i64 a1,.bool a2,.bool a3,.int .i64 a4,.int .i64 0,.int .i64 0,.bool false,.int .u64 0,.int .u64 0,.bool false,.int .u64 0,.int .u64 0,.slice none 0 0] from (show Blk _ _ 82 #[.int .i64 a0,.int .i64 a1,.bool a2,.bool a3,.int .i64 0,.int .i64 0,.int .i64 0,.bool false,.int .u64 0,.int .u64 0,.bool false,.int .u64 0,.int .u64 0,.slice none 0 0] from (show Blk _ _ 82 #[.int .i64 a0,.int .i64 a1,.bool a2,.bool false,.int .i64 0,.int .i64 0,.int .i64 0,.bool false,.int .u64 0,.int .u64 0,.bool false,.int .u64 0,.int .u64 0,.slice none 0 0] from (show Blk _ _ 82 #[.int .i64 a0,.int .i64 a1,.bool false,.bool false,.int .i64 0,.int .i64 0,.int .i64 0,.bool false,.int .u64 0,.int .u64 0,.bool false,.int .u64 0,.int .u64 0,.slice none 0 0] from (show Blk _ _ 82 #[.int .i64 a0,.int .i64 0,.bool false,.bool false,.int .i64 0,.int .i64 0,.int .i64 0,.bool false,.int .u64 0,.int .u64 0,.bool false,.int .u64 0,.int .u64 0,.slice none 0 0] from HR8.out.set_ 0 (.int .i64 a0)).set_ 1 (.int .i64 a1)).set_ 2 (.bool a2)).set_ 3 (.bool a3)).set_ 4 (.int .i64 a4)).set_ 5 (.int .i64 a5)).set_ 6 (.int .i64 a6)).set_ 7 (.bool false)).set_ 8 (.int .u64 0)).set_ 9 (.int .u64 a9)).set_ 10 (.bool false)).set_ 11 (.int .u64 0)).set_ 12 (.int .u64 a12)).set_ 13 (.slice A (s - 20) c9))
 have HOA:=Lib.hid (own_base (own_far (own_far (own_far (own_far (own_far (own_far (own_far (own_far (own_far (own_far (own_far (own_far (own_far (own_far HO1.out ⟨w.heap.size,0,none⟩ (Nat.lt_succ_self _) (.int .i64 a0)) ⟨w.heap.size,1,none⟩ (Nat.lt_succ_self _) (.int .i64 a1)) ⟨w.heap.size,2,none⟩ (Nat.lt_succ_self _) (.bool a2)) ⟨w.heap.size,3,none⟩ (Nat.lt_succ_self _) (.bool a3)) ⟨w.heap.size,4,none⟩ (Nat.lt_succ_self _) (.int .i64 a4)) ⟨w.heap.size,5,none⟩ (Nat.lt_succ_self _) (.int .i64 a5)) ⟨w.heap.size,6,none⟩ (Nat.lt_succ_self _) (.int .i64 a6)) ⟨w.heap.size,7,none⟩ (Nat.lt_succ_self _) (.bool false)) ⟨w.heap.size,8,none⟩ (Nat.lt_succ_self _) (.int .u64 0)) ⟨w.heap.size,9,none⟩ (Nat.lt_succ_self _) (.int .u64 a9)) ⟨w.heap.size,10,none⟩ (Nat.lt_succ_self _) (.bool false)) ⟨w.heap.size,11,none⟩ (Nat.lt_succ_self _) (.int .u64 0)) ⟨w.heap.size,12,none⟩ (Nat.lt_succ_self _) (.int .u64 a12)) ⟨w.heap.size,13,none⟩ (Nat.lt_succ_self _) (.slice A (s - 20) c9)) (Nat.le_succ _))
 have HOB:=Lib.hid (own_base (own_far (own_far (own_far (own_far (own_far (own_far (own_far (own_far (own_far (own_far (own_far (own_far (own_far (own_far HO2.out ⟨w.heap.size,0,none⟩ (Nat.lt_succ_self _) (.int .i64 a0)) ⟨w.heap.size,1,none⟩ (Nat.lt_succ_self _) (.int .i64 a1)) ⟨w.heap.size,2,none⟩ (Nat.lt_succ_self _) (.bool a2)) ⟨w.heap.size,3,none⟩ (Nat.lt_succ_self _) (.bool a3)) ⟨w.heap.size,4,none⟩ (Nat.lt_succ_self _) (.int .i64 a4)) ⟨w.heap.size,5,none⟩ (Nat.lt_succ_self _) (.int .i64 a5)) ⟨w.heap.size,6,none⟩ (Nat.lt_succ_self _) (.int .i64 a6)) ⟨w.heap.size,7,none⟩ (Nat.lt_succ_self _) (.bool false)) ⟨w.heap.size,8,none⟩ (Nat.lt_succ_self _) (.int .u64 0)) ⟨w.heap.size,9,none⟩ (Nat.lt_succ_self _) (.int .u64 a9)) ⟨w.heap.size,10,none⟩ (Nat.lt_succ_self _) (.bool false)) ⟨w.heap.size,11,none⟩ (Nat.lt_succ_self _) (.int .u64 0)) ⟨w.heap.size,12,none⟩ (Nat.lt_succ_self _) (.int .u64 a12)) ⟨w.heap.size,13,none⟩ (Nat.lt_succ_self _) (.slice A (s - 20) c9)) (Nat.le_succ _))
 clear r0 f0 r1 f1 r2 f2 r3 f3 r4 f4 r5 f5 r6 f6 r7 f7 r8 f8 r9 f9 r10 f10 r11 f11 r12 f12 r13 f13
 generalize ((((((((((((((w8.setCell ⟨w.heap.size,0,none⟩ (.int .i64 a0)).setCell ⟨w.heap.size,1,none⟩ (.int .i64 a1)).setCell ⟨w.heap.size,2,none⟩ (.bool a2)).setCell ⟨w.heap.size,3,none⟩ (.bool a3)).setCell ⟨w.heap.size,4,none⟩ (.int .i64 a4)).setCell ⟨w.heap.size,5,none⟩ (.int .i64 a5)).setCell ⟨w.heap.size,6,none⟩ (.int .i64 a6)).setCell ⟨w.heap.size,7,none⟩ (.bool false)).setCell ⟨w.heap.size,8,none⟩ (.int .u64 0)).setCell ⟨w.heap.size,9,none⟩ (.int .u64 a9)).setCell ⟨w.heap.size,10,none⟩ (.bool false)).setCell ⟨w.heap.size,11,none⟩ (.int .u64 0)).setCell ⟨w.heap.size,12,none⟩ (.int .u64 a12)).setCell ⟨w.heap.size,13,none⟩ (.slice A (s - 20) c9))=WW at *
 have y0:WW.cell? ⟨w.heap.size,0,none⟩=some (.int .i64 a0):=hblk.cell 0
 have y1:WW.cell? ⟨w.heap.size,1,none⟩=some (.int .i64 a1):=hblk.cell 1
 have y2:WW.cell? ⟨w.heap.size,2,none⟩=some (.bool a2):=hblk.cell 2
 have y3:WW.cell? ⟨w.heap.size,3,none⟩=some (.bool a3):=hblk.cell 3
 have y4:WW.cell? ⟨w.heap.size,4,none⟩=some (.int .i64 a4):=hblk.cell 4
 have y5:WW.cell? ⟨w.heap.size,5,none⟩=some (.int .i64 a5):=hblk.cell 5
 have y6:WW.cell? ⟨w.heap.size,6,none⟩=some (.int .i64 a6):=hblk.cell 6
 have y7:WW.cell? ⟨w.heap.size,7,none⟩=some (.bool false):=hblk.cell 7
 have y8:WW.cell? ⟨w.heap.size,8,none⟩=some (.int .u64 0):=hblk.cell 8
 have y9:WW.cell? ⟨w.heap.size,9,none⟩=some (.int .u64 a9):=hblk.cell 9
 have y10:WW.cell? ⟨w.heap.size,10,none⟩=some (.bool false):=hblk.cell 10
 have y11:WW.cell? ⟨w.heap.size,11,none⟩=some (.int .u64 0):=hblk.cell 11
 have y12:WW.cell? ⟨w.heap.size,12,none⟩=some (.int .u64 a12):=hblk.cell 12
 have y13:WW.cell? ⟨w.heap.size,13,none⟩=some (.slice A (s - 20) c9):=hblk.cell 13
 clear hblk
 exact bodyPost_ret (v:=.tuple #[.agg #[.int .i64 a0,.int .i64 a1,.bool a2,.bool a3,.int .i64 a4,.int .i64 a5,.int .i64 a6,.bool false,.int .u64 0,.int .u64 a9,.bool false,.int .u64 0,.int .u64 a12,.slice A (s - 20) c9],v8,.int .i64 0]) (by simp [results,Try.results44,go_sem,y0,y1,y2,y3,y4,y5,y6,y7,y8,y9,y10,y11,y12,y13]) rfl ⟨A,c9,v8,by rw [HHD.out],HNN.out,HOA.out,HOB.out,HBZ.out⟩
theorem parse_near (b off n c s:Nat) (l:List Int) (w:World) (hl':l.length=n) (hn:20≤n) (hn2:n≤1000) (hnc:n≤c) (hc:c≤9223372036854775807) (hb:b<w.heap.size) (hs:Lies w b off l) (hx:∀ x ∈ l,0≤x∧x≤255)
  (h1:l.getD 0 0 / 16=4) (h2:20≤s) (h3:s≤n) (hsz:hl l=(s:Int)) (hq:w16 l 6<32768) (a:Nat) (ha:w16 l 2=(a:Int)) (ha1:s≤a) (ha2:a≤n) (hS:fo (wsum (l.take s))=65535) (hcs:c=s) :
  Calls Try.prog 44 #[.slice (some ⟨b,off,none⟩) n c] w (OkPost w l ((l.drop s).take (a - s)) s (a - s)):=by
 have HBG:=Lib.hid (begin_ok b off n c l (w.alloc (.cells #[.int .i64 0,.int .i64 0,.bool false,.bool false,.int .i64 0,.int .i64 0,.int .i64 0,.bool false,.int .u64 0,.int .u64 0,.bool false,.int .u64 0,.int .u64 0,.slice none 0 0] 82)) hl' hn (by simp; omega) (hs.below ((Below.refl _ _).alloc (Nat.le_refl _) _) hb) hx h1 (by omega) (by omega))
 rw [hsz] at HBG
 have k6:=w16_in l hx 6
 have k2:=w16_in l hx 2
 have t6:(bits .and .u64 (w16 l 6) 32768 != 0)=false:=by rw [bit15 _ k6.1 k6.2]; simp; omega
 have t2:decide ((a:Int)<(s:Int))=false:=decide_eq_false (by omega)
 have t2n:decide (a<s)=false:=decide_eq_false (by omega)
 have t3:decide ((n:Int)<(a:Int))=false:=decide_eq_false (by omega)
 have t3n:decide (n<a)=false:=decide_eq_false (by omega)
 have HCN:=Lib.hid (show n≤s by omega)
 have HL:=Lib.hid hl'
 have HS:=Lib.hid hs
 have HX:=Lib.hid hx
 have HTL:=Lib.hid (show (l.take s).length=s by rw [List.length_take]; omega)
 have HTX:=Lib.hid (take_u8' hx s)
 have HHT:=Lib.hid (hd_take l s h2)
 have HB0:=Lib.hid (show Below w.heap.size w (w.alloc (.cells #[.int .i64 0,.int .i64 0,.bool false,.bool false,.int .i64 0,.int .i64 0,.int .i64 0,.bool false,.int .u64 0,.int .u64 0,.bool false,.int .u64 0,.int .u64 0,.slice none 0 0] 82)) from (Below.refl _ _).alloc (Nat.le_refl _) _)
 have HR0:=Lib.hid (Blk.new w 82 #[.int .i64 0,.int .i64 0,.bool false,.bool false,.int .i64 0,.int .i64 0,.int .i64 0,.bool false,.int .u64 0,.int .u64 0,.bool false,.int .u64 0,.int .u64 0,.slice none 0 0])
 have HZ0:=Lib.hid (show w.heap.size+1≤(w.alloc (.cells #[.int .i64 0,.int .i64 0,.bool false,.bool false,.int .i64 0,.int .i64 0,.int .i64 0,.bool false,.int .u64 0,.int .u64 0,.bool false,.int .u64 0,.int .u64 0,.slice none 0 0] 82)).heap.size by simp)
 have i1:(0:Int)≤(s:Int):=by omega
 have i2:(s:Int)≤(n:Int):=by omega
 have i3:(s:Int)≤(c:Int):=by omega
 have HSM:=Lib.hid (show (fo (wsum (l.take s)) == 65535)=true from eqT hS)
 have HCX:=Lib.hid (fun (W:World) (hbw:Below w.heap.size w W)=>clone_any (some ⟨b,off,none⟩) (a - s) (c - s) ((l.drop s).take (a - s)) W (by rw [List.length_take,List.length_drop,hl']; omega) (by omega) (by intro h; cases h) (.inl (by rw [List.drop_eq_nil_of_le (by rw [HL.out]; exact HCN.out),List.take_nil]; rfl)))
 have i4:(a:Int)≤(c:Int):=by omega
 have i5:(s:Int)≤(a:Int):=by omega
 have i6:(0:Int)≤(a:Int):=by omega
 have HHD0:∀ A n c,hd l A n c=.agg #[.int .i64 (l.getD 1 0),.int .i64 (w16 l 4),.bool (decide (w16 l 6 / 16384 % 2=1)),.bool (decide (w16 l 6 / 8192 % 2=1)),.int .i64 (w16 l 6 % 8192),.int .i64 (l.getD 8 0),.int .i64 (l.getD 9 0),.bool false,.int .u64 0,.int .u64 (w32 l 12),.bool false,.int .u64 0,.int .u64 (w32 l 16),.slice A n c]:=fun _ _ _=>rfl
 generalize l.getD 1 0=a0 at *
 generalize w16 l 4=a1 at *
 generalize decide (w16 l 6 / 16384 % 2=1)=a2 at *
 generalize decide (w16 l 6 / 8192 % 2=1)=a3 at *
 generalize w16 l 6 % 8192=a4 at *
 generalize l.getD 8 0=a5 at *
 generalize l.getD 9 0=a6 at *
 generalize w32 l 12=a9 at *
 generalize w32 l 16=a12 at *
 have HHD:=Lib.hid HHD0
 clear HHD0
 have HV2:=Lib.hid ha
 obtain ⟨k60,k61⟩:=k6
 obtain ⟨k20,k21⟩:=k2
 rw [ha] at k20 k21
 generalize hv6:w16 l 6=v6 at *
 have HV6:=Lib.hid hv6
 clear hv6
 clear hs hx hl' h1 hsz hS ha
 obtain rfl:c=n:=by omega
 obtain rfl:c=s:=by omega
 obtain rfl:c=a:=by omega
 rw [Nat.sub_self] at HCX ⊢
 clear HCN i2 i3 i4 i5 h3 ha1 ha2 t2 t2n t3 t3n
 go_enter Try.func44,Try.ntmps44
 go_wp2_with fail
 refine HBG.out.mono ?_
 rintro e w1 ⟨rfl,hw⟩
 subst hw
 have HBY:=HB0
 have HRY:=HR0
 have HSY:=HZ0
 clear HB0 HR0 HZ0 HBG
 generalize (w.alloc (.cells #[.int .i64 0,.int .i64 0,.bool false,.bool false,.int .i64 0,.int .i64 0,.int .i64 0,.bool false,.int .u64 0,.int .u64 0,.bool false,.int .u64 0,.int .u64 0,.slice none 0 0] 82))=wy at *
 have HRW:=Lib.hid ((HS.out.below HBY.out hb).row (Nat.lt_of_lt_of_le hb HBY.out.size))
 have HA6:=Lib.hid (at_two 6 (some ⟨b,off,none⟩) c c l wy HL.out hn2 (Nat.le_refl _) hc (by intro h; cases h) HRW.out HX.out (by omega))
 have HA2:=Lib.hid (at_two 2 (some ⟨b,off,none⟩) c c l wy HL.out hn2 (Nat.le_refl _) hc (by intro h; cases h) HRW.out HX.out (by omega))
 rw [HV6.out] at HA6
 rw [HV2.out] at HA2
 go_wp2_with fail
 refine HA6.out.mono ?_
 rintro e w2 ⟨rfl,rfl⟩
 go_wp2_with fail
 refine HA2.out.mono ?_
 rintro e w3 ⟨rfl,rfl⟩
 have HSR:=Lib.hid (right_one wy.heap.size (some ⟨b,off,none⟩) c c (l.take c) w wy 47 rfl HTL.out (by omega) ((HS.out.take c).row hb) HTX.out HBY.out)
 rw [HSM.out] at HSR
 go_wp2_with fail
 refine HSR.out.mono ?_
 rintro e w4 ⟨rfl,rfl⟩
 have HBY_9:=Lib.hid (bel_alloc HBY.out (.cells #[.slice (some ⟨b,off,none⟩) c c] 47))
 have HRY_9:=Lib.hid (HRY.out.alloc (.cells #[.slice (some ⟨b,off,none⟩) c c] 47))
 have HSY_9:=Lib.hid (Nat.le_trans HSY.out ((Below.refl 0 _).alloc (Nat.zero_le _) (.cells #[.slice (some ⟨b,off,none⟩) c c] 47)).size)
 clear HBY HRY HSY HSR HA6 HA2 HRW
 have HBY:=HBY_9
 have HRY:=HRY_9
 have HSY:=HSY_9
 clear HBY_9 HRY_9 HSY_9
 generalize wy.alloc (.cells #[.slice (some ⟨b,off,none⟩) c c] 47)=wz at *
 generalize hwy:wz=wy at *
 clear hwy
 have HBD:=Lib.hid HBY.out.drew
 have HSD:=Lib.hid (show w.heap.size+1≤wy.drew.heap.size from HSY.out)
 have HRDX:=Lib.hid (fourA.read_any b off c c (l.take c) wy.drew HTL.out h2 (by omega) (by omega) hc (by have:=HSD.out; omega) ((HS.out.below HBD.out hb).take _) HTX.out)
 go_wp2_with fail
 go_region_held3 (fun w'=>Below w.heap.size w w') (first | with_reducible exact HBZ.out | with_reducible exact HB7.out | with_reducible exact HB6.out | with_reducible exact HBD.out | with_reducible exact HBY.out) (first
  | (go_at_call 66; refine HRDX.out.mono ?_; rintro e w7 ⟨A,m9,c9,hm,he,hnn,hown,hbel⟩; rw [HTL.out] at hm; subst hm; rw [HHT.out,HHD.out] at he; subst he; have HNN:=Lib.hid hnn; have HO1a:=Lib.hid (own_base hown (show w.heap.size+1≤_ from HSD.out)); have HB6:=Lib.hid (bel_call HBD.out hbel); have HR7:=Lib.hid (HRY.out.drew.below hbel HRY.out.drew.lt); have HS7:=Lib.hid (Nat.le_trans HSD.out hbel.size); clear hown hbel hnn)
  | (go_at_call 67; refine (HCX.out w7 HB6.out).mono ?_; rintro e w8 ⟨v8,rfl,hown,hbel,hsz8⟩; have HO1:=Lib.hid (own_keep HO1a.out hbel); have HO2:=Lib.hid (own_base hown HS7.out); have HB7:=Lib.hid (bel_call HB6.out hbel); have HR8:=Lib.hid (HR7.out.below hbel HR7.out.lt); have r0:w8.cell? ⟨w.heap.size,0,none⟩=some (.int .i64 0):=HR8.out.cell 0; have f0:w8.frozen? ⟨w.heap.size,0,none⟩=false:=HR8.out.frozen 0; have r1:w8.cell? ⟨w.heap.size,1,none⟩=some (.int .i64 0):=HR8.out.cell 1; have f1:w8.frozen? ⟨w.heap.size,1,none⟩=false:=HR8.out.frozen 1; have r2:w8.cell? ⟨w.heap.size,2,none⟩=some (.bool false):=HR8.out.cell 2; have f2:w8.frozen? ⟨w.heap.size,2,none⟩=false:=HR8.out.frozen 2; have r3:w8.cell? ⟨w.heap.size,3,none⟩=some (.bool false):=HR8.out.cell 3; have f3:w8.frozen? ⟨w.heap.size,3,none⟩=false:=HR8.out.frozen 3; have r4:w8.cell? ⟨w.heap.size,4,none⟩=some (.int .i64 0):=HR8.out.cell 4; have f4:w8.frozen? ⟨w.heap.size,4,none⟩=false:=HR8.out.frozen 4; have r5:w8.cell? ⟨w.heap.size,5,none⟩=some (.int .i64 0):=HR8.out.cell 5; have f5:w8.frozen? ⟨w.heap.size,5,none⟩=false:=HR8.out.frozen 5; have r6:w8.cell? ⟨w.heap.size,6,none⟩=some (.int .i64 0):=HR8.out.cell 6; have f6:w8.frozen? ⟨w.heap.size,6,none⟩=false:=HR8.out.frozen 6; have r7:w8.cell? ⟨w.heap.size,7,none⟩=some (.bool false):=HR8.out.cell 7; have f7:w8.frozen? ⟨w.heap.size,7,none⟩=false:=HR8.out.frozen 7; have r8:w8.cell? ⟨w.heap.size,8,none⟩=some (.int .u64 0):=HR8.out.cell 8; have f8:w8.frozen? ⟨w.heap.size,8,none⟩=false:=HR8.out.frozen 8; have r9:w8.cell? ⟨w.heap.size,9,none⟩=some (.int .u64 0):=HR8.out.cell 9; have f9:w8.frozen? ⟨w.heap.size,9,none⟩=false:=HR8.out.frozen 9; have r10:w8.cell? ⟨w.heap.size,10,none⟩=some (.bool false):=HR8.out.cell 10; have f10:w8.frozen? ⟨w.heap.size,10,none⟩=false:=HR8.out.frozen 10; have r11:w8.cell? ⟨w.heap.size,11,none⟩=some (.int .u64 0):=HR8.out.cell 11; have f11:w8.frozen? ⟨w.heap.size,11,none⟩=false:=HR8.out.frozen 11; have r12:w8.cell? ⟨w.heap.size,12,none⟩=some (.int .u64 0):=HR8.out.cell 12; have f12:w8.frozen? ⟨w.heap.size,12,none⟩=false:=HR8.out.frozen 12; have r13:w8.cell? ⟨w.heap.size,13,none⟩=some (.slice none 0 0):=HR8.out.cell 13; have f13:w8.frozen? ⟨w.heap.size,13,none⟩=false:=HR8.out.frozen 13; have HBZ:=Lib.hid ((((((((((((((HB7.out.setCell (p:=⟨w.heap.size,0,none⟩) (Nat.le_refl _) (.int .i64 a0)).setCell (p:=⟨w.heap.size,1,none⟩) (Nat.le_refl _) (.int .i64 a1)).setCell (p:=⟨w.heap.size,2,none⟩) (Nat.le_refl _) (.bool a2)).setCell (p:=⟨w.heap.size,3,none⟩) (Nat.le_refl _) (.bool a3)).setCell (p:=⟨w.heap.size,4,none⟩) (Nat.le_refl _) (.int .i64 a4)).setCell (p:=⟨w.heap.size,5,none⟩) (Nat.le_refl _) (.int .i64 a5)).setCell (p:=⟨w.heap.size,6,none⟩) (Nat.le_refl _) (.int .i64 a6)).setCell (p:=⟨w.heap.size,7,none⟩) (Nat.le_refl _) (.bool false)).setCell (p:=⟨w.heap.size,8,none⟩) (Nat.le_refl _) (.int .u64 0)).setCell (p:=⟨w.heap.size,9,none⟩) (Nat.le_refl _) (.int .u64 a9)).setCell (p:=⟨w.heap.size,10,none⟩) (Nat.le_refl _) (.bool false)).setCell (p:=⟨w.heap.size,11,none⟩) (Nat.le_refl _) (.int .u64 0)).setCell (p:=⟨w.heap.size,12,none⟩) (Nat.le_refl _) (.int .u64 a12)).setCell (p:=⟨w.heap.size,13,none⟩) (Nat.le_refl _) (.slice A (c - 20) c9)); clear hown hbel hsz8))
 go_wp2_with fail
 have hblk:=(show Blk _ _ 82 #[.int .i64 a0,.int .i64 a1,.bool a2,.bool a3,.int .i64 a4,.int .i64 a5,.int .i64 a6,.bool false,.int .u64 0,.int .u64 a9,.bool false,.int .u64 0,.int .u64 a12,.slice A (c - 20) c9] from (show Blk _ _ 82 #[.int .i64 a0,.int .i64 a1,.bool a2,.bool a3,.int .i64 a4,.int .i64 a5,.int .i64 a6,.bool false,.int .u64 0,.int .u64 a9,.bool false,.int .u64 0,.int .u64 a12,.slice none 0 0] from (show Blk _ _ 82 #[.int .i64 a0,.int .i64 a1,.bool a2,.bool a3,.int .i64 a4,.int .i64 a5,.int .i64 a6,.bool false,.int .u64 0,.int .u64 a9,.bool false,.int .u64 0,.int .u64 0,.slice none 0 0] from (show Blk _ _ 82 #[.int .i64 a0,.int .i64 a1,.bool a2,.bool a3,.int .i64 a4,.int .i64 a5,.int .i64 a6,.bool false,.int .u64 0,.int .u64 a9,.bool false,.int .u64 0,.int .u64 0,.slice none 0 0] from (show Blk _ _ 82 #[.int .i64 a0,.int .i64 a1,.bool a2,.bool a3,.int .i64 a4,.int .i64 a5,.int .i64 a6,.bool false,.int .u64 0,.int .u64 a9,.bool false,.int .u64 0,.int .u64 0,.slice none 0 0] from (show Blk _ _ 82 #[.int .i64 a0,.int .i64 a1,.bool a2,.bool a3,.int .i64 a4,.int .i64 a5,.int .i64 a6,.bool false,.int .u64 0,.int .u64 0,.bool false,.int .u64 0,.int .u64 0,.slice none 0 0] from (show Blk _ _ 82 #[.int .i64 a0,.int .i64 a1,.bool a2,.bool a3,.int .i64 a4,.int .i64 a5,.int .i64 a6,.bool false,.int .u64 0,.int .u64 0,.bool false,.int .u64 0,.int .u64 0,.slice none 0 0] from (show Blk _ _ 82 #[.int .i64 a0,.int .i64 a1,.bool a2,.bool a3,.int .i64 a4,.int .i64 a5,.int .i64 a6,.bool false,.int .u64 0,.int .u64 0,.bool false,.int .u64 0,.int .u64 0,.slice none 0 0] from (show Blk _ _ 82 #[.int .i64 a0,.int .i64 a1,.bool a2,.bool a3,.int .i64 a4,.int .i64 a5,.int .i64 0,.bool false,.int .u64 0,.int .u64 0,.bool false,.int .u64 0,.int .u64 0,.slice none 0 0] from (show Blk _ _ 82 #[.int .i64 a0,.int .i64 a1,.bool a2,.bool a3,.int .i64 a4,.int .i64 0,.int .i64 0,.bool false,.int .u64 0,.int .u64 0,.bool false,.int .u64 0,.int .u64 0,.slice none 0 0] from (show Blk _ _ 82 #[.int .i64 a0,.int .i64 a1,.bool a2,.bool a3,.int .i64 0,.int .i64 0,.int .i64 0,.bool false,.int .u64 0,.int .u64 0,.bool false,.int .u64 0,.int .u64 0,.slice none 0 0] from (show Blk _ _ 82 #[.int .i64 a0,.int .i64 a1,.bool a2,.bool false,.int .i64 0,.int .i64 0,.int .i64 0,.bool false,.int .u64 0,.int .u64 0,.bool false,.int .u64 0,.int .u64 0,.slice none 0 0] from (show Blk _ _ 82 #[.int .i64 a0,.int .i64 a1,.bool false,.bool false,.int .i64 0,.int .i64 0,.int .i64 0,.bool false,.int .u64 0,.int .u64 0,.bool false,.int .u64 0,.int .u64 0,.slice none 0 0] from (show Blk _ _ 82 #[.int .i64 a0,.int .i64 0,.bool false,.bool false,.int .i64 0,.int .i64 0,.int .i64 0,.bool false,.int .u64 0,.int .u64 0,.bool false,.int .u64 0,.int .u64 0,.slice none 0 0] from HR8.out.set_ 0 (.int .i64 a0)).set_ 1 (.int .i64 a1)).set_ 2 (.bool a2)).set_ 3 (.bool a3)).set_ 4 (.int .i64 a4)).set_ 5 (.int .i64 a5)).set_ 6 (.int .i64 a6)).set_ 7 (.bool false)).set_ 8 (.int .u64 0)).set_ 9 (.int .u64 a9)).set_ 10 (.bool false)).set_ 11 (.int .u64 0)).set_ 12 (.int .u64 a12)).set_ 13 (.slice A (c - 20) c9))
 have HOA:=Lib.hid (own_base (own_far (own_far (own_far (own_far (own_far (own_far (own_far (own_far (own_far (own_far (own_far (own_far (own_far (own_far HO1.out ⟨w.heap.size,0,none⟩ (Nat.lt_succ_self _) (.int .i64 a0)) ⟨w.heap.size,1,none⟩ (Nat.lt_succ_self _) (.int .i64 a1)) ⟨w.heap.size,2,none⟩ (Nat.lt_succ_self _) (.bool a2)) ⟨w.heap.size,3,none⟩ (Nat.lt_succ_self _) (.bool a3)) ⟨w.heap.size,4,none⟩ (Nat.lt_succ_self _) (.int .i64 a4)) ⟨w.heap.size,5,none⟩ (Nat.lt_succ_self _) (.int .i64 a5)) ⟨w.heap.size,6,none⟩ (Nat.lt_succ_self _) (.int .i64 a6)) ⟨w.heap.size,7,none⟩ (Nat.lt_succ_self _) (.bool false)) ⟨w.heap.size,8,none⟩ (Nat.lt_succ_self _) (.int .u64 0)) ⟨w.heap.size,9,none⟩ (Nat.lt_succ_self _) (.int .u64 a9)) ⟨w.heap.size,10,none⟩ (Nat.lt_succ_self _) (.bool false)) ⟨w.heap.size,11,none⟩ (Nat.lt_succ_self _) (.int .u64 0)) ⟨w.heap.size,12,none⟩ (Nat.lt_succ_self _) (.int .u64 a12)) ⟨w.heap.size,13,none⟩ (Nat.lt_succ_self _) (.slice A (c - 20) c9)) (Nat.le_succ _))
 have HOB:=Lib.hid (own_base (own_far (own_far (own_far (own_far (own_far (own_far (own_far (own_far (own_far (own_far (own_far (own_far (own_far (own_far HO2.out ⟨w.heap.size,0,none⟩ (Nat.lt_succ_self _) (.int .i64 a0)) ⟨w.heap.size,1,none⟩ (Nat.lt_succ_self _) (.int .i64 a1)) ⟨w.heap.size,2,none⟩ (Nat.lt_succ_self _) (.bool a2)) ⟨w.heap.size,3,none⟩ (Nat.lt_succ_self _) (.bool a3)) ⟨w.heap.size,4,none⟩ (Nat.lt_succ_self _) (.int .i64 a4)) ⟨w.heap.size,5,none⟩ (Nat.lt_succ_self _) (.int .i64 a5)) ⟨w.heap.size,6,none⟩ (Nat.lt_succ_self _) (.int .i64 a6)) ⟨w.heap.size,7,none⟩ (Nat.lt_succ_self _) (.bool false)) ⟨w.heap.size,8,none⟩ (Nat.lt_succ_self _) (.int .u64 0)) ⟨w.heap.size,9,none⟩ (Nat.lt_succ_self _) (.int .u64 a9)) ⟨w.heap.size,10,none⟩ (Nat.lt_succ_self _) (.bool false)) ⟨w.heap.size,11,none⟩ (Nat.lt_succ_self _) (.int .u64 0)) ⟨w.heap.size,12,none⟩ (Nat.lt_succ_self _) (.int .u64 a12)) ⟨w.heap.size,13,none⟩ (Nat.lt_succ_self _) (.slice A (c - 20) c9)) (Nat.le_succ _))
 clear r0 f0 r1 f1 r2 f2 r3 f3 r4 f4 r5 f5 r6 f6 r7 f7 r8 f8 r9 f9 r10 f10 r11 f11 r12 f12 r13 f13
 generalize ((((((((((((((w8.setCell ⟨w.heap.size,0,none⟩ (.int .i64 a0)).setCell ⟨w.heap.size,1,none⟩ (.int .i64 a1)).setCell ⟨w.heap.size,2,none⟩ (.bool a2)).setCell ⟨w.heap.size,3,none⟩ (.bool a3)).setCell ⟨w.heap.size,4,none⟩ (.int .i64 a4)).setCell ⟨w.heap.size,5,none⟩ (.int .i64 a5)).setCell ⟨w.heap.size,6,none⟩ (.int .i64 a6)).setCell ⟨w.heap.size,7,none⟩ (.bool false)).setCell ⟨w.heap.size,8,none⟩ (.int .u64 0)).setCell ⟨w.heap.size,9,none⟩ (.int .u64 a9)).setCell ⟨w.heap.size,10,none⟩ (.bool false)).setCell ⟨w.heap.size,11,none⟩ (.int .u64 0)).setCell ⟨w.heap.size,12,none⟩ (.int .u64 a12)).setCell ⟨w.heap.size,13,none⟩ (.slice A (c - 20) c9))=WW at *
 have y0:WW.cell? ⟨w.heap.size,0,none⟩=some (.int .i64 a0):=hblk.cell 0
 have y1:WW.cell? ⟨w.heap.size,1,none⟩=some (.int .i64 a1):=hblk.cell 1
 have y2:WW.cell? ⟨w.heap.size,2,none⟩=some (.bool a2):=hblk.cell 2
 have y3:WW.cell? ⟨w.heap.size,3,none⟩=some (.bool a3):=hblk.cell 3
 have y4:WW.cell? ⟨w.heap.size,4,none⟩=some (.int .i64 a4):=hblk.cell 4
 have y5:WW.cell? ⟨w.heap.size,5,none⟩=some (.int .i64 a5):=hblk.cell 5
 have y6:WW.cell? ⟨w.heap.size,6,none⟩=some (.int .i64 a6):=hblk.cell 6
 have y7:WW.cell? ⟨w.heap.size,7,none⟩=some (.bool false):=hblk.cell 7
 have y8:WW.cell? ⟨w.heap.size,8,none⟩=some (.int .u64 0):=hblk.cell 8
 have y9:WW.cell? ⟨w.heap.size,9,none⟩=some (.int .u64 a9):=hblk.cell 9
 have y10:WW.cell? ⟨w.heap.size,10,none⟩=some (.bool false):=hblk.cell 10
 have y11:WW.cell? ⟨w.heap.size,11,none⟩=some (.int .u64 0):=hblk.cell 11
 have y12:WW.cell? ⟨w.heap.size,12,none⟩=some (.int .u64 a12):=hblk.cell 12
 have y13:WW.cell? ⟨w.heap.size,13,none⟩=some (.slice A (c - 20) c9):=hblk.cell 13
 clear hblk
 exact bodyPost_ret (v:=.tuple #[.agg #[.int .i64 a0,.int .i64 a1,.bool a2,.bool a3,.int .i64 a4,.int .i64 a5,.int .i64 a6,.bool false,.int .u64 0,.int .u64 a9,.bool false,.int .u64 0,.int .u64 a12,.slice A (c - 20) c9],v8,.int .i64 0]) (by simp [results,Try.results44,go_sem,y0,y1,y2,y3,y4,y5,y6,y7,y8,y9,y10,y11,y12,y13]) rfl ⟨A,c9,v8,by rw [HHD.out],HNN.out,HOA.out,HOB.out,HBZ.out⟩
end Go.Proofs.Ytnofddbfogilaaa.fourB
