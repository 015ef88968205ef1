/- 3 texts in one. -/
import Derived.Test.YtnofddbfogilaaaGq01
import Derived.Test.YtnofddbfogilaaaGq08
import Derived.Test.YtnofddbfogilaaaGq22
/- Layer 11: a datagram as bytes: the walks. -/
namespace Go.Proofs.Ytnofddbfogilaaa.udpC
set_option maxHeartbeats 8000000
set_option maxRecDepth 100000
open Go.ChangeShapes Go.WideShapes Go.ChangeAt Go.RowKit
open base octA octB octF rdrA udpA udpB
set_option linter.unusedVariables false
theorem bytes_eight_sum (sp dp:Int) (A A2:Option Addr) (n c n2 c2:Nat) (pl ps:List Int) (w:World) (h:ports sp dp) (hl:pl.length=n) (hn:n≤65527) (hn8:n=0) (hr:Row w w.heap.size A (pl.map (.int .u8))) (hx:∀ x ∈ pl,0≤x∧x≤255)
  (pll:ps.length=n2) (pn:n2≤1000) (pr:Row w w.heap.size A2 (ps.map (.int .u8))) (px:∀ x ∈ ps,0≤x∧x≤255) :
  Calls Try.prog 41 #[.agg #[.int .i64 sp,.int .i64 dp,.bool false],.slice A n c,.slice A2 n2 c2] w (BPost w (8+n) (ub sp dp pl (chkZ (ps++ub sp dp pl 0)))):=by
 have H:=Lib.hid (fun w=>right_yes sp dp false w h)
 obtain ⟨h1,h2,h3,h4⟩:=h
 obtain ⟨i0,hi0,hz0,hz1,hz2⟩:=info_parts info_u8
 obtain ⟨N,hN⟩:∃ N:Nat,N=8+n:=⟨_,rfl⟩
 have e8:(8:Int)+(n:Int)=(N:Int):=by omega
 have hmk:=fun (W:World)=>run_make_one (P:=Try.prog) 47 5 i0 _ Try.underlying47 hi0 hz0 hz1 rfl .i64 .i64 (N:Int) (by omega) (by rw [hz2]; omega) (by omega) W
 have HL:=Lib.hid hl
 have HR:=Lib.hid hr
 have HX:=Lib.hid hx
 have PL:=Lib.hid pll
 have PR:=Lib.hid pr
 have PX:=Lib.hid px
 have HN:=Lib.hid hN
 have N1:N≤65535:=by omega
 have N8:8≤N:=by omega
 have HN8:=Lib.hid (show N=8 by omega)
 clear hn8
 rw [show BPost w (8+n)=BPost w N by rw [hN]]
 clear hl hr hx pll pr px hi0 hz0 hz1 hz2 hN
 generalize hLL:ub sp dp pl (chkZ (ps++ub sp dp pl 0))=L
 have HLL:=Lib.hid hLL
 clear hLL
 have u1:IntKind.u64.wrap sp=sp:=by rw [IntKind.wrap_u64]; omega
 have u2:IntKind.u64.wrap dp=dp:=by rw [IntKind.wrap_u64]; omega
 have u3:IntKind.u64.wrap (N:Int)=(N:Int):=by rw [IntKind.wrap_u64]; omega
 go_enter Try.func41,Try.ntmps41
 go_wp2_with fail
 refine (H.out _).mono ?_
 rintro e w' ⟨rfl,rfl⟩
 go_wp2_with fail
 clear hmk
 have z2:((w.alloc (.cells #[.int .i64 sp,.int .i64 dp,.bool false] 78)).alloc (.cells #[.int .i64 sp,.int .i64 dp,.bool false] 78)).heap.size=w.heap.size+1+1:=by simp
 have z3:(((w.alloc (.cells #[.int .i64 sp,.int .i64 dp,.bool false] 78)).alloc (.cells #[.int .i64 sp,.int .i64 dp,.bool false] 78)).alloc (.cells (zeros N (.int .u8 0)) 5)).heap.size=w.heap.size+1+1+1:=by simp
 have b0:=(((Blk.new w 78 #[.int .i64 sp,.int .i64 dp,.bool false]).alloc (.cells #[.int .i64 sp,.int .i64 dp,.bool false] 78)).alloc (.cells (zeros N (.int .u8 0)) 5)).alloc (.cells #[.int .u64 sp,.int .u64 dp,.int .u64 N] 22)
 have b2:=(Blk.new ((w.alloc (.cells #[.int .i64 sp,.int .i64 dp,.bool false] 78)).alloc (.cells #[.int .i64 sp,.int .i64 dp,.bool false] 78)) 5 (zeros N (.int .u8 0))).alloc (.cells #[.int .u64 sp,.int .u64 dp,.int .u64 N] 22)
 have b3:=Blk.new (((w.alloc (.cells #[.int .i64 sp,.int .i64 dp,.bool false] 78)).alloc (.cells #[.int .i64 sp,.int .i64 dp,.bool false] 78)).alloc (.cells (zeros N (.int .u8 0)) 5)) 22 #[.int .u64 sp,.int .u64 dp,.int .u64 N]
 have bel:=((((Below.refl w.heap.size w).alloc (Nat.le_refl _) (.cells #[.int .i64 sp,.int .i64 dp,.bool false] 78)).alloc (by simp) (.cells #[.int .i64 sp,.int .i64 dp,.bool false] 78)).alloc (by simp; omega) (.cells (zeros N (.int .u8 0)) 5)).alloc (by simp; omega) (.cells #[.int .u64 sp,.int .u64 dp,.int .u64 N] 22)
 have zW:(((((w.alloc (.cells #[.int .i64 sp,.int .i64 dp,.bool false] 78)).alloc (.cells #[.int .i64 sp,.int .i64 dp,.bool false] 78)).alloc (.cells (zeros N (.int .u8 0)) 5)).alloc (.cells #[.int .u64 sp,.int .u64 dp,.int .u64 N] 22))).heap.size=w.heap.size+1+1+1+1:=by simp
 rw [z2] at b2
 rw [z3] at b3
 clear z2 z3
 generalize ((((w.alloc (.cells #[.int .i64 sp,.int .i64 dp,.bool false] 78)).alloc (.cells #[.int .i64 sp,.int .i64 dp,.bool false] 78)).alloc (.cells (zeros N (.int .u8 0)) 5)).alloc (.cells #[.int .u64 sp,.int .u64 dp,.int .u64 N] 22))=W at *
 have hrow:Row W W.heap.size (some ⟨w.heap.size+1+1+1,0,none⟩) ([sp,dp,(N:Int)].map (.int .u64)):=sumC.row_blk b3
 have hall:=all_any (.slice none 0 0) 0 [] 2 (some ⟨w.heap.size+1+1+1,0,none⟩) 3 3 [sp,dp,(N:Int)] W.heap.size W.heap.size W W (World.ownsRow_nil _ _ _ _) (Nat.le_refl _) (by omega) (Below.refl _ _) (Nat.le_refl _) rfl hrow (by
  intro x hx
  simp only [List.mem_cons,List.not_mem_nil,or_false] at hx
  rcases hx with rfl | rfl | rfl <;> omega)
 have hs2:hs 2=2:=by decide
 rw [hs2] at hall
 have h6:(allb 2 [sp,dp,(N:Int)]).length=6:=by rw [allb_len]; rfl
 have H6:=Lib.hid h6
 have HSIX:=Lib.hid (show allb 2 [sp,dp,((8+n:Nat):Int)]=allb 2 [sp,dp,(N:Int)] by rw [HN.out])
 have B0:=Lib.hid b0
 have B2:=Lib.hid b2
 have BEL:=Lib.hid bel
 have ZW:=Lib.hid zW
 have HALL:=Lib.hid hall
 have zl:w.heap.size+1+1+1<W.heap.size:=by omega
 clear b0 b2 b3 bel hrow hs2 h6 zW hall
 generalize allb 2 [sp,dp,(N:Int)]=six at *
 refine HALL.out.mono ?_
 rintro e w5 ⟨v5,rfl,hown5,hbel5,hs5⟩
 obtain ⟨A5,c5,rfl⟩:=own_slice hown5
 have hrow5:=own_row hown5
 rw [List.nil_append] at hrow5
 have HSRC:=Lib.hid (src_of hrow5)
 have B05:=Lib.hid (B0.out.below hbel5 (by omega))
 have B25:=Lib.hid (B2.out.below hbel5 (by omega))
 have BEL5:=Lib.hid (BEL.out.trans (hbel5.mono (by omega)))
 clear hown5 hbel5 hrow5 HALL B0 B2 BEL
 have HX6:=Lib.hid (show (six.map (Value.int .u8)).length=6 by rw [List.length_map,H6.out])
 have one:∀ (l:List Int),∀ u ∈ l.map (Value.int .u8),u.oneCell'=true:=by
  intro l u hu
  rw [List.mem_map] at hu
  obtain ⟨x,_,rfl⟩:=hu
  rfl
 have ONE:=Lib.hid one
 clear one
 clear u1 u2 u3 e8
 have HS0:=Lib.hid (show w.heap.size+1+1<w5.heap.size from B25.out.lt)
 have HMAP:=Lib.hid (show ∀ (a b:List Int) (q:Nat),splice (a.map (Value.int .u8)) q (b.map (Value.int .u8))=(splice a q b).map (Value.int .u8) from splice_map)
 have HFULL:=Lib.hid (show splice (splice (List.replicate N (Value.int .u8 0)) 0 (six.map (Value.int .u8))) 8 (pl.map (Value.int .u8))=(six++[0,0]++pl).map (Value.int .u8) by
  have e:List.replicate N (Value.int .u8 0)=(List.replicate (8+pl.length) (0:Int)).map (Value.int .u8):=by rw [List.map_replicate,HL.out,HN.out]
  rw [e,splice_map,splice_map,splice_one _ _ H6.out])
 have HLX:=Lib.hid (show (pl.map (Value.int .u8)).length=n by rw [List.length_map,HL.out])
 have HSPL:=Lib.hid (src_of HR.out)
 have UBZ:=Lib.hid (show ub sp dp pl 0=six++[0,0]++pl by rw [ub_zero,HL.out,HSIX.out])
 have UBC:=Lib.hid (show ∀ ck,ub sp dp pl ck=six++pb ck 2 2++pl from fun ck=>by unfold ub; rw [HL.out,HSIX.out])
 have LZ:=Lib.hid (show (six++[0,0]++pl).length=N by rw [List.length_append,List.length_append,H6.out,HL.out,HN.out]; first | (simp; done) | (simp; omega))
 have hN8:=HN8.out
 subst hN8
 obtain rfl:n=0:=by have:=HN.out; omega
 go_wp2_with (first | (refine wpList_copy_splice (o:=⟨some 31,_,_,_,_,_⟩) rfl (.tmp 20) (.tmp 30) 47 47 rfl 5 Try.underlying47 info1 (some ⟨w.heap.size+1+1,0,none⟩) A5 8 8 (0+2*3) c5 rfl rfl (w.heap.size+1+1) 0 (List.replicate 8 (.int .u8 0)) 5 B25.out (six.map (Value.int .u8)) (by rw [HX6.out]; show 6=min _ _; omega) (fun h0=>⟨rfl,HSRC.out h0⟩) (by rw [HX6.out,List.length_replicate]; omega) (ONE.out six) (w.heap.size+1+1) w5 (Below.refl _ _) (Nat.le_refl _) ?_; intro w6 hg6 hb6; have B26:=hg6; have BEL6:=Lib.hid (BEL5.out.trans (hb6.mono (by omega))); have B06:=Lib.hid (B05.out.below hb6 (by omega)); have HSP6:=Lib.hid (src_of (HR.out.below BEL6.out)); clear hb6 hg6) | (refine wpList_copy_splice (o:=⟨some 35,_,_,_,_,_⟩) rfl (.tmp 33) (.tmp 34) 47 47 rfl 5 Try.underlying47 info1 (some ⟨w.heap.size+1+1,0,none⟩) A 0 0 0 c rfl rfl (w.heap.size+1+1) 8 (splice (List.replicate 8 (.int .u8 0)) 0 (six.map (Value.int .u8))) 5 B26.out (pl.map (Value.int .u8)) (by rw [HLX.out]; show 0=min _ _; have:=HN.out; omega) (fun h0=>absurd h0 (by rw [HLX.out]; omega)) (by rw [HLX.out]; unfold splice; simp only [List.length_append,List.length_take,List.length_drop,List.length_replicate,HX6.out]; have:=HN.out; omega) (ONE.out pl) (w.heap.size+1+1) w6 (Below.refl _ _) (Nat.le_refl _) ?_; intro w7 hg7 hb7; have B27:=hg7; have BEL7:=Lib.hid (BEL6.out.trans (hb7.mono (by omega))); have B07:=Lib.hid (B06.out.below hb7 (by omega)); have bb:w7.cell? ⟨w.heap.size,2,none⟩=some (.bool false):=B07.out.cell 2; clear hb7 hg7))
 rw [HFULL.out] at B27
 have GL7:w.heap.size+1+1<w7.heap.size:=Blk.lt (t:=5) B27.out
 clear B05 B06 B25 B26 BEL5 BEL6
 have HLF:=Lib.hid HLL.out
 rw [UBC.out,UBZ.out] at HLF
 have XZ:=Lib.hid (show ∀ x ∈ six++[0,0]++pl,0≤x∧x≤255 by rw [← UBZ.out]; exact ub_in sp dp pl 0 HX.out)
 have CIN:=chkZ_in (ps++(six++[0,0]++pl)) (fun x hx=>(List.mem_append.1 hx).elim (PX.out x) (XZ.out x))
 have PR7:=Lib.hid (PR.out.below (BEL7.out.drew))
 have BR7:=Lib.hid (show Row w7.drew w7.drew.heap.size (some ⟨w.heap.size+1+1,0,none⟩) ((six++[0,0]++pl).map (.int .u8)) from by
  have:=sumC.row_blk (show Blk w7 (w.heap.size+1+1) 5 _ from B27.out).drew
  simpa using this)
 have HCK:=Lib.hid (check_any A2 (some ⟨w.heap.size+1+1,0,none⟩) n2 8 c2 8 ps (six++[0,0]++pl) w7.drew PL.out LZ.out (by omega) (by omega) (PR7.out.more BEL7.out.drew.size) BR7.out PX.out XZ.out)
 generalize hck:chkZ (ps++(six++[0,0]++pl))=ck at *
 have HCKV:=Lib.hid hck
 clear hck
 have hs2:hs 2=2:=by decide
 have HP:=Lib.hid (fun (w1 w':World) (hb:Below w1.heap.size w1 w') (hs':w1.heap.size≤w'.heap.size)=>put_any (.slice none 0 0) 0 [] ck 2 w1.heap.size w1.heap.size w1 w' (World.ownsRow_nil _ _ _ _) hs' (by omega) hb (Nat.le_refl _) CIN.1 (by omega))
 rw [hs2] at HP
 clear hs2
 have u4:IntKind.u64.wrap ck=ck:=by rw [IntKind.wrap_u64]; omega
 have HPB:=Lib.hid (show ((pb ck 2 2).map (Value.int .u8)).length=2 by rw [List.length_map,pb_len])
 have HFIN:=Lib.hid (show splice ((six++[0,0]++pl).map (Value.int .u8)) 6 ((pb ck 2 2).map (Value.int .u8))=(six++pb ck 2 2++pl).map (Value.int .u8) by rw [splice_map,splice_two _ _ _ H6.out (pb_len _ _ _)])
 have LF:=Lib.hid (show (six++pb ck 2 2++pl).length=8 by rw [List.length_append,List.length_append,H6.out,HL.out,pb_len])
 clear CIN
 generalize pb ck 2 2=two at *
 go_region_held3 (fun w'=>Below w.heap.size w w') (first | exact HB10.out | exact HB9.out | exact HB8.out | exact BEL7.out.drew | exact BEL7.out) (first
  | (go_at_call 59; refine HCK.out.mono ?_; rintro e w8 ⟨rfl,hb8⟩; have HG8:=Lib.hid ((hb8.block _ (show w.heap.size+1+1<w7.drew.heap.size from GL7)).trans B27.out); have HB8:=Lib.hid (bel_call BEL7.out.drew hb8); have GL8:w.heap.size+1+1<w8.heap.size:=Nat.lt_of_lt_of_le GL7 hb8.size; clear hb8)
  | (go_at_call 58; refine (HP.out w8 w8 (Below.refl _ _) (Nat.le_refl _)).mono ?_; rintro e w9 ⟨v9,rfl,hown9,hb9,hs9⟩; obtain ⟨A9,c9,rfl⟩:=own_slice hown9; have HG9:=Lib.hid ((hb9.block _ GL8).trans HG8.out); have HB9:=Lib.hid (bel_call HB8.out hb9); have HSRC9:=Lib.hid (src_of (X:=two.map (Value.int .u8)) (by have t:=own_row hown9; rwa [List.nil_append] at t)); clear hown9 hb9 hs9)
  | (refine step_copy_splice rfl (.tmp 40) (.tmp 45) _ _ rfl 5 Try.underlying47 info1 (some ⟨w.heap.size+1+1,6,none⟩) A9 (8 - 6) (8 - 6) (0+2) c9 rfl rfl (w.heap.size+1+1) 6 ((six++[0,0]++pl).map (.int .u8)) 5 HG9.out (two.map (Value.int .u8)) (by rw [HPB.out]; show 2=min _ _; omega) (fun h0=>⟨rfl,HSRC9.out h0⟩) (by rw [HPB.out,List.length_map,LZ.out]; omega) (ONE.out two) w.heap.size w ⟨HB9.out.os,HB9.out.tape,HB9.out.output,HB9.out.size,HB9.out.block⟩ (by omega) ?_; intro w10 hg10 hb10; have HG10:=hg10; have HB10:=Lib.hid hb10; clear hb10 hg10))
 go_wp2_with fail
 go_ret2
 rw [HFIN.out] at HG10
 have HLG:=HLF.out
 subst HLG
 refine ⟨_,rfl,⟨by rw [List.length_map,LF.out,Nat.mul_one],.inr ⟨w.heap.size+1+1,8,_,rfl,by omega,HG10.out,Nat.le_refl _,by unfold maxLen; omega,?_,?_⟩⟩,HB10.out⟩
 ·rw [List.size_toArray,List.length_map,LF.out,Nat.mul_one]
 ·rw [List.toList_toArray,List.take_of_length_le (by rw [List.length_map,LF.out]; omega)]
theorem bytes_far_sum (sp dp:Int) (A A2:Option Addr) (n c n2 c2:Nat) (pl ps:List Int) (w:World) (h:ports sp dp) (hl:pl.length=n) (hn:n≤65527) (hn8:¬ n=0) (hr:Row w w.heap.size A (pl.map (.int .u8))) (hx:∀ x ∈ pl,0≤x∧x≤255)
  (pll:ps.length=n2) (pn:n2≤1000) (pr:Row w w.heap.size A2 (ps.map (.int .u8))) (px:∀ x ∈ ps,0≤x∧x≤255) :
  Calls Try.prog 41 #[.agg #[.int .i64 sp,.int .i64 dp,.bool false],.slice A n c,.slice A2 n2 c2] w (BPost w (8+n) (ub sp dp pl (chkZ (ps++ub sp dp pl 0)))):=by
 have H:=Lib.hid (fun w=>right_yes sp dp false w h)
 obtain ⟨h1,h2,h3,h4⟩:=h
 obtain ⟨i0,hi0,hz0,hz1,hz2⟩:=info_parts info_u8
 obtain ⟨N,hN⟩:∃ N:Nat,N=8+n:=⟨_,rfl⟩
 have e8:(8:Int)+(n:Int)=(N:Int):=by omega
 have hmk:=fun (W:World)=>run_make_one (P:=Try.prog) 47 5 i0 _ Try.underlying47 hi0 hz0 hz1 rfl .i64 .i64 (N:Int) (by omega) (by rw [hz2]; omega) (by omega) W
 have HL:=Lib.hid hl
 have HR:=Lib.hid hr
 have HX:=Lib.hid hx
 have PL:=Lib.hid pll
 have PR:=Lib.hid pr
 have PX:=Lib.hid px
 have HN:=Lib.hid hN
 have N1:N≤65535:=by omega
 have N8:8≤N:=by omega
 have hN8:¬ N=8:=by omega
 clear hn8
 rw [show BPost w (8+n)=BPost w N by rw [hN]]
 clear hl hr hx pll pr px hi0 hz0 hz1 hz2 hN
 generalize hLL:ub sp dp pl (chkZ (ps++ub sp dp pl 0))=L
 have HLL:=Lib.hid hLL
 clear hLL
 have u1:IntKind.u64.wrap sp=sp:=by rw [IntKind.wrap_u64]; omega
 have u2:IntKind.u64.wrap dp=dp:=by rw [IntKind.wrap_u64]; omega
 have u3:IntKind.u64.wrap (N:Int)=(N:Int):=by rw [IntKind.wrap_u64]; omega
 go_enter Try.func41,Try.ntmps41
 go_wp2_with fail
 refine (H.out _).mono ?_
 rintro e w' ⟨rfl,rfl⟩
 go_wp2_with fail
 clear hmk
 have z2:((w.alloc (.cells #[.int .i64 sp,.int .i64 dp,.bool false] 78)).alloc (.cells #[.int .i64 sp,.int .i64 dp,.bool false] 78)).heap.size=w.heap.size+1+1:=by simp
 have z3:(((w.alloc (.cells #[.int .i64 sp,.int .i64 dp,.bool false] 78)).alloc (.cells #[.int .i64 sp,.int .i64 dp,.bool false] 78)).alloc (.cells (zeros N (.int .u8 0)) 5)).heap.size=w.heap.size+1+1+1:=by simp
 have b0:=(((Blk.new w 78 #[.int .i64 sp,.int .i64 dp,.bool false]).alloc (.cells #[.int .i64 sp,.int .i64 dp,.bool false] 78)).alloc (.cells (zeros N (.int .u8 0)) 5)).alloc (.cells #[.int .u64 sp,.int .u64 dp,.int .u64 N] 22)
 have b2:=(Blk.new ((w.alloc (.cells #[.int .i64 sp,.int .i64 dp,.bool false] 78)).alloc (.cells #[.int .i64 sp,.int .i64 dp,.bool false] 78)) 5 (zeros N (.int .u8 0))).alloc (.cells #[.int .u64 sp,.int .u64 dp,.int .u64 N] 22)
 have b3:=Blk.new (((w.alloc (.cells #[.int .i64 sp,.int .i64 dp,.bool false] 78)).alloc (.cells #[.int .i64 sp,.int .i64 dp,.bool false] 78)).alloc (.cells (zeros N (.int .u8 0)) 5)) 22 #[.int .u64 sp,.int .u64 dp,.int .u64 N]
 have bel:=((((Below.refl w.heap.size w).alloc (Nat.le_refl _) (.cells #[.int .i64 sp,.int .i64 dp,.bool false] 78)).alloc (by simp) (.cells #[.int .i64 sp,.int .i64 dp,.bool false] 78)).alloc (by simp; omega) (.cells (zeros N (.int .u8 0)) 5)).alloc (by simp; omega) (.cells #[.int .u64 sp,.int .u64 dp,.int .u64 N] 22)
 have zW:(((((w.alloc (.cells #[.int .i64 sp,.int .i64 dp,.bool false] 78)).alloc (.cells #[.int .i64 sp,.int .i64 dp,.bool false] 78)).alloc (.cells (zeros N (.int .u8 0)) 5)).alloc (.cells #[.int .u64 sp,.int .u64 dp,.int .u64 N] 22))).heap.size=w.heap.size+1+1+1+1:=by simp
 rw [z2] at b2
 rw [z3] at b3
 clear z2 z3
 generalize ((((w.alloc (.cells #[.int .i64 sp,.int .i64 dp,.bool false] 78)).alloc (.cells #[.int .i64 sp,.int .i64 dp,.bool false] 78)).alloc (.cells (zeros N (.int .u8 0)) 5)).alloc (.cells #[.int .u64 sp,.int .u64 dp,.int .u64 N] 22))=W at *
 have hrow:Row W W.heap.size (some ⟨w.heap.size+1+1+1,0,none⟩) ([sp,dp,(N:Int)].map (.int .u64)):=sumC.row_blk b3
 have hall:=all_any (.slice none 0 0) 0 [] 2 (some ⟨w.heap.size+1+1+1,0,none⟩) 3 3 [sp,dp,(N:Int)] W.heap.size W.heap.size W W (World.ownsRow_nil _ _ _ _) (Nat.le_refl _) (by omega) (Below.refl _ _) (Nat.le_refl _) rfl hrow (by
  intro x hx
  simp only [List.mem_cons,List.not_mem_nil,or_false] at hx
  rcases hx with rfl | rfl | rfl <;> omega)
 have hs2:hs 2=2:=by decide
 rw [hs2] at hall
 have h6:(allb 2 [sp,dp,(N:Int)]).length=6:=by rw [allb_len]; rfl
 have H6:=Lib.hid h6
 have HSIX:=Lib.hid (show allb 2 [sp,dp,((8+n:Nat):Int)]=allb 2 [sp,dp,(N:Int)] by rw [HN.out])
 have B0:=Lib.hid b0
 have B2:=Lib.hid b2
 have BEL:=Lib.hid bel
 have ZW:=Lib.hid zW
 have HALL:=Lib.hid hall
 have zl:w.heap.size+1+1+1<W.heap.size:=by omega
 clear b0 b2 b3 bel hrow hs2 h6 zW hall
 generalize allb 2 [sp,dp,(N:Int)]=six at *
 refine HALL.out.mono ?_
 rintro e w5 ⟨v5,rfl,hown5,hbel5,hs5⟩
 obtain ⟨A5,c5,rfl⟩:=own_slice hown5
 have hrow5:=own_row hown5
 rw [List.nil_append] at hrow5
 have HSRC:=Lib.hid (src_of hrow5)
 have B05:=Lib.hid (B0.out.below hbel5 (by omega))
 have B25:=Lib.hid (B2.out.below hbel5 (by omega))
 have BEL5:=Lib.hid (BEL.out.trans (hbel5.mono (by omega)))
 clear hown5 hbel5 hrow5 HALL B0 B2 BEL
 have HX6:=Lib.hid (show (six.map (Value.int .u8)).length=6 by rw [List.length_map,H6.out])
 have one:∀ (l:List Int),∀ u ∈ l.map (Value.int .u8),u.oneCell'=true:=by
  intro l u hu
  rw [List.mem_map] at hu
  obtain ⟨x,_,rfl⟩:=hu
  rfl
 have ONE:=Lib.hid one
 clear one
 clear u1 u2 u3 e8
 have HS0:=Lib.hid (show w.heap.size+1+1<w5.heap.size from B25.out.lt)
 have HMAP:=Lib.hid (show ∀ (a b:List Int) (q:Nat),splice (a.map (Value.int .u8)) q (b.map (Value.int .u8))=(splice a q b).map (Value.int .u8) from splice_map)
 have HFULL:=Lib.hid (show splice (splice (List.replicate N (Value.int .u8 0)) 0 (six.map (Value.int .u8))) 8 (pl.map (Value.int .u8))=(six++[0,0]++pl).map (Value.int .u8) by
  have e:List.replicate N (Value.int .u8 0)=(List.replicate (8+pl.length) (0:Int)).map (Value.int .u8):=by rw [List.map_replicate,HL.out,HN.out]
  rw [e,splice_map,splice_map,splice_one _ _ H6.out])
 have HLX:=Lib.hid (show (pl.map (Value.int .u8)).length=n by rw [List.length_map,HL.out])
 have HSPL:=Lib.hid (src_of HR.out)
 have UBZ:=Lib.hid (show ub sp dp pl 0=six++[0,0]++pl by rw [ub_zero,HL.out,HSIX.out])
 have UBC:=Lib.hid (show ∀ ck,ub sp dp pl ck=six++pb ck 2 2++pl from fun ck=>by unfold ub; rw [HL.out,HSIX.out])
 have LZ:=Lib.hid (show (six++[0,0]++pl).length=N by rw [List.length_append,List.length_append,H6.out,HL.out,HN.out]; first | (simp; done) | (simp; omega))
 go_wp2_with (first | (refine wpList_copy_splice (o:=⟨some 31,_,_,_,_,_⟩) rfl (.tmp 20) (.tmp 30) 47 47 rfl 5 Try.underlying47 info1 (some ⟨w.heap.size+1+1,0,none⟩) A5 N N (0+2*3) c5 rfl rfl (w.heap.size+1+1) 0 (List.replicate N (.int .u8 0)) 5 B25.out (six.map (Value.int .u8)) (by rw [HX6.out]; show 6=min _ _; omega) (fun h0=>⟨rfl,HSRC.out h0⟩) (by rw [HX6.out,List.length_replicate]; omega) (ONE.out six) (w.heap.size+1+1) w5 (Below.refl _ _) (Nat.le_refl _) ?_; intro w6 hg6 hb6; have B26:=hg6; have BEL6:=Lib.hid (BEL5.out.trans (hb6.mono (by omega))); have B06:=Lib.hid (B05.out.below hb6 (by omega)); have HSP6:=Lib.hid (src_of (HR.out.below BEL6.out)); clear hb6 hg6) | (refine wpList_copy_splice (o:=⟨some 35,_,_,_,_,_⟩) rfl (.tmp 33) (.tmp 34) 47 47 rfl 5 Try.underlying47 info1 (some ⟨w.heap.size+1+1,8,none⟩) A (N - 8) (N - 8) n c rfl rfl (w.heap.size+1+1) 8 (splice (List.replicate N (.int .u8 0)) 0 (six.map (Value.int .u8))) 5 B26.out (pl.map (Value.int .u8)) (by rw [HLX.out]; show n=min _ _; have:=HN.out; omega) (fun h0=>⟨rfl,HSP6.out h0⟩) (by rw [HLX.out]; unfold splice; simp only [List.length_append,List.length_take,List.length_drop,List.length_replicate,HX6.out]; have:=HN.out; omega) (ONE.out pl) (w.heap.size+1+1) w6 (Below.refl _ _) (Nat.le_refl _) ?_; intro w7 hg7 hb7; have B27:=hg7; have BEL7:=Lib.hid (BEL6.out.trans (hb7.mono (by omega))); have B07:=Lib.hid (B06.out.below hb7 (by omega)); have bb:w7.cell? ⟨w.heap.size,2,none⟩=some (.bool false):=B07.out.cell 2; clear hb7 hg7))
 rw [HFULL.out] at B27
 have GL7:w.heap.size+1+1<w7.heap.size:=Blk.lt (t:=5) B27.out
 clear B05 B06 B25 B26 BEL5 BEL6
 have HLF:=Lib.hid HLL.out
 rw [UBC.out,UBZ.out] at HLF
 have XZ:=Lib.hid (show ∀ x ∈ six++[0,0]++pl,0≤x∧x≤255 by rw [← UBZ.out]; exact ub_in sp dp pl 0 HX.out)
 have CIN:=chkZ_in (ps++(six++[0,0]++pl)) (fun x hx=>(List.mem_append.1 hx).elim (PX.out x) (XZ.out x))
 have PR7:=Lib.hid (PR.out.below (BEL7.out.drew))
 have BR7:=Lib.hid (show Row w7.drew w7.drew.heap.size (some ⟨w.heap.size+1+1,0,none⟩) ((six++[0,0]++pl).map (.int .u8)) from by
  have:=sumC.row_blk (show Blk w7 (w.heap.size+1+1) 5 _ from B27.out).drew
  simpa using this)
 have HCK:=Lib.hid (check_any A2 (some ⟨w.heap.size+1+1,0,none⟩) n2 N c2 N ps (six++[0,0]++pl) w7.drew PL.out LZ.out (by omega) (by omega) (PR7.out.more BEL7.out.drew.size) BR7.out PX.out XZ.out)
 generalize hck:chkZ (ps++(six++[0,0]++pl))=ck at *
 have HCKV:=Lib.hid hck
 clear hck
 have hs2:hs 2=2:=by decide
 have HP:=Lib.hid (fun (w1 w':World) (hb:Below w1.heap.size w1 w') (hs':w1.heap.size≤w'.heap.size)=>put_any (.slice none 0 0) 0 [] ck 2 w1.heap.size w1.heap.size w1 w' (World.ownsRow_nil _ _ _ _) hs' (by omega) hb (Nat.le_refl _) CIN.1 (by omega))
 rw [hs2] at HP
 clear hs2
 have u4:IntKind.u64.wrap ck=ck:=by rw [IntKind.wrap_u64]; omega
 have HPB:=Lib.hid (show ((pb ck 2 2).map (Value.int .u8)).length=2 by rw [List.length_map,pb_len])
 have HFIN:=Lib.hid (show splice ((six++[0,0]++pl).map (Value.int .u8)) 6 ((pb ck 2 2).map (Value.int .u8))=(six++pb ck 2 2++pl).map (Value.int .u8) by rw [splice_map,splice_two _ _ _ H6.out (pb_len _ _ _)])
 have LF:=Lib.hid (show (six++pb ck 2 2++pl).length=N by rw [List.length_append,List.length_append,H6.out,HL.out,HN.out,pb_len]; first | done | omega)
 clear CIN
 generalize pb ck 2 2=two at *
 have x6:(6:Int)≤(N:Int):=by omega
 have x7:6≤N:=by omega
 have x8:¬ N=6:=by omega
 go_region_held3 (fun w'=>Below w.heap.size w w') (first | exact HB10.out | exact HB9.out | exact HB8.out | exact BEL7.out.drew | exact BEL7.out) (first
  | (go_at_call 59; refine HCK.out.mono ?_; rintro e w8 ⟨rfl,hb8⟩; have HG8:=Lib.hid ((hb8.block _ (show w.heap.size+1+1<w7.drew.heap.size from GL7)).trans B27.out); have HB8:=Lib.hid (bel_call BEL7.out.drew hb8); have GL8:w.heap.size+1+1<w8.heap.size:=Nat.lt_of_lt_of_le GL7 hb8.size; clear hb8)
  | (go_at_call 58; refine (HP.out w8 w8 (Below.refl _ _) (Nat.le_refl _)).mono ?_; rintro e w9 ⟨v9,rfl,hown9,hb9,hs9⟩; obtain ⟨A9,c9,rfl⟩:=own_slice hown9; have HG9:=Lib.hid ((hb9.block _ GL8).trans HG8.out); have HB9:=Lib.hid (bel_call HB8.out hb9); have HSRC9:=Lib.hid (src_of (X:=two.map (Value.int .u8)) (by have t:=own_row hown9; rwa [List.nil_append] at t)); clear hown9 hb9 hs9)
  | (refine step_copy_splice rfl (.tmp 40) (.tmp 45) _ _ rfl 5 Try.underlying47 info1 (some ⟨w.heap.size+1+1,6,none⟩) A9 (N - 6) (N - 6) (0+2) c9 rfl rfl (w.heap.size+1+1) 6 ((six++[0,0]++pl).map (.int .u8)) 5 HG9.out (two.map (Value.int .u8)) (by rw [HPB.out]; show 2=min _ _; omega) (fun h0=>⟨rfl,HSRC9.out h0⟩) (by rw [HPB.out,List.length_map,LZ.out]; omega) (ONE.out two) w.heap.size w ⟨HB9.out.os,HB9.out.tape,HB9.out.output,HB9.out.size,HB9.out.block⟩ (by omega) ?_; intro w10 hg10 hb10; have HG10:=hg10; have HB10:=Lib.hid hb10; clear hb10 hg10))
 go_wp2_with fail
 go_ret2
 rw [HFIN.out] at HG10
 have HLG:=HLF.out
 subst HLG
 refine ⟨_,rfl,⟨by rw [List.length_map,LF.out,Nat.mul_one],.inr ⟨w.heap.size+1+1,N,_,rfl,by omega,HG10.out,Nat.le_refl _,by unfold maxLen; omega,?_,?_⟩⟩,HB10.out⟩
 ·rw [List.size_toArray,List.length_map,LF.out,Nat.mul_one]
 ·rw [List.toList_toArray,List.take_of_length_le (by rw [List.length_map,LF.out]; omega)]
end Go.Proofs.Ytnofddbfogilaaa.udpC
/- Layer 8: headers that may be, flags, alike ones, why bytes are none. -/
namespace Go.Proofs.Ytnofddbfogilaaa.fourC
set_option maxHeartbeats 4000000
set_option maxRecDepth 100000
open Go.ChangeShapes Go.WideShapes Go.ChangeAt Go.RowKit
open base sumB rdrA net
set_option linter.unusedVariables false
def okF (tos id fr ttl pr sl dl:Int) (no:Nat):Prop:=(0≤tos∧tos≤255)∧(0≤id∧id≤65535)∧(0≤fr∧fr≤8191)∧(0≤ttl∧ttl≤255)∧(0≤pr∧pr≤255)∧(0≤sl∧sl≤4294967295)∧(0≤dl∧dl≤4294967295)∧no≤40∧no % 4=0
def flz (df mf:Bool) (fr:Int):Int:=fr+(if df then 16384 else 0)+(if mf then 8192 else 0)
theorem flz_in (df mf:Bool) (fr:Int) (h0:0≤fr) (h1:fr≤8191):0≤flz df mf fr∧flz df mf fr≤65535:=by
 unfold flz
 cases df <;> cases mf <;> simp <;> omega
theorem or_pow (n k:Nat) (h:n<2 ^ k):n ||| 2 ^ k=n+2 ^ k:=by
 have:=Nat.shiftLeft_add_eq_or_of_lt h 1
 rw [Nat.shiftLeft_eq,Nat.one_mul] at this
 rw [Nat.or_comm,← this,Nat.add_comm]
theorem u64_or_nat (a b:Nat) (ha:a<9223372036854775808) (hb:b<9223372036854775808):bits .or .u64 (a:Int) (b:Int)=((a ||| b:Nat):Int):=by
 have hA:(BitVec.ofInt 64 (a:Int)).toNat=a:=by rw [BitVec.ofInt_natCast,BitVec.toNat_ofNat]; exact Nat.mod_eq_of_lt (by omega)
 have hB:(BitVec.ofInt 64 (b:Int)).toNat=b:=by rw [BitVec.ofInt_natCast,BitVec.toNat_ofNat]; exact Nat.mod_eq_of_lt (by omega)
 show IntKind.u64.wrap ((BitVec.ofInt 64 (a:Int) ||| BitVec.ofInt 64 (b:Int)).toNat:Nat)=_
 rw [BitVec.toNat_or,hA,hB]
 have:a ||| b<2 ^ 63:=Nat.or_lt_two_pow (by omega) (by omega)
 rw [IntKind.wrap_u64]
 omega
theorem or14 (n:Int) (h0:0≤n) (h1:n≤8191):bits .or .u64 n 16384=n+16384:=by
 obtain ⟨m,rfl⟩:=Int.eq_ofNat_of_zero_le h0
 have e:bits .or .u64 (m:Int) 16384=((m ||| 16384:Nat):Int):=u64_or_nat m 16384 (by omega) (by omega)
 rw [e,show (16384:Nat)=2 ^ 14 from rfl,or_pow m 14 (by omega)]
 rfl
theorem or13 (n:Int) (h0:0≤n) (h1:n≤8191):bits .or .u64 n 8192=n+8192:=by
 obtain ⟨m,rfl⟩:=Int.eq_ofNat_of_zero_le h0
 have e:bits .or .u64 (m:Int) 8192=((m ||| 8192:Nat):Int):=u64_or_nat m 8192 (by omega) (by omega)
 rw [e,show (8192:Nat)=2 ^ 13 from rfl,or_pow m 13 (by omega)]
 rfl
theorem or1314 (n:Int) (h0:0≤n) (h1:n≤8191):bits .or .u64 (n+16384) 8192=n+16384+8192:=by
 obtain ⟨m,rfl⟩:=Int.eq_ofNat_of_zero_le h0
 have e:bits .or .u64 ((m+16384:Nat):Int) 8192=((m+16384 ||| 8192:Nat):Int):=u64_or_nat (m+16384) 8192 (by omega) (by omega)
 have e1:=or_pow m 14 (by omega)
 have e2:=or_pow m 13 (by omega)
 have e3:=or_pow (m+8192) 14 (by omega)
 have e4:m+16384 ||| 8192=m+8192+16384:=by
  have:m+16384=m ||| 2 ^ 14:=e1.symm
  rw [this,Nat.or_assoc,Nat.or_comm (2 ^ 14),← Nat.or_assoc,show (8192:Nat)=2 ^ 13 from rfl,e2]
  exact e3
 have e5:((m:Int)+16384)=((m+16384:Nat):Int):=by omega
 rw [e5,e,e4]
 omega
theorem len_any (tos id:Int) (df mf:Bool) (fr ttl pr sl dl:Int) (AO:Option Addr) (no co:Nat) (w:World) (hn:no≤1000) :
  Calls Try.prog 45 #[.agg #[.int .i64 tos,.int .i64 id,.bool df,.bool mf,.int .i64 fr,.int .i64 ttl,.int .i64 pr,.bool false,.int .u64 0,.int .u64 sl,.bool false,.int .u64 0,.int .u64 dl,.slice AO no co]] w fun e w'=>e=.returned (.int .i64 (20+(no:Int)))∧Below w.heap.size w w':=by
 go_enter Try.func45,Try.ntmps45
 go_wp2
 go_ret
 exact ⟨rfl,(Below.refl _ _).alloc (Nat.le_refl _) _⟩
theorem part_any (tos id:Int) (df mf:Bool) (fr ttl pr sl dl:Int) (AO:Option Addr) (no co:Nat) (w:World) (h0:0≤fr) (h1:fr≤8191) :
  Calls Try.prog 79 #[.agg #[.int .i64 tos,.int .i64 id,.bool df,.bool mf,.int .i64 fr,.int .i64 ttl,.int .i64 pr,.bool false,.int .u64 0,.int .u64 sl,.bool false,.int .u64 0,.int .u64 dl,.slice AO no co]] w fun e w'=>e=.returned (.int .u64 (flz df mf fr))∧Below w.heap.size w w':=by
 have v:IntKind.u64.wrap fr=fr:=by rw [IntKind.wrap_u64]; omega
 have e14:=or14 fr h0 h1
 have e13:=or13 fr h0 h1
 have e15:=or1314 fr h0 h1
 unfold flz
 cases df <;> cases mf <;> simp only [if_true,if_false,Int.add_zero,Bool.false_eq_true] <;>
  (go_enter Try.func79,Try.ntmps79
   go_wp2
   go_ret
   exact ⟨rfl,(Below.refl _ _).alloc (Nat.le_refl _) _⟩)
theorem addrright_yes (x:Int) (w:World) (h0:0≤x) (h1:x≤4294967295) :
  Calls Try.prog 30 #[.agg #[.bool false,.int .u64 0,.int .u64 x]] w fun e w'=>e=.returned (.bool true)∧Below w.heap.size w w':=by
 have q:decide (x<4294967296)=true:=decide_eq_true (by omega)
 go_enter Try.func30,Try.ntmps30
 go_wp2
 go_ret
 exact ⟨rfl,(Below.refl _ _).alloc (Nat.le_refl _) _⟩
theorem right_yes (tos id:Int) (df mf:Bool) (fr ttl pr sl dl:Int) (AO:Option Addr) (no co:Nat) (w:World) (h:okF tos id fr ttl pr sl dl no) :
  Calls Try.prog 78 #[.agg #[.int .i64 tos,.int .i64 id,.bool df,.bool mf,.int .i64 fr,.int .i64 ttl,.int .i64 pr,.bool false,.int .u64 0,.int .u64 sl,.bool false,.int .u64 0,.int .u64 dl,.slice AO no co]] w fun e w'=>e=.returned (.bool true)∧Below w.heap.size w w':=by
 obtain ⟨⟨h1,h2⟩,⟨h3,h4⟩,⟨h5,h6⟩,⟨h7,h8⟩,⟨h9,h10⟩,⟨h11,h12⟩,⟨h13,h14⟩,ho,hm⟩:=h
 have i0:∀ w,(Instr.index 141 (.agg #[.int .i64 tos,.int .i64 255,.int .i64 ttl,.int .i64 255,.int .i64 pr,.int .i64 255,.int .i64 id,.int .i64 65535,.int .i64 fr,.int .i64 8191]) (.int .i64 0)).run Try.prog w=.ok (.agg #[.int .i64 tos,.int .i64 255]) w:=fun _=>by kernel_rfl
 have i1:∀ w,(Instr.index 141 (.agg #[.int .i64 tos,.int .i64 255,.int .i64 ttl,.int .i64 255,.int .i64 pr,.int .i64 255,.int .i64 id,.int .i64 65535,.int .i64 fr,.int .i64 8191]) (.int .i64 1)).run Try.prog w=.ok (.agg #[.int .i64 ttl,.int .i64 255]) w:=fun _=>by kernel_rfl
 have i2:∀ w,(Instr.index 141 (.agg #[.int .i64 tos,.int .i64 255,.int .i64 ttl,.int .i64 255,.int .i64 pr,.int .i64 255,.int .i64 id,.int .i64 65535,.int .i64 fr,.int .i64 8191]) (.int .i64 2)).run Try.prog w=.ok (.agg #[.int .i64 pr,.int .i64 255]) w:=fun _=>by kernel_rfl
 have i3:∀ w,(Instr.index 141 (.agg #[.int .i64 tos,.int .i64 255,.int .i64 ttl,.int .i64 255,.int .i64 pr,.int .i64 255,.int .i64 id,.int .i64 65535,.int .i64 fr,.int .i64 8191]) (.int .i64 3)).run Try.prog w=.ok (.agg #[.int .i64 id,.int .i64 65535]) w:=fun _=>by kernel_rfl
 have i4:∀ w,(Instr.index 141 (.agg #[.int .i64 tos,.int .i64 255,.int .i64 ttl,.int .i64 255,.int .i64 pr,.int .i64 255,.int .i64 id,.int .i64 65535,.int .i64 fr,.int .i64 8191]) (.int .i64 4)).run Try.prog w=.ok (.agg #[.int .i64 fr,.int .i64 8191]) w:=fun _=>by kernel_rfl
 have k0:∀ w,(Instr.index 142 (.agg #[.bool false,.int .u64 0,.int .u64 sl,.bool false,.int .u64 0,.int .u64 dl]) (.int .i64 0)).run Try.prog w=.ok (.agg #[.bool false,.int .u64 0,.int .u64 sl]) w:=fun _=>by kernel_rfl
 have k1:∀ w,(Instr.index 142 (.agg #[.bool false,.int .u64 0,.int .u64 sl,.bool false,.int .u64 0,.int .u64 dl]) (.int .i64 1)).run Try.prog w=.ok (.agg #[.bool false,.int .u64 0,.int .u64 dl]) w:=fun _=>by kernel_rfl
 have t0:(((no:Int) % 4) == 0)=true:=eqT (by omega)
 have HBX:=Lib.hid ((Below.refl w.heap.size w).alloc (Nat.le_refl _) (.cells #[.int .i64 tos,.int .i64 id,.bool df,.bool mf,.int .i64 fr,.int .i64 ttl,.int .i64 pr,.bool false,.int .u64 0,.int .u64 sl,.bool false,.int .u64 0,.int .u64 dl,.slice AO no co] 82))
 have BOX:=Lib.hid (Blk.new w 82 #[.int .i64 tos,.int .i64 id,.bool df,.bool mf,.int .i64 fr,.int .i64 ttl,.int .i64 pr,.bool false,.int .u64 0,.int .u64 sl,.bool false,.int .u64 0,.int .u64 dl,.slice AO no co])
 have HZ:=Lib.hid (show (w.alloc (.cells #[.int .i64 tos,.int .i64 id,.bool df,.bool mf,.int .i64 fr,.int .i64 ttl,.int .i64 pr,.bool false,.int .u64 0,.int .u64 sl,.bool false,.int .u64 0,.int .u64 dl,.slice AO no co] 82)).heap.size=w.heap.size+1 by simp)
 have HA1:=Lib.hid (fun w=>addrright_yes sl w h11 h12)
 have HA2:=Lib.hid (fun w=>addrright_yes dl w h13 h14)
 go_enter Try.func78,Try.ntmps78
 go_wp2_with fail
 go_loopw [23,4] (fun i _ wr=>∃ j:Nat,j≤5∧i=.int .i64 j∧Below (w.heap.size+1) (w.alloc (.cells #[.int .i64 tos,.int .i64 id,.bool df,.bool mf,.int .i64 fr,.int .i64 ttl,.int .i64 pr,.bool false,.int .u64 0,.int .u64 sl,.bool false,.int .u64 0,.int .u64 dl,.slice AO no co] 82)) wr) (fun i _ _=>5 - (intOf i).toNat)
 case atStart=>exact ⟨0,by omega,rfl,Below.refl _ _⟩
 case round =>
  obtain ⟨j,hj,rfl,hbel⟩:=hrel
  have HB:=Lib.hid hbel
  have HS:=Lib.hid (show w.heap.size+1≤wr.heap.size from Nat.le_trans (Nat.le_of_eq HZ.out.symm) hbel.size)
  have o7:wr.cell? ⟨w.heap.size,7,none⟩=some (.bool false):=(hbel.cell (p:=⟨w.heap.size,7,none⟩) (Nat.lt_succ_self _)).trans (BOX.out.cell 7)
  have o8:wr.cell? ⟨w.heap.size,8,none⟩=some (.int .u64 0):=(hbel.cell (p:=⟨w.heap.size,8,none⟩) (Nat.lt_succ_self _)).trans (BOX.out.cell 8)
  have o9:wr.cell? ⟨w.heap.size,9,none⟩=some (.int .u64 sl):=(hbel.cell (p:=⟨w.heap.size,9,none⟩) (Nat.lt_succ_self _)).trans (BOX.out.cell 9)
  have o10:wr.cell? ⟨w.heap.size,10,none⟩=some (.bool false):=(hbel.cell (p:=⟨w.heap.size,10,none⟩) (Nat.lt_succ_self _)).trans (BOX.out.cell 10)
  have o11:wr.cell? ⟨w.heap.size,11,none⟩=some (.int .u64 0):=(hbel.cell (p:=⟨w.heap.size,11,none⟩) (Nat.lt_succ_self _)).trans (BOX.out.cell 11)
  have o12:wr.cell? ⟨w.heap.size,12,none⟩=some (.int .u64 dl):=(hbel.cell (p:=⟨w.heap.size,12,none⟩) (Nat.lt_succ_self _)).trans (BOX.out.cell 12)
  have o13:wr.cell? ⟨w.heap.size,13,none⟩=some (.slice AO no co):=(hbel.cell (p:=⟨w.heap.size,13,none⟩) (Nat.lt_succ_self _)).trans (BOX.out.cell 13)
  clear hbel
  have hcase:j=0∨j=1∨j=2∨j=3∨j=4∨j=5:=by omega
  rcases hcase with rfl | rfl | rfl | rfl | rfl | rfl
  ·have q1:decide (tos<0)=false:=decide_eq_false (by omega)
   have q2:decide (255<tos)=false:=decide_eq_false (by omega)
   clear o7 o8 o9 o10 o11 o12 o13
   go_wp2_with fail
   go_roundw
   case rel=>exact ⟨1,by omega,by go_num,HB.out.alloc HS.out _⟩
   case measure=>simp [intOf]
  ·have q1:decide (ttl<0)=false:=decide_eq_false (by omega)
   have q2:decide (255<ttl)=false:=decide_eq_false (by omega)
   clear o7 o8 o9 o10 o11 o12 o13
   go_wp2_with fail
   go_roundw
   case rel=>exact ⟨2,by omega,by go_num,HB.out.alloc HS.out _⟩
   case measure=>simp [intOf]
  ·have q1:decide (pr<0)=false:=decide_eq_false (by omega)
   have q2:decide (255<pr)=false:=decide_eq_false (by omega)
   clear o7 o8 o9 o10 o11 o12 o13
   go_wp2_with fail
   go_roundw
   case rel=>exact ⟨3,by omega,by go_num,HB.out.alloc HS.out _⟩
   case measure=>simp [intOf]
  ·have q1:decide (id<0)=false:=decide_eq_false (by omega)
   have q2:decide (65535<id)=false:=decide_eq_false (by omega)
   clear o7 o8 o9 o10 o11 o12 o13
   go_wp2_with fail
   go_roundw
   case rel=>exact ⟨4,by omega,by go_num,HB.out.alloc HS.out _⟩
   case measure=>simp [intOf]
  ·have q1:decide (fr<0)=false:=decide_eq_false (by omega)
   have q2:decide (8191<fr)=false:=decide_eq_false (by omega)
   clear o7 o8 o9 o10 o11 o12 o13
   go_wp2_with fail
   go_roundw
   case rel=>exact ⟨5,by omega,by go_num,HB.out.alloc HS.out _⟩
   case measure=>simp [intOf]
  ·go_wp2_with fail
   clear o7 o8 o9 o10 o11 o12 o13
   obtain ⟨wo,rfl⟩:∃ wo:World,wo=wr:=⟨_,rfl⟩
   go_loopw [42,6] (fun i _ wq=>∃ j:Nat,j≤2∧i=.int .i64 j∧Below (w.heap.size+1) (w.alloc (.cells #[.int .i64 tos,.int .i64 id,.bool df,.bool mf,.int .i64 fr,.int .i64 ttl,.int .i64 pr,.bool false,.int .u64 0,.int .u64 sl,.bool false,.int .u64 0,.int .u64 dl,.slice AO no co] 82)) wq) (fun i _ _=>2 - (intOf i).toNat)
   case atStart=>exact ⟨0,by omega,rfl,HB.out⟩
   case round =>
    obtain ⟨j,hj,rfl,hbel⟩:=hrel
    have HB2:=Lib.hid hbel
    have HS2:=Lib.hid (show w.heap.size+1≤_ from Nat.le_trans (Nat.le_of_eq HZ.out.symm) hbel.size)
    have o13:wr.cell? ⟨w.heap.size,13,none⟩=some (.slice AO no co):=(hbel.cell (p:=⟨w.heap.size,13,none⟩) (Nat.lt_succ_self _)).trans (BOX.out.cell 13)
    clear hbel
    have hcase:j=0∨j=1∨j=2:=by omega
    rcases hcase with rfl | rfl | rfl
    ·clear o13
     go_wp2_with fail
     refine (HA1.out _).mono ?_
     rintro e w5 ⟨rfl,hb5⟩
     have HB5:=Lib.hid ((HB2.out.alloc HS2.out _).trans (hb5.mono (Nat.le_trans HS2.out (Below.size ((Below.refl 0 _).alloc (Nat.zero_le _) _)))))
     clear hb5
     go_wp2_with fail
     go_roundw
     case rel=>first | exact ⟨1,by omega,by go_num,HB5.out⟩ | ((repeat apply Exists.intro); exact ⟨⟨1,by omega,by go_num,HB5.out⟩,rfl⟩)
     case measure=>simp [intOf]
    ·clear o13
     go_wp2_with fail
     refine (HA2.out _).mono ?_
     rintro e w5 ⟨rfl,hb5⟩
     have HB5:=Lib.hid ((HB2.out.alloc HS2.out _).trans (hb5.mono (Nat.le_trans HS2.out (Below.size ((Below.refl 0 _).alloc (Nat.zero_le _) _)))))
     clear hb5
     go_wp2_with fail
     go_roundw
     case rel=>first | exact ⟨2,by omega,by go_num,HB5.out⟩ | ((repeat apply Exists.intro); exact ⟨⟨2,by omega,by go_num,HB5.out⟩,rfl⟩)
     case measure=>simp [intOf]
    ·go_wp2_with fail
     go_ret
     exact ⟨rfl,HBX.out.trans (HB2.out.mono (Nat.le_succ _))⟩
end Go.Proofs.Ytnofddbfogilaaa.fourC
/- Layer 8: the law's bytes of a packet. -/
namespace Go.Proofs.Ytnofddbfogilaaa.fourD
open Go.ChangeShapes Go.WideShapes Go.ChangeAt Go.RowKit
set_option linter.unusedVariables false
def hk (tos id fl ttl pr sl dl ck sz:Int) (os:List Int):List Int:=[64+(20+(os.length:Int)) / 4,tos,sz / 256,sz % 256,id / 256,id % 256,fl / 256,fl % 256,ttl,pr,ck / 256,ck % 256,sl / 65536 / 256,sl / 65536 % 256,sl % 65536 / 256,sl % 65536 % 256,dl / 65536 / 256,dl / 65536 % 256,dl % 65536 / 256,dl % 65536 % 256]++os
theorem hk_len (tos id fl ttl pr sl dl ck sz:Int) (os:List Int):(hk tos id fl ttl pr sl dl ck sz os).length=20+os.length:=by simp [hk]; omega
theorem hk_in (tos id fl ttl pr sl dl ck sz:Int) (os:List Int) (h1:0≤tos∧tos≤255) (h2:0≤id∧id≤65535) (h3:0≤fl∧fl≤65535) (h4:0≤ttl∧ttl≤255) (h5:0≤pr∧pr≤255) (h6:0≤sl∧sl≤4294967295) (h7:0≤dl∧dl≤4294967295) (h8:0≤ck∧ck≤65535) (h9:0≤sz∧sz≤65535) (ho:os.length≤40) (hx:∀ x ∈ os,0≤x∧x≤255):∀ x ∈ hk tos id fl ttl pr sl dl ck sz os,0≤x∧x≤255:=by
 intro x h
 unfold hk at h
 rw [List.mem_append] at h
 rcases h with h | h
 ·simp only [List.mem_cons,List.not_mem_nil,or_false] at h
  rcases h with h | h | h | h | h | h | h | h | h | h | h | h | h | h | h | h | h | h | h | h <;> (subst h; omega)
 ·exact hx x h
end Go.Proofs.Ytnofddbfogilaaa.fourD
