/- 3 texts in one. -/
import Derived.Deep.RegionHeld3
import Derived.Laws.AppendOwn
import Derived.Test.YtodckfgfbcnkoaaNk27
set_option linter.unusedVariables false
set_option linter.unusedSimpArgs false
open Go.ChangeShapes Go.WideShapes Go.ChangeAt Go.RowKit
/- Layer 15: checks that are turned in a packet. -/
namespace Go.Proofs.Ytodckfgfbcnkoaa.natA
set_option maxHeartbeats 4000000
set_option maxRecDepth 100000
open base octA octB octC rdrA rdrG sixW sixM pktA pktB sixE  tunV tunH natW natX sumD sumE
structure OnE (g:Nat) (w w':World):Prop where
 bel:Below g w w'
 els:∀ k,k<w.heap.size→k≠g→w'.heap[k]?=w.heap[k]?
theorem OnE.refl (g:Nat) (w:World):OnE g w w:=⟨Below.refl _ _,fun _ _ _=>rfl⟩
theorem OnE.trans {g:Nat} {a b c:World} (h:OnE g a b) (k:OnE g b c):OnE g a c:=⟨h.bel.trans k.bel,fun i hi hg=>(k.els i (Nat.lt_of_lt_of_le hi h.bel.size) hg).trans (h.els i hi hg)⟩
theorem OnE.of {g:Nat} {w w':World} (h:OnlyG g w w'):OnE g w w':=⟨h.bel,fun k _ hk=>h.els k hk⟩
theorem OnE.below {g:Nat} {w w':World} (h:Below w.heap.size w w') (hg:g<w.heap.size):OnE g w w':=⟨h.mono (by omega),fun k hk _=>h.block k hk⟩
theorem OnE.blk {g x:Nat} {w w':World} {t:TypeId} {cs:Array Value} (h:OnE g w w') (hb:Blk w x t cs) (hx:x≠g):Blk w' x t cs:=(h.els x hb.lt hx).trans hb
theorem OnE.from {g B:Nat} {a w w':World} (h:OnE g w w') (hb:Below B a w) (hB:B≤g):Below B a w':=hb.trans (h.bel.mono hB)
structure Wd (w:World) (g:Nat) (A:Option Addr) (n c:Nat) (l:List Int):Prop where
 len:l.length=n
 row:Row w w.heap.size A (l.map (.int .u16))
 w16:W16 l
 far:∀ b off,A=some ⟨b,off,none⟩→b≠g
theorem at_w (A:Option Addr) (n c f:Nat) (l:List Int) (w:World) (h:Sl w A n c l) (hn:n≤1000) (hf:f<2000) :
  Calls Try.prog 43 #[.slice A n c,.int .i64 f,.int .i64 2] w fun e w'=>e=.returned (.int .u64 (udpA.w16 l f))∧w=w':=by
 have h9:=octC.at_any A n c l f 2 w h.len (by omega) h.nc h.mx h.nil h.row h.u8 (by omega)
 have e:octB.atZ l f 2=udpA.w16 l f:=by
  unfold octB.atZ
  rw [if_neg (by omega),show hs 2=2 from by decide,Int.toNat_natCast]
  show (0*256+l.getD (f+0) 0)*256+l.getD (f+1) 0=_
  unfold udpA.w16
  rw [Nat.add_zero,Int.zero_mul,Int.zero_add]
 rwa [e] at h9
theorem pb_word (C:Int) (c0:0≤C) (c9:C≤65535):pb C 2 2=wbytes [C]:=by
 rw [pb2]
 simp only [wbytes,List.cons.injEq,and_true]
 omega
theorem splice_word (xs:List Int) (p:Nat) (C:Int) (c0:0≤C) (c9:C≤65535) (h:p+2≤xs.length):splice xs p (pb C 2 2)=setw xs p C:=by
 have e:=splice_words [C] xs p (by simpa using h)
 rw [pb_word C c0 c9]
 unfold splice
 rw [← List.append_assoc,wbytes_len]
 exact e
theorem setw_setw (l:List Int) (p:Nat) (a b:Int):setw (setw l p a) p b=setw l p b:=by
 apply List.ext_getElem?
 intro i
 unfold setw
 simp only [List.getElem?_set,List.length_set]
 by_cases h1:p+1=i
 ·simp [h1]
 ·by_cases h2:p=i
  ·simp [h1,h2]
  ·simp [h1,h2]
theorem turn_go (g N p:Nat) (xs fs ts:List Int) (A:Option Addr) (n c:Nat) (A':Option Addr) (n' c':Nat) (w:World) (hK:Blk w g 5 (xs.map (Value.int .u8)).toArray) (hN:xs.length=N) (hN9:N≤1000) (hu:U8 xs) (hp:p+2≤N) (hp0:0<p) (hl:fs.length=ts.length) (hF:Wd w g A n c fs) (hT:Wd w g A' n' c' ts) (hn:n≤100) (hn':n'≤100) :
  Calls Try.prog 56 #[.slice (some ⟨g,0,none⟩) N N,.int .i64 p,.slice A n c,.slice A' n' c'] w fun o w'=>o=.returned (.tuple #[])∧Blk w' g 5 ((setw xs p (turns (udpA.w16 xs p) fs ts)).map (Value.int .u8)).toArray∧OnE g w w':=by
 have hw:=udpA.w16_in xs hu p
 obtain ⟨c0,c9,_⟩:=turns_cong fs ts (udpA.w16 xs p) hl hw.1 hw.2 hF.w16 hT.w16
 have HAT:=Lib.hid (at_w (some ⟨g,0,none⟩) N N p xs w (Sl_blk hK hN hu (by omega)) hN9 (by omega))
 have HWD:=Lib.hid (words_any (udpA.w16 xs p) A A' n n' c c' fs ts w w.heap.size hw.1 hw.2 hF.len hT.len (by omega) (by omega) hF.row hT.row hF.w16 hT.w16)
 have HSP:=Lib.hid (splice_word xs p (turns (udpA.w16 xs p) fs ts) c0 c9 (by omega))
 generalize turns (udpA.w16 xs p) fs ts=C at *
 generalize udpA.w16 xs p=q at *
 have wq:IntKind.u16.wrap q=q:=by rw [IntKind.wrap_u16]; omega
 have wC6:IntKind.u64.wrap C=C:=by rw [IntKind.wrap_u64]; omega
 have CB:=Lib.hid (show 0≤C∧C≤65535 from ⟨c0,c9⟩)
 have HM2:=Lib.hid (show 2=min 2 (N - p) from by omega)
 have HFT:=Lib.hid (show p+2≤xs.length from by omega)
 have K0:=Lib.hid hK
 have n8:¬ N=p:=by omega
 have j8:p≤N:=by omega
 have j8i:(p:Int)≤(N:Int):=by omega
 have jz:(0:Int)≤(p:Int):=by omega
 clear hw c0 c9 hK hN hN9 hu hp hp0 hl hF hT hn hn'
 go_enter Try.func56,Try.ntmps56
 go_wp2_with fail
 refine HAT.out.mono ?_
 rintro o w' ⟨rfl,rfl⟩
 go_wp2_with fail
 refine HWD.out.mono ?_
 rintro o w2 ⟨rfl,mm,hm2⟩
 have E2:=Lib.hid hm2
 have B2:=Lib.hid (show Below w.heap.size w w2 from by rw [hm2]; exact base.below_drewN (Below.refl _ _) mm)
 have K2:=Lib.hid (K0.out.below B2.out K0.out.lt)
 clear hm2
 go_upto_region 1 with fail
 have S0:=Lib.hid (show pktB.PS w2 w2.drew (.slice none 0 0) 0 [] from ⟨World.ownsRow_nil _ _ _ _,(Below.refl _ _).drew⟩)
 have HPT:=Lib.hid (S0.out.put C 2 (by omega) (by have:=CB.out; omega) (by have:=CB.out; omega))
 go_region_held3 (fun V=>Below w2.heap.size w2 V∨True) (first | with_reducible assumption | exact .inr trivial) (first | (go_at_call 55; (with_reducible refine HPT.out.mono ?_); rintro o w8 ⟨v8,rfl,hs8⟩; have hs8:pktB.PS w2 w8 v8 2 (pb C 2 2):=hs8; obtain ⟨A8,c8,rfl⟩:=own_slice hs8.own; have B68:=Lib.hid hs8.bel; have S8:=Lib.hid (show Sl w8 A8 2 c8 (pb C 2 2) from Sl.own hs8.own (by rw [pb_len]) (pktB.pb_u8 _ _ _)); have K8:=Lib.hid (K2.out.below B68.out K2.out.lt); obtain ⟨w9,hcp9,hb9,ho9⟩:=copy_run w8 g p (N - p) (N - p) xs (pb C 2 2) A8 2 c8 2 K8.out S8.out HM2.out (by decide) HFT.out; have K9:=Lib.hid hb9; have O9:=Lib.hid ho9; clear hb9 ho9 hs8))
 go_wp2_with fail
 have b9:=K9.out
 rw [List.take_of_length_le (Nat.le_of_eq (pb_len _ _ _)),HSP.out] at b9
 exact bodyPost_end (v:=.tuple #[]) (by simp [results,Try.results56,go_sem]) rfl ⟨rfl,b9,((OnE.below B2.out K0.out.lt).trans (OnE.below B68.out K2.out.lt)).trans (OnE.of O9.out)⟩
theorem udp_z (g N p:Nat) (xs fs ts:List Int) (A:Option Addr) (n c:Nat) (A':Option Addr) (n' c':Nat) (hq:udpA.w16 xs p=0) (w:World) (hK:Blk w g 5 (xs.map (Value.int .u8)).toArray) (hN:xs.length=N) (hN9:N≤1000) (hu:U8 xs) (hp:p+2≤N) (hp0:0<p) (hl:fs.length=ts.length) (hF:Wd w g A n c fs) (hT:Wd w g A' n' c' ts) (hn:n≤100) (hn':n'≤100) :
  Calls Try.prog 58 #[.slice (some ⟨g,0,none⟩) N N,.int .i64 p,.slice A n c,.slice A' n' c'] w fun o w'=>o=.returned (.tuple #[])∧Blk w' g 5 (xs.map (Value.int .u8)).toArray∧OnE g w w':=by
 have HAT:=Lib.hid (at_w (some ⟨g,0,none⟩) N N p xs w (Sl_blk hK hN hu (by omega)) hN9 (by omega))
 rw [hq] at HAT
 have K0:=Lib.hid hK
 clear hq hK hN hN9 hu hp hp0 hl hF hT hn hn'
 go_enter Try.func58,Try.ntmps58
 go_wp2_with fail
 refine HAT.out.mono ?_
 rintro o w' ⟨rfl,rfl⟩
 go_wp2_with fail
 refine bodyPost_ret (v:=.tuple #[]) (by simp [results,Try.results58,go_sem]) rfl ⟨rfl,K0.out,OnE.refl _ _⟩
theorem udp_n (g N p:Nat) (xs fs ts:List Int) (A:Option Addr) (n c:Nat) (A':Option Addr) (n' c':Nat) (hq:udpA.w16 xs p≠0) (hC:turns (udpA.w16 xs p) fs ts≠0) (w:World) (hK:Blk w g 5 (xs.map (Value.int .u8)).toArray) (hN:xs.length=N) (hN9:N≤1000) (hu:U8 xs) (hp:p+2≤N) (hp0:0<p) (hl:fs.length=ts.length) (hF:Wd w g A n c fs) (hT:Wd w g A' n' c' ts) (hn:n≤100) (hn':n'≤100) :
  Calls Try.prog 58 #[.slice (some ⟨g,0,none⟩) N N,.int .i64 p,.slice A n c,.slice A' n' c'] w fun o w'=>o=.returned (.tuple #[])∧Blk w' g 5 ((setw xs p (turns (udpA.w16 xs p) fs ts)).map (Value.int .u8)).toArray∧OnE g w w':=by
 have HAT:=Lib.hid (at_w (some ⟨g,0,none⟩) N N p xs w (Sl_blk hK hN hu (by omega)) hN9 (by omega))
 have hw:=udpA.w16_in xs hu p
 obtain ⟨c0,c9,_⟩:=turns_cong fs ts (udpA.w16 xs p) hl hw.1 hw.2 hF.w16 hT.w16
 have HTN:=Lib.hid (turn_go g N p xs fs ts A n c A' n' c' w hK hN hN9 hu hp hp0 hl hF hT hn hn')
 have HA2:=Lib.hid (show ∀ V,Blk V g 5 ((setw xs p (turns (udpA.w16 xs p) fs ts)).map (Value.int .u8)).toArray→Calls Try.prog 43 #[.slice (some ⟨g,0,none⟩) N N,.int .i64 p,.int .i64 2] V fun e w'=>e=.returned (.int .u64 (turns (udpA.w16 xs p) fs ts))∧V=w' from fun V hV=>by
  have h9:=at_w (some ⟨g,0,none⟩) N N p _ V (Sl_blk hV (by rw [setw_len]; exact hN) (setw_u8 hu p _ c0 c9) (by omega)) hN9 (by omega)
  rw [w16_setw _ _ _ (by omega)] at h9
  exact h9)
 have tq:(udpA.w16 xs p == 0)=false:=by simpa using hq
 generalize udpA.w16 xs p=q at *
 have tC:(turns q fs ts == 0)=false:=by simpa using hC
 generalize turns q fs ts=C at *
 have HM2:=Lib.hid (show 2=min 2 (N - p) from by omega)
 have n8:¬ N=p:=by omega
 have j8:p≤N:=by omega
 have j8i:(p:Int)≤(N:Int):=by omega
 have jz:(0:Int)≤(p:Int):=by omega
 have GLT:=Lib.hid hK.lt
 clear hw c0 c9 hK hN hN9 hu hp hp0 hl hF hT hn hn' hq hC
 go_enter Try.func58,Try.ntmps58
 go_wp2_with fail
 refine HAT.out.mono ?_
 rintro o w' ⟨rfl,rfl⟩
 go_wp2_with fail
 refine HTN.out.mono ?_
 rintro o w2 ⟨rfl,hk2,ho2⟩
 have K2:=Lib.hid hk2
 have O2:=Lib.hid ho2
 clear hk2 ho2
 go_wp2_with fail
 refine (HA2.out _ K2.out).mono ?_
 rintro o w' ⟨rfl,rfl⟩
 go_wp2_with fail
 exact bodyPost_end (v:=.tuple #[]) (by simp [results,Try.results58,go_sem]) rfl ⟨rfl,K2.out,O2.out⟩
theorem udp_m (g N p:Nat) (xs fs ts:List Int) (A:Option Addr) (n c:Nat) (A':Option Addr) (n' c':Nat) (hq:udpA.w16 xs p≠0) (hC:turns (udpA.w16 xs p) fs ts=0) (w:World) (hK:Blk w g 5 (xs.map (Value.int .u8)).toArray) (hN:xs.length=N) (hN9:N≤1000) (hu:U8 xs) (hp:p+2≤N) (hp0:0<p) (hl:fs.length=ts.length) (hF:Wd w g A n c fs) (hT:Wd w g A' n' c' ts) (hn:n≤100) (hn':n'≤100) :
  Calls Try.prog 58 #[.slice (some ⟨g,0,none⟩) N N,.int .i64 p,.slice A n c,.slice A' n' c'] w fun o w'=>o=.returned (.tuple #[])∧Blk w' g 5 ((setw xs p 65535).map (Value.int .u8)).toArray∧OnE g w w':=by
 have HAT:=Lib.hid (at_w (some ⟨g,0,none⟩) N N p xs w (Sl_blk hK hN hu (by omega)) hN9 (by omega))
 have hw:=udpA.w16_in xs hu p
 obtain ⟨c0,c9,_⟩:=turns_cong fs ts (udpA.w16 xs p) hl hw.1 hw.2 hF.w16 hT.w16
 have HTN:=Lib.hid (turn_go g N p xs fs ts A n c A' n' c' w hK hN hN9 hu hp hp0 hl hF hT hn hn')
 have HA2:=Lib.hid (show ∀ V,Blk V g 5 ((setw xs p (turns (udpA.w16 xs p) fs ts)).map (Value.int .u8)).toArray→Calls Try.prog 43 #[.slice (some ⟨g,0,none⟩) N N,.int .i64 p,.int .i64 2] V fun e w'=>e=.returned (.int .u64 (turns (udpA.w16 xs p) fs ts))∧V=w' from fun V hV=>by
  have h9:=at_w (some ⟨g,0,none⟩) N N p _ V (Sl_blk hV (by rw [setw_len]; exact hN) (setw_u8 hu p _ c0 c9) (by omega)) hN9 (by omega)
  rw [w16_setw _ _ _ (by omega)] at h9
  exact h9)
 have tq:(udpA.w16 xs p == 0)=false:=by simpa using hq
 have HSP:=Lib.hid (show splice (setw xs p (turns (udpA.w16 xs p) fs ts)) p (pb 65535 2 2)=setw xs p 65535 from by rw [splice_word _ p 65535 (by omega) (by omega) (by rw [setw_len]; omega),setw_setw])
 have HFT:=Lib.hid (show p+2≤(setw xs p (turns (udpA.w16 xs p) fs ts)).length from by rw [setw_len]; omega)
 rw [hC] at HSP HFT HTN HA2
 clear hC
 generalize udpA.w16 xs p=q at *
 have HM2:=Lib.hid (show 2=min 2 (N - p) from by omega)
 have n8:¬ N=p:=by omega
 have j8:p≤N:=by omega
 have j8i:(p:Int)≤(N:Int):=by omega
 have jz:(0:Int)≤(p:Int):=by omega
 have GLT:=Lib.hid hK.lt
 clear hw c0 c9 hK hN hN9 hu hp hp0 hl hF hT hn hn' hq 
 go_enter Try.func58,Try.ntmps58
 go_wp2_with fail
 refine HAT.out.mono ?_
 rintro o w' ⟨rfl,rfl⟩
 go_wp2_with fail
 refine HTN.out.mono ?_
 rintro o w2 ⟨rfl,hk2,ho2⟩
 have K2:=Lib.hid hk2
 have O2:=Lib.hid ho2
 clear hk2 ho2
 go_wp2_with fail
 refine (HA2.out _ K2.out).mono ?_
 rintro o w' ⟨rfl,rfl⟩
 have CB:=Lib.hid (show (0:Int)≤65535∧(65535:Int)≤65535 from by decide)
 go_upto_region 3 with fail
 have S0:=Lib.hid (show pktB.PS w2 w2.drew (.slice none 0 0) 0 [] from ⟨World.ownsRow_nil _ _ _ _,(Below.refl _ _).drew⟩)
 have HPT:=Lib.hid (S0.out.put 65535 2 (by omega) (by have:=CB.out; omega) (by have:=CB.out; omega))
 go_region_held3 (fun V=>Below w2.heap.size w2 V∨True) (first | with_reducible assumption | exact .inr trivial) (first | (go_at_call 55; (with_reducible refine HPT.out.mono ?_); rintro o w8 ⟨v8,rfl,hs8⟩; have hs8:pktB.PS w2 w8 v8 2 (pb 65535 2 2):=hs8; obtain ⟨A8,c8,rfl⟩:=own_slice hs8.own; have B68:=Lib.hid hs8.bel; have S8:=Lib.hid (show Sl w8 A8 2 c8 (pb 65535 2 2) from Sl.own hs8.own (by rw [pb_len]) (pktB.pb_u8 _ _ _)); have K8:=Lib.hid (K2.out.below B68.out K2.out.lt); obtain ⟨w9,hcp9,hb9,ho9⟩:=copy_run w8 g p (N - p) (N - p) (setw xs p 0) (pb 65535 2 2) A8 2 c8 2 K8.out S8.out HM2.out (by decide) HFT.out; have K9:=Lib.hid hb9; have O9:=Lib.hid ho9; clear hb9 ho9 hs8))
 go_wp2_with fail
 have b9:=K9.out
 rw [List.take_of_length_le (Nat.le_of_eq (pb_len _ _ _)),HSP.out] at b9
 exact bodyPost_end (v:=.tuple #[]) (by simp [results,Try.results58,go_sem]) rfl ⟨rfl,b9,(O2.out.trans (OnE.below B68.out K2.out.lt)).trans (OnE.of O9.out)⟩
theorem udp_go (g N p:Nat) (xs fs ts:List Int) (A:Option Addr) (n c:Nat) (A':Option Addr) (n' c':Nat) (w:World) (hK:Blk w g 5 (xs.map (Value.int .u8)).toArray) (hN:xs.length=N) (hN9:N≤1000) (hu:U8 xs) (hp:p+2≤N) (hp0:0<p) (hl:fs.length=ts.length) (hF:Wd w g A n c fs) (hT:Wd w g A' n' c' ts) (hn:n≤100) (hn':n'≤100) :
  Calls Try.prog 58 #[.slice (some ⟨g,0,none⟩) N N,.int .i64 p,.slice A n c,.slice A' n' c'] w fun o w'=>o=.returned (.tuple #[])∧Blk w' g 5 ((if udpA.w16 xs p=0 then xs else setw xs p (chk0 (turns (udpA.w16 xs p) fs ts))).map (Value.int .u8)).toArray∧OnE g w w':=by
 by_cases hq:udpA.w16 xs p=0
 ·rw [if_pos hq]
  exact udp_z g N p xs fs ts A n c A' n' c' hq w hK hN hN9 hu hp hp0 hl hF hT hn hn'
 ·rw [if_neg hq]
  unfold chk0
  by_cases hC:turns (udpA.w16 xs p) fs ts=0
  ·rw [if_pos hC]
   exact udp_m g N p xs fs ts A n c A' n' c' hq hC w hK hN hN9 hu hp hp0 hl hF hT hn hn'
  ·rw [if_neg hC]
   exact udp_n g N p xs fs ts A n c A' n' c' hq hC w hK hN hN9 hu hp hp0 hl hF hT hn hn'
end Go.Proofs.Ytodckfgfbcnkoaa.natA
/- Layer 15: bytes of a packet with another side, parsed again: plain words. -/
namespace Go.Proofs.Ytodckfgfbcnkoaa.natZ
set_option maxHeartbeats 2000000
open base octA sumA sumB sumD sumE sixW sixM pktA pktB pktC pktE sixF pktG tunV natW natX natY
def plc (v:Bool) (s:Nat):Nat:=if v then 8+16*s else 12+4*s
def natX (l:List Int) (N S:Nat) (v:Bool) (s:Nat) (fs ts:List Int) (port:Int):List Int :=
 if v then setw (setws (l.take N) (plc v s) ts) (S+2*s) port else setw (setw (setws (l.take N) (plc v s) ts) (S+2*s) port) 10 (turns (udpA.w16 l 10) fs ts)
def natO (l:List Int) (N S:Nat) (v:Bool) (s:Nat) (pr:Int) (fs ts:List Int) (wp port:Int):List Int:=L4 (natX l N S v s fs ts port) S pr (fs++[wp]) (ts++[port])
theorem L4_u8 {X:List Int} (hX:U8 X) (S:Nat) (pr:Int) (fs ts:List Int) (hl:fs.length=ts.length) (hf:W16 fs) (ht:W16 ts):U8 (L4 X S pr fs ts):=by
 have key:∀ c,0≤c∧c≤65535→0≤chk0 c∧chk0 c≤65535:=fun c h=>by unfold chk0; split <;> omega
 unfold L4
 split
 ·have w:=udpA.w16_in X hX (S+16)
  obtain ⟨a,b,_⟩:=turns_cong fs ts _ hl w.1 w.2 hf ht
  exact setw_u8 hX _ _ a b
 ·split
  ·exact hX
  ·have w:=udpA.w16_in X hX (S+6)
   obtain ⟨a,b,_⟩:=turns_cong fs ts _ hl w.1 w.2 hf ht
   obtain ⟨c,d⟩:=key _ ⟨a,b⟩
   exact setw_u8 hX _ _ c d
theorem p4_inv {l:List Int} {P:Pk} (h:p4 l=(P,0)):fourE l=0∧¬ (udpA.w16 l 6 % 8192≠0∨decide (udpA.w16 l 6 / 8192 % 2=1)=true)∧withP false ⟨l.getD 9 0,false,0,tcpC.w32 l 12,false,0,tcpC.w32 l 16,0,0⟩ (l.getD 8 0) (20+((fourS l - 20:Nat):Int)+((fourR l).length:Int)) (fourR l)=(P,0):=by
 unfold p4 at h
 split at h
 ·rename_i k
  injection h with _ h
  exact absurd h k
 ·rename_i k
  split at h
  ·injection h with _ h
   cases h
  ·rename_i k2
   exact ⟨Classical.byContradiction k,k2,h⟩
theorem w32_words (l:List Int) (hu:U8 l) (p:Nat) (h:Int):aw false h (tcpC.w32 l p)=wat l p 2:=by
 have a:=udpA.w16_in l hu p
 have b:=udpA.w16_in l hu (p+2)
 show words (udpA.w16 l p*65536+udpA.w16 l (p+2)) 2 2=[udpA.w16 l p,udpA.w16 l (p+2)]
 rw [words2]
 simp only [List.cons.injEq,and_true]
 omega
theorem w32_of {l:List Int} {p:Nat} {h n:Int} (n0:0≤n) (n9:n<4294967296) (e:wat l p 2=aw false h n):tcpC.w32 l p=n:=by
 have e1:[udpA.w16 l p,udpA.w16 l (p+2)]=[n / 65536 % 65536,n / 1 % 65536]:=e
 simp only [List.cons.injEq,and_true] at e1
 show udpA.w16 l p*65536+udpA.w16 l (p+2)=n
 omega
theorem wat_take (l:List Int) (n p k:Nat) (h:p+2*k≤n):wat (l.take n) p k=wat l p k:=wat_eq k p fun i a b=>fourB.getD_take l n i (by omega)
theorem nat4 (l:List Int) (hu:U8 l) (hn:l.length≤1000) (h4:l.getD 0 0 / 16=4) (P:Pk) (hP:pkP l=(P,0)) (her:P.er=false) (s:Nat) (hs:s≤1) (tl port:Int) (t0:0≤tl) (t9:tl<4294967296) (p0:0≤port) (p9:port≤65535)
  (out:List Int) (ho:out=natO l (udpA.w16 l 2).toNat (fourS l) false s P.t.pr (aw false (sdH P.t s) (sdL P.t s)) (aw false 0 tl) (sdP P.t s) port) :
  pkP out=({ P with t:=turnT P.t s 0 tl port },0)∧out.length=(udpA.w16 l 2).toNat∧U8 out:=by
 have hP4:p4 l=(P,0):=by
  rw [← hP]
  have hl0:¬ l.length=0:=fun k=>by
   rw [List.length_eq_zero_iff.mp k] at h4
   exact absurd h4 (by decide)
  unfold pkP
  rw [if_neg hl0,if_neg (show ¬ 9000<l.length by omega),if_pos h4]
 obtain ⟨hE,hF,hW⟩:=p4_inv hP4
 obtain ⟨_,s20,s60,es,ew,sw,wl,sr,hf,hfo⟩:=four_sizes l hu hE
 obtain ⟨N,hN⟩:∃ N,N=(udpA.w16 l 2).toNat:=⟨_,rfl⟩
 obtain ⟨S,hS⟩:∃ S,S=fourS l:=⟨_,rfl⟩
 obtain ⟨R,hR⟩:∃ R,R=fourR l:=⟨_,rfl⟩
 rw [← hN] at ew sw wl sr ho ⊢
 rw [← hS] at s20 s60 es sw sr hfo hW ho
 rw [← hR] at sr hW
 have eR:(l.take N).drop S=R:=by rw [hR]; unfold fourR; rw [← hS,← hN,List.drop_take]
 have hRu:U8 R:=by rw [← eR]; exact (hu.take N).drop S
 have hRl:R.length≤1000:=by omega
 have hvt:(⟨l.getD 9 0,false,0,tcpC.w32 l 12,false,0,tcpC.w32 l 16,0,0⟩:Tp).s6=false:=rfl
 obtain ⟨hA,hpr⟩:=with_again false _ _ _ R P s 0 tl port hs hvt hRu hRl hW her p0 p9
 have hpr:l.getD 9 0=6∨l.getD 9 0=17:=hpr
 have hPt:P.t=⟨l.getD 9 0,false,0,tcpC.w32 l 12,false,0,tcpC.w32 l 16,udpA.w16 R 0,udpA.w16 R 2⟩∧8≤R.length∧(l.getD 9 0=6→20≤R.length):=by
  rcases with_inv hW her with ⟨k,hE,hPe⟩ | ⟨k,hE,hPe⟩
  ·have k:l.getD 9 0=6:=k
   have h20:20≤R.length:=by
    unfold tcpE at hE
    split at hE
    ·omega
    ·omega
   exact ⟨by rw [hPe],by omega,fun _=>h20⟩
  ·have k:l.getD 9 0=17:=k
   have h8:8≤R.length:=by
    unfold udpE_ at hE
    split at hE
    ·omega
    ·omega
   exact ⟨by rw [hPe],h8,fun e=>by omega⟩
 obtain ⟨hPt,h8,h20⟩:=hPt
 have hfs:aw false (sdH P.t s) (sdL P.t s)=wat l (plc false s) 2:=by
  rw [hPt]
  rcases Nat.lt_or_ge s 1 with k | k
  ·obtain rfl:s=0:=by omega
   exact w32_words l hu 12 _
  ·obtain rfl:s=1:=by omega
   exact w32_words l hu 16 _
 have hfs2:aw false (sdH (⟨l.getD 9 0,false,0,tcpC.w32 l 12,false,0,tcpC.w32 l 16,0,0⟩:Tp) s) (sdL (⟨l.getD 9 0,false,0,tcpC.w32 l 12,false,0,tcpC.w32 l 16,0,0⟩:Tp) s)=wat l (plc false s) 2:=by
  rw [← hfs,hPt]
  rcases Nat.lt_or_ge s 1 with k | k
  ·obtain rfl:s=0:=by omega
   rfl
  ·obtain rfl:s=1:=by omega
   rfl
 have hwp:sdP P.t s=udpA.w16 R (2*s):=by
  rw [hPt]
  rcases Nat.lt_or_ge s 1 with k | k
  ·obtain rfl:s=0:=by omega
   rfl
  ·obtain rfl:s=1:=by omega
   rfl
 have hpp:P.t.pr=l.getD 9 0:=by rw [hPt]
 obtain ⟨fs,hfse⟩:∃ fs,fs=wat l (plc false s) 2:=⟨_,rfl⟩
 obtain ⟨ts,hts⟩:∃ ts,ts=aw false 0 tl:=⟨_,rfl⟩
 have fW:W16 fs:=by rw [hfse]; exact wat_w16 hu _ _
 have tW:W16 ts:=by rw [hts]; exact aw_in _ _ _
 have fl:fs.length=2:=by rw [hfse,wat_len]
 have tl2:ts.length=2:=by rw [hts,aw_len]; rfl
 rw [hfs2,← hfse,← hts] at hA
 rw [hfs,← hfse,← hts,hwp,hpp] at ho
 have hp12:plc false s=12+4*s:=rfl
 have hL:(l.take N).length=N:=by rw [List.length_take]; omega
 have w10:=udpA.w16_in l hu 10
 obtain ⟨c0,c9,cm⟩:=turns_cong fs ts (udpA.w16 l 10) (by omega) w10.1 w10.2 fW tW
 obtain ⟨C,hC⟩:∃ C,C=turns (udpA.w16 l 10) fs ts:=⟨_,rfl⟩
 rw [← hC] at c0 c9 cm
 obtain ⟨X,hX⟩:∃ X,X=natX l N S false s fs ts port:=⟨_,rfl⟩
 have eX:X=setw (setw (setws (l.take N) (plc false s) ts) (S+2*s) port) 10 C:=by rw [hX,hC]; rfl
 have ho:out=L4 X S (l.getD 9 0) (fs++[udpA.w16 R (2*s)]) (ts++[port]):=by rw [ho,hX]; rfl
 have Xl:X.length=N:=by rw [eX,setw_len,setw_len,setws_len,hL]
 have Xu:U8 X:=by rw [eX]; exact setw_u8 (setw_u8 (setws_u8 _ _ (hu.take N) tW) _ _ p0 p9) _ _ c0 c9
 have hol:out.length=N:=by rw [ho,L4_len,Xl]
 have w2s:=udpA.w16_in R hRu (2*s)
 have hou:U8 out:=by rw [ho]; exact L4_u8 Xu _ _ _ _ (by rw [List.length_append,List.length_append,fl,tl2]; rfl) (w16_snoc fW w2s.1 w2s.2) (w16_snoc tW p0 p9)
 have Xd:X.drop S=portR R s port:=by
  rw [eX,setw_drop _ _ _ _ (by omega),setw_drop2,setws_drop _ _ _ _ (by omega),eR]
  rfl
 have od:out.drop S=if l.getD 9 0=6 then tcpR R fs ts s port else udpR R fs ts s port:=by rw [ho]; exact L4_drop R s port _ hs h8 h20 X S fs ts Xd
 have ot:out.take S=setw (setws (l.take S) (plc false s) ts) 10 C:=by
  have hSl:(l.take S).length=S:=by rw [List.length_take]; omega
  rw [ho,L4_take,eX,setw_take,setw_take,setws_take,List.take_take,Nat.min_eq_left sw,setw_out (setws (l.take S) (plc false s) ts) (S+2*s) port (by rw [setws_len,hSl]; omega)]
 have hSl:(l.take S).length=S:=by rw [List.length_take]; omega
 have l10:10+1<(setws (l.take S) (plc false s) ts).length:=by rw [setws_len,hSl]; omega
 have g:∀ i,i<10→out.getD i 0=l.getD i 0:=fun i hi=>by
  rw [← fourB.getD_take out S i (by omega),ot,setw_get _ _ _ _ l10,if_neg (by omega),if_neg (by omega),setws_get _ _ _ _ (by omega) (by omega),fourB.getD_take l S i (by omega)]
 have g16:∀ i,i+1<10→udpA.w16 out i=udpA.w16 l i:=fun i hi=>by unfold udpA.w16; rw [g i (by omega),g (i+1) hi]
 have gw:∀ i,12≤i→i+1<S→udpA.w16 out i=udpA.w16 (setws (l.take S) (plc false s) ts) i:=fun i a b=>by
  rw [← fourB.w16_take out S i b,ot,w16_set _ _ _ _ l10 (by omega)]
 have g0:=g 0 (by omega)
 have ghl:fourA.hl out=fourA.hl l:=by unfold fourA.hl; rw [g0]
 have gS:fourS out=S:=by rw [hS]; unfold fourS; rw [ghl]
 have e2:=g16 2 (by omega)
 have e6:=g16 6 (by omega)
 have gR:fourR out=out.drop S:=by
  unfold fourR
  rw [gS,e2,← hN,List.take_of_length_le (by rw [List.length_drop]; omega)]
 have hsum:fo (wsum (out.take S))=65535:=by
  have q10:udpA.w16 (setws (l.take S) (plc false s) ts) 10=udpA.w16 l 10:=by
   rw [setws_w16 _ _ _ _ (by omega) (by omega),fourB.w16_take l S 10 (by omega)]
  have hk:plc false s=2*(6+2*s):=by omega
  have ws:wsum (out.take S)=wsum (l.take S) - fs.sum+ts.sum - udpA.w16 l 10+C:=by
   rw [ot,show (10:Nat)=2*5 from rfl,wsum_setw _ 5 _ l10,show 2*5=10 from rfl,q10,hk,wsum_setws _ _ _ (by omega),← hk,tl2,wat_take l S _ _ (by omega),← hfse]
  have wlow:=wsum_low (out.take S) (hou.take _) (by rw [List.length_take]; omega)
  rw [fourB.getD_take _ _ _ (by omega),g0] at wlow
  have wn:=(wsum_bd (l.take S) (hu.take _)).1
  have wm:=full_is wn hfo
  exact full_of (by omega) (by omega)
 have hE':fourE out=0:=by
  unfold fourE
  rw [if_neg (by omega),g0,if_neg (by omega),ghl,if_neg (by omega),e6,if_neg (by omega),e2,if_neg (by omega)]
  rw [show (fourA.hl l).toNat=S by omega,hsum]
  rfl
 have eT:(⟨out.getD 9 0,false,0,tcpC.w32 out 12,false,0,tcpC.w32 out 16,0,0⟩:Tp)=wsT ⟨l.getD 9 0,false,0,tcpC.w32 l 12,false,0,tcpC.w32 l 16,0,0⟩ s 0 tl:=by
  have hw:∀ p,12≤p→p+4≤20→wat out p 2=wat (setws (l.take S) (plc false s) ts) p 2:=fun p a b=>by
   show [udpA.w16 out p,udpA.w16 out (p+2)]=[_,_]
   rw [gw p a (by omega),gw (p+2) (by omega) (by omega)]
  have hme:wat out (plc false s) 2=aw false 0 tl:=by
   rw [hw _ (by omega) (by omega),← tl2,wat_setws _ _ _ (by omega),hts]
  have hm:=w32_of t0 t9 hme
  rw [g 9 (by omega)]
  rcases Nat.lt_or_ge s 1 with k | k
  ·obtain rfl:s=0:=by omega
   have hx:tcpC.w32 out 16=tcpC.w32 l 16:=by
    unfold tcpC.w32
    rw [gw 16 (by omega) (by omega),gw (16+2) (by omega) (by omega),setws_w16 _ _ _ _ (by omega) (by omega),setws_w16 _ _ _ _ (by omega) (by omega),fourB.w16_take l S 16 (by omega),fourB.w16_take l S (16+2) (by omega)]
   have hm:tcpC.w32 out 12=tl:=hm
   rw [hm,hx]
   rfl
  ·obtain rfl:s=1:=by omega
   have hx:tcpC.w32 out 12=tcpC.w32 l 12:=by
    unfold tcpC.w32
    rw [gw 12 (by omega) (by omega),gw (12+2) (by omega) (by omega),setws_w16 _ _ _ _ (by omega) (by omega),setws_w16 _ _ _ _ (by omega) (by omega),fourB.w16_take l S 12 (by omega),fourB.w16_take l S (12+2) (by omega)]
   have hm:tcpC.w32 out 16=tl:=hm
   rw [hm,hx]
   rfl
 refine ⟨?_,hol,hou⟩
 unfold pkP
 rw [if_neg (by omega),if_neg (by omega),g0,if_pos h4]
 unfold p4
 rw [if_neg (by omega),e6,if_neg hF,eT,g 8 (by omega),gS,gR,show (out.drop S).length=R.length from by rw [List.length_drop]; omega,od]
 exact hA
end Go.Proofs.Ytodckfgfbcnkoaa.natZ
/- Layer 15: an address's words, a side, a place, how long headers are. -/
namespace Go.Proofs.Ytodckfgfbcnkoaa.natB
set_option maxHeartbeats 4000000
set_option maxRecDepth 100000
open base octA rdrA rdrG sumB sixM pktA pktB pktC pktE sixE  tunB natW natZ sumE natA
theorem step_append_own {P:Program} {w:World} {ops:Array Oper} {o:Oper} {a:Act} {K:Act→World→Prop} {Q:Exit→Act→World→Prop} {E:Prop} (hgd:o.guard=none) (s x:Operand) (t:TypeId)
  (ho:o.op=.call { callee:=.builtin .append,args:=#[s,x],argTypes:=#[t,t] })
  (base:Nat) (e:TypeId) (i:TypeInfo) (z:Value) (size bytes:Nat) (ht:P.underlying t=some (.slice e)) (hi:P.info? e=some i) (hz:i.zero=some z)
  (hsize:i.size=size) (hby:i.bytes=bytes) (hzs:z.cells.size=size) (hsz:0<size)
  (v:Value) (n:Nat) (xs:List Value) (hs:a.eval s=v) (hown:w.ownsRow base e size v n xs)
  (ad:Addr) (m c:Nat) (news:List Value) (hx:a.eval x=.slice (some ad) m c) (hl:news.length=m*size) (hnews:∀ j u,news[j]?=some u→w.cell? (ad.add j)=some u) (h1:∀ u ∈ news,u.oneCell'=true)
  (h63:n+m≤maxLen) (hbytes:(n+m)*bytes≤140737488355328) (hbase:base≤w.heap.size)
  (h:∀ v' w',w'.ownsRow base e size v' (n+m) (xs++news)→w.grownBy w' v.ownBlock→(v'=.slice none 0 0 ↔ v=.slice none 0 0∧m=0)→K (a.put o.dst v') w') :
  if Region.wanted o (yielded ops a.tmps)=true then Oper.wp P o a w K Q else E:=by
 have hw:Region.wanted o (yielded ops a.tmps)=true:=by simp [Region.wanted,hgd]
 rw [if_pos hw]
 exact wp_append_own w s x t ho base e i z size bytes ht hi hz hsize hby hzs hsz v n xs hs hown ad m c news hx hl hnews h1 h63 hbytes hbase h
theorem words4 (h l:Int) (w:World) (l0:0≤l∧l<18446744073709551616) :
  Calls Try.prog 51 #[.agg #[.bool false,.int .u64 h,.int .u64 l]] w fun o w'=>∃ v,o=.returned v∧w'.ownsRow w.heap.size 97 1 v 2 ((aw false h l).map (.int .u16))∧Below w.heap.size w w':=by
 obtain ⟨w1,hw1⟩:∃ w1,w1=w.alloc (.cells #[.bool false,.int .u64 h,.int .u64 l] 32):=⟨_,rfl⟩
 obtain ⟨g,hg⟩:∃ g,g=w.heap.size:=⟨_,rfl⟩
 have E1:=Lib.hid hw1
 have EG:=Lib.hid hg
 have B1:=Lib.hid (show Below w.heap.size w w1 from by rw [hw1]; exact (Below.refl _ _).alloc (Nat.le_refl _) _)
 have K1:=Lib.hid (show Blk w1 g 32 #[.bool false,.int .u64 h,.int .u64 l] from by rw [hw1,hg]; exact Blk.new w _ _)
 have x0:=K1.out.cell 0
 have x1:=K1.out.cell 1
 have x2:=K1.out.cell 2
 have HSP:=Lib.hid (split_any l 2 l0.1 l0.2 w1)
 clear hw1 hg
 go_enter Try.func51,Try.ntmps51
 go_upto_region 1 with fail
 rw [← E1.out,← EG.out]
 go_wp2_with fail
 refine HSP.out.mono ?_
 rintro o w2 ⟨v,rfl,ho,hb⟩
 obtain ⟨A,c,rfl⟩:=own_slice ho
 have HO:=Lib.hid (own_base ho B1.out.size)
 have B2:=Lib.hid (B1.out.trans (hb.mono B1.out.size))
 clear ho hb
 go_wp2_with fail
 go_ret
 exact ⟨_,rfl,HO.out,B2.out⟩
theorem words6 (h l:Int) (w:World) (h0:0≤h∧h<18446744073709551616) (l0:0≤l∧l<18446744073709551616) :
  Calls Try.prog 51 #[.agg #[.bool true,.int .u64 h,.int .u64 l]] w fun o w'=>∃ v,o=.returned v∧w'.ownsRow w.heap.size 97 1 v 8 ((aw true h l).map (.int .u16))∧Below w.heap.size w w':=by
 obtain ⟨w1,hw1⟩:∃ w1,w1=w.alloc (.cells #[.bool true,.int .u64 h,.int .u64 l] 32):=⟨_,rfl⟩
 obtain ⟨g,hg⟩:∃ g,g=w.heap.size:=⟨_,rfl⟩
 have E1:=Lib.hid hw1
 have EG:=Lib.hid hg
 have B1:=Lib.hid (show Below w.heap.size w w1 from by rw [hw1]; exact (Below.refl _ _).alloc (Nat.le_refl _) _)
 have K1:=Lib.hid (show Blk w1 g 32 #[.bool true,.int .u64 h,.int .u64 l] from by rw [hw1,hg]; exact Blk.new w _ _)
 have x0:=K1.out.cell 0
 have HSF:=Lib.hid (show ∀ V,Below w1.heap.size w1 V→(V.cell? ⟨g,1,none⟩=some (.int .u64 h)∧V.cell? ⟨g,2,none⟩=some (.int .u64 l)) from fun V hV=>⟨(K1.out.below hV K1.out.lt).cell 1,(K1.out.below hV K1.out.lt).cell 2⟩)
 have HS0:=Lib.hid (HSF.out w1.drew (Below.refl _ _).drew)
 have HSP:=Lib.hid (split_any h 4 h0.1 h0.2 w1.drew)
 have HSQ:=Lib.hid (fun V=>split_any l 4 l0.1 l0.2 V)
 obtain ⟨i0,hi0,hz0,hz1,hz2⟩:=info_parts sumE.info_u16
 have HI0:=Lib.hid hi0
 have HZ0:=Lib.hid hz0
 have HZ1:=Lib.hid hz1
 have HZ2:=Lib.hid hz2
 have ONW:=Lib.hid (show ∀ u ∈ (words l 4 4).map (Value.int .u16),u.oneCell'=true from fun u hu=>by
  rw [List.mem_map] at hu
  obtain ⟨x,_,rfl⟩:=hu
  rfl)
 clear hw1 hg h0 l0 hi0 hz0 hz1 hz2
 go_enter Try.func51,Try.ntmps51
 go_upto_region 1 with fail
 rw [← E1.out,← EG.out]
 go_upto_region 2 with fail
 clear x0
 go_region_held3 (fun V=>V.cell? ⟨g,1,none⟩=some (.int .u64 h)∧V.cell? ⟨g,2,none⟩=some (.int .u64 l)) (first | with_reducible assumption | with_reducible exact HS0.out | with_reducible exact HS4.out | with_reducible exact HS3.out | with_reducible exact HS2.out) (first
  | (go_at_call 57; (with_reducible refine HSP.out.mono ?_); rintro o w2 ⟨v2,rfl,ho2,hb2⟩; obtain ⟨A2,c2,rfl⟩:=own_slice ho2; have B2:=Lib.hid ((Below.refl w1.heap.size w1).drew.trans (hb2.mono (Nat.le_refl _))); have O2:=Lib.hid (show w2.ownsRow w1.heap.size 97 1 (.slice A2 4 c2) 4 ((words h 4 4).map (.int .u16)) from ho2); have HS2:=Lib.hid (HSF.out w2 B2.out); clear ho2 hb2)
  | (go_at_call 57; (with_reducible refine (HSQ.out _).mono ?_); rintro o w3 ⟨v3,rfl,ho3,hb3⟩; obtain ⟨A3,c3,rfl⟩:=own_slice ho3; have B3:=Lib.hid (B2.out.trans (hb3.mono B2.out.size)); have HS3:=Lib.hid (HSF.out w3 B3.out); have O3:=Lib.hid (own_below2 O2.out hb3); obtain ⟨b3,of3,rfl,_,hc3⟩:=(own_row (show w3.ownsRow w2.heap.size 97 1 (.slice A3 4 c3) 4 ((words l 4 4).map (.int .u16)) from ho3)).at_ (fun h=>by cases h); have HC3:=Lib.hid (show ∀ j u,((words l 4 4).map (Value.int .u16))[j]?=some u→w3.cell? ((⟨b3,of3,none⟩:Addr).add j)=some u from fun j u hu=>by rw [Addr.add_lit]; exact hc3 j u hu); clear ho3 hb3 hc3)
  | (refine step_append_own rfl (.tmp 7) (.tmp 10) 82 rfl w1.heap.size 97 i0 _ 1 2 Try.underlying82 HI0.out HZ0.out HZ1.out HZ2.out rfl (by omega) (.slice A2 4 c2) 4 _ rfl O3.out ⟨b3,of3,none⟩ 4 c3 ((words l 4 4).map (.int .u16)) rfl rfl HC3.out ONW.out (by unfold maxLen; omega) (by omega) B3.out.size ?_; intro v4 w4 ho4 hg4 hx4; have O4:=Lib.hid ho4; have B4:=Lib.hid (below_grown B3.out O3.out (Nat.le_refl _) B3.out.size hg4); have HS4:=Lib.hid (HSF.out w4 B4.out); clear ho4 hg4 hx4))
 go_wp2_with fail
 go_ret
 exact ⟨_,rfl,own_base (show w4.ownsRow w1.heap.size 97 1 v4 8 ((aw true h l).map (.int .u16)) from O4.out) B1.out.size,B1.out.trans (B4.out.mono B1.out.size)⟩
theorem words_go (v6:Bool) (h l:Int) (w:World) (h0:0≤h∧h<18446744073709551616) (l0:0≤l∧l<18446744073709551616) :
  Calls Try.prog 51 #[.agg #[.bool v6,.int .u64 h,.int .u64 l]] w fun o w'=>∃ v,o=.returned v∧w'.ownsRow w.heap.size 97 1 v (aw v6 h l).length ((aw v6 h l).map (.int .u16))∧Below w.heap.size w w':=by
 cases v6 with
 | true=>exact words6 h l w h0 l0
 | false=>exact words4 h l w l0
theorem place_go (v6:Bool) (s:Nat) (w:World) (hs:s≤1):Calls Try.prog 53 #[.bool v6,.int .i64 s] w fun o w'=>o=.returned (.int .i64 (plc v6 s:Nat))∧w=w':=by
 have hs2:s=0∨s=1:=by omega
 cases v6 with
 | true =>
  rcases hs2 with rfl | rfl
  ·go_enter Try.func53,Try.ntmps53
   go_wp2
   go_ret
   exact ⟨rfl,rfl⟩
  ·go_enter Try.func53,Try.ntmps53
   go_wp2
   go_ret
   exact ⟨rfl,rfl⟩
 | false =>
  rcases hs2 with rfl | rfl
  ·go_enter Try.func53,Try.ntmps53
   go_wp2
   go_ret
   exact ⟨rfl,rfl⟩
  ·go_enter Try.func53,Try.ntmps53
   go_wp2
   go_ret
   exact ⟨rfl,rfl⟩
theorem results_side {fn:Func} {p u:Tmp} (h:fn.results=#[.cell p 32,.tmp u]) (tmps:Array Value) (w:World) (g:Nat) (cs:Array Value) (hp:tmps.getD p undef=.pointer (some ⟨g,0,none⟩)) (hg:Blk w g 32 cs) (hs:cs.size=3) :
  (results fn tmps).run Try.prog w=.ok (.tuple #[.agg cs,tmps.getD u undef]) w:=by
 rw [results_cell_tmp h,hp]
 simp only [asAddr,Sem.run_pure,Result.andThen_ok]
 rw [run_loadVar_row w g 32 32 cs (0,0) _ hg Try.underlying32 rfl (by rw [hs]; kernel_rfl)]
 rfl
theorem side_0 (pr:Int) (s6:Bool) (sh sl:Int) (d6:Bool) (dh dl sp dp:Int) (w:World) :
  Calls Try.prog 50 #[.agg #[.int .i64 pr,.bool s6,.int .u64 sh,.int .u64 sl,.bool d6,.int .u64 dh,.int .u64 dl,.int .i64 sp,.int .i64 dp],.int .i64 0] w fun o w'=>o=.returned (.tuple #[.agg #[.bool s6,.int .u64 sh,.int .u64 sl],.int .i64 sp])∧Below w.heap.size w w':=by
 obtain ⟨w0,hw0⟩:∃ w0,w0=w.alloc (.cells #[.int .i64 pr,.bool s6,.int .u64 sh,.int .u64 sl,.bool d6,.int .u64 dh,.int .u64 dl,.int .i64 sp,.int .i64 dp] 34):=⟨_,rfl⟩
 obtain ⟨w1,hw1⟩:∃ w1,w1=w0.alloc (.cells #[.bool false,.int .u64 0,.int .u64 0] 32):=⟨_,rfl⟩
 obtain ⟨g,hg⟩:∃ g,g=w.heap.size:=⟨_,rfl⟩
 obtain ⟨q,hq⟩:∃ q,q=g+1:=⟨_,rfl⟩
 have E0:=Lib.hid hw0
 have E1:=Lib.hid hw1
 have EG:=Lib.hid hg
 have EQ:=Lib.hid hq
 have B0:=Lib.hid (show Below w.heap.size w w0 from by rw [hw0]; exact (Below.refl _ _).alloc (Nat.le_refl _) _)
 have B01:=Lib.hid (show Below w0.heap.size w0 w1 from by rw [hw1]; exact (Below.refl _ _).alloc (Nat.le_refl _) _)
 have B1:=Lib.hid (B0.out.trans (B01.out.mono B0.out.size))
 have K0:=Lib.hid (show Blk w0 g 34 #[.int .i64 pr,.bool s6,.int .u64 sh,.int .u64 sl,.bool d6,.int .u64 dh,.int .u64 dl,.int .i64 sp,.int .i64 dp] from by rw [hw0,hg]; exact Blk.new w _ _)
 have KG:=Lib.hid (K0.out.below B01.out K0.out.lt)
 have KQ:=Lib.hid (show Blk w1 q 32 #[.bool false,.int .u64 0,.int .u64 0] from by
  have e9:q=w0.heap.size:=by rw [hq,hg,hw0]; simp
  rw [hw1,e9]; exact Blk.new w0 _ _)
 have NE:=Lib.hid (show g≠q from by omega)
 clear hw0 hw1 hg hq
 have HSF:=Lib.hid (show ∀ V,Blk V g 34 #[.int .i64 pr,.bool s6,.int .u64 sh,.int .u64 sl,.bool d6,.int .u64 dh,.int .u64 dl,.int .i64 sp,.int .i64 dp]→(V.cell? ⟨g,1,none⟩=some (.bool s6)∧V.cell? ⟨g,2,none⟩=some (.int .u64 sh)∧V.cell? ⟨g,3,none⟩=some (.int .u64 sl)∧V.cell? ⟨g,7,none⟩=some (.int .i64 sp)) from fun V h=>⟨h.cell 1,h.cell 2,h.cell 3,h.cell 7⟩)
 have HS0:=Lib.hid (HSF.out w1.drew KG.out)
 have KGa:=Lib.hid (afar w1 q g (.bool s6) (.int .u64 sh) (.int .u64 sl) _ _ NE.out KG.out)
 have HSa:=Lib.hid (HSF.out (((w1.setCell ⟨q,0,none⟩ (.bool s6)).setCell ⟨q,1,none⟩ (.int .u64 sh)).setCell ⟨q,2,none⟩ (.int .u64 sl)).drew KGa.out)
 have KQa:=Lib.hid (astore w1 q (.bool s6) (.int .u64 sh) (.int .u64 sl) _ _ _ KQ.out)
 have OQ:=Lib.hid ((aonly w1 q (.bool s6) (.int .u64 sh) (.int .u64 sl)).from B1.out (by have:=EG.out; have:=EQ.out; omega))
 have y0:=KQ.out.cell 0
 have f0:=KQ.out.frozen 0
 have y1:=KQ.out.cell 1
 have f1:=KQ.out.frozen 1
 have y2:=KQ.out.cell 2
 have f2:=KQ.out.frozen 2
 go_enter Try.func50,Try.ntmps50
 go_upto_region 1 with fail
 rw [← E0.out,← EG.out,← EQ.out,← E1.out]
 go_upto_region 2 with fail
 go_region_held3 (fun V=>V.cell? ⟨g,1,none⟩=some (.bool s6)∧V.cell? ⟨g,2,none⟩=some (.int .u64 sh)∧V.cell? ⟨g,3,none⟩=some (.int .u64 sl)∧V.cell? ⟨g,7,none⟩=some (.int .i64 sp)) (first | with_reducible assumption | with_reducible exact HS0.out | with_reducible exact HSa.out) (first | fail)
 go_wp2_with fail
 refine bodyPost_ret (results_side rfl _ _ q #[.bool s6,.int .u64 sh,.int .u64 sl] rfl (show Blk (((w1.setCell ⟨q,0,none⟩ (.bool s6)).setCell ⟨q,1,none⟩ (.int .u64 sh)).setCell ⟨q,2,none⟩ (.int .u64 sl)).drew q 32 #[.bool s6,.int .u64 sh,.int .u64 sl] from KQa.out) rfl) rfl ?_
 exact ⟨rfl,OQ.out.drew⟩
theorem side_1 (pr:Int) (s6:Bool) (sh sl:Int) (d6:Bool) (dh dl sp dp:Int) (w:World) :
  Calls Try.prog 50 #[.agg #[.int .i64 pr,.bool s6,.int .u64 sh,.int .u64 sl,.bool d6,.int .u64 dh,.int .u64 dl,.int .i64 sp,.int .i64 dp],.int .i64 1] w fun o w'=>o=.returned (.tuple #[.agg #[.bool d6,.int .u64 dh,.int .u64 dl],.int .i64 dp])∧Below w.heap.size w w':=by
 obtain ⟨w0,hw0⟩:∃ w0,w0=w.alloc (.cells #[.int .i64 pr,.bool s6,.int .u64 sh,.int .u64 sl,.bool d6,.int .u64 dh,.int .u64 dl,.int .i64 sp,.int .i64 dp] 34):=⟨_,rfl⟩
 obtain ⟨w1,hw1⟩:∃ w1,w1=w0.alloc (.cells #[.bool false,.int .u64 0,.int .u64 0] 32):=⟨_,rfl⟩
 obtain ⟨g,hg⟩:∃ g,g=w.heap.size:=⟨_,rfl⟩
 obtain ⟨q,hq⟩:∃ q,q=g+1:=⟨_,rfl⟩
 have E0:=Lib.hid hw0
 have E1:=Lib.hid hw1
 have EG:=Lib.hid hg
 have EQ:=Lib.hid hq
 have B0:=Lib.hid (show Below w.heap.size w w0 from by rw [hw0]; exact (Below.refl _ _).alloc (Nat.le_refl _) _)
 have B01:=Lib.hid (show Below w0.heap.size w0 w1 from by rw [hw1]; exact (Below.refl _ _).alloc (Nat.le_refl _) _)
 have B1:=Lib.hid (B0.out.trans (B01.out.mono B0.out.size))
 have K0:=Lib.hid (show Blk w0 g 34 #[.int .i64 pr,.bool s6,.int .u64 sh,.int .u64 sl,.bool d6,.int .u64 dh,.int .u64 dl,.int .i64 sp,.int .i64 dp] from by rw [hw0,hg]; exact Blk.new w _ _)
 have KG:=Lib.hid (K0.out.below B01.out K0.out.lt)
 have KQ:=Lib.hid (show Blk w1 q 32 #[.bool false,.int .u64 0,.int .u64 0] from by
  have e9:q=w0.heap.size:=by rw [hq,hg,hw0]; simp
  rw [hw1,e9]; exact Blk.new w0 _ _)
 have NE:=Lib.hid (show g≠q from by omega)
 clear hw0 hw1 hg hq
 have HSF:=Lib.hid (show ∀ V,Blk V g 34 #[.int .i64 pr,.bool s6,.int .u64 sh,.int .u64 sl,.bool d6,.int .u64 dh,.int .u64 dl,.int .i64 sp,.int .i64 dp]→(V.cell? ⟨g,4,none⟩=some (.bool d6)∧V.cell? ⟨g,5,none⟩=some (.int .u64 dh)∧V.cell? ⟨g,6,none⟩=some (.int .u64 dl)∧V.cell? ⟨g,8,none⟩=some (.int .i64 dp)) from fun V h=>⟨h.cell 4,h.cell 5,h.cell 6,h.cell 8⟩)
 have HS0:=Lib.hid (HSF.out w1.drew KG.out)
 have KGa:=Lib.hid (afar w1 q g (.bool d6) (.int .u64 dh) (.int .u64 dl) _ _ NE.out KG.out)
 have HSa:=Lib.hid (HSF.out (((w1.setCell ⟨q,0,none⟩ (.bool d6)).setCell ⟨q,1,none⟩ (.int .u64 dh)).setCell ⟨q,2,none⟩ (.int .u64 dl)).drew KGa.out)
 have KQa:=Lib.hid (astore w1 q (.bool d6) (.int .u64 dh) (.int .u64 dl) _ _ _ KQ.out)
 have OQ:=Lib.hid ((aonly w1 q (.bool d6) (.int .u64 dh) (.int .u64 dl)).from B1.out (by have:=EG.out; have:=EQ.out; omega))
 have y0:=KQ.out.cell 0
 have f0:=KQ.out.frozen 0
 have y1:=KQ.out.cell 1
 have f1:=KQ.out.frozen 1
 have y2:=KQ.out.cell 2
 have f2:=KQ.out.frozen 2
 go_enter Try.func50,Try.ntmps50
 go_upto_region 1 with fail
 rw [← E0.out,← EG.out,← EQ.out,← E1.out]
 go_upto_region 3 with fail
 go_region_held3 (fun V=>V.cell? ⟨g,4,none⟩=some (.bool d6)∧V.cell? ⟨g,5,none⟩=some (.int .u64 dh)∧V.cell? ⟨g,6,none⟩=some (.int .u64 dl)∧V.cell? ⟨g,8,none⟩=some (.int .i64 dp)) (first | with_reducible assumption | with_reducible exact HS0.out | with_reducible exact HSa.out) (first | fail)
 go_wp2_with fail
 refine bodyPost_ret (results_side rfl _ _ q #[.bool d6,.int .u64 dh,.int .u64 dl] rfl (show Blk (((w1.setCell ⟨q,0,none⟩ (.bool d6)).setCell ⟨q,1,none⟩ (.int .u64 dh)).setCell ⟨q,2,none⟩ (.int .u64 dl)).drew q 32 #[.bool d6,.int .u64 dh,.int .u64 dl] from KQa.out) rfl) rfl ?_
 exact ⟨rfl,OQ.out.drew⟩
theorem head_4 (b off n c:Nat) (x:Int) (mf:Bool) (fr ttl pr sl dl:Int) (no:Nat) (hno:no≤1000) (r:List Int) (hx:x / 16≠6) (w:World) (j0:0<n) (hb:b<w.heap.size) (hy:w.cell? ⟨b,off,none⟩=some (.int .u8 x)) (x0:0≤x∧x≤255)
  (HC:Hid (∀ V,Below w.heap.size w V→Calls Try.prog 21 #[.slice (some ⟨b,off,none⟩) n c] V fun o w'=>Below V.heap.size V w'∧∃ (tos id:Int) (df:Bool) (AO:Option Addr) (co:Nat) (AR:Option Addr) (cr:Nat),o=.returned (.tuple #[.agg #[.int .i64 tos,.int .i64 id,.bool df,.bool mf,.int .i64 fr,.int .i64 ttl,.int .i64 pr,.bool false,.int .u64 0,.int .u64 sl,.bool false,.int .u64 0,.int .u64 dl,.slice AO no co],.slice AR r.length cr,.int .i64 0])∧Sl w' AR r.length cr r)) :
  Calls Try.prog 52 #[.slice (some ⟨b,off,none⟩) n c] w fun o w'=>o=.returned (.int .i64 (20+(no:Int)))∧Below w.heap.size w w':=by
 obtain ⟨m,hm0⟩:∃ m,m=r.length:=⟨_,rfl⟩
 rw [← hm0] at HC
 clear hm0
 have t6:(x / 16 == 6)=false:=by simpa using hx
 have j1:(0:Int)<n:=by omega
 have HLN:=Lib.hid (fun (tos id:Int) (df:Bool) (AO:Option Addr) (co:Nat) (V:World)=>len4_any tos id df mf fr ttl pr sl dl AO no co V hno)
 clear hno
 clear hx
 go_enter Try.func52,Try.ntmps52
 go_wp2_with fail
 refine (HC.out _ (Below.refl _ _)).mono ?_
 rintro o w2 ⟨hb2,tos,id,df,AO,co,AR,cr,rfl,hsl⟩
 obtain ⟨w3,hw3⟩:∃ w3,w3=w2.alloc (.cells #[.int .i64 tos,.int .i64 id,.bool df,.bool mf,.int .i64 fr,.int .i64 ttl,.int .i64 pr,.bool false,.int .u64 0,.int .u64 sl,.bool false,.int .u64 0,.int .u64 dl,.slice AO no co] 53):=⟨_,rfl⟩
 obtain ⟨h,hh⟩:∃ h,h=w2.heap.size:=⟨_,rfl⟩
 have EH:=Lib.hid hh
 have E3:=Lib.hid hw3
 have B23:=Lib.hid (show Below w2.heap.size w2 w3 from by rw [hw3]; exact (Below.refl _ _).alloc (Nat.le_refl _) _)
 have KH3:=Lib.hid (show Blk w3 h 53 #[.int .i64 tos,.int .i64 id,.bool df,.bool mf,.int .i64 fr,.int .i64 ttl,.int .i64 pr,.bool false,.int .u64 0,.int .u64 sl,.bool false,.int .u64 0,.int .u64 dl,.slice AO no co] from by rw [hw3,hh]; exact Blk.new w2 _ _)
 have B3:=Lib.hid (hb2.trans (B23.out.mono hb2.size))
 clear hw3 hb2 hh hsl hy hb
 go_upto_region 5 with fail
 rw [← E3.out,← EH.out]
 have k0:=KH3.out.cell 0
 have k1:=KH3.out.cell 1
 have k2:=KH3.out.cell 2
 have k3:=KH3.out.cell 3
 have k4:=KH3.out.cell 4
 have k5:=KH3.out.cell 5
 have k6:=KH3.out.cell 6
 have k7:=KH3.out.cell 7
 have k8:=KH3.out.cell 8
 have k9:=KH3.out.cell 9
 have k10:=KH3.out.cell 10
 have k11:=KH3.out.cell 11
 have k12:=KH3.out.cell 12
 have k13:=KH3.out.cell 13
 go_wp2_with fail
 refine (HLN.out _ _ _ _ _ _).mono ?_
 rintro o w5 ⟨rfl,hb5⟩
 go_wp2_with fail
 go_ret
 exact ⟨rfl,B3.out.trans (hb5.mono B3.out.size)⟩
theorem head_6 (b off n c:Nat) (x:Int) (ttl pr:Int) (s6:Bool) (sh sl:Int) (d6:Bool) (dh dl:Int) (L:Int) (r:List Int) (hx:x / 16=6) (w:World) (j0:0<n) (hb:b<w.heap.size) (hy:w.cell? ⟨b,off,none⟩=some (.int .u8 x)) (x0:0≤x∧x≤255)
  (HC:Hid (∀ V,Below w.heap.size w V→Calls Try.prog 19 #[.slice (some ⟨b,off,none⟩) n c] V fun o w'=>Below V.heap.size V w'∧∃ (cls lab:Int) (AO:Option Addr) (no co:Nat) (AR:Option Addr) (cr:Nat),o=.returned (.tuple #[.agg #[.int .i64 cls,.int .i64 lab,.int .i64 ttl,.bool s6,.int .u64 sh,.int .u64 sl,.bool d6,.int .u64 dh,.int .u64 dl,.slice AO no co,.int .i64 pr],.slice AR r.length cr,.int .i64 0])∧Sl w' AR r.length cr r∧(∀ V2,Below w'.heap.size w' V2→Calls Try.prog 33 #[.agg #[.int .i64 cls,.int .i64 lab,.int .i64 ttl,.bool s6,.int .u64 sh,.int .u64 sl,.bool d6,.int .u64 dh,.int .u64 dl,.slice AO no co,.int .i64 pr]] V2 fun o w'=>o=.returned (.int .i64 L)∧Below V2.heap.size V2 w'))) :
  Calls Try.prog 52 #[.slice (some ⟨b,off,none⟩) n c] w fun o w'=>o=.returned (.int .i64 (L))∧Below w.heap.size w w':=by
 obtain ⟨m,hm0⟩:∃ m,m=r.length:=⟨_,rfl⟩
 rw [← hm0] at HC
 clear hm0
 have t6:(x / 16 == 6)=true:=by simpa using hx
 have j1:(0:Int)<n:=by omega
 clear hx
 go_enter Try.func52,Try.ntmps52
 go_wp2_with fail
 refine (HC.out _ (Below.refl _ _)).mono ?_
 rintro o w2 ⟨hb2,cls,lab,AO,no,co,AR,cr,rfl,hsl,hln⟩
 obtain ⟨w3,hw3⟩:∃ w3,w3=w2.alloc (.cells #[.int .i64 cls,.int .i64 lab,.int .i64 ttl,.bool s6,.int .u64 sh,.int .u64 sl,.bool d6,.int .u64 dh,.int .u64 dl,.slice AO no co,.int .i64 pr] 48):=⟨_,rfl⟩
 obtain ⟨h,hh⟩:∃ h,h=w2.heap.size:=⟨_,rfl⟩
 have EH:=Lib.hid hh
 have E3:=Lib.hid hw3
 have B23:=Lib.hid (show Below w2.heap.size w2 w3 from by rw [hw3]; exact (Below.refl _ _).alloc (Nat.le_refl _) _)
 have KH3:=Lib.hid (show Blk w3 h 48 #[.int .i64 cls,.int .i64 lab,.int .i64 ttl,.bool s6,.int .u64 sh,.int .u64 sl,.bool d6,.int .u64 dh,.int .u64 dl,.slice AO no co,.int .i64 pr] from by rw [hw3,hh]; exact Blk.new w2 _ _)
 have B3:=Lib.hid (hb2.trans (B23.out.mono hb2.size))
 have HLN:=Lib.hid (hln w3 B23.out)
 clear hw3 hb2 hh hsl hln hy hb
 go_upto_region 3 with fail
 rw [← E3.out,← EH.out]
 have k0:=KH3.out.cell 0
 have k1:=KH3.out.cell 1
 have k2:=KH3.out.cell 2
 have k3:=KH3.out.cell 3
 have k4:=KH3.out.cell 4
 have k5:=KH3.out.cell 5
 have k6:=KH3.out.cell 6
 have k7:=KH3.out.cell 7
 have k8:=KH3.out.cell 8
 have k9:=KH3.out.cell 9
 have k10:=KH3.out.cell 10
 go_wp2_with fail
 refine HLN.out.mono ?_
 rintro o w5 ⟨rfl,hb5⟩
 go_wp2_with fail
 go_ret
 exact ⟨rfl,B3.out.trans (hb5.mono B3.out.size)⟩
end Go.Proofs.Ytodckfgfbcnkoaa.natB
