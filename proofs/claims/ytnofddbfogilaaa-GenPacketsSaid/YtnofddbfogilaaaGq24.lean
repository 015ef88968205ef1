/- 3 texts in one. -/
import Derived.Test.YtnofddbfogilaaaGq23
/- Layer 8: a packet's bytes; the example. -/
namespace Go.Proofs.Ytnofddbfogilaaa.fourE
set_option maxHeartbeats 8000000
set_option maxRecDepth 100000
open Go.ChangeShapes Go.WideShapes Go.ChangeAt Go.RowKit
open base sumA sumB octA octB octF octK rdrA tcpC net fourC fourD
set_option linter.unusedVariables false
theorem bel_to {B:Nat} {a u u':World} (h:Below B a u) (hb:Below u.heap.size u u') (hs:B≤u.heap.size):Below B a u':=h.trans (hb.mono hs)
theorem or64 (x:Int) (h0:0≤x) (h1:x≤63):bits .or .i64 64 x=64+x:=by
 obtain ⟨n,rfl⟩:=Int.eq_ofNat_of_zero_le h0
 have hn:n<64:=by omega
 have h:∀ n:Fin 64,bits .or .i64 64 ((n.val:Nat):Int)=64+((n.val:Nat):Int):=by decide +kernel
 exact h ⟨n,hn⟩
theorem hk_put (tos id fl ttl pr sl dl sz:Int) (os:List Int) (h1:0≤tos∧tos≤255) (h2:0≤id∧id≤65535) (h3:0≤fl∧fl≤65535) (h4:0≤ttl∧ttl≤255) (h5:0≤pr∧pr≤255) (h6:0≤sl∧sl≤4294967295) (h7:0≤dl∧dl≤4294967295) (h9:0≤sz∧sz≤65535) (ho:os.length≤40) :
  ((((allb 1 [64+(20+(os.length:Int)) / 4,tos]++allb 2 [sz,id,fl])++allb 1 [ttl,pr])++pb 0 2 2)++allb 4 [sl,dl])++os=hk tos id fl ttl pr sl dl 0 sz os:=by
 simp only [allb,List.flatMap_cons,List.flatMap_nil]
 rw [pb_one _ (by omega) (by omega),pb_one tos h1.1 h1.2,pb_two sz h9.1 h9.2,pb_two id h2.1 h2.2,pb_two fl h3.1 h3.2,pb_one ttl h4.1 h4.2,pb_one pr h5.1 h5.2,pb_two 0 (by omega) (by omega),pb_four sl h6.1 h6.2,pb_four dl h7.1 h7.2]
 rfl
theorem hk_splice (tos id fl ttl pr sl dl ck sz:Int) (os:List Int) (c0:0≤ck) (c1:ck≤65535):splice (hk tos id fl ttl pr sl dl 0 sz os) 10 (pb ck 2 2)=hk tos id fl ttl pr sl dl ck sz os:=by
 rw [pb_two ck c0 c1]
 rfl
def BPost (w:World) (l:List Int) (e:Ending) (w':World):Prop :=
 ∃ v,e=.returned (.tuple #[v,.int .i64 0])∧w'.ownsRow w.heap.size 5 1 v l.length (l.map (.int .u8))∧Below w.heap.size w w'
theorem bytes_any (tos id:Int) (df mf:Bool) (fr ttl pr sl dl:Int) (AO:Option Addr) (no co:Nat) (os:List Int) (A:Option Addr) (n c:Nat) (pl:List Int) (w:World) (hok:okF tos id fr ttl pr sl dl no)
  (hol:os.length=no) (hor:Row w w.heap.size AO (os.map (.int .u8))) (hoz:AO=none→co=0) (hox:∀ x ∈ os,0≤x∧x≤255)
  (hl':pl.length=n) (hn:n≤900) (hr:Row w w.heap.size A (pl.map (.int .u8))) (hz:A=none→c=0) (ck:Int) (hck:65535 - fo (wsum (hk tos id (flz df mf fr) ttl pr sl dl 0 (20+no+n) os))=ck) :
  Calls Try.prog 55 #[.agg #[.int .i64 tos,.int .i64 id,.bool df,.bool mf,.int .i64 fr,.int .i64 ttl,.int .i64 pr,.bool false,.int .u64 0,.int .u64 sl,.bool false,.int .u64 0,.int .u64 dl,.slice AO no co],.slice A n c] w (BPost w (hk tos id (flz df mf fr) ttl pr sl dl ck (20+no+n) os++pl)):=by
 have HRT:=Lib.hid (right_yes tos id df mf fr ttl pr sl dl AO no co (w.alloc (.cells #[.int .i64 tos,.int .i64 id,.bool df,.bool mf,.int .i64 fr,.int .i64 ttl,.int .i64 pr,.bool false,.int .u64 0,.int .u64 sl,.bool false,.int .u64 0,.int .u64 dl,.slice AO no co] 82)) hok)
 obtain ⟨⟨h1,h2⟩,⟨h3,h4⟩,⟨h5,h6⟩,⟨h7,h8⟩,⟨h9,h10⟩,⟨h11,h12⟩,⟨h13,h14⟩,ho,hm⟩:=hok
 have HLN:=Lib.hid (fun w=>len_any tos id df mf fr ttl pr sl dl AO no co w (by omega))
 have HPT:=Lib.hid (fun w=>part_any tos id df mf fr ttl pr sl dl AO no co w h5 h6)
 obtain ⟨i0,hi0,hz0,hz1,hz2⟩:=info_parts info_u8
 have HI0:=Lib.hid hi0
 have HZ0:=Lib.hid hz0
 have HZ1:=Lib.hid hz1
 have HZ2:=Lib.hid hz2
 have ONE:=Lib.hid (show ∀ l:List Int,∀ u ∈ l.map (Value.int .u8),u.oneCell'=true from by
  intro l u hu
  rw [List.mem_map] at hu
  obtain ⟨x,_,rfl⟩:=hu
  rfl)
 have HSZ:=Lib.hid (show (w.alloc (.cells #[.int .i64 tos,.int .i64 id,.bool df,.bool mf,.int .i64 fr,.int .i64 ttl,.int .i64 pr,.bool false,.int .u64 0,.int .u64 sl,.bool false,.int .u64 0,.int .u64 dl,.slice AO no co] 82)).heap.size=w.heap.size+1 by simp)
 have BOX:=Lib.hid (Blk.new w 82 #[.int .i64 tos,.int .i64 id,.bool df,.bool mf,.int .i64 fr,.int .i64 ttl,.int .i64 pr,.bool false,.int .u64 0,.int .u64 sl,.bool false,.int .u64 0,.int .u64 dl,.slice AO no co])
 have HB0:=Lib.hid (show Below w.heap.size w (w.alloc (.cells #[.int .i64 tos,.int .i64 id,.bool df,.bool mf,.int .i64 fr,.int .i64 ttl,.int .i64 pr,.bool false,.int .u64 0,.int .u64 sl,.bool false,.int .u64 0,.int .u64 dl,.slice AO no co] 82)) from (Below.refl _ _).alloc (Nat.le_refl _) _)
 have hfi:=flz_in df mf fr h5 h6
 generalize flz df mf fr=fl at *
 generalize hsz:(20+(no:Int)+n)=sz at *
 have hs9:0≤sz∧sz≤65535:=by omega
 have HSZZ:=Lib.hid hsz
 have HIN:=Lib.hid (hk_in tos id fl ttl pr sl dl 0 sz os ⟨h1,h2⟩ ⟨h3,h4⟩ hfi ⟨h7,h8⟩ ⟨h9,h10⟩ ⟨h11,h12⟩ ⟨h13,h14⟩ (by omega) hs9 (by omega) hox)
 have HCB:=Lib.hid (fo_bd _ (wsum_bd _ HIN.out).1)
 have HLEN:=Lib.hid (show (hk tos id fl ttl pr sl dl 0 sz os).length=20+no by rw [hk_len,hol])
 have hckb:0≤ck∧ck≤65535:=by have:=HCB.out; omega
 have HCKB:=Lib.hid hckb
 have HCK:=Lib.hid hck
 have HPUT:=Lib.hid (hk_put tos id fl ttl pr sl dl sz os ⟨h1,h2⟩ ⟨h3,h4⟩ hfi ⟨h7,h8⟩ ⟨h9,h10⟩ ⟨h11,h12⟩ ⟨h13,h14⟩ hs9 (by omega))
 rw [hol] at HPUT
 have HSP:=Lib.hid (hk_splice tos id fl ttl pr sl dl ck sz os hckb.1 hckb.2)
 have HLN2:=Lib.hid (show (hk tos id fl ttl pr sl dl ck sz os++pl).length=20+no+n by rw [List.length_append,hk_len,hol,hl'])
 have HOR:=Lib.hid hor
 have HOZ:=Lib.hid hoz
 have HOL:=Lib.hid hol
 have HR:=Lib.hid hr
 have HZ:=Lib.hid hz
 have HL:=Lib.hid hl'
 have HS1:=Lib.hid (show hs 1=1 by decide)
 have HS2:=Lib.hid (show hs 2=2 by decide)
 have HS4:=Lib.hid (show hs 4=4 by decide)
 have r1:IntKind.i64.wrap ((20+(no:Int)).tdiv 4)=(20+(no:Int)) / 4:=by rw [Int.tdiv_eq_ediv_of_nonneg (by omega),IntKind.wrap_i64]; omega
 have r2:bits .or .i64 64 ((20+(no:Int)) / 4)=64+(20+(no:Int)) / 4:=or64 _ (by omega) (by omega)
 have r3:IntKind.u64.wrap (64+(20+(no:Int)) / 4)=64+(20+(no:Int)) / 4:=by rw [IntKind.wrap_u64]; omega
 have r4:IntKind.u64.wrap tos=tos:=by rw [IntKind.wrap_u64]; omega
 have r5:IntKind.u64.wrap sz=sz:=by rw [IntKind.wrap_u64]; omega
 have r6:IntKind.u64.wrap id=id:=by rw [IntKind.wrap_u64]; omega
 have r7:IntKind.u64.wrap ttl=ttl:=by rw [IntKind.wrap_u64]; omega
 have r8:IntKind.u64.wrap pr=pr:=by rw [IntKind.wrap_u64]; omega
 have RA:=Lib.hid (And.intro r1 (And.intro r2 (And.intro r3 r4)))
 have RB:=Lib.hid (And.intro r5 r6)
 have RC:=Lib.hid (And.intro r7 r8)
 have U1:=Lib.hid (show ∀ x ∈ ([64+(20+(no:Int)) / 4,tos]:List Int),0≤x∧x<18446744073709551616 by intro x hx; simp only [List.mem_cons,List.not_mem_nil,or_false] at hx; rcases hx with rfl | rfl <;> omega)
 have U2:=Lib.hid (show ∀ x ∈ ([sz,id,fl]:List Int),0≤x∧x<18446744073709551616 by intro x hx; simp only [List.mem_cons,List.not_mem_nil,or_false] at hx; rcases hx with rfl | rfl | rfl <;> omega)
 have U3:=Lib.hid (show ∀ x ∈ ([ttl,pr]:List Int),0≤x∧x<18446744073709551616 by intro x hx; simp only [List.mem_cons,List.not_mem_nil,or_false] at hx; rcases hx with rfl | rfl <;> omega)
 have U4:=Lib.hid (show ∀ x ∈ ([sl,dl]:List Int),0≤x∧x<18446744073709551616 by intro x hx; simp only [List.mem_cons,List.not_mem_nil,or_false] at hx; rcases hx with rfl | rfl <;> omega)
 have tb:decide ((65535:Int)<sz)=false:=decide_eq_false (by omega)
 clear r1 r2 r3 r4 r5 r6 r7 r8 hi0 hz0 hz1 hz2 hor hoz hol hr hz hl' hox hck hs9 hckb
 go_enter Try.func55,Try.ntmps55
 go_wp2_with fail
 refine HRT.out.mono ?_
 rintro e w1 ⟨rfl,hb⟩
 rw [HSZ.out] at hb
 have HB1:=Lib.hid hb
 have HS1_:=Lib.hid (Nat.le_trans (Nat.le_of_eq HSZ.out.symm) hb.size)
 clear hb HRT
 have o0:w1.cell? ⟨w.heap.size,0,none⟩=some (.int .i64 tos):=(HB1.out.cell (p:=⟨w.heap.size,0,none⟩) (Nat.lt_succ_self _)).trans (BOX.out.cell 0)
 have o1:w1.cell? ⟨w.heap.size,1,none⟩=some (.int .i64 id):=(HB1.out.cell (p:=⟨w.heap.size,1,none⟩) (Nat.lt_succ_self _)).trans (BOX.out.cell 1)
 have o2:w1.cell? ⟨w.heap.size,2,none⟩=some (.bool df):=(HB1.out.cell (p:=⟨w.heap.size,2,none⟩) (Nat.lt_succ_self _)).trans (BOX.out.cell 2)
 have o3:w1.cell? ⟨w.heap.size,3,none⟩=some (.bool mf):=(HB1.out.cell (p:=⟨w.heap.size,3,none⟩) (Nat.lt_succ_self _)).trans (BOX.out.cell 3)
 have o4:w1.cell? ⟨w.heap.size,4,none⟩=some (.int .i64 fr):=(HB1.out.cell (p:=⟨w.heap.size,4,none⟩) (Nat.lt_succ_self _)).trans (BOX.out.cell 4)
 have o5:w1.cell? ⟨w.heap.size,5,none⟩=some (.int .i64 ttl):=(HB1.out.cell (p:=⟨w.heap.size,5,none⟩) (Nat.lt_succ_self _)).trans (BOX.out.cell 5)
 have o6:w1.cell? ⟨w.heap.size,6,none⟩=some (.int .i64 pr):=(HB1.out.cell (p:=⟨w.heap.size,6,none⟩) (Nat.lt_succ_self _)).trans (BOX.out.cell 6)
 have o7:w1.cell? ⟨w.heap.size,7,none⟩=some (.bool false):=(HB1.out.cell (p:=⟨w.heap.size,7,none⟩) (Nat.lt_succ_self _)).trans (BOX.out.cell 7)
 have o8:w1.cell? ⟨w.heap.size,8,none⟩=some (.int .u64 0):=(HB1.out.cell (p:=⟨w.heap.size,8,none⟩) (Nat.lt_succ_self _)).trans (BOX.out.cell 8)
 have o9:w1.cell? ⟨w.heap.size,9,none⟩=some (.int .u64 sl):=(HB1.out.cell (p:=⟨w.heap.size,9,none⟩) (Nat.lt_succ_self _)).trans (BOX.out.cell 9)
 have o10:w1.cell? ⟨w.heap.size,10,none⟩=some (.bool false):=(HB1.out.cell (p:=⟨w.heap.size,10,none⟩) (Nat.lt_succ_self _)).trans (BOX.out.cell 10)
 have o11:w1.cell? ⟨w.heap.size,11,none⟩=some (.int .u64 0):=(HB1.out.cell (p:=⟨w.heap.size,11,none⟩) (Nat.lt_succ_self _)).trans (BOX.out.cell 11)
 have o12:w1.cell? ⟨w.heap.size,12,none⟩=some (.int .u64 dl):=(HB1.out.cell (p:=⟨w.heap.size,12,none⟩) (Nat.lt_succ_self _)).trans (BOX.out.cell 12)
 have o13:w1.cell? ⟨w.heap.size,13,none⟩=some (.slice AO no co):=(HB1.out.cell (p:=⟨w.heap.size,13,none⟩) (Nat.lt_succ_self _)).trans (BOX.out.cell 13)
 go_wp2_with fail
 clear o0 o1 o2 o3 o4 o5 o6 o7 o8 o9 o10 o11 o12 o13
 refine (HLN.out _).mono ?_
 rintro e w2 ⟨rfl,hb⟩
 have HB2:=Lib.hid (bel_to HB1.out hb HS1_.out)
 have HS2_:=Lib.hid (Nat.le_trans HS1_.out hb.size)
 clear hb HB1 HS1_
 have hsz:=HSZZ.out
 go_wp2_with fail
 clear hsz
 obtain ⟨r1,r2,r3,r4⟩:=RA.out
 have HKV:=Lib.hid (show w2.drew.cell? ⟨w.heap.size,0,none⟩=some (.int .i64 tos)∧w2.drew.cell? ⟨w.heap.size,1,none⟩=some (.int .i64 id)∧w2.drew.cell? ⟨w.heap.size,2,none⟩=some (.bool df)∧w2.drew.cell? ⟨w.heap.size,3,none⟩=some (.bool mf)∧w2.drew.cell? ⟨w.heap.size,4,none⟩=some (.int .i64 fr)∧w2.drew.cell? ⟨w.heap.size,5,none⟩=some (.int .i64 ttl)∧w2.drew.cell? ⟨w.heap.size,6,none⟩=some (.int .i64 pr)∧w2.drew.cell? ⟨w.heap.size,7,none⟩=some (.bool false)∧w2.drew.cell? ⟨w.heap.size,8,none⟩=some (.int .u64 0)∧w2.drew.cell? ⟨w.heap.size,9,none⟩=some (.int .u64 sl)∧w2.drew.cell? ⟨w.heap.size,10,none⟩=some (.bool false)∧w2.drew.cell? ⟨w.heap.size,11,none⟩=some (.int .u64 0)∧w2.drew.cell? ⟨w.heap.size,12,none⟩=some (.int .u64 dl)∧w2.drew.cell? ⟨w.heap.size,13,none⟩=some (.slice AO no co) from ⟨(HB2.out.drew.cell (p:=⟨w.heap.size,0,none⟩) (Nat.lt_succ_self _)).trans (BOX.out.cell 0),(HB2.out.drew.cell (p:=⟨w.heap.size,1,none⟩) (Nat.lt_succ_self _)).trans (BOX.out.cell 1),(HB2.out.drew.cell (p:=⟨w.heap.size,2,none⟩) (Nat.lt_succ_self _)).trans (BOX.out.cell 2),(HB2.out.drew.cell (p:=⟨w.heap.size,3,none⟩) (Nat.lt_succ_self _)).trans (BOX.out.cell 3),(HB2.out.drew.cell (p:=⟨w.heap.size,4,none⟩) (Nat.lt_succ_self _)).trans (BOX.out.cell 4),(HB2.out.drew.cell (p:=⟨w.heap.size,5,none⟩) (Nat.lt_succ_self _)).trans (BOX.out.cell 5),(HB2.out.drew.cell (p:=⟨w.heap.size,6,none⟩) (Nat.lt_succ_self _)).trans (BOX.out.cell 6),(HB2.out.drew.cell (p:=⟨w.heap.size,7,none⟩) (Nat.lt_succ_self _)).trans (BOX.out.cell 7),(HB2.out.drew.cell (p:=⟨w.heap.size,8,none⟩) (Nat.lt_succ_self _)).trans (BOX.out.cell 8),(HB2.out.drew.cell (p:=⟨w.heap.size,9,none⟩) (Nat.lt_succ_self _)).trans (BOX.out.cell 9),(HB2.out.drew.cell (p:=⟨w.heap.size,10,none⟩) (Nat.lt_succ_self _)).trans (BOX.out.cell 10),(HB2.out.drew.cell (p:=⟨w.heap.size,11,none⟩) (Nat.lt_succ_self _)).trans (BOX.out.cell 11),(HB2.out.drew.cell (p:=⟨w.heap.size,12,none⟩) (Nat.lt_succ_self _)).trans (BOX.out.cell 12),(HB2.out.drew.cell (p:=⟨w.heap.size,13,none⟩) (Nat.lt_succ_self _)).trans (BOX.out.cell 13)⟩)
 have HBD:=Lib.hid HB2.out.drew
 have HSD:=Lib.hid (show w.heap.size+1≤w2.drew.heap.size from HS2_.out)
 go_region_held3 (fun w'=>w'.cell? ⟨w.heap.size,0,none⟩=some (.int .i64 tos)∧w'.cell? ⟨w.heap.size,1,none⟩=some (.int .i64 id)∧w'.cell? ⟨w.heap.size,2,none⟩=some (.bool df)∧w'.cell? ⟨w.heap.size,3,none⟩=some (.bool mf)∧w'.cell? ⟨w.heap.size,4,none⟩=some (.int .i64 fr)∧w'.cell? ⟨w.heap.size,5,none⟩=some (.int .i64 ttl)∧w'.cell? ⟨w.heap.size,6,none⟩=some (.int .i64 pr)∧w'.cell? ⟨w.heap.size,7,none⟩=some (.bool false)∧w'.cell? ⟨w.heap.size,8,none⟩=some (.int .u64 0)∧w'.cell? ⟨w.heap.size,9,none⟩=some (.int .u64 sl)∧w'.cell? ⟨w.heap.size,10,none⟩=some (.bool false)∧w'.cell? ⟨w.heap.size,11,none⟩=some (.int .u64 0)∧w'.cell? ⟨w.heap.size,12,none⟩=some (.int .u64 dl)∧w'.cell? ⟨w.heap.size,13,none⟩=some (.slice AO no co)) (first | with_reducible assumption | with_reducible exact HK4.out | with_reducible exact HK3a.out | with_reducible exact HK3.out | with_reducible exact HKV.out) (first
  | (go_at_call 57; refine HAL.out.mono ?_; rintro e w4 ⟨v1,rfl,own_,bel_,siz_,_⟩; have HO4:=Lib.hid (show w4.ownsRow (w.heap.size+1) 5 1 v1 2 ((allb 1 [64+(20+(no:Int)) / 4,tos]).map (.int .u8)) from own_); have HB4:=Lib.hid bel_; have HS4_:=Lib.hid siz_; have HK4:=Lib.hid (show w4.cell? ⟨w.heap.size,0,none⟩=some (.int .i64 tos)∧w4.cell? ⟨w.heap.size,1,none⟩=some (.int .i64 id)∧w4.cell? ⟨w.heap.size,2,none⟩=some (.bool df)∧w4.cell? ⟨w.heap.size,3,none⟩=some (.bool mf)∧w4.cell? ⟨w.heap.size,4,none⟩=some (.int .i64 fr)∧w4.cell? ⟨w.heap.size,5,none⟩=some (.int .i64 ttl)∧w4.cell? ⟨w.heap.size,6,none⟩=some (.int .i64 pr)∧w4.cell? ⟨w.heap.size,7,none⟩=some (.bool false)∧w4.cell? ⟨w.heap.size,8,none⟩=some (.int .u64 0)∧w4.cell? ⟨w.heap.size,9,none⟩=some (.int .u64 sl)∧w4.cell? ⟨w.heap.size,10,none⟩=some (.bool false)∧w4.cell? ⟨w.heap.size,11,none⟩=some (.int .u64 0)∧w4.cell? ⟨w.heap.size,12,none⟩=some (.int .u64 dl)∧w4.cell? ⟨w.heap.size,13,none⟩=some (.slice AO no co) from ⟨(bel_.cell (p:=⟨w.heap.size,0,none⟩) (Nat.lt_succ_self _)).trans (BOX.out.cell 0),(bel_.cell (p:=⟨w.heap.size,1,none⟩) (Nat.lt_succ_self _)).trans (BOX.out.cell 1),(bel_.cell (p:=⟨w.heap.size,2,none⟩) (Nat.lt_succ_self _)).trans (BOX.out.cell 2),(bel_.cell (p:=⟨w.heap.size,3,none⟩) (Nat.lt_succ_self _)).trans (BOX.out.cell 3),(bel_.cell (p:=⟨w.heap.size,4,none⟩) (Nat.lt_succ_self _)).trans (BOX.out.cell 4),(bel_.cell (p:=⟨w.heap.size,5,none⟩) (Nat.lt_succ_self _)).trans (BOX.out.cell 5),(bel_.cell (p:=⟨w.heap.size,6,none⟩) (Nat.lt_succ_self _)).trans (BOX.out.cell 6),(bel_.cell (p:=⟨w.heap.size,7,none⟩) (Nat.lt_succ_self _)).trans (BOX.out.cell 7),(bel_.cell (p:=⟨w.heap.size,8,none⟩) (Nat.lt_succ_self _)).trans (BOX.out.cell 8),(bel_.cell (p:=⟨w.heap.size,9,none⟩) (Nat.lt_succ_self _)).trans (BOX.out.cell 9),(bel_.cell (p:=⟨w.heap.size,10,none⟩) (Nat.lt_succ_self _)).trans (BOX.out.cell 10),(bel_.cell (p:=⟨w.heap.size,11,none⟩) (Nat.lt_succ_self _)).trans (BOX.out.cell 11),(bel_.cell (p:=⟨w.heap.size,12,none⟩) (Nat.lt_succ_self _)).trans (BOX.out.cell 12),(bel_.cell (p:=⟨w.heap.size,13,none⟩) (Nat.lt_succ_self _)).trans (BOX.out.cell 13)⟩); clear own_ bel_ siz_)
  | (go_at_call 45; refine (HLN.out _).mono ?_; rintro e w3 ⟨rfl,hb⟩; have HB3:=Lib.hid (bel_to HBD.out hb HSD.out); have HS3_:=Lib.hid (Nat.le_trans HSD.out hb.size); have HK3:=Lib.hid (show w3.cell? ⟨w.heap.size,0,none⟩=some (.int .i64 tos)∧w3.cell? ⟨w.heap.size,1,none⟩=some (.int .i64 id)∧w3.cell? ⟨w.heap.size,2,none⟩=some (.bool df)∧w3.cell? ⟨w.heap.size,3,none⟩=some (.bool mf)∧w3.cell? ⟨w.heap.size,4,none⟩=some (.int .i64 fr)∧w3.cell? ⟨w.heap.size,5,none⟩=some (.int .i64 ttl)∧w3.cell? ⟨w.heap.size,6,none⟩=some (.int .i64 pr)∧w3.cell? ⟨w.heap.size,7,none⟩=some (.bool false)∧w3.cell? ⟨w.heap.size,8,none⟩=some (.int .u64 0)∧w3.cell? ⟨w.heap.size,9,none⟩=some (.int .u64 sl)∧w3.cell? ⟨w.heap.size,10,none⟩=some (.bool false)∧w3.cell? ⟨w.heap.size,11,none⟩=some (.int .u64 0)∧w3.cell? ⟨w.heap.size,12,none⟩=some (.int .u64 dl)∧w3.cell? ⟨w.heap.size,13,none⟩=some (.slice AO no co) from ⟨(HB3.out.cell (p:=⟨w.heap.size,0,none⟩) (Nat.lt_succ_self _)).trans (BOX.out.cell 0),(HB3.out.cell (p:=⟨w.heap.size,1,none⟩) (Nat.lt_succ_self _)).trans (BOX.out.cell 1),(HB3.out.cell (p:=⟨w.heap.size,2,none⟩) (Nat.lt_succ_self _)).trans (BOX.out.cell 2),(HB3.out.cell (p:=⟨w.heap.size,3,none⟩) (Nat.lt_succ_self _)).trans (BOX.out.cell 3),(HB3.out.cell (p:=⟨w.heap.size,4,none⟩) (Nat.lt_succ_self _)).trans (BOX.out.cell 4),(HB3.out.cell (p:=⟨w.heap.size,5,none⟩) (Nat.lt_succ_self _)).trans (BOX.out.cell 5),(HB3.out.cell (p:=⟨w.heap.size,6,none⟩) (Nat.lt_succ_self _)).trans (BOX.out.cell 6),(HB3.out.cell (p:=⟨w.heap.size,7,none⟩) (Nat.lt_succ_self _)).trans (BOX.out.cell 7),(HB3.out.cell (p:=⟨w.heap.size,8,none⟩) (Nat.lt_succ_self _)).trans (BOX.out.cell 8),(HB3.out.cell (p:=⟨w.heap.size,9,none⟩) (Nat.lt_succ_self _)).trans (BOX.out.cell 9),(HB3.out.cell (p:=⟨w.heap.size,10,none⟩) (Nat.lt_succ_self _)).trans (BOX.out.cell 10),(HB3.out.cell (p:=⟨w.heap.size,11,none⟩) (Nat.lt_succ_self _)).trans (BOX.out.cell 11),(HB3.out.cell (p:=⟨w.heap.size,12,none⟩) (Nat.lt_succ_self _)).trans (BOX.out.cell 12),(HB3.out.cell (p:=⟨w.heap.size,13,none⟩) (Nat.lt_succ_self _)).trans (BOX.out.cell 13)⟩); have HB3a:=Lib.hid (HB3.out.alloc HS3_.out (.cells #[.int .u64 (64+(20+(no:Int)) / 4),.int .u64 tos] 22)); have HK3a:=Lib.hid (show (w3.alloc (.cells #[.int .u64 (64+(20+(no:Int)) / 4),.int .u64 tos] 22)).cell? ⟨w.heap.size,0,none⟩=some (.int .i64 tos)∧(w3.alloc (.cells #[.int .u64 (64+(20+(no:Int)) / 4),.int .u64 tos] 22)).cell? ⟨w.heap.size,1,none⟩=some (.int .i64 id)∧(w3.alloc (.cells #[.int .u64 (64+(20+(no:Int)) / 4),.int .u64 tos] 22)).cell? ⟨w.heap.size,2,none⟩=some (.bool df)∧(w3.alloc (.cells #[.int .u64 (64+(20+(no:Int)) / 4),.int .u64 tos] 22)).cell? ⟨w.heap.size,3,none⟩=some (.bool mf)∧(w3.alloc (.cells #[.int .u64 (64+(20+(no:Int)) / 4),.int .u64 tos] 22)).cell? ⟨w.heap.size,4,none⟩=some (.int .i64 fr)∧(w3.alloc (.cells #[.int .u64 (64+(20+(no:Int)) / 4),.int .u64 tos] 22)).cell? ⟨w.heap.size,5,none⟩=some (.int .i64 ttl)∧(w3.alloc (.cells #[.int .u64 (64+(20+(no:Int)) / 4),.int .u64 tos] 22)).cell? ⟨w.heap.size,6,none⟩=some (.int .i64 pr)∧(w3.alloc (.cells #[.int .u64 (64+(20+(no:Int)) / 4),.int .u64 tos] 22)).cell? ⟨w.heap.size,7,none⟩=some (.bool false)∧(w3.alloc (.cells #[.int .u64 (64+(20+(no:Int)) / 4),.int .u64 tos] 22)).cell? ⟨w.heap.size,8,none⟩=some (.int .u64 0)∧(w3.alloc (.cells #[.int .u64 (64+(20+(no:Int)) / 4),.int .u64 tos] 22)).cell? ⟨w.heap.size,9,none⟩=some (.int .u64 sl)∧(w3.alloc (.cells #[.int .u64 (64+(20+(no:Int)) / 4),.int .u64 tos] 22)).cell? ⟨w.heap.size,10,none⟩=some (.bool false)∧(w3.alloc (.cells #[.int .u64 (64+(20+(no:Int)) / 4),.int .u64 tos] 22)).cell? ⟨w.heap.size,11,none⟩=some (.int .u64 0)∧(w3.alloc (.cells #[.int .u64 (64+(20+(no:Int)) / 4),.int .u64 tos] 22)).cell? ⟨w.heap.size,12,none⟩=some (.int .u64 dl)∧(w3.alloc (.cells #[.int .u64 (64+(20+(no:Int)) / 4),.int .u64 tos] 22)).cell? ⟨w.heap.size,13,none⟩=some (.slice AO no co) from ⟨(HB3a.out.cell (p:=⟨w.heap.size,0,none⟩) (Nat.lt_succ_self _)).trans (BOX.out.cell 0),(HB3a.out.cell (p:=⟨w.heap.size,1,none⟩) (Nat.lt_succ_self _)).trans (BOX.out.cell 1),(HB3a.out.cell (p:=⟨w.heap.size,2,none⟩) (Nat.lt_succ_self _)).trans (BOX.out.cell 2),(HB3a.out.cell (p:=⟨w.heap.size,3,none⟩) (Nat.lt_succ_self _)).trans (BOX.out.cell 3),(HB3a.out.cell (p:=⟨w.heap.size,4,none⟩) (Nat.lt_succ_self _)).trans (BOX.out.cell 4),(HB3a.out.cell (p:=⟨w.heap.size,5,none⟩) (Nat.lt_succ_self _)).trans (BOX.out.cell 5),(HB3a.out.cell (p:=⟨w.heap.size,6,none⟩) (Nat.lt_succ_self _)).trans (BOX.out.cell 6),(HB3a.out.cell (p:=⟨w.heap.size,7,none⟩) (Nat.lt_succ_self _)).trans (BOX.out.cell 7),(HB3a.out.cell (p:=⟨w.heap.size,8,none⟩) (Nat.lt_succ_self _)).trans (BOX.out.cell 8),(HB3a.out.cell (p:=⟨w.heap.size,9,none⟩) (Nat.lt_succ_self _)).trans (BOX.out.cell 9),(HB3a.out.cell (p:=⟨w.heap.size,10,none⟩) (Nat.lt_succ_self _)).trans (BOX.out.cell 10),(HB3a.out.cell (p:=⟨w.heap.size,11,none⟩) (Nat.lt_succ_self _)).trans (BOX.out.cell 11),(HB3a.out.cell (p:=⟨w.heap.size,12,none⟩) (Nat.lt_succ_self _)).trans (BOX.out.cell 12),(HB3a.out.cell (p:=⟨w.heap.size,13,none⟩) (Nat.lt_succ_self _)).trans (BOX.out.cell 13)⟩); have hal:=all_keep w3.heap.size #[.int .u64 (64+(20+(no:Int)) / 4),.int .u64 tos] (.slice none 0 0) 0 [] 1 2 2 [64+(20+(no:Int)) / 4,tos] (w.heap.size+1) (w.heap.size+1) (w.alloc (.cells #[.int .i64 tos,.int .i64 id,.bool df,.bool mf,.int .i64 fr,.int .i64 ttl,.int .i64 pr,.bool false,.int .u64 0,.int .u64 sl,.bool false,.int .u64 0,.int .u64 dl,.slice AO no co] 82)) (w3.alloc (.cells #[.int .u64 (64+(20+(no:Int)) / 4),.int .u64 tos] 22)) (World.ownsRow_nil _ _ _ _) (Nat.le_trans HS3_.out ((Below.refl 0 _).alloc (Nat.zero_le _) _).size) (by omega) HB3a.out (Nat.le_refl _) rfl (Blk.new w3 22 #[.int .u64 (64+(20+(no:Int)) / 4),.int .u64 tos]) rfl U1.out; rw [HS1.out] at hal; have HAL:=Lib.hid hal; clear hb hal))
 clear HKV HBD HSD HK4 HK3 HK3a HAL HB3 HS3_ HB3a r1 r2 r3 r4 HB2 HS2_
 go_wp2_with fail
 obtain ⟨r5,r6⟩:=RB.out
 have HKV:=Lib.hid (show w4.drew.cell? ⟨w.heap.size,0,none⟩=some (.int .i64 tos)∧w4.drew.cell? ⟨w.heap.size,1,none⟩=some (.int .i64 id)∧w4.drew.cell? ⟨w.heap.size,2,none⟩=some (.bool df)∧w4.drew.cell? ⟨w.heap.size,3,none⟩=some (.bool mf)∧w4.drew.cell? ⟨w.heap.size,4,none⟩=some (.int .i64 fr)∧w4.drew.cell? ⟨w.heap.size,5,none⟩=some (.int .i64 ttl)∧w4.drew.cell? ⟨w.heap.size,6,none⟩=some (.int .i64 pr)∧w4.drew.cell? ⟨w.heap.size,7,none⟩=some (.bool false)∧w4.drew.cell? ⟨w.heap.size,8,none⟩=some (.int .u64 0)∧w4.drew.cell? ⟨w.heap.size,9,none⟩=some (.int .u64 sl)∧w4.drew.cell? ⟨w.heap.size,10,none⟩=some (.bool false)∧w4.drew.cell? ⟨w.heap.size,11,none⟩=some (.int .u64 0)∧w4.drew.cell? ⟨w.heap.size,12,none⟩=some (.int .u64 dl)∧w4.drew.cell? ⟨w.heap.size,13,none⟩=some (.slice AO no co) from ⟨(HB4.out.drew.cell (p:=⟨w.heap.size,0,none⟩) (Nat.lt_succ_self _)).trans (BOX.out.cell 0),(HB4.out.drew.cell (p:=⟨w.heap.size,1,none⟩) (Nat.lt_succ_self _)).trans (BOX.out.cell 1),(HB4.out.drew.cell (p:=⟨w.heap.size,2,none⟩) (Nat.lt_succ_self _)).trans (BOX.out.cell 2),(HB4.out.drew.cell (p:=⟨w.heap.size,3,none⟩) (Nat.lt_succ_self _)).trans (BOX.out.cell 3),(HB4.out.drew.cell (p:=⟨w.heap.size,4,none⟩) (Nat.lt_succ_self _)).trans (BOX.out.cell 4),(HB4.out.drew.cell (p:=⟨w.heap.size,5,none⟩) (Nat.lt_succ_self _)).trans (BOX.out.cell 5),(HB4.out.drew.cell (p:=⟨w.heap.size,6,none⟩) (Nat.lt_succ_self _)).trans (BOX.out.cell 6),(HB4.out.drew.cell (p:=⟨w.heap.size,7,none⟩) (Nat.lt_succ_self _)).trans (BOX.out.cell 7),(HB4.out.drew.cell (p:=⟨w.heap.size,8,none⟩) (Nat.lt_succ_self _)).trans (BOX.out.cell 8),(HB4.out.drew.cell (p:=⟨w.heap.size,9,none⟩) (Nat.lt_succ_self _)).trans (BOX.out.cell 9),(HB4.out.drew.cell (p:=⟨w.heap.size,10,none⟩) (Nat.lt_succ_self _)).trans (BOX.out.cell 10),(HB4.out.drew.cell (p:=⟨w.heap.size,11,none⟩) (Nat.lt_succ_self _)).trans (BOX.out.cell 11),(HB4.out.drew.cell (p:=⟨w.heap.size,12,none⟩) (Nat.lt_succ_self _)).trans (BOX.out.cell 12),(HB4.out.drew.cell (p:=⟨w.heap.size,13,none⟩) (Nat.lt_succ_self _)).trans (BOX.out.cell 13)⟩)
 have HBD:=Lib.hid HB4.out.drew
 have HSD:=Lib.hid (show w.heap.size+1≤w4.drew.heap.size from HS4_.out)
 have HOD:=Lib.hid (show w4.drew.ownsRow (w.heap.size+1) 5 1 v1 2 ((allb 1 [64+(20+(no:Int)) / 4,tos]).map (.int .u8)) from HO4.out)
 go_region_held3 (fun w'=>w'.cell? ⟨w.heap.size,0,none⟩=some (.int .i64 tos)∧w'.cell? ⟨w.heap.size,1,none⟩=some (.int .i64 id)∧w'.cell? ⟨w.heap.size,2,none⟩=some (.bool df)∧w'.cell? ⟨w.heap.size,3,none⟩=some (.bool mf)∧w'.cell? ⟨w.heap.size,4,none⟩=some (.int .i64 fr)∧w'.cell? ⟨w.heap.size,5,none⟩=some (.int .i64 ttl)∧w'.cell? ⟨w.heap.size,6,none⟩=some (.int .i64 pr)∧w'.cell? ⟨w.heap.size,7,none⟩=some (.bool false)∧w'.cell? ⟨w.heap.size,8,none⟩=some (.int .u64 0)∧w'.cell? ⟨w.heap.size,9,none⟩=some (.int .u64 sl)∧w'.cell? ⟨w.heap.size,10,none⟩=some (.bool false)∧w'.cell? ⟨w.heap.size,11,none⟩=some (.int .u64 0)∧w'.cell? ⟨w.heap.size,12,none⟩=some (.int .u64 dl)∧w'.cell? ⟨w.heap.size,13,none⟩=some (.slice AO no co)) (first | with_reducible assumption | with_reducible exact HK6.out | with_reducible exact HK5a.out | with_reducible exact HK5.out | with_reducible exact HKV.out) (first
  | (go_at_call 57; refine HAL.out.mono ?_; rintro e w6 ⟨v2,rfl,own_,bel_,siz_,_⟩; have HO6:=Lib.hid (show w6.ownsRow (w.heap.size+1) 5 1 v2 8 (((allb 1 [64+(20+(no:Int)) / 4,tos]++allb 2 [sz,id,fl])).map (.int .u8)) by rw [List.map_append]; exact own_); have HB6:=Lib.hid bel_; have HS6_:=Lib.hid siz_; have HK6:=Lib.hid (show w6.cell? ⟨w.heap.size,0,none⟩=some (.int .i64 tos)∧w6.cell? ⟨w.heap.size,1,none⟩=some (.int .i64 id)∧w6.cell? ⟨w.heap.size,2,none⟩=some (.bool df)∧w6.cell? ⟨w.heap.size,3,none⟩=some (.bool mf)∧w6.cell? ⟨w.heap.size,4,none⟩=some (.int .i64 fr)∧w6.cell? ⟨w.heap.size,5,none⟩=some (.int .i64 ttl)∧w6.cell? ⟨w.heap.size,6,none⟩=some (.int .i64 pr)∧w6.cell? ⟨w.heap.size,7,none⟩=some (.bool false)∧w6.cell? ⟨w.heap.size,8,none⟩=some (.int .u64 0)∧w6.cell? ⟨w.heap.size,9,none⟩=some (.int .u64 sl)∧w6.cell? ⟨w.heap.size,10,none⟩=some (.bool false)∧w6.cell? ⟨w.heap.size,11,none⟩=some (.int .u64 0)∧w6.cell? ⟨w.heap.size,12,none⟩=some (.int .u64 dl)∧w6.cell? ⟨w.heap.size,13,none⟩=some (.slice AO no co) from ⟨(bel_.cell (p:=⟨w.heap.size,0,none⟩) (Nat.lt_succ_self _)).trans (BOX.out.cell 0),(bel_.cell (p:=⟨w.heap.size,1,none⟩) (Nat.lt_succ_self _)).trans (BOX.out.cell 1),(bel_.cell (p:=⟨w.heap.size,2,none⟩) (Nat.lt_succ_self _)).trans (BOX.out.cell 2),(bel_.cell (p:=⟨w.heap.size,3,none⟩) (Nat.lt_succ_self _)).trans (BOX.out.cell 3),(bel_.cell (p:=⟨w.heap.size,4,none⟩) (Nat.lt_succ_self _)).trans (BOX.out.cell 4),(bel_.cell (p:=⟨w.heap.size,5,none⟩) (Nat.lt_succ_self _)).trans (BOX.out.cell 5),(bel_.cell (p:=⟨w.heap.size,6,none⟩) (Nat.lt_succ_self _)).trans (BOX.out.cell 6),(bel_.cell (p:=⟨w.heap.size,7,none⟩) (Nat.lt_succ_self _)).trans (BOX.out.cell 7),(bel_.cell (p:=⟨w.heap.size,8,none⟩) (Nat.lt_succ_self _)).trans (BOX.out.cell 8),(bel_.cell (p:=⟨w.heap.size,9,none⟩) (Nat.lt_succ_self _)).trans (BOX.out.cell 9),(bel_.cell (p:=⟨w.heap.size,10,none⟩) (Nat.lt_succ_self _)).trans (BOX.out.cell 10),(bel_.cell (p:=⟨w.heap.size,11,none⟩) (Nat.lt_succ_self _)).trans (BOX.out.cell 11),(bel_.cell (p:=⟨w.heap.size,12,none⟩) (Nat.lt_succ_self _)).trans (BOX.out.cell 12),(bel_.cell (p:=⟨w.heap.size,13,none⟩) (Nat.lt_succ_self _)).trans (BOX.out.cell 13)⟩); clear own_ bel_ siz_)
  | (go_at_call 79; refine (HPT.out _).mono ?_; rintro e w5 ⟨rfl,hb⟩; have HO5:=Lib.hid (own_keep HOD.out hb); have HB5:=Lib.hid (bel_to HBD.out hb HSD.out); have HS5_:=Lib.hid (Nat.le_trans HSD.out hb.size); have HK5:=Lib.hid (show w5.cell? ⟨w.heap.size,0,none⟩=some (.int .i64 tos)∧w5.cell? ⟨w.heap.size,1,none⟩=some (.int .i64 id)∧w5.cell? ⟨w.heap.size,2,none⟩=some (.bool df)∧w5.cell? ⟨w.heap.size,3,none⟩=some (.bool mf)∧w5.cell? ⟨w.heap.size,4,none⟩=some (.int .i64 fr)∧w5.cell? ⟨w.heap.size,5,none⟩=some (.int .i64 ttl)∧w5.cell? ⟨w.heap.size,6,none⟩=some (.int .i64 pr)∧w5.cell? ⟨w.heap.size,7,none⟩=some (.bool false)∧w5.cell? ⟨w.heap.size,8,none⟩=some (.int .u64 0)∧w5.cell? ⟨w.heap.size,9,none⟩=some (.int .u64 sl)∧w5.cell? ⟨w.heap.size,10,none⟩=some (.bool false)∧w5.cell? ⟨w.heap.size,11,none⟩=some (.int .u64 0)∧w5.cell? ⟨w.heap.size,12,none⟩=some (.int .u64 dl)∧w5.cell? ⟨w.heap.size,13,none⟩=some (.slice AO no co) from ⟨(HB5.out.cell (p:=⟨w.heap.size,0,none⟩) (Nat.lt_succ_self _)).trans (BOX.out.cell 0),(HB5.out.cell (p:=⟨w.heap.size,1,none⟩) (Nat.lt_succ_self _)).trans (BOX.out.cell 1),(HB5.out.cell (p:=⟨w.heap.size,2,none⟩) (Nat.lt_succ_self _)).trans (BOX.out.cell 2),(HB5.out.cell (p:=⟨w.heap.size,3,none⟩) (Nat.lt_succ_self _)).trans (BOX.out.cell 3),(HB5.out.cell (p:=⟨w.heap.size,4,none⟩) (Nat.lt_succ_self _)).trans (BOX.out.cell 4),(HB5.out.cell (p:=⟨w.heap.size,5,none⟩) (Nat.lt_succ_self _)).trans (BOX.out.cell 5),(HB5.out.cell (p:=⟨w.heap.size,6,none⟩) (Nat.lt_succ_self _)).trans (BOX.out.cell 6),(HB5.out.cell (p:=⟨w.heap.size,7,none⟩) (Nat.lt_succ_self _)).trans (BOX.out.cell 7),(HB5.out.cell (p:=⟨w.heap.size,8,none⟩) (Nat.lt_succ_self _)).trans (BOX.out.cell 8),(HB5.out.cell (p:=⟨w.heap.size,9,none⟩) (Nat.lt_succ_self _)).trans (BOX.out.cell 9),(HB5.out.cell (p:=⟨w.heap.size,10,none⟩) (Nat.lt_succ_self _)).trans (BOX.out.cell 10),(HB5.out.cell (p:=⟨w.heap.size,11,none⟩) (Nat.lt_succ_self _)).trans (BOX.out.cell 11),(HB5.out.cell (p:=⟨w.heap.size,12,none⟩) (Nat.lt_succ_self _)).trans (BOX.out.cell 12),(HB5.out.cell (p:=⟨w.heap.size,13,none⟩) (Nat.lt_succ_self _)).trans (BOX.out.cell 13)⟩); have HB5a:=Lib.hid (HB5.out.alloc HS5_.out (.cells #[.int .u64 sz,.int .u64 id,.int .u64 fl] 22)); have HK5a:=Lib.hid (show (w5.alloc (.cells #[.int .u64 sz,.int .u64 id,.int .u64 fl] 22)).cell? ⟨w.heap.size,0,none⟩=some (.int .i64 tos)∧(w5.alloc (.cells #[.int .u64 sz,.int .u64 id,.int .u64 fl] 22)).cell? ⟨w.heap.size,1,none⟩=some (.int .i64 id)∧(w5.alloc (.cells #[.int .u64 sz,.int .u64 id,.int .u64 fl] 22)).cell? ⟨w.heap.size,2,none⟩=some (.bool df)∧(w5.alloc (.cells #[.int .u64 sz,.int .u64 id,.int .u64 fl] 22)).cell? ⟨w.heap.size,3,none⟩=some (.bool mf)∧(w5.alloc (.cells #[.int .u64 sz,.int .u64 id,.int .u64 fl] 22)).cell? ⟨w.heap.size,4,none⟩=some (.int .i64 fr)∧(w5.alloc (.cells #[.int .u64 sz,.int .u64 id,.int .u64 fl] 22)).cell? ⟨w.heap.size,5,none⟩=some (.int .i64 ttl)∧(w5.alloc (.cells #[.int .u64 sz,.int .u64 id,.int .u64 fl] 22)).cell? ⟨w.heap.size,6,none⟩=some (.int .i64 pr)∧(w5.alloc (.cells #[.int .u64 sz,.int .u64 id,.int .u64 fl] 22)).cell? ⟨w.heap.size,7,none⟩=some (.bool false)∧(w5.alloc (.cells #[.int .u64 sz,.int .u64 id,.int .u64 fl] 22)).cell? ⟨w.heap.size,8,none⟩=some (.int .u64 0)∧(w5.alloc (.cells #[.int .u64 sz,.int .u64 id,.int .u64 fl] 22)).cell? ⟨w.heap.size,9,none⟩=some (.int .u64 sl)∧(w5.alloc (.cells #[.int .u64 sz,.int .u64 id,.int .u64 fl] 22)).cell? ⟨w.heap.size,10,none⟩=some (.bool false)∧(w5.alloc (.cells #[.int .u64 sz,.int .u64 id,.int .u64 fl] 22)).cell? ⟨w.heap.size,11,none⟩=some (.int .u64 0)∧(w5.alloc (.cells #[.int .u64 sz,.int .u64 id,.int .u64 fl] 22)).cell? ⟨w.heap.size,12,none⟩=some (.int .u64 dl)∧(w5.alloc (.cells #[.int .u64 sz,.int .u64 id,.int .u64 fl] 22)).cell? ⟨w.heap.size,13,none⟩=some (.slice AO no co) from ⟨(HB5a.out.cell (p:=⟨w.heap.size,0,none⟩) (Nat.lt_succ_self _)).trans (BOX.out.cell 0),(HB5a.out.cell (p:=⟨w.heap.size,1,none⟩) (Nat.lt_succ_self _)).trans (BOX.out.cell 1),(HB5a.out.cell (p:=⟨w.heap.size,2,none⟩) (Nat.lt_succ_self _)).trans (BOX.out.cell 2),(HB5a.out.cell (p:=⟨w.heap.size,3,none⟩) (Nat.lt_succ_self _)).trans (BOX.out.cell 3),(HB5a.out.cell (p:=⟨w.heap.size,4,none⟩) (Nat.lt_succ_self _)).trans (BOX.out.cell 4),(HB5a.out.cell (p:=⟨w.heap.size,5,none⟩) (Nat.lt_succ_self _)).trans (BOX.out.cell 5),(HB5a.out.cell (p:=⟨w.heap.size,6,none⟩) (Nat.lt_succ_self _)).trans (BOX.out.cell 6),(HB5a.out.cell (p:=⟨w.heap.size,7,none⟩) (Nat.lt_succ_self _)).trans (BOX.out.cell 7),(HB5a.out.cell (p:=⟨w.heap.size,8,none⟩) (Nat.lt_succ_self _)).trans (BOX.out.cell 8),(HB5a.out.cell (p:=⟨w.heap.size,9,none⟩) (Nat.lt_succ_self _)).trans (BOX.out.cell 9),(HB5a.out.cell (p:=⟨w.heap.size,10,none⟩) (Nat.lt_succ_self _)).trans (BOX.out.cell 10),(HB5a.out.cell (p:=⟨w.heap.size,11,none⟩) (Nat.lt_succ_self _)).trans (BOX.out.cell 11),(HB5a.out.cell (p:=⟨w.heap.size,12,none⟩) (Nat.lt_succ_self _)).trans (BOX.out.cell 12),(HB5a.out.cell (p:=⟨w.heap.size,13,none⟩) (Nat.lt_succ_self _)).trans (BOX.out.cell 13)⟩); have hal:=all_keep w5.heap.size #[.int .u64 sz,.int .u64 id,.int .u64 fl] v1 2 ((allb 1 [64+(20+(no:Int)) / 4,tos]).map (.int .u8)) 2 3 3 [sz,id,fl] (w.heap.size+1) (w.heap.size+1) (w.alloc (.cells #[.int .i64 tos,.int .i64 id,.bool df,.bool mf,.int .i64 fr,.int .i64 ttl,.int .i64 pr,.bool false,.int .u64 0,.int .u64 sl,.bool false,.int .u64 0,.int .u64 dl,.slice AO no co] 82)) (w5.alloc (.cells #[.int .u64 sz,.int .u64 id,.int .u64 fl] 22)) (HO5.out.alloc _) (Nat.le_trans HS5_.out ((Below.refl 0 _).alloc (Nat.zero_le _) _).size) (by omega) HB5a.out (Nat.le_refl _) rfl (Blk.new w5 22 #[.int .u64 sz,.int .u64 id,.int .u64 fl]) rfl U2.out; rw [HS2.out] at hal; have HAL:=Lib.hid hal; clear hb hal))
 clear HKV HBD HSD HOD HK6 HK5 HK5a HAL HB5 HS5_ HB5a HO5 r5 r6 HB4 HS4_ HO4
 have HBa:=Lib.hid (HB6.out.alloc HS6_.out (.cells #[.int .u64 ttl,.int .u64 pr] 22))
 have hal:=all_keep w6.heap.size #[.int .u64 ttl,.int .u64 pr] v2 8 (((allb 1 [64+(20+(no:Int)) / 4,tos]++allb 2 [sz,id,fl])).map (.int .u8)) 1 2 2 [ttl,pr] (w.heap.size+1) (w.heap.size+1) (w.alloc (.cells #[.int .i64 tos,.int .i64 id,.bool df,.bool mf,.int .i64 fr,.int .i64 ttl,.int .i64 pr,.bool false,.int .u64 0,.int .u64 sl,.bool false,.int .u64 0,.int .u64 dl,.slice AO no co] 82)) (w6.alloc (.cells #[.int .u64 ttl,.int .u64 pr] 22)) (HO6.out.alloc _) (Nat.le_trans HS6_.out ((Below.refl 0 _).alloc (Nat.zero_le _) _).size) (by omega) HBa.out (Nat.le_refl _) rfl (Blk.new w6 22 #[.int .u64 ttl,.int .u64 pr]) rfl U3.out
 rw [HS1.out] at hal
 have HAL:=Lib.hid hal
 clear hal
 have o5:w6.cell? ⟨w.heap.size,5,none⟩=some (.int .i64 ttl):=(HB6.out.cell (p:=⟨w.heap.size,5,none⟩) (Nat.lt_succ_self _)).trans (BOX.out.cell 5)
 have o6:w6.cell? ⟨w.heap.size,6,none⟩=some (.int .i64 pr):=(HB6.out.cell (p:=⟨w.heap.size,6,none⟩) (Nat.lt_succ_self _)).trans (BOX.out.cell 6)
 obtain ⟨r7,r8⟩:=RC.out
 go_wp2_with fail
 clear r7 r8 o5 o6 HBa
 refine HAL.out.mono ?_
 rintro e w7 ⟨v3,rfl,hown,hbel,hsz_,_⟩
 have HO7:=Lib.hid (show w7.ownsRow (w.heap.size+1) 5 1 v3 10 ((((allb 1 [64+(20+(no:Int)) / 4,tos]++allb 2 [sz,id,fl])++allb 1 [ttl,pr])).map (.int .u8)) by rw [List.map_append]; exact hown)
 have HB7:=Lib.hid hbel
 have HS7_:=Lib.hid hsz_
 clear hown hbel hsz_ HAL HO6 HB6 HS6_
 have hp:=put_any v3 10 _ 0 2 (w.heap.size+1) (w.heap.size+1) (w.alloc (.cells #[.int .i64 tos,.int .i64 id,.bool df,.bool mf,.int .i64 fr,.int .i64 ttl,.int .i64 pr,.bool false,.int .u64 0,.int .u64 sl,.bool false,.int .u64 0,.int .u64 dl,.slice AO no co] 82)) w7 HO7.out HS7_.out (by omega) HB7.out (Nat.le_refl _) (by omega) (by omega)
 rw [HS2.out] at hp
 have HP:=Lib.hid hp
 clear hp
 go_wp2_with fail
 refine HP.out.mono ?_
 rintro e w8 ⟨v4,rfl,hown,hbel,hsz_⟩
 have HO8:=Lib.hid (show w8.ownsRow (w.heap.size+1) 5 1 v4 12 (((((allb 1 [64+(20+(no:Int)) / 4,tos]++allb 2 [sz,id,fl])++allb 1 [ttl,pr])++pb 0 2 2)).map (.int .u8)) by rw [List.map_append]; exact hown)
 have HB8:=Lib.hid hbel
 have HS8_:=Lib.hid hsz_
 clear hown hbel hsz_ HP HO7 HB7 HS7_
 have HBa:=Lib.hid (HB8.out.alloc HS8_.out (.cells #[.int .u64 sl,.int .u64 dl] 22))
 have hal:=all_keep w8.heap.size #[.int .u64 sl,.int .u64 dl] v4 12 (((((allb 1 [64+(20+(no:Int)) / 4,tos]++allb 2 [sz,id,fl])++allb 1 [ttl,pr])++pb 0 2 2)).map (.int .u8)) 4 2 2 [sl,dl] (w.heap.size+1) (w.heap.size+1) (w.alloc (.cells #[.int .i64 tos,.int .i64 id,.bool df,.bool mf,.int .i64 fr,.int .i64 ttl,.int .i64 pr,.bool false,.int .u64 0,.int .u64 sl,.bool false,.int .u64 0,.int .u64 dl,.slice AO no co] 82)) (w8.alloc (.cells #[.int .u64 sl,.int .u64 dl] 22)) (HO8.out.alloc _) (Nat.le_trans HS8_.out ((Below.refl 0 _).alloc (Nat.zero_le _) _).size) (by omega) HBa.out (Nat.le_refl _) rfl (Blk.new w8 22 #[.int .u64 sl,.int .u64 dl]) rfl U4.out
 rw [HS4.out] at hal
 have HAL:=Lib.hid hal
 clear hal
 have o9:w8.cell? ⟨w.heap.size,9,none⟩=some (.int .u64 sl):=(HB8.out.cell (p:=⟨w.heap.size,9,none⟩) (Nat.lt_succ_self _)).trans (BOX.out.cell 9)
 have o12:w8.cell? ⟨w.heap.size,12,none⟩=some (.int .u64 dl):=(HB8.out.cell (p:=⟨w.heap.size,12,none⟩) (Nat.lt_succ_self _)).trans (BOX.out.cell 12)
 go_wp2_with fail
 clear o9 o12 HBa
 refine HAL.out.mono ?_
 rintro e w9 ⟨v5,rfl,hown,hbel,hsz_,_⟩
 have HO9:=Lib.hid (show w9.ownsRow (w.heap.size+1) 5 1 v5 20 ((((((allb 1 [64+(20+(no:Int)) / 4,tos]++allb 2 [sz,id,fl])++allb 1 [ttl,pr])++pb 0 2 2)++allb 4 [sl,dl])).map (.int .u8)) by rw [List.map_append]; exact hown)
 have HB9:=Lib.hid hbel
 have HS9_:=Lib.hid hsz_
 clear hown hbel hsz_ HAL HO8 HB8 HS8_
 have o13:w9.cell? ⟨w.heap.size,13,none⟩=some (.slice AO no co):=(HB9.out.cell (p:=⟨w.heap.size,13,none⟩) (Nat.lt_succ_self _)).trans (BOX.out.cell 13)
 have P1:=Lib.hid (show 20+no≤maxLen by unfold maxLen; omega)
 have Q1:=Lib.hid (show (20+no)*1≤140737488355328 by omega)
 have RO:=Lib.hid (HOR.out.below (HB0.out.trans (HB9.out.mono (Nat.le_succ _))))
 have EQ:=Lib.hid (show (((((allb 1 [64+(20+(no:Int)) / 4,tos]++allb 2 [sz,id,fl])++allb 1 [ttl,pr])++pb 0 2 2)++allb 4 [sl,dl])).map (.int .u8)++os.map (Value.int .u8)=(hk tos id fl ttl pr sl dl 0 sz os).map (.int .u8) by rw [← HPUT.out]; exact List.map_append.symm)
 obtain ⟨N,hN⟩:∃ N,N=20+no:=⟨_,rfl⟩
 have EN:=Lib.hid (show 20+no=N from hN.symm)
 have N20:20≤N:=by omega
 have N60:N≤60:=by omega
 clear hN
 go_wp2_with (at_builtin; refine wpList_append_row rfl (.tmp 58) (.tmp 60) _ rfl (w.heap.size+1) 5 i0 _ 1 Try.underlying47 HI0.out HZ0.out HZ1.out HZ2.out rfl v5 20 _ rfl HO9.out AO no co w.heap.size (os.map (.int .u8)) rfl HOZ.out (by rw [List.length_map]; exact HOL.out) RO.out (ONE.out _) P1.out Q1.out HS9_.out ?_; intro va wa owna ga; rw [EQ.out,EN.out] at owna; obtain ⟨Aa,ca,rfl⟩:=own_slice owna; have HOa:=Lib.hid owna; have HBa:=Lib.hid (below_grown HB9.out HO9.out (Nat.le_refl _) HS9_.out ga); clear owna ga)
 have HBW:=Lib.hid (HB0.out.trans (HBa.out.mono (Nat.le_succ _)))
 have hoa:=HOa.out
 have HZA:=Lib.hid (own_none hoa)
 have efl:flat [⟨Aa,ca,hk tos id fl ttl pr sl dl 0 sz os⟩]=hk tos id fl ttl pr sl dl 0 sz os:=by simp [flat]
 have HBX:=Lib.hid (HBW.out.alloc HBW.out.size (.cells #[.slice Aa N ca] 47))
 have hrw:=own_row (hoa.alloc (.cells #[.slice Aa N ca] 47))
 have hck:=sumC.check_any (some ⟨wa.heap.size,0,none⟩) 1 1 [⟨Aa,ca,hk tos id fl ttl pr sl dl 0 sz os⟩] (wa.alloc (.cells #[.slice Aa N ca] 47)) (wa.heap.size+1) rfl (by omega) (by rw [efl,HLEN.out]; omega) (by
  have:=sumC.row_blk (Blk.new wa 47 #[.slice Aa N ca])
  rw [show ([⟨Aa,ca,hk tos id fl ttl pr sl dl 0 sz os⟩]:List Part).map Part.val=[.slice Aa N ca] by show [Value.slice Aa (hk tos id fl ttl pr sl dl 0 sz os).length ca]=_; rw [HLEN.out,EN.out]]
  exact this.more (by simp)) (fun p hp=>by
  simp only [List.mem_cons,List.not_mem_nil,or_false] at hp
  subst hp
  exact ⟨hrw.more (by simp),HIN.out⟩)
 rw [efl] at hck
 have HCKC:=Lib.hid hck
 have HRX:=Lib.hid hrw
 clear efl hck hrw hoa o13 P1 Q1 RO EQ HO9 HB9 HS9_
 refine HCKC.out.mono ?_
 rintro e wk ⟨rfl,rfl⟩
 rw [HCK.out]
 have HSET:=Lib.hid (set_yes Aa N ca (hk tos id fl ttl pr sl dl 0 sz os) 10 2 ck (wa.alloc (.cells #[.slice Aa N ca] 47)) (by rw [HLEN.out,EN.out]) (by omega) HZA.out HRX.out (by omega) (by omega) HCKB.out.1 (by have:=HCKB.out; omega))
 have hfc:IntKind.u64.wrap ck=ck:=by have:=HCKB.out; rw [IntKind.wrap_u64]; omega
 generalize wa.alloc (.cells #[.slice Aa N ca] 47)=X at *
 go_wp2_with fail
 clear hfc
 refine HSET.out.mono ?_
 rintro e w12 ⟨vs,rfl,hown,hbel,hsz_⟩
 rw [HSP.out] at hown
 have HO12:=Lib.hid hown
 have HB12:=Lib.hid hbel
 have HS12:=Lib.hid hsz_
 have HBWX:=Lib.hid (HBX.out.trans (hbel.mono HBX.out.size))
 have P2:=Lib.hid (show N+n≤maxLen by unfold maxLen; omega)
 have Q2:=Lib.hid (show (N+n)*1≤140737488355328 by omega)
 have RP:=Lib.hid (HR.out.below HBWX.out)
 clear hown hbel hsz_
 go_wp2_with (at_builtin; refine wpList_append_row rfl (.tmp 68) (.tmp 69) _ rfl X.heap.size 5 i0 _ 1 Try.underlying47 HI0.out HZ0.out HZ1.out HZ2.out rfl vs N _ rfl HO12.out A n c w.heap.size (pl.map (.int .u8)) rfl HZ.out (by rw [List.length_map]; exact HL.out) RP.out (ONE.out _) P2.out Q2.out HS12.out ?_; intro vd wd ownd gd; have HOd:=Lib.hid ownd; have HBd:=Lib.hid (below_grown HB12.out HO12.out (Nat.le_refl _) HS12.out gd); clear ownd gd)
 go_ret2
 have hfin:=HOd.out
 rw [← List.map_append,← EN.out,← HLN2.out] at hfin
 exact ⟨_,rfl,own_base hfin HBX.out.size,HBX.out.trans (HBd.out.mono HBX.out.size)⟩
end Go.Proofs.Ytnofddbfogilaaa.fourE
/- Layer 8: what an address must be. -/
namespace Go.Proofs.Ytnofddbfogilaaa.fourOn
open Go.ChangeShapes Go.WideShapes Go.ChangeAt Go.RowKit
open base rdrA net fourC
set_option linter.unusedVariables false
def okA (v6:Bool) (h l:Int):Prop:=v6=false∧h=0∧l≤4294967295
theorem addr_yes (x:Int) (w:World) (h0:0≤x) (h1:x≤4294967295):Calls Try.prog 30 #[.agg #[.bool false,.int .u64 0,.int .u64 x]] w fun e w'=>e=.returned (.bool true)∧Below w.heap.size w w':=addrright_yes x w h0 h1
theorem addr_no (h x:Int) (w:World) (hn:¬ okA false h x):Calls Try.prog 30 #[.agg #[.bool false,.int .u64 h,.int .u64 x]] w fun e w'=>e=.returned (.bool false)∧Below w.heap.size w w':=by
 by_cases h0:h=0
 ·have q1:(h == 0)=true:=eqT h0
  have q2:decide (x<4294967296)=false:=decide_eq_false (fun hx=>hn ⟨rfl,h0,by omega⟩)
  clear hn h0
  go_enter Try.func30,Try.ntmps30
  go_wp2
  go_ret
  exact ⟨rfl,(Below.refl _ _).alloc (Nat.le_refl _) _⟩
 ·have q1:(h == 0)=false:=eqF h0
  clear hn h0
  go_enter Try.func30,Try.ntmps30
  go_wp2
  go_ret
  exact ⟨rfl,(Below.refl _ _).alloc (Nat.le_refl _) _⟩
end Go.Proofs.Ytnofddbfogilaaa.fourOn
namespace Go.Proofs.Ytnofddbfogilaaa.fourJn
end Go.Proofs.Ytnofddbfogilaaa.fourJn
