/- 1 texts in one. -/
import Derived.Test.YtnofddbfogilaaaGq04
/- Layer 8: a header's fields, how long it is, what it says. -/
namespace Go.Proofs.Ytnofddbfogilaaa.fourA
set_option maxHeartbeats 8000000
set_option maxRecDepth 100000
open Go.ChangeShapes Go.WideShapes Go.ChangeAt Go.RowKit
open base sumB octA octB rdrA udpA tcpC net
set_option linter.unusedVariables false
theorem i64_and_nat (a b:Nat) (ha:a<9223372036854775808) (hb:b<9223372036854775808):bits .and .i64 (a:Int) (b:Int)=((a &&& b:Nat):Int):=by
 have hA:(BitVec.ofInt 64 (a:Int)).toNat=a:=by rw [BitVec.ofInt_natCast,BitVec.toNat_ofNat]; exact Nat.mod_eq_of_lt (by omega)
 have hB:(BitVec.ofInt 64 (b:Int)).toNat=b:=by rw [BitVec.ofInt_natCast,BitVec.toNat_ofNat]; exact Nat.mod_eq_of_lt (by omega)
 show IntKind.i64.wrap ((BitVec.ofInt 64 (a:Int) &&& BitVec.ofInt 64 (b:Int)).toNat:Nat)=_
 rw [BitVec.toNat_and,hA,hB]
 have:a &&& b≤a:=Nat.and_le_left
 exact IntWalk.i64_in _ (by omega)
theorem and_pow (n k:Nat):n &&& 2 ^ k=if n.testBit k then 2 ^ k else 0:=by
 apply Nat.eq_of_testBit_eq
 intro i
 rw [Nat.testBit_and,Nat.testBit_two_pow]
 by_cases h:k=i
 ·subst h
  cases hn:n.testBit k <;> simp [Nat.testBit_two_pow_self]
 ·split <;> simp [h]
theorem u64_and_nat (a b:Nat) (ha:a<18446744073709551616) (hb:b<18446744073709551616):bits .and .u64 (a:Int) (b:Int)=((a &&& b:Nat):Int):=by
 have hA:(BitVec.ofInt 64 (a:Int)).toNat=a:=by rw [BitVec.ofInt_natCast,BitVec.toNat_ofNat]; exact Nat.mod_eq_of_lt (by omega)
 have hB:(BitVec.ofInt 64 (b:Int)).toNat=b:=by rw [BitVec.ofInt_natCast,BitVec.toNat_ofNat]; exact Nat.mod_eq_of_lt (by omega)
 show IntKind.u64.wrap ((BitVec.ofInt 64 (a:Int) &&& BitVec.ofInt 64 (b:Int)).toNat:Nat)=_
 rw [BitVec.toNat_and,hA,hB]
 have:a &&& b≤a:=Nat.and_le_left
 rw [IntKind.wrap_u64]
 omega
theorem and_low13 (v:Int) (h0:0≤v) (h1:v≤65535):bits .and .i64 v 8191=v % 8192:=by
 obtain ⟨n,rfl⟩:=Int.eq_ofNat_of_zero_le h0
 have e:bits .and .i64 (n:Int) 8191=((n &&& 8191:Nat):Int):=i64_and_nat n 8191 (by omega) (by omega)
 have:=Nat.and_two_pow_sub_one_eq_mod n 13
 rw [e,show (8191:Nat)=2 ^ 13 - 1 from rfl,this]
 rfl
theorem tbit (n k:Nat):n.testBit k=decide (n / 2 ^ k % 2=1):=Nat.testBit_eq_decide_div_mod_eq
theorem bit13 (v:Int) (h0:0≤v) (h1:v≤65535):(bits .and .i64 v 8192 != 0)=decide (v / 8192 % 2=1):=by
 obtain ⟨n,rfl⟩:=Int.eq_ofNat_of_zero_le h0
 have e:bits .and .i64 (n:Int) 8192=((n &&& 8192:Nat):Int):=i64_and_nat n 8192 (by omega) (by omega)
 rw [e,show (8192:Nat)=2 ^ 13 from rfl,and_pow,tbit]
 by_cases h:n / 2 ^ 13 % 2=1
 ·have:(n:Int) / 8192 % 2=1:=by omega
  simp [h,this]
 ·have:¬ (n:Int) / 8192 % 2=1:=by omega
  simp [h,this]
theorem bit14 (v:Int) (h0:0≤v) (h1:v≤65535):(bits .and .i64 v 16384 != 0)=decide (v / 16384 % 2=1):=by
 obtain ⟨n,rfl⟩:=Int.eq_ofNat_of_zero_le h0
 have e:bits .and .i64 (n:Int) 16384=((n &&& 16384:Nat):Int):=i64_and_nat n 16384 (by omega) (by omega)
 rw [e,show (16384:Nat)=2 ^ 14 from rfl,and_pow,tbit]
 by_cases h:n / 2 ^ 14 % 2=1
 ·have:(n:Int) / 16384 % 2=1:=by omega
  simp [h,this]
 ·have:¬ (n:Int) / 16384 % 2=1:=by omega
  simp [h,this]
theorem bit15 (v:Int) (h0:0≤v) (h1:v≤65535):(bits .and .u64 v 32768 != 0)=decide (32768≤v):=by
 obtain ⟨n,rfl⟩:=Int.eq_ofNat_of_zero_le h0
 have e:bits .and .u64 (n:Int) 32768=((n &&& 32768:Nat):Int):=u64_and_nat n 32768 (by omega) (by omega)
 rw [e,show (32768:Nat)=2 ^ 15 from rfl,and_pow,tbit]
 by_cases h:n / 2 ^ 15 % 2=1
 ·have:(32768:Int)≤(n:Int):=by omega
  simp [h,this]
 ·have:¬ (32768:Int)≤(n:Int):=by omega
  simp [h,this]
theorem and15 (y:Int) (h0:0≤y) (h1:y≤255):bits .and .u8 y 15=y % 16:=by
 obtain ⟨n,rfl⟩:=Int.eq_ofNat_of_zero_le h0
 have hn:n<256:=by omega
 have h:∀ n:Fin 256,bits .and .u8 ((n.val:Nat):Int) 15=((n.val:Nat):Int) % 16:=by decide +kernel
 exact h ⟨n,hn⟩
theorem v4_any (n:Int) (h0:0≤n) (h1:n≤4294967295) (w:World) :
  Calls Try.prog 36 #[.int .u32 n] w fun e w'=>e=.returned (.agg #[.bool false,.int .u64 0,.int .u64 n])∧Below w.heap.size w w':=by
 have v:IntKind.u64.wrap n=n:=by rw [IntKind.wrap_u64]; omega
 go_enter Try.func36,Try.ntmps36
 go_wp2
 exact bodyPost_ret (v:=.agg #[.bool false,.int .u64 0,.int .u64 n]) (by simp [results,Try.results36,go_sem]) rfl ⟨rfl,(Below.refl _ _).alloc (Nat.le_refl _) _⟩
def hl (l:List Int):Int:=l.getD 0 0 % 16*4
theorem begin_short (A:Option Addr) (n c:Nat) (w:World) (hn:n<20) :
  Calls Try.prog 63 #[.slice A n c] w fun e w'=>e=.returned (.tuple #[.int .i64 0,.int .i64 2])∧w=w':=by
 go_enter Try.func63,Try.ntmps63
 go_wp2
 go_ret2
 exact ⟨rfl,rfl⟩
theorem begin_no (b off n c:Nat) (l:List Int) (w:World) (hl':l.length=n) (hn:20≤n) (hb:b<w.heap.size) (hs:Lies w b off l) (hx:∀ x ∈ l,0≤x∧x≤255) (k:Int)
  (hw:(l.getD 0 0 / 16≠4∧k=10)∨(l.getD 0 0 / 16=4∧hl l<20∧k=11)∨(l.getD 0 0 / 16=4∧20≤hl l∧(n:Int)<hl l∧k=11)) :
  Calls Try.prog 63 #[.slice (some ⟨b,off,none⟩) n c] w fun e w'=>e=.returned (.tuple #[.int .i64 0,.int .i64 k])∧w=w':=by
 have hx0:=getD_in l hx 0
 have q0:w.cell? ⟨b,off,none⟩=some (.int .u8 (l.getD 0 0)):=hs 0 (by omega)
 have hand:=and15 (l.getD 0 0) hx0.1 hx0.2
 have y0:0<n:=by omega
 unfold hl at hw
 clear hs hx hl'
 generalize l.getD 0 0=y at *
 obtain ⟨z0,z1⟩:=hx0
 rcases hw with ⟨hw,rfl⟩ | ⟨hw1,hw,rfl⟩ | ⟨hw1,hw2,hw,rfl⟩
 ·have t1:(y / 16 != 4)=true:=bneT hw
  go_enter Try.func63,Try.ntmps63
  go_wp2
  go_ret2
  exact ⟨rfl,rfl⟩
 ·have t1:(y / 16 != 4)=false:=bneF hw1
  have t2:decide (y % 16*4<20)=true:=decide_eq_true hw
  go_enter Try.func63,Try.ntmps63
  go_wp2
  go_ret2
  exact ⟨rfl,rfl⟩
 ·have t1:(y / 16 != 4)=false:=bneF hw1
  have t2:decide (y % 16*4<20)=false:=decide_eq_false (by omega)
  have t3:decide ((n:Int)<y % 16*4)=true:=decide_eq_true hw
  go_enter Try.func63,Try.ntmps63
  go_wp2
  go_ret2
  exact ⟨rfl,rfl⟩
theorem begin_ok (b off n c:Nat) (l:List Int) (w:World) (hl':l.length=n) (hn:20≤n) (hb:b<w.heap.size) (hs:Lies w b off l) (hx:∀ x ∈ l,0≤x∧x≤255)
  (h1:l.getD 0 0 / 16=4) (h2:20≤hl l) (h3:hl l≤n) :
  Calls Try.prog 63 #[.slice (some ⟨b,off,none⟩) n c] w fun e w'=>e=.returned (.tuple #[.int .i64 (hl l),.int .i64 0])∧w=w':=by
 have hx0:=getD_in l hx 0
 have q0:w.cell? ⟨b,off,none⟩=some (.int .u8 (l.getD 0 0)):=hs 0 (by omega)
 have hand:=and15 (l.getD 0 0) hx0.1 hx0.2
 have y0:0<n:=by omega
 unfold hl at *
 clear hs hx hl'
 generalize l.getD 0 0=y at *
 obtain ⟨z0,z1⟩:=hx0
 have t1:(y / 16 != 4)=false:=bneF h1
 have t2:decide (y % 16*4<20)=false:=decide_eq_false (by omega)
 have t3:decide ((n:Int)<y % 16*4)=false:=decide_eq_false (by omega)
 go_enter Try.func63,Try.ntmps63
 go_wp2
 go_ret2
 exact ⟨rfl,rfl⟩
def hd (l:List Int) (A:Option Addr) (n c:Nat):Value:=.agg #[.int .i64 (l.getD 1 0),.int .i64 (w16 l 4),.bool (decide (w16 l 6 / 16384 % 2=1)),.bool (decide (w16 l 6 / 8192 % 2=1)),.int .i64 (w16 l 6 % 8192),.int .i64 (l.getD 8 0),.int .i64 (l.getD 9 0),.bool false,.int .u64 0,.int .u64 (w32 l 12),.bool false,.int .u64 0,.int .u64 (w32 l 16),.slice A n c]
def ReadPost (w:World) (l:List Int) (e:Ending) (w':World):Prop :=
 ∃ A n c,n=l.length - 20∧e=.returned (hd l A n c)∧(A=none→c=0)∧w'.ownsRow w.heap.size 5 1 (.slice A n c) n ((l.drop 20).map (.int .u8))∧Below w.heap.size w w'
theorem read_any (b off n c:Nat) (l:List Int) (w:World) (hl':l.length=n) (hn:20≤n) (hn2:n≤1000) (hnc:n≤c) (hc:c≤9223372036854775807) (hb:b<w.heap.size) (hs:Lies w b off l) (hx:∀ x ∈ l,0≤x∧x≤255) :
  Calls Try.prog 66 #[.slice (some ⟨b,off,none⟩) n c] w (ReadPost w l):=by
 have HL:=Lib.hid hl'
 have HX:=Lib.hid hx
 have k1:=getD_in l hx 1
 have k4:=w16_in l hx 4
 have k6:=w16_in l hx 6
 have k8:=getD_in l hx 8
 have k9:=getD_in l hx 9
 have k12:=w32_in l hx 12
 have k16:=w32_in l hx 16
 have V12:=Lib.hid (show IntKind.u32.wrap (w32 l 12)=w32 l 12 by rw [IntKind.wrap_u32]; omega)
 have V16:=Lib.hid (show IntKind.u32.wrap (w32 l 16)=w32 l 16 by rw [IntKind.wrap_u32]; omega)
 have HM1:=Lib.hid (and_low13 _ k6.1 k6.2)
 have HM2:=Lib.hid (bit13 _ k6.1 k6.2)
 have HM3:=Lib.hid (bit14 _ k6.1 k6.2)
 have HR0:=Lib.hid (read_rdr b off n c w.heap.size l (w.alloc (.cells #[.int .i64 0,.int .i64 0,.bool false,.bool false,.int .i64 0,.int .i64 0,.int .i64 0,.bool false,.int .u64 0,.int .u64 0,.bool false,.int .u64 0,.int .u64 0,.slice none 0 0] 82)) hl' hnc hc hb (by simp) (hs.below ((Below.refl _ _).alloc (Nat.le_refl _) _) hb))
 have HZ:=Lib.hid (show (w.alloc (.cells #[.int .i64 0,.int .i64 0,.bool false,.bool false,.int .i64 0,.int .i64 0,.int .i64 0,.bool false,.int .u64 0,.int .u64 0,.bool false,.int .u64 0,.int .u64 0,.slice none 0 0] 82)).heap.size=w.heap.size+1 by simp)
 have HB0:=Lib.hid (show Below w.heap.size w (w.alloc (.cells #[.int .i64 0,.int .i64 0,.bool false,.bool false,.int .i64 0,.int .i64 0,.int .i64 0,.bool false,.int .u64 0,.int .u64 0,.bool false,.int .u64 0,.int .u64 0,.slice none 0 0] 82)) from (Below.refl _ _).alloc (Nat.le_refl _) _)
 have HRES:=Lib.hid (Blk.new w 82 #[.int .i64 0,.int .i64 0,.bool false,.bool false,.int .i64 0,.int .i64 0,.int .i64 0,.bool false,.int .u64 0,.int .u64 0,.bool false,.int .u64 0,.int .u64 0,.slice none 0 0])
 have HLD:=Lib.hid (show (l.drop 20).length=n - 20 by rw [List.length_drop,hl'])
 clear hs hx hl'
 generalize h1:l.getD 1 0=x1 at *
 generalize h4:w16 l 4=x4 at *
 generalize h6:w16 l 6=x6 at *
 generalize h8:l.getD 8 0=x8 at *
 generalize h9:l.getD 9 0=x9 at *
 generalize h12:w32 l 12=x12 at *
 generalize h16:w32 l 16=x16 at *
 have H1:=Lib.hid h1
 have H4:=Lib.hid h4
 have H6:=Lib.hid h6
 have H8:=Lib.hid h8
 have H9:=Lib.hid h9
 have H12:=Lib.hid h12
 have H16:=Lib.hid h16
 clear h1 h4 h6 h8 h9 h12 h16
 have HV12:=Lib.hid (v4_any x12 k12.1 k12.2)
 have HV16:=Lib.hid (v4_any x16 k16.1 k16.2)
 generalize hmf:decide (x6 / 8192 % 2=1)=mf at *
 generalize hdf:decide (x6 / 16384 % 2=1)=df at *
 generalize hfr:x6 % 8192=fr at *
 have HMF:=Lib.hid hmf
 have HDF:=Lib.hid hdf
 have HFR:=Lib.hid hfr
 clear hmf hdf hfr
 go_enter Try.func66,Try.ntmps66
 go_wp2_with fail
 refine HR0.out.mono ?_
 rintro e w1 ⟨rfl,hrdr,hbel,hsz⟩
 rw [HZ.out] at hrdr hbel hsz
 have HR:=Lib.hid hrdr
 have HB:=Lib.hid (HB0.out.trans (hbel.mono (by omega)))
 have HRS:=Lib.hid (HRES.out.below hbel (by omega))
 clear hrdr hbel hsz HR0 HB0 HRES HZ
 go_wp2_with fail
 refine (num_one w.heap.size (w.heap.size+1) 0 l _ (by omega) HR.out (by rw [HL.out]; omega) HX.out).mono ?_
 rintro e w2 ⟨he,hrdr,hon⟩
 subst he
 have HR_9:=Lib.hid hrdr
 have HB_9:=Lib.hid (hon.from HB.out (by omega))
 have HRS_9:=Lib.hid (hon.blk HRS.out (by omega))
 clear hrdr hon HR HB HRS
 have HR:=HR_9
 have HB:=HB_9
 have HRS:=HRS_9
 clear HR_9 HB_9 HRS_9
 generalize l.getD 0 0=x0 at *
 go_wp2_with fail
 refine (num_one w.heap.size (w.heap.size+1) 1 l _ (by omega) HR.out (by rw [HL.out]; omega) HX.out).mono ?_
 rintro e w3 ⟨he,hrdr,hon⟩
 rw [H1.out] at he
 subst he
 have HR_9:=Lib.hid hrdr
 have HB_9:=Lib.hid (hon.from HB.out (by omega))
 have HRS_9:=Lib.hid (hon.blk HRS.out (by omega))
 clear hrdr hon HR HB HRS
 have HR:=HR_9
 have HB:=HB_9
 have HRS:=HRS_9
 clear HR_9 HB_9 HRS_9
 go_wp2_with fail
 have HH:=Lib.hid (Blk.new w3 82 #[.int .i64 x1,.int .i64 0,.bool false,.bool false,.int .i64 0,.int .i64 0,.int .i64 0,.bool false,.int .u64 0,.int .u64 0,.bool false,.int .u64 0,.int .u64 0,.slice none 0 0])
 have hgh:w.heap.size+1<w3.heap.size:=HR.out.lt
 have HR_9:=Lib.hid (Rdr_keep HR.out (HB.out.size) ((Below.refl _ _).alloc (Nat.le_refl _) (.cells #[.int .i64 x1,.int .i64 0,.bool false,.bool false,.int .i64 0,.int .i64 0,.int .i64 0,.bool false,.int .u64 0,.int .u64 0,.bool false,.int .u64 0,.int .u64 0,.slice none 0 0] 82)))
 have HB_9:=Lib.hid (bel_alloc HB.out (.cells #[.int .i64 x1,.int .i64 0,.bool false,.bool false,.int .i64 0,.int .i64 0,.int .i64 0,.bool false,.int .u64 0,.int .u64 0,.bool false,.int .u64 0,.int .u64 0,.slice none 0 0] 82))
 have HRS_9:=Lib.hid (HRS.out.alloc (.cells #[.int .i64 x1,.int .i64 0,.bool false,.bool false,.int .i64 0,.int .i64 0,.int .i64 0,.bool false,.int .u64 0,.int .u64 0,.bool false,.int .u64 0,.int .u64 0,.slice none 0 0] 82))
 clear HR HB HRS
 have HR:=HR_9
 have HB:=HB_9
 have HRS:=HRS_9
 clear HR_9 HB_9 HRS_9
 generalize w3.alloc (.cells #[.int .i64 x1,.int .i64 0,.bool false,.bool false,.int .i64 0,.int .i64 0,.int .i64 0,.bool false,.int .u64 0,.int .u64 0,.bool false,.int .u64 0,.int .u64 0,.slice none 0 0] 82)=w4 at *
 generalize w3.heap.size=h at *
 refine (num_two w.heap.size (w.heap.size+1) 2 l _ (by omega) HR.out (by rw [HL.out]; omega) HX.out).mono ?_
 rintro e w5 ⟨he,hrdr,hon⟩
 subst he
 have HR_9:=Lib.hid hrdr
 have HB_9:=Lib.hid (hon.from HB.out (by omega))
 have HRS_9:=Lib.hid (hon.blk HRS.out (by omega))
 have HH_9:=Lib.hid (hon.blk HH.out (by omega))
 clear hrdr hon HR HB HRS HH
 have HR:=HR_9
 have HB:=HB_9
 have HRS:=HRS_9
 have HH:=HH_9
 clear HR_9 HB_9 HRS_9 HH_9
 generalize w16 l 2=x2 at *
 go_wp2_with fail
 refine (num_two w.heap.size (w.heap.size+1) 4 l _ (by omega) HR.out (by rw [HL.out]; omega) HX.out).mono ?_
 rintro e w6 ⟨he,hrdr,hon⟩
 rw [H4.out] at he
 subst he
 have HR_9:=Lib.hid hrdr
 have HB_9:=Lib.hid (hon.from HB.out (by omega))
 have HRS_9:=Lib.hid (hon.blk HRS.out (by omega))
 have HH_9:=Lib.hid (hon.blk HH.out (by omega))
 clear hrdr hon HR HB HRS HH
 have HR:=HR_9
 have HB:=HB_9
 have HRS:=HRS_9
 have HH:=HH_9
 clear HR_9 HB_9 HRS_9 HH_9
 have o1:w6.cell? ⟨h,1,none⟩=some (.int .i64 0):=HH.out.cell 1
 have g1:w6.frozen? ⟨h,1,none⟩=false:=HH.out.frozen 1
 go_wp2_with fail
 clear o1 g1
 have HR_9:=Lib.hid (HR.out.below ((Below.refl h w6).setCell (p:=⟨h,1,none⟩) (Nat.le_refl h) (.int .i64 x4)) (by omega) (by omega))
 have HB_9:=Lib.hid ((HB.out.setCell (p:=⟨h,1,none⟩) (show w.heap.size≤h by omega) (.int .i64 x4)))
 have HRS_9:=Lib.hid ((HRS.out.far (p:=⟨h,1,none⟩) (show w.heap.size≠h by omega) (.int .i64 x4)))
 have HH_9:=Lib.hid ((show Blk _ _ 82 #[.int .i64 x1,.int .i64 x4,.bool false,.bool false,.int .i64 0,.int .i64 0,.int .i64 0,.bool false,.int .u64 0,.int .u64 0,.bool false,.int .u64 0,.int .u64 0,.slice none 0 0] from HH.out.set_ 1 (.int .i64 x4)))
 clear HR HB HRS HH
 have HR:=HR_9
 have HB:=HB_9
 have HRS:=HRS_9
 have HH:=HH_9
 clear HR_9 HB_9 HRS_9 HH_9
 generalize (w6.setCell ⟨h,1,none⟩ (.int .i64 x4))=w7 at *
 refine (num_two w.heap.size (w.heap.size+1) 6 l _ (by omega) HR.out (by rw [HL.out]; omega) HX.out).mono ?_
 rintro e w8 ⟨he,hrdr,hon⟩
 rw [H6.out] at he
 subst he
 have HR_9:=Lib.hid hrdr
 have HB_9:=Lib.hid (hon.from HB.out (by omega))
 have HRS_9:=Lib.hid (hon.blk HRS.out (by omega))
 have HH_9:=Lib.hid (hon.blk HH.out (by omega))
 clear hrdr hon HR HB HRS HH
 have HR:=HR_9
 have HB:=HB_9
 have HRS:=HRS_9
 have HH:=HH_9
 clear HR_9 HB_9 HRS_9 HH_9
 have m1:=HM1.out
 have m2:=HM2.out
 have m3:=HM3.out
 have o4:w8.cell? ⟨h,4,none⟩=some (.int .i64 0):=HH.out.cell 4
 have g4:w8.frozen? ⟨h,4,none⟩=false:=HH.out.frozen 4
 have o3:w8.cell? ⟨h,3,none⟩=some (.bool false):=HH.out.cell 3
 have g3:w8.frozen? ⟨h,3,none⟩=false:=HH.out.frozen 3
 have o2:w8.cell? ⟨h,2,none⟩=some (.bool false):=HH.out.cell 2
 have g2:w8.frozen? ⟨h,2,none⟩=false:=HH.out.frozen 2
 go_wp2_with fail
 clear m1 m2 m3
 clear o4 g4 o3 g3 o2 g2
 have HR_9:=Lib.hid (HR.out.below ((((Below.refl h w8).setCell (p:=⟨h,4,none⟩) (Nat.le_refl h) (.int .i64 fr)).setCell (p:=⟨h,3,none⟩) (Nat.le_refl h) (.bool mf)).setCell (p:=⟨h,2,none⟩) (Nat.le_refl h) (.bool df)) (by omega) (by omega))
 have HB_9:=Lib.hid ((((HB.out.setCell (p:=⟨h,4,none⟩) (show w.heap.size≤h by omega) (.int .i64 fr)).setCell (p:=⟨h,3,none⟩) (show w.heap.size≤h by omega) (.bool mf)).setCell (p:=⟨h,2,none⟩) (show w.heap.size≤h by omega) (.bool df)))
 have HRS_9:=Lib.hid ((((HRS.out.far (p:=⟨h,4,none⟩) (show w.heap.size≠h by omega) (.int .i64 fr)).far (p:=⟨h,3,none⟩) (show w.heap.size≠h by omega) (.bool mf)).far (p:=⟨h,2,none⟩) (show w.heap.size≠h by omega) (.bool df)))
 have HH_9:=Lib.hid ((show Blk _ _ 82 #[.int .i64 x1,.int .i64 x4,.bool df,.bool mf,.int .i64 fr,.int .i64 0,.int .i64 0,.bool false,.int .u64 0,.int .u64 0,.bool false,.int .u64 0,.int .u64 0,.slice none 0 0] from (show Blk _ _ 82 #[.int .i64 x1,.int .i64 x4,.bool false,.bool mf,.int .i64 fr,.int .i64 0,.int .i64 0,.bool false,.int .u64 0,.int .u64 0,.bool false,.int .u64 0,.int .u64 0,.slice none 0 0] from (show Blk _ _ 82 #[.int .i64 x1,.int .i64 x4,.bool false,.bool false,.int .i64 fr,.int .i64 0,.int .i64 0,.bool false,.int .u64 0,.int .u64 0,.bool false,.int .u64 0,.int .u64 0,.slice none 0 0] from HH.out.set_ 4 (.int .i64 fr)).set_ 3 (.bool mf)).set_ 2 (.bool df)))
 clear HR HB HRS HH
 have HR:=HR_9
 have HB:=HB_9
 have HRS:=HRS_9
 have HH:=HH_9
 clear HR_9 HB_9 HRS_9 HH_9
 generalize (((w8.setCell ⟨h,4,none⟩ (.int .i64 fr)).setCell ⟨h,3,none⟩ (.bool mf)).setCell ⟨h,2,none⟩ (.bool df))=w9 at *
 refine (num_one w.heap.size (w.heap.size+1) 8 l _ (by omega) HR.out (by rw [HL.out]; omega) HX.out).mono ?_
 rintro e w10 ⟨he,hrdr,hon⟩
 rw [H8.out] at he
 subst he
 have HR_9:=Lib.hid hrdr
 have HB_9:=Lib.hid (hon.from HB.out (by omega))
 have HRS_9:=Lib.hid (hon.blk HRS.out (by omega))
 have HH_9:=Lib.hid (hon.blk HH.out (by omega))
 clear hrdr hon HR HB HRS HH
 have HR:=HR_9
 have HB:=HB_9
 have HRS:=HRS_9
 have HH:=HH_9
 clear HR_9 HB_9 HRS_9 HH_9
 go_wp2_with fail
 refine (num_one w.heap.size (w.heap.size+1) 9 l _ (by omega) HR.out (by rw [HL.out]; omega) HX.out).mono ?_
 rintro e w11 ⟨he,hrdr,hon⟩
 rw [H9.out] at he
 subst he
 have HR_9:=Lib.hid hrdr
 have HB_9:=Lib.hid (hon.from HB.out (by omega))
 have HRS_9:=Lib.hid (hon.blk HRS.out (by omega))
 have HH_9:=Lib.hid (hon.blk HH.out (by omega))
 clear hrdr hon HR HB HRS HH
 have HR:=HR_9
 have HB:=HB_9
 have HRS:=HRS_9
 have HH:=HH_9
 clear HR_9 HB_9 HRS_9 HH_9
 have o5:w11.cell? ⟨h,5,none⟩=some (.int .i64 0):=HH.out.cell 5
 have g5:w11.frozen? ⟨h,5,none⟩=false:=HH.out.frozen 5
 have o6:w11.cell? ⟨h,6,none⟩=some (.int .i64 0):=HH.out.cell 6
 have g6:w11.frozen? ⟨h,6,none⟩=false:=HH.out.frozen 6
 go_wp2_with fail
 clear o5 g5 o6 g6
 have HR_9:=Lib.hid (HR.out.below (((Below.refl h w11).setCell (p:=⟨h,5,none⟩) (Nat.le_refl h) (.int .i64 x8)).setCell (p:=⟨h,6,none⟩) (Nat.le_refl h) (.int .i64 x9)) (by omega) (by omega))
 have HB_9:=Lib.hid (((HB.out.setCell (p:=⟨h,5,none⟩) (show w.heap.size≤h by omega) (.int .i64 x8)).setCell (p:=⟨h,6,none⟩) (show w.heap.size≤h by omega) (.int .i64 x9)))
 have HRS_9:=Lib.hid (((HRS.out.far (p:=⟨h,5,none⟩) (show w.heap.size≠h by omega) (.int .i64 x8)).far (p:=⟨h,6,none⟩) (show w.heap.size≠h by omega) (.int .i64 x9)))
 have HH_9:=Lib.hid ((show Blk _ _ 82 #[.int .i64 x1,.int .i64 x4,.bool df,.bool mf,.int .i64 fr,.int .i64 x8,.int .i64 x9,.bool false,.int .u64 0,.int .u64 0,.bool false,.int .u64 0,.int .u64 0,.slice none 0 0] from (show Blk _ _ 82 #[.int .i64 x1,.int .i64 x4,.bool df,.bool mf,.int .i64 fr,.int .i64 x8,.int .i64 0,.bool false,.int .u64 0,.int .u64 0,.bool false,.int .u64 0,.int .u64 0,.slice none 0 0] from HH.out.set_ 5 (.int .i64 x8)).set_ 6 (.int .i64 x9)))
 clear HR HB HRS HH
 have HR:=HR_9
 have HB:=HB_9
 have HRS:=HRS_9
 have HH:=HH_9
 clear HR_9 HB_9 HRS_9 HH_9
 generalize ((w11.setCell ⟨h,5,none⟩ (.int .i64 x8)).setCell ⟨h,6,none⟩ (.int .i64 x9))=w12 at *
 refine (num_two w.heap.size (w.heap.size+1) 10 l _ (by omega) HR.out (by rw [HL.out]; omega) HX.out).mono ?_
 rintro e w13 ⟨he,hrdr,hon⟩
 subst he
 have HR_9:=Lib.hid hrdr
 have HB_9:=Lib.hid (hon.from HB.out (by omega))
 have HRS_9:=Lib.hid (hon.blk HRS.out (by omega))
 have HH_9:=Lib.hid (hon.blk HH.out (by omega))
 clear hrdr hon HR HB HRS HH
 have HR:=HR_9
 have HB:=HB_9
 have HRS:=HRS_9
 have HH:=HH_9
 clear HR_9 HB_9 HRS_9 HH_9
 generalize w16 l 10=x10 at *
 go_wp2_with fail
 refine (num_four w.heap.size (w.heap.size+1) 12 l _ (by omega) HR.out (by rw [HL.out]; omega) HX.out).mono ?_
 rintro e w14 ⟨he,hrdr,hon⟩
 rw [H12.out] at he
 subst he
 have HR_9:=Lib.hid hrdr
 have HB_9:=Lib.hid (hon.from HB.out (by omega))
 have HRS_9:=Lib.hid (hon.blk HRS.out (by omega))
 have HH_9:=Lib.hid (hon.blk HH.out (by omega))
 clear hrdr hon HR HB HRS HH
 have HR:=HR_9
 have HB:=HB_9
 have HRS:=HRS_9
 have HH:=HH_9
 clear HR_9 HB_9 HRS_9 HH_9
 have v12:=V12.out
 go_wp2_with fail
 clear v12
 refine (HV12.out _).mono ?_
 rintro e w15 ⟨rfl,hbel⟩
 have HR_9:=Lib.hid (Rdr_keep HR.out HB.out.size hbel)
 have HB_9:=Lib.hid (bel_call HB.out hbel)
 have HRS_9:=Lib.hid (HRS.out.below hbel HRS.out.lt)
 have HH_9:=Lib.hid (HH.out.below hbel HH.out.lt)
 clear HR HB HRS HH
 have HR:=HR_9
 have HB:=HB_9
 have HRS:=HRS_9
 have HH:=HH_9
 clear HR_9 HB_9 HRS_9 HH_9
 clear hbel
 go_wp2_with fail
 refine (num_four w.heap.size (w.heap.size+1) 16 l _ (by omega) HR.out (by rw [HL.out]; omega) HX.out).mono ?_
 rintro e w16 ⟨he,hrdr,hon⟩
 rw [H16.out] at he
 subst he
 have HR_9:=Lib.hid hrdr
 have HB_9:=Lib.hid (hon.from HB.out (by omega))
 have HRS_9:=Lib.hid (hon.blk HRS.out (by omega))
 have HH_9:=Lib.hid (hon.blk HH.out (by omega))
 clear hrdr hon HR HB HRS HH
 have HR:=HR_9
 have HB:=HB_9
 have HRS:=HRS_9
 have HH:=HH_9
 clear HR_9 HB_9 HRS_9 HH_9
 have v16:=V16.out
 go_wp2_with fail
 clear v16
 refine (HV16.out _).mono ?_
 rintro e w17 ⟨rfl,hbel⟩
 have HR_9:=Lib.hid (Rdr_keep HR.out HB.out.size hbel)
 have HB_9:=Lib.hid (bel_call HB.out hbel)
 have HRS_9:=Lib.hid (HRS.out.below hbel HRS.out.lt)
 have HH_9:=Lib.hid (HH.out.below hbel HH.out.lt)
 clear HR HB HRS HH
 have HR:=HR_9
 have HB:=HB_9
 have HRS:=HRS_9
 have HH:=HH_9
 clear HR_9 HB_9 HRS_9 HH_9
 clear hbel
 have o7:w17.cell? ⟨h,7,none⟩=some (.bool false):=HH.out.cell 7
 have g7:w17.frozen? ⟨h,7,none⟩=false:=HH.out.frozen 7
 have o8:w17.cell? ⟨h,8,none⟩=some (.int .u64 0):=HH.out.cell 8
 have g8:w17.frozen? ⟨h,8,none⟩=false:=HH.out.frozen 8
 have o9:w17.cell? ⟨h,9,none⟩=some (.int .u64 0):=HH.out.cell 9
 have g9:w17.frozen? ⟨h,9,none⟩=false:=HH.out.frozen 9
 have o10:w17.cell? ⟨h,10,none⟩=some (.bool false):=HH.out.cell 10
 have g10:w17.frozen? ⟨h,10,none⟩=false:=HH.out.frozen 10
 have o11:w17.cell? ⟨h,11,none⟩=some (.int .u64 0):=HH.out.cell 11
 have g11:w17.frozen? ⟨h,11,none⟩=false:=HH.out.frozen 11
 have o12:w17.cell? ⟨h,12,none⟩=some (.int .u64 0):=HH.out.cell 12
 have g12:w17.frozen? ⟨h,12,none⟩=false:=HH.out.frozen 12
 go_wp2_with fail
 clear o7 g7 o8 g8 o9 g9 o10 g10 o11 g11 o12 g12
 have HR_9:=Lib.hid (HR.out.below (((((((Below.refl h w17).setCell (p:=⟨h,7,none⟩) (Nat.le_refl h) (.bool false)).setCell (p:=⟨h,8,none⟩) (Nat.le_refl h) (.int .u64 0)).setCell (p:=⟨h,9,none⟩) (Nat.le_refl h) (.int .u64 x12)).setCell (p:=⟨h,10,none⟩) (Nat.le_refl h) (.bool false)).setCell (p:=⟨h,11,none⟩) (Nat.le_refl h) (.int .u64 0)).setCell (p:=⟨h,12,none⟩) (Nat.le_refl h) (.int .u64 x16)) (by omega) (by omega))
 have HB_9:=Lib.hid (((((((HB.out.setCell (p:=⟨h,7,none⟩) (show w.heap.size≤h by omega) (.bool false)).setCell (p:=⟨h,8,none⟩) (show w.heap.size≤h by omega) (.int .u64 0)).setCell (p:=⟨h,9,none⟩) (show w.heap.size≤h by omega) (.int .u64 x12)).setCell (p:=⟨h,10,none⟩) (show w.heap.size≤h by omega) (.bool false)).setCell (p:=⟨h,11,none⟩) (show w.heap.size≤h by omega) (.int .u64 0)).setCell (p:=⟨h,12,none⟩) (show w.heap.size≤h by omega) (.int .u64 x16)))
 have HRS_9:=Lib.hid (((((((HRS.out.far (p:=⟨h,7,none⟩) (show w.heap.size≠h by omega) (.bool false)).far (p:=⟨h,8,none⟩) (show w.heap.size≠h by omega) (.int .u64 0)).far (p:=⟨h,9,none⟩) (show w.heap.size≠h by omega) (.int .u64 x12)).far (p:=⟨h,10,none⟩) (show w.heap.size≠h by omega) (.bool false)).far (p:=⟨h,11,none⟩) (show w.heap.size≠h by omega) (.int .u64 0)).far (p:=⟨h,12,none⟩) (show w.heap.size≠h by omega) (.int .u64 x16)))
 have HH_9:=Lib.hid ((show Blk _ _ 82 #[.int .i64 x1,.int .i64 x4,.bool df,.bool mf,.int .i64 fr,.int .i64 x8,.int .i64 x9,.bool false,.int .u64 0,.int .u64 x12,.bool false,.int .u64 0,.int .u64 x16,.slice none 0 0] from (show Blk _ _ 82 #[.int .i64 x1,.int .i64 x4,.bool df,.bool mf,.int .i64 fr,.int .i64 x8,.int .i64 x9,.bool false,.int .u64 0,.int .u64 x12,.bool false,.int .u64 0,.int .u64 0,.slice none 0 0] from (show Blk _ _ 82 #[.int .i64 x1,.int .i64 x4,.bool df,.bool mf,.int .i64 fr,.int .i64 x8,.int .i64 x9,.bool false,.int .u64 0,.int .u64 x12,.bool false,.int .u64 0,.int .u64 0,.slice none 0 0] from (show Blk _ _ 82 #[.int .i64 x1,.int .i64 x4,.bool df,.bool mf,.int .i64 fr,.int .i64 x8,.int .i64 x9,.bool false,.int .u64 0,.int .u64 x12,.bool false,.int .u64 0,.int .u64 0,.slice none 0 0] from (show Blk _ _ 82 #[.int .i64 x1,.int .i64 x4,.bool df,.bool mf,.int .i64 fr,.int .i64 x8,.int .i64 x9,.bool false,.int .u64 0,.int .u64 0,.bool false,.int .u64 0,.int .u64 0,.slice none 0 0] from (show Blk _ _ 82 #[.int .i64 x1,.int .i64 x4,.bool df,.bool mf,.int .i64 fr,.int .i64 x8,.int .i64 x9,.bool false,.int .u64 0,.int .u64 0,.bool false,.int .u64 0,.int .u64 0,.slice none 0 0] from HH.out.set_ 7 (.bool false)).set_ 8 (.int .u64 0)).set_ 9 (.int .u64 x12)).set_ 10 (.bool false)).set_ 11 (.int .u64 0)).set_ 12 (.int .u64 x16)))
 clear HR HB HRS HH
 have HR:=HR_9
 have HB:=HB_9
 have HRS:=HRS_9
 have HH:=HH_9
 clear HR_9 HB_9 HRS_9 HH_9
 generalize ((((((w17.setCell ⟨h,7,none⟩ (.bool false)).setCell ⟨h,8,none⟩ (.int .u64 0)).setCell ⟨h,9,none⟩ (.int .u64 x12)).setCell ⟨h,10,none⟩ (.bool false)).setCell ⟨h,11,none⟩ (.int .u64 0)).setCell ⟨h,12,none⟩ (.int .u64 x16))=w18 at *
 have hR:=HR.out
 rw [show 16+4=20 from rfl] at hR
 refine (rest_any w.heap.size (w.heap.size+1) (l.drop 20) _ (by omega) hR (by rw [HLD.out]; omega)).mono ?_
 clear hR
 rintro e w20 ⟨v,w19,rfl,hon,hown,hbel⟩
 rw [HLD.out] at hown
 obtain ⟨A,c9,rfl⟩:=own_slice hown
 have hnn:=own_none hown
 have hh:=HH.out.lt
 have sz:w19.heap.size=w18.heap.size:=hon.size
 have HH9:=Lib.hid ((hon.blk HH.out (by omega)).below hbel (by omega))
 have HRS9:=Lib.hid ((hon.blk HRS.out (by omega)).below hbel (by omega))
 have HB9:=Lib.hid ((hon.from HB.out (by omega)).trans (hbel.mono (by omega)))
 have HOW:=Lib.hid (own_base hown (show h+1≤w19.heap.size by omega))
 have HNN:=Lib.hid hnn
 clear hon hown hbel hnn HH HRS HB HR sz hh
 have o13:w20.cell? ⟨h,13,none⟩=some (.slice none 0 0):=HH9.out.cell 13
 have g13:w20.frozen? ⟨h,13,none⟩=false:=HH9.out.frozen 13
 have o0:w20.cell? ⟨h,0,none⟩=some (.int .i64 x1):=HH9.out.cell 0
 have o1:w20.cell? ⟨h,1,none⟩=some (.int .i64 x4):=HH9.out.cell 1
 have o2:w20.cell? ⟨h,2,none⟩=some (.bool df):=HH9.out.cell 2
 have o3:w20.cell? ⟨h,3,none⟩=some (.bool mf):=HH9.out.cell 3
 have o4:w20.cell? ⟨h,4,none⟩=some (.int .i64 fr):=HH9.out.cell 4
 have o5:w20.cell? ⟨h,5,none⟩=some (.int .i64 x8):=HH9.out.cell 5
 have o6:w20.cell? ⟨h,6,none⟩=some (.int .i64 x9):=HH9.out.cell 6
 have o7:w20.cell? ⟨h,7,none⟩=some (.bool false):=HH9.out.cell 7
 have o8:w20.cell? ⟨h,8,none⟩=some (.int .u64 0):=HH9.out.cell 8
 have o9:w20.cell? ⟨h,9,none⟩=some (.int .u64 x12):=HH9.out.cell 9
 have o10:w20.cell? ⟨h,10,none⟩=some (.bool false):=HH9.out.cell 10
 have o11:w20.cell? ⟨h,11,none⟩=some (.int .u64 0):=HH9.out.cell 11
 have o12:w20.cell? ⟨h,12,none⟩=some (.int .u64 x16):=HH9.out.cell 12
 have r0:w20.cell? ⟨w.heap.size,0,none⟩=some (.int .i64 0):=HRS9.out.cell 0
 have q0:w20.frozen? ⟨w.heap.size,0,none⟩=false:=HRS9.out.frozen 0
 have r1:w20.cell? ⟨w.heap.size,1,none⟩=some (.int .i64 0):=HRS9.out.cell 1
 have q1:w20.frozen? ⟨w.heap.size,1,none⟩=false:=HRS9.out.frozen 1
 have r2:w20.cell? ⟨w.heap.size,2,none⟩=some (.bool false):=HRS9.out.cell 2
 have q2:w20.frozen? ⟨w.heap.size,2,none⟩=false:=HRS9.out.frozen 2
 have r3:w20.cell? ⟨w.heap.size,3,none⟩=some (.bool false):=HRS9.out.cell 3
 have q3:w20.frozen? ⟨w.heap.size,3,none⟩=false:=HRS9.out.frozen 3
 have r4:w20.cell? ⟨w.heap.size,4,none⟩=some (.int .i64 0):=HRS9.out.cell 4
 have q4:w20.frozen? ⟨w.heap.size,4,none⟩=false:=HRS9.out.frozen 4
 have r5:w20.cell? ⟨w.heap.size,5,none⟩=some (.int .i64 0):=HRS9.out.cell 5
 have q5:w20.frozen? ⟨w.heap.size,5,none⟩=false:=HRS9.out.frozen 5
 have r6:w20.cell? ⟨w.heap.size,6,none⟩=some (.int .i64 0):=HRS9.out.cell 6
 have q6:w20.frozen? ⟨w.heap.size,6,none⟩=false:=HRS9.out.frozen 6
 have r7:w20.cell? ⟨w.heap.size,7,none⟩=some (.bool false):=HRS9.out.cell 7
 have q7:w20.frozen? ⟨w.heap.size,7,none⟩=false:=HRS9.out.frozen 7
 have r8:w20.cell? ⟨w.heap.size,8,none⟩=some (.int .u64 0):=HRS9.out.cell 8
 have q8:w20.frozen? ⟨w.heap.size,8,none⟩=false:=HRS9.out.frozen 8
 have r9:w20.cell? ⟨w.heap.size,9,none⟩=some (.int .u64 0):=HRS9.out.cell 9
 have q9:w20.frozen? ⟨w.heap.size,9,none⟩=false:=HRS9.out.frozen 9
 have r10:w20.cell? ⟨w.heap.size,10,none⟩=some (.bool false):=HRS9.out.cell 10
 have q10:w20.frozen? ⟨w.heap.size,10,none⟩=false:=HRS9.out.frozen 10
 have r11:w20.cell? ⟨w.heap.size,11,none⟩=some (.int .u64 0):=HRS9.out.cell 11
 have q11:w20.frozen? ⟨w.heap.size,11,none⟩=false:=HRS9.out.frozen 11
 have r12:w20.cell? ⟨w.heap.size,12,none⟩=some (.int .u64 0):=HRS9.out.cell 12
 have q12:w20.frozen? ⟨w.heap.size,12,none⟩=false:=HRS9.out.frozen 12
 have r13:w20.cell? ⟨w.heap.size,13,none⟩=some (.slice none 0 0):=HRS9.out.cell 13
 have q13:w20.frozen? ⟨w.heap.size,13,none⟩=false:=HRS9.out.frozen 13
 have ne1:¬ h=w.heap.size:=by omega
 have ne2:¬ w.heap.size=h:=by omega
 go_wp2_with fail
 have hrs:=(show Blk _ _ 82 #[.int .i64 x1,.int .i64 x4,.bool df,.bool mf,.int .i64 fr,.int .i64 x8,.int .i64 x9,.bool false,.int .u64 0,.int .u64 x12,.bool false,.int .u64 0,.int .u64 x16,.slice A (n - 20) c9] from (show Blk _ _ 82 #[.int .i64 x1,.int .i64 x4,.bool df,.bool mf,.int .i64 fr,.int .i64 x8,.int .i64 x9,.bool false,.int .u64 0,.int .u64 x12,.bool false,.int .u64 0,.int .u64 x16,.slice none 0 0] from (show Blk _ _ 82 #[.int .i64 x1,.int .i64 x4,.bool df,.bool mf,.int .i64 fr,.int .i64 x8,.int .i64 x9,.bool false,.int .u64 0,.int .u64 x12,.bool false,.int .u64 0,.int .u64 0,.slice none 0 0] from (show Blk _ _ 82 #[.int .i64 x1,.int .i64 x4,.bool df,.bool mf,.int .i64 fr,.int .i64 x8,.int .i64 x9,.bool false,.int .u64 0,.int .u64 x12,.bool false,.int .u64 0,.int .u64 0,.slice none 0 0] from (show Blk _ _ 82 #[.int .i64 x1,.int .i64 x4,.bool df,.bool mf,.int .i64 fr,.int .i64 x8,.int .i64 x9,.bool false,.int .u64 0,.int .u64 x12,.bool false,.int .u64 0,.int .u64 0,.slice none 0 0] from (show Blk _ _ 82 #[.int .i64 x1,.int .i64 x4,.bool df,.bool mf,.int .i64 fr,.int .i64 x8,.int .i64 x9,.bool false,.int .u64 0,.int .u64 0,.bool false,.int .u64 0,.int .u64 0,.slice none 0 0] from (show Blk _ _ 82 #[.int .i64 x1,.int .i64 x4,.bool df,.bool mf,.int .i64 fr,.int .i64 x8,.int .i64 x9,.bool false,.int .u64 0,.int .u64 0,.bool false,.int .u64 0,.int .u64 0,.slice none 0 0] from (show Blk _ _ 82 #[.int .i64 x1,.int .i64 x4,.bool df,.bool mf,.int .i64 fr,.int .i64 x8,.int .i64 x9,.bool false,.int .u64 0,.int .u64 0,.bool false,.int .u64 0,.int .u64 0,.slice none 0 0] from (show Blk _ _ 82 #[.int .i64 x1,.int .i64 x4,.bool df,.bool mf,.int .i64 fr,.int .i64 x8,.int .i64 0,.bool false,.int .u64 0,.int .u64 0,.bool false,.int .u64 0,.int .u64 0,.slice none 0 0] from (show Blk _ _ 82 #[.int .i64 x1,.int .i64 x4,.bool df,.bool mf,.int .i64 fr,.int .i64 0,.int .i64 0,.bool false,.int .u64 0,.int .u64 0,.bool false,.int .u64 0,.int .u64 0,.slice none 0 0] from (show Blk _ _ 82 #[.int .i64 x1,.int .i64 x4,.bool df,.bool mf,.int .i64 0,.int .i64 0,.int .i64 0,.bool false,.int .u64 0,.int .u64 0,.bool false,.int .u64 0,.int .u64 0,.slice none 0 0] from (show Blk _ _ 82 #[.int .i64 x1,.int .i64 x4,.bool df,.bool false,.int .i64 0,.int .i64 0,.int .i64 0,.bool false,.int .u64 0,.int .u64 0,.bool false,.int .u64 0,.int .u64 0,.slice none 0 0] from (show Blk _ _ 82 #[.int .i64 x1,.int .i64 x4,.bool false,.bool false,.int .i64 0,.int .i64 0,.int .i64 0,.bool false,.int .u64 0,.int .u64 0,.bool false,.int .u64 0,.int .u64 0,.slice none 0 0] from (show Blk _ _ 82 #[.int .i64 x1,.int .i64 0,.bool false,.bool false,.int .i64 0,.int .i64 0,.int .i64 0,.bool false,.int .u64 0,.int .u64 0,.bool false,.int .u64 0,.int .u64 0,.slice none 0 0] from (HRS9.out.far (p:=⟨h,13,none⟩) (show w.heap.size≠h by omega) (.slice A (n - 20) c9)).set_ 0 (.int .i64 x1)).set_ 1 (.int .i64 x4)).set_ 2 (.bool df)).set_ 3 (.bool mf)).set_ 4 (.int .i64 fr)).set_ 5 (.int .i64 x8)).set_ 6 (.int .i64 x9)).set_ 7 (.bool false)).set_ 8 (.int .u64 0)).set_ 9 (.int .u64 x12)).set_ 10 (.bool false)).set_ 11 (.int .u64 0)).set_ 12 (.int .u64 x16)).set_ 13 (.slice A (n - 20) c9))
 have HBW:=Lib.hid (((((((((((((((HB9.out.setCell (p:=⟨h,13,none⟩) (show w.heap.size≤h by omega) (.slice A (n - 20) c9)).setCell (p:=⟨w.heap.size,0,none⟩) (Nat.le_refl _) (.int .i64 x1)).setCell (p:=⟨w.heap.size,1,none⟩) (Nat.le_refl _) (.int .i64 x4)).setCell (p:=⟨w.heap.size,2,none⟩) (Nat.le_refl _) (.bool df)).setCell (p:=⟨w.heap.size,3,none⟩) (Nat.le_refl _) (.bool mf)).setCell (p:=⟨w.heap.size,4,none⟩) (Nat.le_refl _) (.int .i64 fr)).setCell (p:=⟨w.heap.size,5,none⟩) (Nat.le_refl _) (.int .i64 x8)).setCell (p:=⟨w.heap.size,6,none⟩) (Nat.le_refl _) (.int .i64 x9)).setCell (p:=⟨w.heap.size,7,none⟩) (Nat.le_refl _) (.bool false)).setCell (p:=⟨w.heap.size,8,none⟩) (Nat.le_refl _) (.int .u64 0)).setCell (p:=⟨w.heap.size,9,none⟩) (Nat.le_refl _) (.int .u64 x12)).setCell (p:=⟨w.heap.size,10,none⟩) (Nat.le_refl _) (.bool false)).setCell (p:=⟨w.heap.size,11,none⟩) (Nat.le_refl _) (.int .u64 0)).setCell (p:=⟨w.heap.size,12,none⟩) (Nat.le_refl _) (.int .u64 x16)).setCell (p:=⟨w.heap.size,13,none⟩) (Nat.le_refl _) (.slice A (n - 20) c9))
 have HOF:=Lib.hid (own_base (own_far (own_far (own_far (own_far (own_far (own_far (own_far (own_far (own_far (own_far (own_far (own_far (own_far (own_far (own_far HOW.out ⟨h,13,none⟩ (Nat.lt_succ_self h) (.slice A (n - 20) c9)) ⟨w.heap.size,0,none⟩ (show w.heap.size<h+1 by omega) (.int .i64 x1)) ⟨w.heap.size,1,none⟩ (show w.heap.size<h+1 by omega) (.int .i64 x4)) ⟨w.heap.size,2,none⟩ (show w.heap.size<h+1 by omega) (.bool df)) ⟨w.heap.size,3,none⟩ (show w.heap.size<h+1 by omega) (.bool mf)) ⟨w.heap.size,4,none⟩ (show w.heap.size<h+1 by omega) (.int .i64 fr)) ⟨w.heap.size,5,none⟩ (show w.heap.size<h+1 by omega) (.int .i64 x8)) ⟨w.heap.size,6,none⟩ (show w.heap.size<h+1 by omega) (.int .i64 x9)) ⟨w.heap.size,7,none⟩ (show w.heap.size<h+1 by omega) (.bool false)) ⟨w.heap.size,8,none⟩ (show w.heap.size<h+1 by omega) (.int .u64 0)) ⟨w.heap.size,9,none⟩ (show w.heap.size<h+1 by omega) (.int .u64 x12)) ⟨w.heap.size,10,none⟩ (show w.heap.size<h+1 by omega) (.bool false)) ⟨w.heap.size,11,none⟩ (show w.heap.size<h+1 by omega) (.int .u64 0)) ⟨w.heap.size,12,none⟩ (show w.heap.size<h+1 by omega) (.int .u64 x16)) ⟨w.heap.size,13,none⟩ (show w.heap.size<h+1 by omega) (.slice A (n - 20) c9)) (show w.heap.size≤h+1 by omega))
 clear o0 r0 q0 o1 r1 q1 o2 r2 q2 o3 r3 q3 o4 r4 q4 o5 r5 q5 o6 r6 q6 o7 r7 q7 o8 r8 q8 o9 r9 q9 o10 r10 q10 o11 r11 q11 o12 r12 q12 o13 r13 q13 g13
 generalize (((((((((((((((w20.setCell ⟨h,13,none⟩ (.slice A (n - 20) c9)).setCell ⟨w.heap.size,0,none⟩ (.int .i64 x1)).setCell ⟨w.heap.size,1,none⟩ (.int .i64 x4)).setCell ⟨w.heap.size,2,none⟩ (.bool df)).setCell ⟨w.heap.size,3,none⟩ (.bool mf)).setCell ⟨w.heap.size,4,none⟩ (.int .i64 fr)).setCell ⟨w.heap.size,5,none⟩ (.int .i64 x8)).setCell ⟨w.heap.size,6,none⟩ (.int .i64 x9)).setCell ⟨w.heap.size,7,none⟩ (.bool false)).setCell ⟨w.heap.size,8,none⟩ (.int .u64 0)).setCell ⟨w.heap.size,9,none⟩ (.int .u64 x12)).setCell ⟨w.heap.size,10,none⟩ (.bool false)).setCell ⟨w.heap.size,11,none⟩ (.int .u64 0)).setCell ⟨w.heap.size,12,none⟩ (.int .u64 x16)).setCell ⟨w.heap.size,13,none⟩ (.slice A (n - 20) c9))=WW at *
 have z0:WW.cell? ⟨w.heap.size,0,none⟩=some (.int .i64 x1):=hrs.cell 0
 have z1:WW.cell? ⟨w.heap.size,1,none⟩=some (.int .i64 x4):=hrs.cell 1
 have z2:WW.cell? ⟨w.heap.size,2,none⟩=some (.bool df):=hrs.cell 2
 have z3:WW.cell? ⟨w.heap.size,3,none⟩=some (.bool mf):=hrs.cell 3
 have z4:WW.cell? ⟨w.heap.size,4,none⟩=some (.int .i64 fr):=hrs.cell 4
 have z5:WW.cell? ⟨w.heap.size,5,none⟩=some (.int .i64 x8):=hrs.cell 5
 have z6:WW.cell? ⟨w.heap.size,6,none⟩=some (.int .i64 x9):=hrs.cell 6
 have z7:WW.cell? ⟨w.heap.size,7,none⟩=some (.bool false):=hrs.cell 7
 have z8:WW.cell? ⟨w.heap.size,8,none⟩=some (.int .u64 0):=hrs.cell 8
 have z9:WW.cell? ⟨w.heap.size,9,none⟩=some (.int .u64 x12):=hrs.cell 9
 have z10:WW.cell? ⟨w.heap.size,10,none⟩=some (.bool false):=hrs.cell 10
 have z11:WW.cell? ⟨w.heap.size,11,none⟩=some (.int .u64 0):=hrs.cell 11
 have z12:WW.cell? ⟨w.heap.size,12,none⟩=some (.int .u64 x16):=hrs.cell 12
 have z13:WW.cell? ⟨w.heap.size,13,none⟩=some (.slice A (n - 20) c9):=hrs.cell 13
 clear hrs
 exact bodyPost_ret (v:=.agg #[.int .i64 x1,.int .i64 x4,.bool df,.bool mf,.int .i64 fr,.int .i64 x8,.int .i64 x9,.bool false,.int .u64 0,.int .u64 x12,.bool false,.int .u64 0,.int .u64 x16,.slice A (n - 20) c9]) (by simp [results,Try.results66,go_sem,z0,z1,z2,z3,z4,z5,z6,z7,z8,z9,z10,z11,z12,z13]) rfl ⟨A,n - 20,c9,by rw [HL.out],by unfold hd; rw [H1.out,H4.out,H6.out,H8.out,H9.out,H12.out,H16.out,HMF.out,HDF.out,HFR.out],HNN.out,HOF.out,HBW.out⟩
end Go.Proofs.Ytnofddbfogilaaa.fourA
