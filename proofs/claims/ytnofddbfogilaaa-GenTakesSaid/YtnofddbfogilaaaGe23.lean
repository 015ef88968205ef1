/- 2 texts in one. -/
import Derived.Test.YtnofddbfogilaaaGe01
import Derived.Test.YtnofddbfogilaaaGe08
/- Layer 8: headers that may be, flags, alike ones, why bytes are none. -/
namespace Go.Proofs.Ytnofddbfogilaaa.fourC
set_option maxHeartbeats 4000000
set_option maxRecDepth 100000
open Go.ChangeShapes Go.WideShapes Go.ChangeAt Go.RowKit
open base sumB rdrA net
set_option linter.unusedVariables false
def okF (tos id fr ttl pr sl dl:Int) (no:Nat):Prop:=(0≤tos∧tos≤255)∧(0≤id∧id≤65535)∧(0≤fr∧fr≤8191)∧(0≤ttl∧ttl≤255)∧(0≤pr∧pr≤255)∧(0≤sl∧sl≤4294967295)∧(0≤dl∧dl≤4294967295)∧no≤40∧no % 4=0
def flz (df mf:Bool) (fr:Int):Int:=fr+(if df then 16384 else 0)+(if mf then 8192 else 0)
theorem flz_in (df mf:Bool) (fr:Int) (h0:0≤fr) (h1:fr≤8191):0≤flz df mf fr∧flz df mf fr≤65535:=by
  unfold flz
  cases df <;> cases mf <;> simp <;> omega
theorem or_pow (n k:Nat) (h:n<2 ^ k):n ||| 2 ^ k=n+2 ^ k:=by
  have:=Nat.shiftLeft_add_eq_or_of_lt h 1
  rw [Nat.shiftLeft_eq,Nat.one_mul] at this
  rw [Nat.or_comm,← this,Nat.add_comm]
theorem u64_or_nat (a b:Nat) (ha:a<9223372036854775808) (hb:b<9223372036854775808):bits .or .u64 (a:Int) (b:Int)=((a ||| b:Nat):Int):=by
  have hA:(BitVec.ofInt 64 (a:Int)).toNat=a:=by rw [BitVec.ofInt_natCast,BitVec.toNat_ofNat]; exact Nat.mod_eq_of_lt (by omega)
  have hB:(BitVec.ofInt 64 (b:Int)).toNat=b:=by rw [BitVec.ofInt_natCast,BitVec.toNat_ofNat]; exact Nat.mod_eq_of_lt (by omega)
  show IntKind.u64.wrap ((BitVec.ofInt 64 (a:Int) ||| BitVec.ofInt 64 (b:Int)).toNat:Nat)=_
  rw [BitVec.toNat_or,hA,hB]
  have:a ||| b<2 ^ 63:=Nat.or_lt_two_pow (by omega) (by omega)
  rw [IntKind.wrap_u64]
  omega
theorem or14 (n:Int) (h0:0≤n) (h1:n≤8191):bits .or .u64 n 16384=n+16384:=by
  obtain ⟨m,rfl⟩:=Int.eq_ofNat_of_zero_le h0
  have e:bits .or .u64 (m:Int) 16384=((m ||| 16384:Nat):Int):=u64_or_nat m 16384 (by omega) (by omega)
  rw [e,show (16384:Nat)=2 ^ 14 from rfl,or_pow m 14 (by omega)]
  rfl
theorem or13 (n:Int) (h0:0≤n) (h1:n≤8191):bits .or .u64 n 8192=n+8192:=by
  obtain ⟨m,rfl⟩:=Int.eq_ofNat_of_zero_le h0
  have e:bits .or .u64 (m:Int) 8192=((m ||| 8192:Nat):Int):=u64_or_nat m 8192 (by omega) (by omega)
  rw [e,show (8192:Nat)=2 ^ 13 from rfl,or_pow m 13 (by omega)]
  rfl
theorem or1314 (n:Int) (h0:0≤n) (h1:n≤8191):bits .or .u64 (n+16384) 8192=n+16384+8192:=by
  obtain ⟨m,rfl⟩:=Int.eq_ofNat_of_zero_le h0
  have e:bits .or .u64 ((m+16384:Nat):Int) 8192=((m+16384 ||| 8192:Nat):Int):=u64_or_nat (m+16384) 8192 (by omega) (by omega)
  have e1:=or_pow m 14 (by omega)
  have e2:=or_pow m 13 (by omega)
  have e3:=or_pow (m+8192) 14 (by omega)
  have e4:m+16384 ||| 8192=m+8192+16384:=by
    have:m+16384=m ||| 2 ^ 14:=e1.symm
    rw [this,Nat.or_assoc,Nat.or_comm (2 ^ 14),← Nat.or_assoc,show (8192:Nat)=2 ^ 13 from rfl,e2]
    exact e3
  have e5:((m:Int)+16384)=((m+16384:Nat):Int):=by omega
  rw [e5,e,e4]
  omega
theorem len_any (tos id:Int) (df mf:Bool) (fr ttl pr sl dl:Int) (AO:Option Addr) (no co:Nat) (w:World) (hn:no≤1000) :
    Calls Try.prog 45 #[.agg #[.int .i64 tos,.int .i64 id,.bool df,.bool mf,.int .i64 fr,.int .i64 ttl,.int .i64 pr,.bool false,.int .u64 0,.int .u64 sl,.bool false,.int .u64 0,.int .u64 dl,.slice AO no co]] w fun e w'=>e=.returned (.int .i64 (20+(no:Int)))∧Below w.heap.size w w':=by
  go_enter Try.func45,Try.ntmps45
  go_wp2
  go_ret
  exact ⟨rfl,(Below.refl _ _).alloc (Nat.le_refl _) _⟩
theorem part_any (tos id:Int) (df mf:Bool) (fr ttl pr sl dl:Int) (AO:Option Addr) (no co:Nat) (w:World) (h0:0≤fr) (h1:fr≤8191) :
    Calls Try.prog 79 #[.agg #[.int .i64 tos,.int .i64 id,.bool df,.bool mf,.int .i64 fr,.int .i64 ttl,.int .i64 pr,.bool false,.int .u64 0,.int .u64 sl,.bool false,.int .u64 0,.int .u64 dl,.slice AO no co]] w fun e w'=>e=.returned (.int .u64 (flz df mf fr))∧Below w.heap.size w w':=by
  have v:IntKind.u64.wrap fr=fr:=by rw [IntKind.wrap_u64]; omega
  have e14:=or14 fr h0 h1
  have e13:=or13 fr h0 h1
  have e15:=or1314 fr h0 h1
  unfold flz
  cases df <;> cases mf <;> simp only [if_true,if_false,Int.add_zero,Bool.false_eq_true] <;>
    (go_enter Try.func79,Try.ntmps79
     go_wp2
     go_ret
     exact ⟨rfl,(Below.refl _ _).alloc (Nat.le_refl _) _⟩)
theorem addrright_yes (x:Int) (w:World) (h0:0≤x) (h1:x≤4294967295) :
    Calls Try.prog 30 #[.agg #[.bool false,.int .u64 0,.int .u64 x]] w fun e w'=>e=.returned (.bool true)∧Below w.heap.size w w':=by
  have q:decide (x<4294967296)=true:=decide_eq_true (by omega)
  go_enter Try.func30,Try.ntmps30
  go_wp2
  go_ret
  exact ⟨rfl,(Below.refl _ _).alloc (Nat.le_refl _) _⟩
theorem right_yes (tos id:Int) (df mf:Bool) (fr ttl pr sl dl:Int) (AO:Option Addr) (no co:Nat) (w:World) (h:okF tos id fr ttl pr sl dl no) :
    Calls Try.prog 78 #[.agg #[.int .i64 tos,.int .i64 id,.bool df,.bool mf,.int .i64 fr,.int .i64 ttl,.int .i64 pr,.bool false,.int .u64 0,.int .u64 sl,.bool false,.int .u64 0,.int .u64 dl,.slice AO no co]] w fun e w'=>e=.returned (.bool true)∧Below w.heap.size w w':=by
  obtain ⟨⟨h1,h2⟩,⟨h3,h4⟩,⟨h5,h6⟩,⟨h7,h8⟩,⟨h9,h10⟩,⟨h11,h12⟩,⟨h13,h14⟩,ho,hm⟩:=h
  have i0:∀ w,(Instr.index 141 (.agg #[.int .i64 tos,.int .i64 255,.int .i64 ttl,.int .i64 255,.int .i64 pr,.int .i64 255,.int .i64 id,.int .i64 65535,.int .i64 fr,.int .i64 8191]) (.int .i64 0)).run Try.prog w=.ok (.agg #[.int .i64 tos,.int .i64 255]) w:=fun _=>by kernel_rfl
  have i1:∀ w,(Instr.index 141 (.agg #[.int .i64 tos,.int .i64 255,.int .i64 ttl,.int .i64 255,.int .i64 pr,.int .i64 255,.int .i64 id,.int .i64 65535,.int .i64 fr,.int .i64 8191]) (.int .i64 1)).run Try.prog w=.ok (.agg #[.int .i64 ttl,.int .i64 255]) w:=fun _=>by kernel_rfl
  have i2:∀ w,(Instr.index 141 (.agg #[.int .i64 tos,.int .i64 255,.int .i64 ttl,.int .i64 255,.int .i64 pr,.int .i64 255,.int .i64 id,.int .i64 65535,.int .i64 fr,.int .i64 8191]) (.int .i64 2)).run Try.prog w=.ok (.agg #[.int .i64 pr,.int .i64 255]) w:=fun _=>by kernel_rfl
  have i3:∀ w,(Instr.index 141 (.agg #[.int .i64 tos,.int .i64 255,.int .i64 ttl,.int .i64 255,.int .i64 pr,.int .i64 255,.int .i64 id,.int .i64 65535,.int .i64 fr,.int .i64 8191]) (.int .i64 3)).run Try.prog w=.ok (.agg #[.int .i64 id,.int .i64 65535]) w:=fun _=>by kernel_rfl
  have i4:∀ w,(Instr.index 141 (.agg #[.int .i64 tos,.int .i64 255,.int .i64 ttl,.int .i64 255,.int .i64 pr,.int .i64 255,.int .i64 id,.int .i64 65535,.int .i64 fr,.int .i64 8191]) (.int .i64 4)).run Try.prog w=.ok (.agg #[.int .i64 fr,.int .i64 8191]) w:=fun _=>by kernel_rfl
  have k0:∀ w,(Instr.index 142 (.agg #[.bool false,.int .u64 0,.int .u64 sl,.bool false,.int .u64 0,.int .u64 dl]) (.int .i64 0)).run Try.prog w=.ok (.agg #[.bool false,.int .u64 0,.int .u64 sl]) w:=fun _=>by kernel_rfl
  have k1:∀ w,(Instr.index 142 (.agg #[.bool false,.int .u64 0,.int .u64 sl,.bool false,.int .u64 0,.int .u64 dl]) (.int .i64 1)).run Try.prog w=.ok (.agg #[.bool false,.int .u64 0,.int .u64 dl]) w:=fun _=>by kernel_rfl
  have t0:(((no:Int) % 4) == 0)=true:=eqT (by omega)
  have HBX:=Lib.hid ((Below.refl w.heap.size w).alloc (Nat.le_refl _) (.cells #[.int .i64 tos,.int .i64 id,.bool df,.bool mf,.int .i64 fr,.int .i64 ttl,.int .i64 pr,.bool false,.int .u64 0,.int .u64 sl,.bool false,.int .u64 0,.int .u64 dl,.slice AO no co] 82))
  have BOX:=Lib.hid (Blk.new w 82 #[.int .i64 tos,.int .i64 id,.bool df,.bool mf,.int .i64 fr,.int .i64 ttl,.int .i64 pr,.bool false,.int .u64 0,.int .u64 sl,.bool false,.int .u64 0,.int .u64 dl,.slice AO no co])
  have HZ:=Lib.hid (show (w.alloc (.cells #[.int .i64 tos,.int .i64 id,.bool df,.bool mf,.int .i64 fr,.int .i64 ttl,.int .i64 pr,.bool false,.int .u64 0,.int .u64 sl,.bool false,.int .u64 0,.int .u64 dl,.slice AO no co] 82)).heap.size=w.heap.size+1 by simp)
  have HA1:=Lib.hid (fun w=>addrright_yes sl w h11 h12)
  have HA2:=Lib.hid (fun w=>addrright_yes dl w h13 h14)
  go_enter Try.func78,Try.ntmps78
  go_wp2_with fail
  go_loopw [23,4] (fun i _ wr=>∃ j:Nat,j≤5∧i=.int .i64 j∧Below (w.heap.size+1) (w.alloc (.cells #[.int .i64 tos,.int .i64 id,.bool df,.bool mf,.int .i64 fr,.int .i64 ttl,.int .i64 pr,.bool false,.int .u64 0,.int .u64 sl,.bool false,.int .u64 0,.int .u64 dl,.slice AO no co] 82)) wr) (fun i _ _=>5 - (intOf i).toNat)
  case atStart=>exact ⟨0,by omega,rfl,Below.refl _ _⟩
  case round =>
    obtain ⟨j,hj,rfl,hbel⟩:=hrel
    have HB:=Lib.hid hbel
    have HS:=Lib.hid (show w.heap.size+1≤wr.heap.size from Nat.le_trans (Nat.le_of_eq HZ.out.symm) hbel.size)
    have o7:wr.cell? ⟨w.heap.size,7,none⟩=some (.bool false):=(hbel.cell (p:=⟨w.heap.size,7,none⟩) (Nat.lt_succ_self _)).trans (BOX.out.cell 7)
    have o8:wr.cell? ⟨w.heap.size,8,none⟩=some (.int .u64 0):=(hbel.cell (p:=⟨w.heap.size,8,none⟩) (Nat.lt_succ_self _)).trans (BOX.out.cell 8)
    have o9:wr.cell? ⟨w.heap.size,9,none⟩=some (.int .u64 sl):=(hbel.cell (p:=⟨w.heap.size,9,none⟩) (Nat.lt_succ_self _)).trans (BOX.out.cell 9)
    have o10:wr.cell? ⟨w.heap.size,10,none⟩=some (.bool false):=(hbel.cell (p:=⟨w.heap.size,10,none⟩) (Nat.lt_succ_self _)).trans (BOX.out.cell 10)
    have o11:wr.cell? ⟨w.heap.size,11,none⟩=some (.int .u64 0):=(hbel.cell (p:=⟨w.heap.size,11,none⟩) (Nat.lt_succ_self _)).trans (BOX.out.cell 11)
    have o12:wr.cell? ⟨w.heap.size,12,none⟩=some (.int .u64 dl):=(hbel.cell (p:=⟨w.heap.size,12,none⟩) (Nat.lt_succ_self _)).trans (BOX.out.cell 12)
    have o13:wr.cell? ⟨w.heap.size,13,none⟩=some (.slice AO no co):=(hbel.cell (p:=⟨w.heap.size,13,none⟩) (Nat.lt_succ_self _)).trans (BOX.out.cell 13)
    clear hbel
    have hcase:j=0∨j=1∨j=2∨j=3∨j=4∨j=5:=by omega
    rcases hcase with rfl | rfl | rfl | rfl | rfl | rfl
    · have q1:decide (tos<0)=false:=decide_eq_false (by omega)
      have q2:decide (255<tos)=false:=decide_eq_false (by omega)
      clear o7 o8 o9 o10 o11 o12 o13
      go_wp2_with fail
      go_roundw
      case rel=>exact ⟨1,by omega,by go_num,HB.out.alloc HS.out _⟩
      case measure=>simp [intOf]
    · have q1:decide (ttl<0)=false:=decide_eq_false (by omega)
      have q2:decide (255<ttl)=false:=decide_eq_false (by omega)
      clear o7 o8 o9 o10 o11 o12 o13
      go_wp2_with fail
      go_roundw
      case rel=>exact ⟨2,by omega,by go_num,HB.out.alloc HS.out _⟩
      case measure=>simp [intOf]
    · have q1:decide (pr<0)=false:=decide_eq_false (by omega)
      have q2:decide (255<pr)=false:=decide_eq_false (by omega)
      clear o7 o8 o9 o10 o11 o12 o13
      go_wp2_with fail
      go_roundw
      case rel=>exact ⟨3,by omega,by go_num,HB.out.alloc HS.out _⟩
      case measure=>simp [intOf]
    · have q1:decide (id<0)=false:=decide_eq_false (by omega)
      have q2:decide (65535<id)=false:=decide_eq_false (by omega)
      clear o7 o8 o9 o10 o11 o12 o13
      go_wp2_with fail
      go_roundw
      case rel=>exact ⟨4,by omega,by go_num,HB.out.alloc HS.out _⟩
      case measure=>simp [intOf]
    · have q1:decide (fr<0)=false:=decide_eq_false (by omega)
      have q2:decide (8191<fr)=false:=decide_eq_false (by omega)
      clear o7 o8 o9 o10 o11 o12 o13
      go_wp2_with fail
      go_roundw
      case rel=>exact ⟨5,by omega,by go_num,HB.out.alloc HS.out _⟩
      case measure=>simp [intOf]
    · go_wp2_with fail
      clear o7 o8 o9 o10 o11 o12 o13
      obtain ⟨wo,rfl⟩:∃ wo:World,wo=wr:=⟨_,rfl⟩
      go_loopw [42,6] (fun i _ wq=>∃ j:Nat,j≤2∧i=.int .i64 j∧Below (w.heap.size+1) (w.alloc (.cells #[.int .i64 tos,.int .i64 id,.bool df,.bool mf,.int .i64 fr,.int .i64 ttl,.int .i64 pr,.bool false,.int .u64 0,.int .u64 sl,.bool false,.int .u64 0,.int .u64 dl,.slice AO no co] 82)) wq) (fun i _ _=>2 - (intOf i).toNat)
      case atStart=>exact ⟨0,by omega,rfl,HB.out⟩
      case round =>
        obtain ⟨j,hj,rfl,hbel⟩:=hrel
        have HB2:=Lib.hid hbel
        have HS2:=Lib.hid (show w.heap.size+1≤_ from Nat.le_trans (Nat.le_of_eq HZ.out.symm) hbel.size)
        have o13:wr.cell? ⟨w.heap.size,13,none⟩=some (.slice AO no co):=(hbel.cell (p:=⟨w.heap.size,13,none⟩) (Nat.lt_succ_self _)).trans (BOX.out.cell 13)
        clear hbel
        have hcase:j=0∨j=1∨j=2:=by omega
        rcases hcase with rfl | rfl | rfl
        · clear o13
          go_wp2_with fail
          refine (HA1.out _).mono ?_
          rintro e w5 ⟨rfl,hb5⟩
          have HB5:=Lib.hid ((HB2.out.alloc HS2.out _).trans (hb5.mono (Nat.le_trans HS2.out (Below.size ((Below.refl 0 _).alloc (Nat.zero_le _) _)))))
          clear hb5
          go_wp2_with fail
          go_roundw
          case rel=>first | exact ⟨1,by omega,by go_num,HB5.out⟩ | ((repeat apply Exists.intro); exact ⟨⟨1,by omega,by go_num,HB5.out⟩,rfl⟩)
          case measure=>simp [intOf]
        · clear o13
          go_wp2_with fail
          refine (HA2.out _).mono ?_
          rintro e w5 ⟨rfl,hb5⟩
          have HB5:=Lib.hid ((HB2.out.alloc HS2.out _).trans (hb5.mono (Nat.le_trans HS2.out (Below.size ((Below.refl 0 _).alloc (Nat.zero_le _) _)))))
          clear hb5
          go_wp2_with fail
          go_roundw
          case rel=>first | exact ⟨2,by omega,by go_num,HB5.out⟩ | ((repeat apply Exists.intro); exact ⟨⟨2,by omega,by go_num,HB5.out⟩,rfl⟩)
          case measure=>simp [intOf]
        · go_wp2_with fail
          go_ret
          exact ⟨rfl,HBX.out.trans (HB2.out.mono (Nat.le_succ _))⟩
end Go.Proofs.Ytnofddbfogilaaa.fourC
/- Layer 8: the law's bytes of a packet. -/
namespace Go.Proofs.Ytnofddbfogilaaa.fourD
open Go.ChangeShapes Go.WideShapes Go.ChangeAt Go.RowKit
set_option linter.unusedVariables false
def hk (tos id fl ttl pr sl dl ck sz:Int) (os:List Int):List Int:=[64+(20+(os.length:Int)) / 4,tos,sz / 256,sz % 256,id / 256,id % 256,fl / 256,fl % 256,ttl,pr,ck / 256,ck % 256,sl / 65536 / 256,sl / 65536 % 256,sl % 65536 / 256,sl % 65536 % 256,dl / 65536 / 256,dl / 65536 % 256,dl % 65536 / 256,dl % 65536 % 256]++os
theorem hk_len (tos id fl ttl pr sl dl ck sz:Int) (os:List Int):(hk tos id fl ttl pr sl dl ck sz os).length=20+os.length:=by simp [hk]; omega
theorem hk_in (tos id fl ttl pr sl dl ck sz:Int) (os:List Int) (h1:0≤tos∧tos≤255) (h2:0≤id∧id≤65535) (h3:0≤fl∧fl≤65535) (h4:0≤ttl∧ttl≤255) (h5:0≤pr∧pr≤255) (h6:0≤sl∧sl≤4294967295) (h7:0≤dl∧dl≤4294967295) (h8:0≤ck∧ck≤65535) (h9:0≤sz∧sz≤65535) (ho:os.length≤40) (hx:∀ x ∈ os,0≤x∧x≤255):∀ x ∈ hk tos id fl ttl pr sl dl ck sz os,0≤x∧x≤255:=by
  intro x h
  unfold hk at h
  rw [List.mem_append] at h
  rcases h with h | h
  · simp only [List.mem_cons,List.not_mem_nil,or_false] at h
    rcases h with h | h | h | h | h | h | h | h | h | h | h | h | h | h | h | h | h | h | h | h <;> (subst h; omega)
  · exact hx x h
end Go.Proofs.Ytnofddbfogilaaa.fourD
