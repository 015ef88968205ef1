/- 11 texts in one. -/
import Derived.Laws.MakeOwn
import Derived.Laws.OwnMore
import Derived.Deep.RegionHeld3
import Derived.Test.YtodckfgfbcnkoaaNu01
import Derived.Test.YtodckfgfbcnkoaaNu02
import Derived.Test.YtodckfgfbcnkoaaNu03
import Derived.Test.YtodckfgfbcnkoaaNu04
import Derived.Test.YtodckfgfbcnkoaaNu05
import Derived.Test.YtodckfgfbcnkoaaNu06
import Derived.Test.YtodckfgfbcnkoaaNu07
import Derived.Test.YtodckfgfbcnkoaaNu08
import Derived.Test.YtodckfgfbcnkoaaNu09
import Derived.Test.YtodckfgfbcnkoaaNu10
import Derived.Test.YtodckfgfbcnkoaaNu11
import Derived.Test.YtodckfgfbcnkoaaNu12
import Derived.Test.YtodckfgfbcnkoaaNu13
import Derived.Test.YtodckfgfbcnkoaaNu14
import Derived.Test.YtodckfgfbcnkoaaNu15
import Derived.Test.YtodckfgfbcnkoaaNu16
import Derived.Test.YtodckfgfbcnkoaaNu17
import Derived.Test.YtodckfgfbcnkoaaNu18
import Derived.Test.YtodckfgfbcnkoaaNu19
import Derived.Test.YtodckfgfbcnkoaaNu20
import Derived.Test.YtodckfgfbcnkoaaNu21
import Derived.Test.YtodckfgfbcnkoaaNu22
import Derived.Test.YtodckfgfbcnkoaaNu23
import Derived.Test.YtodckfgfbcnkoaaNu24
namespace Go.Proofs.Ytodckfgfbcnkoaa.base
open Go.RowKit Go.WideShapes Go.ChangeShapes
set_option linter.unusedVariables false
theorem own_stored {w:World} {base:Nat} {e:TypeId} {g n cap:Nat} {xs:List Value} (h:w.ownsRow base e 1 (.slice (some ⟨g,0,none⟩) n cap) n xs) (j:Nat) (u:Value) :
    (w.setCell ⟨g,j,none⟩ u).ownsRow base e 1 (.slice (some ⟨g,0,none⟩) n cap) n (xs.set j u):=(h.stored j u).1
end Go.Proofs.Ytodckfgfbcnkoaa.base
namespace Go.Proofs.Ytodckfgfbcnkoaa.pktM
set_option maxHeartbeats 4000000
open Go.ChangeShapes Go.WideShapes Go.ChangeAt Go.RowKit
open base rdrA rdrG sumA sumB sixW sixM pktA pktB pktL
set_option linter.unusedVariables false
theorem dgram_not (pr:Int) (s6:Bool) (sh sl:Int) (d6:Bool) (dh dl sp dp ttl:Int) (A:Option Addr) (n c:Nat) (w:World) (h:pr≠17∨s6≠d6) :
    Calls Try.prog 26 #[.agg #[.int .i64 pr,.bool s6,.int .u64 sh,.int .u64 sl,.bool d6,.int .u64 dh,.int .u64 dl,.int .i64 sp,.int .i64 dp],.int .i64 ttl,.slice A n c] w (MkP 1 [] w):=by
  have B0:=Lib.hid (show Below w.heap.size w ((w.alloc (.cells #[.int .i64 pr,.bool s6,.int .u64 sh,.int .u64 sl,.bool d6,.int .u64 dh,.int .u64 dl,.int .i64 sp,.int .i64 dp] 34)).alloc (.cells #[.slice A n c] 22)) from ((Below.refl _ _).alloc (Nat.le_refl _) _).alloc (by simp) _)
  by_cases h17:pr=17
  · have h2:s6≠d6:=by rcases h with h | h <;> first | omega | exact h
    subst h17
    have tv:(s6 == d6)=false:=by simpa using h2
    clear h h2
    go_enter Try.func26,Try.ntmps26
    go_wp2_with fail
    go_ret2
    exact MkP.nil_ B0.out
  · have t17:(pr != 17)=true:=by simpa using h17
    clear h h17
    go_enter Try.func26,Try.ntmps26
    go_wp2_with fail
    go_ret2
    exact MkP.nil_ B0.out
end Go.Proofs.Ytodckfgfbcnkoaa.pktM
/- Layer 15: a packet with another side, as one contract. -/
namespace Go.Proofs.Ytodckfgfbcnkoaa.natE
set_option maxHeartbeats 1000000
open Go.ChangeShapes Go.WideShapes Go.ChangeAt Go.RowKit
open base octA rdrA rdrG sixW sixM pktA pktB pktC pktE sixE sixF pktG  tunW tunV tunC natW natY natZ natA natB pktL natC natD natZb
set_option linter.unusedVariables false
set_option linter.unusedSimpArgs false
structure PkG (l:List Int) (P:Pk) (v:Bool) (pr sh sl dh dl ttl fl:Int) (S N:Nat) (R:List Int):Prop where
  eq:P=⟨v,⟨pr,v,sh,sl,v,dh,dl,udpA.w16 R 0,udpA.w16 R 2⟩,ttl,fl,false,zeroT,(N:Int)⟩
  prs:(pr=6∧20≤R.length)∨(pr=17∧8≤R.length)
  sum:S+R.length=N
  le:N≤l.length
  s20:(if v=true then 40 else 20)≤S
  u8:U8 R
  b1:0≤sh∧sh<18446744073709551616
  b2:0≤sl∧sl<18446744073709551616
  b3:0≤dh∧dh<18446744073709551616
  b4:0≤dl∧dl<18446744073709551616
  again:∀ (s:Nat) (th tl port:Int),s≤1→0≤th→th<18446744073709551616→0≤tl→tl<18446744073709551616→0≤port→port≤65535→(v=false→th=0∧tl<4294967296)→∀ out,out=natO l N S v s pr (aw v (sdH P.t s) (sdL P.t s)) (aw v th tl) (sdP P.t s) port→pkP out=({ P with t:=turnT P.t s th tl port },0)∧out.length=N∧U8 out
  head:∀ (A:Option Addr) (n c:Nat) (w:World),Sl w A n c l→Calls Try.prog 52 #[.slice A n c] w fun o w'=>o=.returned (.int .i64 (S:Int))∧Below w.heap.size w w'
  at4:v=false→S=fourS l
theorem tcp_long {R ps:List Int} (h:tcpE R ps=0):20≤R.length:=by
  unfold tcpE at h
  split at h
  · cases h
  · omega
theorem udp_long {R ps:List Int} {b:Bool} (h:udpE_ R ps b=0):8≤R.length:=by
  unfold udpE_ at h
  split at h
  · cases h
  · omega
theorem inv_any (l:List Int) (hu:U8 l) (hn:l.length≤1000) (P:Pk) (hP:pkP l=(P,0)) (her:P.er=false):∃ v pr sh sl dh dl ttl fl S N R,PkG l P v pr sh sl dh dl ttl fl S N R:=by
  have hl0:¬ l.length=0:=fun k=>by
    unfold pkP at hP
    rw [if_pos k] at hP
    injection hP with _ h
    cases h
  have hP0:=hP
  unfold pkP at hP
  rw [if_neg hl0,if_neg (show ¬ 9000<l.length by omega)] at hP
  by_cases h4:l.getD 0 0 / 16=4
  · rw [if_pos h4] at hP
    obtain ⟨hE,hF,hW⟩:=p4_inv hP
    obtain ⟨_,s20,s60,es,ew,sw,wl,sr,hf,hfo⟩:=four_sizes l hu hE
    have b12:=w32_in8 l hu 12
    have b16:=w32_in8 l hu 16
    have hR:U8 (fourR l):=(hu.drop _).take _
    have hsz:(20+((fourS l - 20:Nat):Int)+((fourR l).length:Int))=(((udpA.w16 l 2).toNat:Nat):Int):=by omega
    have hag:∀ (s:Nat) (th tl port:Int),s≤1→0≤th→th<18446744073709551616→0≤tl→tl<18446744073709551616→0≤port→port≤65535→(false=false→th=0∧tl<4294967296)→∀ out,out=natO l (udpA.w16 l 2).toNat (fourS l) false s (l.getD 9 0) (aw false (sdH P.t s) (sdL P.t s)) (aw false th tl) (sdP P.t s) port→pkP out=({ P with t:=turnT P.t s th tl port },0)∧out.length=(udpA.w16 l 2).toNat∧U8 out:=by
      intro s th tl port hs _ _ t0 _ p0 p9 hlo out ho
      obtain ⟨rfl,t9⟩:=hlo rfl
      have hpp:P.t.pr=l.getD 9 0:=by rcases with_inv hW her with ⟨_,_,e⟩ | ⟨_,_,e⟩ <;> rw [e]
      rw [← hpp] at ho
      exact nat4 l hu hn h4 P hP0 her s hs tl port t0 t9 p0 p9 out ho
    have hhd:∀ (A:Option Addr) (n c:Nat) (w:World),Sl w A n c l→Calls Try.prog 52 #[.slice A n c] w fun o w'=>o=.returned (.int .i64 (fourS l:Int))∧Below w.heap.size w w':=by
      intro A n c w hs
      have hl:=hs.len
      obtain ⟨b,off,rfl,hb,hc⟩:=lies_of hs.row (by omega)
      have h9:=head_4 b off n c (l.getD 0 0) _ _ _ _ _ _ (fourS l - 20) (by omega) (fourR l) (by omega) w (by omega) hb (hc 0 (by omega)) (hu.get 0) (Lib.hid fun V hV=>(four_any (some ⟨b,off,none⟩) n c l V (hs.below hV) (by omega)).mono fun o w' k=>by
        obtain ⟨hb,k⟩:=k
        rcases k with ⟨k1,_⟩ | ⟨_,_,_,_,k2⟩
        · exact absurd hE k1
        · exact ⟨hb,k2⟩)
      have e:(20+((fourS l - 20:Nat):Int))=(fourS l:Int):=by omega
      rw [e] at h9
      exact h9
    rw [hsz] at hW
    have w12:tcpC.w32 l 12<4294967296:=by
      have a:=udpA.w16_in l hu 12; have b:=udpA.w16_in l hu (12+2)
      show udpA.w16 l 12*65536+udpA.w16 l (12+2)<_
      omega
    rcases with_inv hW her with ⟨hp,hE2,e⟩ | ⟨hp,hE2,e⟩
    · exact ⟨false,_,_,_,_,_,_,_,fourS l,(udpA.w16 l 2).toNat,fourR l,⟨e,.inl ⟨hp,tcp_long hE2⟩,by omega,wl,by simpa using s20,hR,show (0:Int)≤0∧(0:Int)<18446744073709551616 from ⟨Int.le_refl _,by decide⟩,b12,show (0:Int)≤0∧(0:Int)<18446744073709551616 from ⟨Int.le_refl _,by decide⟩,b16,hag,hhd,fun _=>rfl⟩⟩
    · exact ⟨false,_,_,_,_,_,_,_,fourS l,(udpA.w16 l 2).toNat,fourR l,⟨e,.inr ⟨hp,udp_long hE2⟩,by omega,wl,by simpa using s20,hR,show (0:Int)≤0∧(0:Int)<18446744073709551616 from ⟨Int.le_refl _,by decide⟩,b12,show (0:Int)≤0∧(0:Int)<18446744073709551616 from ⟨Int.le_refl _,by decide⟩,b16,hag,hhd,fun _=>rfl⟩⟩
  · rw [if_neg h4] at hP
    by_cases h6:l.getD 0 0 / 16=6
    · rw [if_pos h6] at hP
      obtain ⟨ys,q,r,hC,hF,hW⟩:=p6_inv hP
      obtain ⟨_,hlen,hsum,hru,q0,q9⟩:=six_sizes l hu hC
      have hV8:∀ p,0≤V8 l p∧V8 l p<18446744073709551616:=fun p=>by
        have a:=udpA.w16_in l hu p; have b:=udpA.w16_in l hu (p+2); have c:=udpA.w16_in l hu (p+4); have d:=udpA.w16_in l hu (p+6)
        unfold V8
        omega
      have hsz:(((40+extL ys:Nat):Int)+(r.length:Int))=((40+sizeP l:Nat):Int):=by omega
      have hag:∀ (s:Nat) (th tl port:Int),s≤1→0≤th→th<18446744073709551616→0≤tl→tl<18446744073709551616→0≤port→port≤65535→(true=false→th=0∧tl<4294967296)→∀ out,out=natO l (40+sizeP l) (40+extL ys) true s q (aw true (sdH P.t s) (sdL P.t s)) (aw true th tl) (sdP P.t s) port→pkP out=({ P with t:=turnT P.t s th tl port },0)∧out.length=40+sizeP l∧U8 out:=by
        intro s th tl port hs th0 th9 t0 t9 p0 p9 _ out ho
        obtain ⟨ys2,q2,r2,hC2,hag⟩:=nat6 l hu hn h6 P hP0 her s hs th tl port th0 th9 t0 t9 p0 p9
        rw [hC] at hC2
        injection hC2 with hC2
        injection hC2 with e1 e2
        injection e2 with e2 e3
        subst e1
        have hpp:P.t.pr=q:=by rcases with_inv hW her with ⟨_,_,e⟩ | ⟨_,_,e⟩ <;> rw [e]
        rw [← hpp] at ho
        exact hag out ho
      have hhd:∀ (A:Option Addr) (n c:Nat) (w:World),Sl w A n c l→Calls Try.prog 52 #[.slice A n c] w fun o w'=>o=.returned (.int .i64 ((40+extL ys:Nat):Int))∧Below w.heap.size w w':=by
        intro A n c w hs
        have hl:=hs.len
        obtain ⟨b,off,rfl,hb,hc⟩:=lies_of hs.row (by omega)
        exact head_6 b off n c (l.getD 0 0) _ _ _ _ _ _ _ _ _ r h6 w (by omega) hb (hc 0 (by omega)) (hu.get 0) (Lib.hid fun V hV=>(six_good (some ⟨b,off,none⟩) n c l V (hs.below hV) (by omega) h6 hC).mono fun o w' k=>by
          obtain ⟨hb,AX,nx,cx,cls,lab,AR,cr,e,hs,_,hln⟩:=k
          exact ⟨hb,cls,lab,AX,nx,cx,AR,cr,e,hs,hln⟩)
      rw [hsz] at hW
      rcases with_inv hW her with ⟨hp,hE2,e⟩ | ⟨hp,hE2,e⟩
      · exact ⟨true,_,_,_,_,_,_,_,40+extL ys,40+sizeP l,r,⟨e,.inl ⟨hp,tcp_long hE2⟩,by omega,hlen,by simp,hru,hV8 8,hV8 16,hV8 24,hV8 32,hag,hhd,fun h=>by cases h⟩⟩
      · exact ⟨true,_,_,_,_,_,_,_,40+extL ys,40+sizeP l,r,⟨e,.inr ⟨hp,udp_long hE2⟩,by omega,hlen,by simp,hru,hV8 8,hV8 16,hV8 24,hV8 32,hag,hhd,fun h=>by cases h⟩⟩
    · rw [if_neg h6] at hP
      injection hP with _ h
      cases h
theorem bt_four (lo:Int):[fourL.bt lo 4,fourL.bt lo 5,fourL.bt lo 6,fourL.bt lo 7]=pb lo 4 4:=rfl
theorem abytes_go (v6:Bool) (h l:Int) (w:World) (h0:0≤h∧h<18446744073709551616) (l0:0≤l∧l<18446744073709551616) :
    Calls Try.prog 54 #[.agg #[.bool v6,.int .u64 h,.int .u64 l]] w fun o w'=>∃ v,o=.returned v∧w'.ownsRow w.heap.size 5 1 v (ab v6 h l).length ((ab v6 h l).map (.int .u8))∧Below w.heap.size w w':=by
  cases v6 with
  | true =>
    have e:(ab true h l).length=16:=by show (pb h 8 8++pb l 8 8).length=16; simp [pb_len]
    rw [e]
    exact sixJ.abytes_any h l w h0.1 h0.2 l0.1 l0.2
  | false =>
    have e:(ab false h l).length=4:=pb_len _ _ _
    rw [e]
    have h9:=fourL.addr_four h l w h0.1 l0.1
    rw [bt_four] at h9
    exact h9
theorem natO_is (l:List Int) (N S:Nat) (v:Bool) (s:Nat) (pr:Int) (fs:List Int) (th tl wp port:Int) (hs:s≤1) (hN:N≤l.length) (hS:(if v=true then 40 else 20)≤S) (hSN:S+8≤N) :
    x4 pr S (fs++[wp]) (aw v th tl++[port]) (x3 v fs (aw v th tl) (x2 l N S (plc v s) s (ab v th tl) port))=natO l N S v s pr fs (aw v th tl) wp port:=by
  have hL:(l.take N).length=N:=by rw [List.length_take]; omega
  have hpl:plc v s+2*(aw v th tl).length≤S:=by
    rw [aw_len]
    unfold plc
    cases v
    · simp at hS ⊢; omega
    · simp at hS ⊢; omega
  have e1:x1 l N (plc v s) (ab v th tl)=setws (l.take N) (plc v s) (aw v th tl):=by
    unfold x1 splice
    rw [← List.append_assoc,ab_words,wbytes_len]
    exact splice_words (aw v th tl) (l.take N) (plc v s) (by rw [hL]; omega)
  have e2:x2 l N S (plc v s) s (ab v th tl) port=setw (setws (l.take N) (plc v s) (aw v th tl)) (S+2*s) port:=by unfold x2; rw [e1]
  have e3:x3 v fs (aw v th tl) (x2 l N S (plc v s) s (ab v th tl) port)=natX l N S v s fs (aw v th tl) port:=by
    rw [e2]
    cases v with
    | true =>
      unfold x3 natX
      rw [if_pos rfl,if_pos rfl]
    | false =>
      have hS2:20≤S:=by simpa using hS
      have hp2:plc false s=12+4*s:=by unfold plc; rw [if_neg (by decide)]
      generalize aw false th tl=ts at *
      have ew:udpA.w16 (setw (setws (l.take N) (plc false s) ts) (S+2*s) port) 10=udpA.w16 l 10:=by
        rw [w16_set _ _ _ _ (by rw [setws_len]; omega) (by omega),setws_w16 _ _ _ _ (by omega) (by omega),fourB.w16_take l N 10 (by omega)]
      unfold x3 natX
      rw [if_neg (by decide),if_neg (by decide),ew]
  rw [e3]
  unfold x4 natO L4
  rfl
theorem ab_u8 (v:Bool) (h l:Int):U8 (ab v h l):=by
  cases v
  · exact pktB.pb_u8 _ _ _
  · exact (pktB.pb_u8 _ _ _).join (pktB.pb_u8 _ _ _)
theorem ab_len (v:Bool) (h l:Int):(ab v h l).length=2*(aw v h l).length:=by rw [ab_words,wbytes_len]
theorem turn_good (l:List Int) (hu:U8 l) (hn:l.length≤1000) (P:Pk) (hP:pkP l=(P,0)) (her:P.er=false) (s:Nat) (hs:s≤1) (th tl port:Int) (th0:0≤th) (th9:th<18446744073709551616) (t0:0≤tl) (t9:tl<18446744073709551616) (p0:0≤port) (p9:port≤65535) (hok:okAd P.v6 th tl=true) :
    ∃ X:List Int,pkP X=({ P with t:=turnT P.t s th tl port },0)∧(X.length:Int)=P.sz∧U8 X∧X.length≤l.length ∧
      (∃ S N R pr sh sl dh dl ttl fl,PkG l P P.v6 pr sh sl dh dl ttl fl S N R∧X=natO l N S P.v6 s pr (aw P.v6 (sdH P.t s) (sdL P.t s)) (aw P.v6 th tl) (sdP P.t s) port) ∧
      ∀ (A:Option Addr) (n c:Nat) (w:World),Sl w A n c l→Calls Try.prog 22 #[.slice A n c,.int .i64 s,.agg #[.bool P.v6,.int .u64 th,.int .u64 tl],.int .i64 port] w (MkP 0 X w):=by
  obtain ⟨v,pr,sh,sl,dh,dl,ttl,fl,S,N,R,G⟩:=inv_any l hu hn P hP her
  have hPv:P.v6=v:=by rw [G.eq]
  have hPsz:P.sz=(N:Int):=by rw [G.eq]
  have G0:=G
  rw [hPv] at hok
  have hlo:v=false→th=0∧tl<4294967296:=fun h=>by
    rw [h] at hok
    simpa [okAd] using hok
  have w0:=udpA.w16_in R G.u8 0
  have w2:=udpA.w16_in R G.u8 2
  have hsum:=G.sum
  have h20:=G.s20
  have hprs:=G.prs
  have hle:=G.le
  have hwp:0≤sdP P.t s∧sdP P.t s≤65535:=by
    rw [G.eq]
    unfold sdP
    split
    · exact w0
    · exact w2
  have hsH:0≤sdH P.t s∧sdH P.t s<18446744073709551616:=by
    rw [G.eq]
    unfold sdH
    split
    · exact G.b1
    · exact G.b3
  have hsL:0≤sdL P.t s∧sdL P.t s<18446744073709551616:=by
    rw [G.eq]
    unfold sdL
    split
    · exact G.b2
    · exact G.b4
  have hS8:S+8≤N:=by omega
  have hpb:plc v s+2*(aw v th tl).length≤S:=by
    rw [aw_len]
    unfold plc
    cases v
    · simp at h20 ⊢; omega
    · simp at h20 ⊢; omega
  have hS20:20≤S:=by
    cases v
    · simpa using h20
    · simp at h20; omega
  have hal:(aw v (sdH P.t s) (sdL P.t s)).length=(aw v th tl).length:=by rw [aw_len,aw_len]
  have hk:1≤(aw v th tl).length∧(aw v th tl).length≤8:=by rw [aw_len]; cases v <;> simp
  have hp0:0<plc v s:=by unfold plc; split <;> omega
  obtain ⟨a1,a2,a3⟩:=G.again s th tl port hs th0 th9 t0 t9 p0 p9 hlo _ rfl
  refine ⟨_,a1,by rw [a2,hPsz],a3,by omega,⟨S,N,R,pr,sh,sl,dh,dl,ttl,fl,by rw [hPv]; exact G0,by rw [hPv]⟩,fun A n c w hsl=>?_⟩
  rw [hPv]
  have hl:=hsl.len
  obtain ⟨b,off,rfl,hb,hc⟩:=lies_of hsl.row (by omega)
  rw [← natO_is l N S v s pr _ th tl _ port hs hle h20 hS8]
  have hPar:=fun V (hV:Below w.heap.size w V)=>parse_any (some ⟨b,off,none⟩) n c l V (hsl.below hV) (by omega)
  have HSD:∀ V:World,Calls Try.prog 50 #[.agg #[.int .i64 pr,.bool v,.int .u64 sh,.int .u64 sl,.bool v,.int .u64 dh,.int .u64 dl,.int .i64 (udpA.w16 R 0),.int .i64 (udpA.w16 R 2)],.int .i64 s] V fun o w'=>o=.returned (.tuple #[.agg #[.bool v,.int .u64 (sdH P.t s),.int .u64 (sdL P.t s)],.int .i64 (sdP P.t s)])∧Below V.heap.size V w':=by
    intro V
    rw [G.eq]
    have hs2:s=0∨s=1:=by omega
    rcases hs2 with rfl | rfl
    · exact side_0 pr v sh sl v dh dl (udpA.w16 R 0) (udpA.w16 R 2) V
    · exact side_1 pr v sh sl v dh dl (udpA.w16 R 0) (udpA.w16 R 2) V
  have HRT:=fun V:World=>aright_any v th tl V t0
  rw [hok] at HRT
  rw [hP,G.eq] at hPar
  refine turn_OK b off n c s hs v th tl port p0 p9 v pr v sh sl v dh dl (udpA.w16 R 0) (udpA.w16 R 2) ttl fl 0 false 0 0 false 0 0 0 0 rfl v _ _ (sdP P.t s) hwp.1 hwp.2 (aw v th tl).length hk _ _ (ab v th tl) l S N (plc v s) (ab v th tl).length hal rfl (aw_in _ _ _) (aw_in _ _ _) rfl (ab_u8 _ _ _) (by rw [ab_len]; omega) hp0 (by rw [ab_len]; exact hpb) hS20 hS8 (fun h6=>by omega) (by omega) (by omega) w hsl (Lib.hid hPar) (Lib.hid HRT) (Lib.hid HSD) (Lib.hid fun V=>?_) (Lib.hid fun V=>words_go v th tl V ⟨th0,th9⟩ ⟨t0,t9⟩) (Lib.hid fun V hV=>G.head _ n c V (hsl.below hV)) (Lib.hid fun V=>place_go v s V hs) (Lib.hid fun V=>abytes_go v th tl V ⟨th0,th9⟩ ⟨t0,t9⟩)
  have h9:=words_go v (sdH P.t s) (sdL P.t s) V hsH hsL
  rw [hal] at h9
  exact h9
theorem turn_bad (l:List Int) (hn:l.length≤1000) (s th tl port:Int) (t6:Bool) (t0:0≤tl) (e:Int) (he:e≠0)
    (hE:e=if (pkP l).2≠0 then (pkP l).2 else if (s≠0∧s≠1)∨port<0∨65535<port∨(pkP l).1.er=true then 1 else if t6≠(pkP l).1.v6∨okAd t6 th tl=false then 18 else 0) (A:Option Addr) (n c:Nat) (w:World) (hsl:Sl w A n c l) :
    Calls Try.prog 22 #[.slice A n c,.int .i64 s,.agg #[.bool t6,.int .u64 th,.int .u64 tl],.int .i64 port] w (MkP e [] w):=by
  have hl:=hsl.len
  have hPar:=fun V (hV:Below w.heap.size w V)=>parse_any A n c l V (hsl.below hV) (by omega)
  generalize pkP l=z at hPar hE
  obtain ⟨⟨v6,⟨pr,s6,sh,sl,d6,dh,dl,sp,dp⟩,ttl,fl,er,⟨apr,as6,ash,asl,ad6,adh,adl,asp,adp⟩,sz⟩,k⟩:=z
  simp only at hE hPar
  by_cases hk:k≠0
  · rw [if_pos hk] at hE
    subst hE
    exact turn_E A n c s t6 th tl port v6 pr s6 sh sl d6 dh dl sp dp ttl fl er apr as6 ash asl ad6 adh adl asp adp sz e hk w (Lib.hid hPar)
  · rw [if_neg hk] at hE
    have hk0:k=0:=by omega
    subst hk0
    by_cases ha:(s≠0∧s≠1)∨port<0∨65535<port∨er=true
    · rw [if_pos ha] at hE
      subst hE
      exact turn_G A n c s t6 th tl port v6 pr s6 sh sl d6 dh dl sp dp ttl fl er apr as6 ash asl ad6 adh adl asp adp sz ha w (Lib.hid hPar)
    · rw [if_neg ha] at hE
      have her:er=false:=by
        cases er
        · rfl
        · exact absurd (.inr (.inr (.inr rfl))) ha
      subst her
      have hs:s=0∨s=1:=by omega
      by_cases hv:t6=v6
      · cases hr:okAd t6 th tl with
        | true =>
          rw [if_neg (by rintro (a | a); · exact a hv
                         · rw [hr] at a; cases a)] at hE
          exact absurd hE he
        | false =>
          rw [if_pos (.inr hr)] at hE
          subst hE
          have HRT:=fun V:World=>aright_any t6 th tl V t0
          rw [hr] at HRT
          exact turn_R A n c s t6 th tl port v6 pr s6 sh sl d6 dh dl sp dp ttl fl apr as6 ash asl ad6 adh adl asp adp sz hs (by omega) (by omega) hv w (Lib.hid hPar) (Lib.hid HRT)
      · rw [if_pos (.inl hv)] at hE
        subst hE
        exact turn_V A n c s t6 th tl port v6 pr s6 sh sl d6 dh dl sp dp ttl fl apr as6 ash asl ad6 adh adl asp adp sz hs (by omega) (by omega) hv w (Lib.hid hPar)
end Go.Proofs.Ytodckfgfbcnkoaa.natE
namespace Go.Proofs.Ytodckfgfbcnkoaa.pktL2
end Go.Proofs.Ytodckfgfbcnkoaa.pktL2
/- Layer 9: the law SixPuts. -/
namespace Go.Proofs.Ytodckfgfbcnkoaa.sixZn
set_option maxHeartbeats 2000000
set_option maxRecDepth 100000
open Go.ChangeShapes Go.WideShapes Go.ChangeAt Go.RowKit
open base rdrA rdrG sixM
set_option linter.unusedVariables false
theorem bytes_no (cls lab hop:Int) (s6:Bool) (sh sl:Int) (d6:Bool) (dh dl p:Int) (A:Option Addr) (n c:Nat) (rv:Value) (w:World)
    (HR:Hid (∀ V,Below w.heap.size w V→Calls Try.prog 68 #[.agg #[.int .i64 cls,.int .i64 lab,.int .i64 hop,.bool s6,.int .u64 sh,.int .u64 sl,.bool d6,.int .u64 dh,.int .u64 dl,.slice A n c,.int .i64 p]] V fun o w'=>o=.returned (.bool false)∧Below V.heap.size V w')) :
    Calls Try.prog 37 #[.agg #[.int .i64 cls,.int .i64 lab,.int .i64 hop,.bool s6,.int .u64 sh,.int .u64 sl,.bool d6,.int .u64 dh,.int .u64 dl,.slice A n c,.int .i64 p],rv] w fun o w'=>o=.returned (.tuple #[.slice none 0 0,.int .i64 1])∧Below w.heap.size w w':=by
  obtain ⟨w1,hw1⟩:∃ w1,w1=w.alloc (.cells #[.int .i64 cls,.int .i64 lab,.int .i64 hop,.bool s6,.int .u64 sh,.int .u64 sl,.bool d6,.int .u64 dh,.int .u64 dl,.slice A n c,.int .i64 p] 48):=⟨_,rfl⟩
  have E1:=Lib.hid hw1
  have BA:=Lib.hid (show Below w.heap.size w w1 from by rw [hw1]; exact (Below.refl _ _).alloc (Nat.le_refl _) _)
  have KB:=Lib.hid (show Blk w1 w.heap.size 48 #[.int .i64 cls,.int .i64 lab,.int .i64 hop,.bool s6,.int .u64 sh,.int .u64 sl,.bool d6,.int .u64 dh,.int .u64 dl,.slice A n c,.int .i64 p] from by rw [hw1]; exact Blk.new w _ _)
  clear hw1
  go_enter Try.func37,Try.ntmps37
  go_upto_region 1 with fail
  rw [← E1.out]
  have x0:=KB.out.cell 0
  have x1:=KB.out.cell 1
  have x2:=KB.out.cell 2
  have x3:=KB.out.cell 3
  have x4:=KB.out.cell 4
  have x5:=KB.out.cell 5
  have x6:=KB.out.cell 6
  have x7:=KB.out.cell 7
  have x8:=KB.out.cell 8
  have x9:=KB.out.cell 9
  have x10:=KB.out.cell 10
  go_wp2_with fail
  refine (HR.out _ BA.out).mono ?_
  rintro o w2 ⟨rfl,hb2⟩
  have B2:=Lib.hid (BA.out.trans (hb2.mono BA.out.size))
  clear hb2 x0 x1 x2 x3 x4 x5 x6 x7 x8 x9 x10
  go_wp2_with fail
  go_ret2
  exact ⟨rfl,B2.out⟩
end Go.Proofs.Ytodckfgfbcnkoaa.sixZn
namespace Go.Proofs.Ytodckfgfbcnkoaa.tcpKn
end Go.Proofs.Ytodckfgfbcnkoaa.tcpKn
namespace Go.Proofs.Ytodckfgfbcnkoaa.tcpMn
end Go.Proofs.Ytodckfgfbcnkoaa.tcpMn
/- Layer 13: Datagram and Segment of any flow. -/
namespace Go.Proofs.Ytodckfgfbcnkoaa.pktS
open Go.ChangeShapes Go.WideShapes Go.ChangeAt Go.RowKit
open base octA rdrA rdrG sixW sixM pktA pktB pktC sixE sixF pktG pktL pktM pktR
set_option linter.unusedVariables false
theorem six_bytes (ttl pr sh sl dh dl:Int) (A:Option Addr) (n c:Nat) (bl:List Int) (w:World) (h:Sl w A n c bl) (hn:n≤900) (h1:0≤ttl∧ttl≤255) (h2:0≤pr∧pr≤255) (h3:isX pr=false) (b1:0≤sh∧sh<18446744073709551616) (b2:0≤sl∧sl<18446744073709551616) (b3:0≤dh∧dh<18446744073709551616) (b4:0≤dl∧dl<18446744073709551616) :
    Calls Try.prog 37 #[.agg #[.int .i64 0,.int .i64 0,.int .i64 ttl,.bool true,.int .u64 sh,.int .u64 sl,.bool true,.int .u64 dh,.int .u64 dl,.slice none 0 0,.int .i64 pr],.slice A n c] w (MkP 0 (mkB6 ttl pr sh sl dh dl bl) w):=by
  refine (sixQ.bytes_any ⟨0,0,ttl,true,sh,sl,true,dh,dl,pr⟩ none 0 0 [] A n c bl w rfl (⟨.inl rfl,fun o ho=>by cases ho⟩:RdX w none []) (Nat.le_refl _) (right6 ttl pr sh sl dh dl h1 h2 h3) b1 b2 b3 b4 h.len h.row (by omega) h.nil).mono ?_
  rintro o w' ⟨v,rfl,h5,h6⟩
  obtain ⟨B,d,rfl⟩:=own_slice h5
  refine ⟨h6,B,_,d,rfl,Sl.own h5 rfl ?_⟩
  have u8:∀ n:Int,U8 (pb n 8 8):=fun n=>pb_u8 n 8 8
  intro x hx
  have hx2:x ∈ sixK.hdB ⟨0,0,ttl,true,sh,sl,true,dh,dl,pr⟩ pr (extL []+bl.length)++([]++bl):=hx
  unfold sixK.hdB sixK.hd8 at hx2
  rw [List.nil_append] at hx2
  have hbn:=h.len
  rcases List.mem_append.1 hx2 with hx2 | hx2
  · rcases List.mem_append.1 hx2 with hx2 | hx2
    · rcases List.mem_append.1 hx2 with hx2 | hx2
      · simp only [List.mem_cons,List.not_mem_nil,or_false] at hx2
        rcases hx2 with rfl | rfl | rfl | rfl | rfl | rfl | rfl | rfl <;> omega
      · exact (List.mem_append.1 hx2).elim (u8 _ x) (u8 _ x)
    · exact (List.mem_append.1 hx2).elim (u8 _ x) (u8 _ x)
  · exact h.u8 x hx2
theorem six_bad (ttl pr sh sl dh dl:Int) (rv:Value) (w:World) (h1:¬ (0≤ttl∧ttl≤255)) :
    Calls Try.prog 37 #[.agg #[.int .i64 0,.int .i64 0,.int .i64 ttl,.bool true,.int .u64 sh,.int .u64 sl,.bool true,.int .u64 dh,.int .u64 dl,.slice none 0 0,.int .i64 pr],rv] w (MkP 1 [] w):=by
  refine (sixZn.bytes_no 0 0 ttl true sh sl true dh dl pr none 0 0 rv w (Lib.hid fun V hV=>?_)).mono ?_
  · refine (sixH.right_any ⟨0,0,ttl,true,sh,sl,true,dh,dl,pr⟩ none 0 0 [] V rfl (⟨.inl rfl,fun o ho=>by cases ho⟩:RdX V none []) (Nat.le_refl _) (by omega) (fun x hx=>by cases hx)).mono ?_
    rintro o w' ⟨v,rfl,h2,h3⟩
    cases v with
    | false=>exact ⟨rfl,h3⟩
    | true=>exact absurd ⟨(h2.mp rfl).h0,(h2.mp rfl).h1⟩ h1
  · rintro o w' ⟨rfl,h4⟩
    exact MkP.nil_ h4
def Made (pr:Int) (s6:Bool) (sh sl:Int) (d6:Bool) (dh dl sp dp ttl fl proto:Int):Prop:=pr=proto∧s6=d6∧(0≤ttl∧ttl≤255)∧(0≤sp∧sp≤65535∧0≤dp∧dp≤65535)∧(0≤fl∧fl≤255)∧(s6=true∨(sh=0∧dh=0∧sl<4294967296∧dl<4294967296))
theorem dgram_with (s6:Bool) (sh sl dh dl sp dp ttl fl:Int) (A:Option Addr) (n c:Nat) (pl:List Int) (w:World) (h:Sl w A n c pl) (hn:n≤500) (b1:0≤sh∧sh<18446744073709551616) (b2:0≤sl∧sl<18446744073709551616) (b3:0≤dh∧dh<18446744073709551616) (b4:0≤dl∧dl<18446744073709551616) (ps:List Int) (hps:ps=psd s6 sh sl dh dl 17 (8+(pl.length:Int))) (e e2:Int) (bs out:List Int) (hM:udpM sp dp pl ps=(e,bs))
    (HB:(e≠0∧e2=e∧out=[])∨(e=0∧s6=false∧∀ V A2 n2 k2,Below w.heap.size w V→Sl V A2 n2 k2 bs→Calls Try.prog 38 #[.agg #[.int .i64 0,.int .i64 0,.bool false,.bool false,.int .i64 0,.int .i64 ttl,.int .i64 17,.bool false,.int .u64 sh,.int .u64 sl,.bool false,.int .u64 dh,.int .u64 dl,.slice none 0 0],.slice A2 n2 k2] V (MkP e2 out V))∨(e=0∧s6=true∧∀ V A2 n2 k2,Below w.heap.size w V→Sl V A2 n2 k2 bs→Calls Try.prog 37 #[.agg #[.int .i64 0,.int .i64 0,.int .i64 ttl,.bool true,.int .u64 sh,.int .u64 sl,.bool true,.int .u64 dh,.int .u64 dl,.slice none 0 0,.int .i64 17],.slice A2 n2 k2] V (MkP e2 out V))) :
    Calls Try.prog 26 #[.agg #[.int .i64 17,.bool s6,.int .u64 sh,.int .u64 sl,.bool s6,.int .u64 dh,.int .u64 dl,.int .i64 sp,.int .i64 dp],.int .i64 ttl,.slice A n c] w (MkP e2 out w):=by
  have hl:=h.len
  have hp40:ps.length≤1000:=by rw [hps]; have:=psd_len s6 sh sl dh dl 17 (8+(pl.length:Int)); omega
  have HPS:=fun V=>psd_any s6 sh sl s6 dh dl 17 (8+(n:Int)) V b1 b2 b3 b4 (by omega) (by omega)
  rw [← hl] at HPS
  rw [← hps] at HPS
  refine dgram_go s6 sh sl dh dl sp dp ttl A n c _ _ w (by omega) (Lib.hid fun V c1 c2 hV k1 k2=>?_)
  have HC:∀ W A2 n2 cc2,Below V.heap.size V W→Sl W A2 n2 cc2 ps→Calls Try.prog 62 #[.slice A2 n2 cc2,.pointer (some ⟨c1,0,none⟩),.pointer (some ⟨c2,0,none⟩)] W (MkP e bs W):=fun W A2 n2 cc2 hW hs=>by
    have h9:=udp_bytes sp dp A A2 n c n2 cc2 pl ps W (h.below (hV.trans (hW.mono hV.size))) hs (by omega) (by have:=hs.len; omega)
    rw [hM] at h9
    exact dg_closure 17 s6 sh sl s6 dh dl sp dp c1 c2 A A2 n c n2 cc2 e bs W (k1.below hW k1.lt) (k2.below hW k2.lt) (Lib.hid h9)
  rw [← hl]
  rcases HB with ⟨he,rfl,rfl⟩ | ⟨rfl,rfl,HB⟩ | ⟨rfl,rfl,HB⟩
  · exact whole_dg_bad 17 s6 sh sl s6 dh dl sp dp ttl _ c1 c2 ps bs e2 he V (Lib.hid fun W hW=>HPS W) (Lib.hid HC)
  · exact whole_dg_four 17 sh sl false dh dl sp dp ttl _ c1 c2 ps bs _ _ V (Lib.hid fun W hW=>HPS W) (Lib.hid HC) (Lib.hid fun W A2 n2 k2 hW hs=>HB W A2 n2 k2 (hV.trans (hW.mono hV.size)) hs)
  · exact whole_dg_six 17 sh sl true dh dl sp dp ttl _ c1 c2 ps bs _ _ V (Lib.hid fun W hW=>HPS W) (Lib.hid HC) (Lib.hid fun W A2 n2 k2 hW hs=>HB W A2 n2 k2 (hV.trans (hW.mono hV.size)) hs)
theorem dgram_made (pr:Int) (s6:Bool) (sh sl:Int) (d6:Bool) (dh dl sp dp ttl fl:Int) (pl:List Int) (hn:pl.length≤500) (hu:U8 pl) (b1:0≤sh∧sh<18446744073709551616) (b2:0≤sl∧sl<18446744073709551616) (b3:0≤dh∧dh<18446744073709551616) (b4:0≤dl∧dl<18446744073709551616) (hm:Made pr s6 sh sl d6 dh dl sp dp ttl 0 17) :
    ∃ B:List Int,B.length=(if s6=true then 40 else 20)+8+pl.length∧B.drop ((if s6=true then 40 else 20)+8)=pl∧pkP B=(⟨s6,⟨pr,s6,sh,sl,d6,dh,dl,sp,dp⟩,ttl,0,false,zeroT,(B.length:Int)⟩,0)∧∀ (A:Option Addr) (n c:Nat) (w:World),Sl w A n c pl →
      Calls Try.prog 26 #[.agg #[.int .i64 pr,.bool s6,.int .u64 sh,.int .u64 sl,.bool d6,.int .u64 dh,.int .u64 dl,.int .i64 sp,.int .i64 dp],.int .i64 ttl,.slice A n c] w (MkP 0 B w):=by
  obtain ⟨rfl,rfl,ht,hp,hf,ha⟩:=hm
  obtain ⟨ps,hps⟩:∃ ps,ps=psd s6 sh sl dh dl 17 (8+(pl.length:Int)):=⟨_,rfl⟩
  obtain ⟨bs,hbs⟩:∃ bs,bs=udpB.ub sp dp pl (udpB.chkZ (ps++udpB.ub sp dp pl 0)):=⟨_,rfl⟩
  have hM:udpM sp dp pl ps=(0,bs):=by unfold udpM; rw [if_pos hp,hbs]
  have hPA:=fun v6 d6 sz=>udp_parse v6 s6 sh sl d6 dh dl sp dp ttl sz pl hp (by omega) hu bs (by rw [hbs,hps])
  have hlb:bs.length=8+pl.length:=by
    rw [hbs]
    exact udpB.ub_len _ _ _ _
  have hdb:bs.drop 8=pl:=by
    rw [hbs]
    rfl
  cases s6 with
  | false =>
    obtain ⟨rfl,rfl,hs,hd⟩:sh=0∧dh=0∧sl<4294967296∧dl<4294967296:=by
      rcases ha with ha | ha
      · cases ha
      · exact ha
    refine ⟨mkB4 ttl 17 sl dl bs,by rw [mk4_len,hlb,if_neg (by decide)]; omega,?_,?_,fun A n c w h=>?_⟩
    · rw [if_neg (by decide),← List.drop_drop,mk4_drop,hdb]
    · rw [mk4_parse ttl 17 sl dl bs ht (by omega) ⟨b2.1,by omega⟩ ⟨b4.1,by omega⟩ (by omega),hPA false false,mk4_len]
      rfl
    · refine dgram_with false 0 sl 0 dl sp dp ttl fl A n c pl w h (by have:=h.len; omega) b1 b2 b3 b4 ps hps 0 0 bs _ hM (.inr (.inl ⟨rfl,rfl,fun V A2 n2 k2 hV hs2=>?_⟩))
      have h9:=four_bytes ttl 17 0 sl false 0 dl A2 n2 k2 bs V hs2 (by have:=hs2.len; omega) b2.1 b4.1
      unfold fourM at h9
      rw [if_pos ⟨ht,by omega,⟨rfl,by omega⟩,rfl,rfl,by omega⟩] at h9
      exact h9
  | true =>
    obtain ⟨m1,m2⟩:=mk6_parse ttl 17 sh sl dh dl bs ht (by omega) (by decide) b1 b2 b3 b4 (by omega)
    refine ⟨mkB6 ttl 17 sh sl dh dl bs,by rw [m2,hlb,if_pos rfl]; omega,?_,?_,fun A n c w h=>?_⟩
    · rw [if_pos rfl,← List.drop_drop,mk6_drop,hdb]
    · rw [m1,hPA true true,m2]
      rfl
    · refine dgram_with true sh sl dh dl sp dp ttl fl A n c pl w h (by have:=h.len; omega) b1 b2 b3 b4 ps hps 0 0 bs _ hM (.inr (.inr ⟨rfl,rfl,fun V A2 n2 k2 hV hs2=>?_⟩))
      exact six_bytes ttl 17 sh sl dh dl A2 n2 k2 bs V hs2 (by have:=hs2.len; omega) ht (by omega) (by decide) b1 b2 b3 b4
theorem dgram_bad (pr:Int) (s6:Bool) (sh sl:Int) (d6:Bool) (dh dl sp dp ttl fl:Int) (A:Option Addr) (n c:Nat) (pl:List Int) (w:World) (h:Sl w A n c pl) (hn:n≤500) (b1:0≤sh∧sh<18446744073709551616) (b2:0≤sl∧sl<18446744073709551616) (b3:0≤dh∧dh<18446744073709551616) (b4:0≤dl∧dl<18446744073709551616) (hm:¬ Made pr s6 sh sl d6 dh dl sp dp ttl 0 17) :
    Calls Try.prog 26 #[.agg #[.int .i64 pr,.bool s6,.int .u64 sh,.int .u64 sl,.bool d6,.int .u64 dh,.int .u64 dl,.int .i64 sp,.int .i64 dp],.int .i64 ttl,.slice A n c] w (MkP 1 [] w):=by
  have hl:=h.len
  by_cases hx:pr≠17∨s6≠d6
  · exact dgram_not pr s6 sh sl d6 dh dl sp dp ttl A n c w hx
  obtain rfl:pr=17:=Classical.byContradiction fun e=>hx (.inl e)
  obtain rfl:s6=d6:=Classical.byContradiction fun e=>hx (.inr e)
  obtain ⟨ps,hps⟩:∃ ps,ps=psd s6 sh sl dh dl 17 (8+(pl.length:Int)):=⟨_,rfl⟩
  by_cases hp:0≤sp∧sp≤65535∧0≤dp∧dp≤65535
  · obtain ⟨bs,hbs⟩:∃ bs,bs=udpB.ub sp dp pl (udpB.chkZ (ps++udpB.ub sp dp pl 0)):=⟨_,rfl⟩
    have hM:udpM sp dp pl ps=(0,bs):=by unfold udpM; rw [if_pos hp,hbs]
    have hlb:bs.length=8+pl.length:=by
      rw [hbs]
      exact udpB.ub_len _ _ _ _
    cases s6 with
    | false =>
      refine dgram_with false sh sl dh dl sp dp ttl fl A n c pl w h hn b1 b2 b3 b4 ps hps 0 1 bs _ hM (.inr (.inl ⟨rfl,rfl,fun V A2 n2 k2 hV hs2=>?_⟩))
      have h9:=four_bytes ttl 17 sh sl false dh dl A2 n2 k2 bs V hs2 (by have:=hs2.len; omega) b2.1 b4.1
      unfold fourM at h9
      rw [if_neg (fun ⟨a1,_,⟨a3,a4⟩,_,a5,a6⟩=>hm ⟨rfl,rfl,a1,hp,by omega,.inr ⟨a3,a5,by omega,by omega⟩⟩)] at h9
      exact h9
    | true =>
      refine dgram_with true sh sl dh dl sp dp ttl fl A n c pl w h hn b1 b2 b3 b4 ps hps 0 1 bs _ hM (.inr (.inr ⟨rfl,rfl,fun V A2 n2 k2 hV hs2=>?_⟩))
      exact six_bad ttl 17 sh sl dh dl _ V (fun a=>hm ⟨rfl,rfl,a,hp,by omega,.inl rfl⟩)
  · have hM:udpM sp dp pl ps=(1,[]):=by unfold udpM; rw [if_neg hp]
    exact dgram_with s6 sh sl dh dl sp dp ttl fl A n c pl w h hn b1 b2 b3 b4 ps hps 1 1 [] [] hM (.inl ⟨by decide,rfl,rfl⟩)
end Go.Proofs.Ytodckfgfbcnkoaa.pktS
/- Layer 13: bytes that are cut to so many. -/
namespace Go.Proofs.Ytodckfgfbcnkoaa.pktCut
open Go.ChangeShapes Go.WideShapes Go.ChangeAt Go.RowKit
open rdrG sumB sixF
set_option linter.unusedVariables false
theorem cut_any (A:Option Addr) (n c:Nat) (w:World) (hA:0<n→∃ b off,A=some ⟨b,off,none⟩) (hnc:n≤c) (hc:c≤9223372036854775807) :
    Calls Try.prog 10 #[.slice A n c] w fun o w'=>o=.returned (.slice A (min n 500) c)∧w=w':=by
  by_cases h:500<n
  · obtain ⟨b,off,rfl⟩:=hA (by omega)
    obtain ⟨s1,s2⟩:=slice_to b off n c 500 (by omega) (by omega)
    have t1:decide (500<(n:Int))=true:=decide_eq_true (by omega)
    have t1n:decide (500<n)=true:=decide_eq_true h
    have e:min n 500=500:=by omega
    rw [e]
    have s1:∀ W:World,(Instr.slice 22 (.slice (some ⟨b,off,none⟩) n c) none (some (.int .i64 500)) none).run Try.prog W=.ok (.slice (some ⟨b,off,none⟩) 500 c) W:=s1
    have s2:∀ W:World,(Instr.sliceAt 22 (.slice (some ⟨b,off,none⟩) n c) none (some (.int .i64 500)) none).run Try.prog W=.ok (.slice (some ⟨b,off,none⟩) 500 c) W:=s2
    clear e hA
    go_enter Try.func10,Try.ntmps10
    go_wp2_with fail
    go_ret
    exact ⟨rfl,rfl⟩
  · have t1:decide (500<(n:Int))=false:=decide_eq_false (by omega)
    have t1n:decide (500<n)=false:=decide_eq_false h
    have e:min n 500=n:=by omega
    rw [e]
    clear e hA
    go_enter Try.func10,Try.ntmps10
    go_wp2_with fail
    go_ret
    exact ⟨rfl,rfl⟩
end Go.Proofs.Ytodckfgfbcnkoaa.pktCut
/- Layer 15: the example; a flow with another side. -/
namespace Go.Proofs.Ytodckfgfbcnkoaa.natF
set_option maxHeartbeats 4000000
set_option maxRecDepth 100000
open Go.ChangeShapes Go.WideShapes Go.ChangeAt Go.RowKit
open base octA rdrA rdrG sixW sixM pktA pktB pktC pktD pktE sixE pktG  natA natE pktS
set_option linter.unusedVariables false
set_option linter.unusedSimpArgs false
theorem awake_any (w:World):Calls Try.prog 23 #[] w fun o w'=>o=.returned (.bool true)∧Below w.heap.size w w':=by
  obtain ⟨B,hB1,_,hB3,hB4⟩:=dgram_made 17 false 0 0 false 0 167772161 0 0 9 0 [] (by simp) (fun x hx=>by cases hx) (by omega) (by omega) (by omega) (by omega) ⟨rfl,rfl,by omega,by omega,by omega,.inr ⟨rfl,rfl,by omega,by omega⟩⟩
  have hBl:B.length=28:=by rw [hB1]; rfl
  have HD:=Lib.hid (fun V=>hB4 none 0 0 V (Sl.none_ V))
  have hBu:∀ V A n c,Sl V A n c B→U8 B:=fun V A n c h=>h.u8
  by_cases hu:U8 B
  · obtain ⟨X,hX1,hX2,hX3,hX4,_,hX6⟩:=turn_good B hu (by omega) _ hB3 rfl 1 (by omega) 0 167772162 7 (by omega) (by omega) (by omega) (by omega) (by omega) (by omega) (by rfl)
    have HT:=Lib.hid hX6
    have HP:=Lib.hid (fun V A n c (h:Sl V A n c X)=>parse_any A n c X V h (by have:=h.len; omega))
    rw [hX1] at HP
    have HV:=Lib.hid (fun (k:Int) (h:0≤k) (h2:k≤4294967295) (V:World)=>fourA.v4_any k h h2 V)
    obtain ⟨Y,hY⟩:∃ Y:Array Value,Y=#[.bool false,.int .i64 17,.bool false,.int .u64 0,.int .u64 0,.bool false,.int .u64 0,.int .u64 167772162,.int .i64 0,.int .i64 7,.int .i64 9,.int .i64 0,.bool false,.int .i64 zeroT.pr,.bool zeroT.s6,.int .u64 zeroT.sh,.int .u64 zeroT.sl,.bool zeroT.d6,.int .u64 zeroT.dh,.int .u64 zeroT.dl,.int .i64 zeroT.sp,.int .i64 zeroT.dp,.int .i64 (B.length:Int)]:=⟨_,rfl⟩
    have HPY:=Lib.hid (show ∀ V A n c,Sl V A n c X→Calls Try.prog 14 #[.slice A n c] V fun o w'=>o=.returned (.tuple #[.agg Y,.int .i64 0])∧Below V.heap.size V w' from fun V A n c h=>by rw [hY]; exact HP.out V A n c h)
    have ys:Y.size=23:=by rw [hY]; rfl
    have ONE:=Lib.hid (show Y.all (·.oneCell')=true from by rw [hY]; simp [Value.oneCell'])
    have HIY:=Lib.hid (show (Try.prog.info? 36).map (·.size)=some Y.size from by rw [ys]; exact pk_size)
    have ZY:=Lib.hid (show (#[.bool false,.int .i64 0,.bool false,.int .u64 0,.int .u64 0,.bool false,.int .u64 0,.int .u64 0,.int .i64 0,.int .i64 0,.int .i64 0,.int .i64 0,.bool false,.int .i64 0,.bool false,.int .u64 0,.int .u64 0,.bool false,.int .u64 0,.int .u64 0,.int .i64 0,.int .i64 0,.int .i64 0]:Array Value).size=Y.size from by rw [ys]; rfl)
    have HY:=Lib.hid hY
    clear hB1 hB3 hB4 hBl hBu hu hX1 hX2 hX3 hX4 hX6 HP hY ys
    go_enter Try.func23,Try.ntmps23
    go_wp2_with fail
    refine (HV.out 167772161 (by omega) (by omega) _).mono ?_
    rintro o w1 ⟨rfl,hb1⟩
    have B1:=Lib.hid hb1
    clear hb1
    go_wp2_with fail
    refine (HD.out _).mono ?_
    rintro o w2 ⟨hb2,A2,n2,c2,rfl,hs2⟩
    have B2:=Lib.hid (B1.out.trans (hb2.mono B1.out.size))
    have S2:=Lib.hid hs2
    clear hb2 hs2
    go_wp2_with fail
    refine (HV.out 167772162 (by omega) (by omega) _).mono ?_
    rintro o w3 ⟨rfl,hb3⟩
    have B3:=Lib.hid (B2.out.trans (hb3.mono B2.out.size))
    have S3:=Lib.hid (S2.out.below hb3)
    clear hb3
    go_wp2_with fail
    refine (HT.out _ _ _ _ S3.out).mono ?_
    rintro o w4 ⟨hb4,A4,n4,c4,rfl,hs4⟩
    have B4:=Lib.hid (B3.out.trans (hb4.mono B3.out.size))
    have S4:=Lib.hid hs4
    clear hb4 hs4
    go_wp2_with fail
    refine (HPY.out _ _ _ _ S4.out).mono ?_
    rintro o w5 ⟨rfl,hb5⟩
    obtain ⟨w6,hw6⟩:∃ w6,w6=(w5.alloc (.cells #[.bool false,.int .i64 0,.bool false,.int .u64 0,.int .u64 0,.bool false,.int .u64 0,.int .u64 0,.int .i64 0,.int .i64 0,.int .i64 0,.int .i64 0,.bool false,.int .i64 0,.bool false,.int .u64 0,.int .u64 0,.bool false,.int .u64 0,.int .u64 0,.int .i64 0,.int .i64 0,.int .i64 0] 36)).setRow w5.heap.size Y:=⟨_,rfl⟩
    obtain ⟨g,hg⟩:∃ g,g=w5.heap.size:=⟨_,rfl⟩
    have E6:=Lib.hid hw6
    have EG:=Lib.hid hg
    have K6:=Lib.hid (show Blk w6 g 36 Y from by rw [hw6,hg]; exact blkRow (Blk.new w5 _ _) _)
    have B56:=Lib.hid (show Below w5.heap.size w5 w6 from by rw [hw6]; exact (onlyRow _).from ((Below.refl _ _).alloc (Nat.le_refl _) _) (Nat.le_refl _))
    have B6:=Lib.hid ((B4.out.trans (hb5.mono B4.out.size)).trans (B56.out.mono (B4.out.trans (hb5.mono B4.out.size)).size))
    clear hw6 hg hb5
    go_upto_region 4 with (refine wpList_store_row rfl 36 _ _ rfl w5.heap.size Y rfl rfl 36 #[.bool false,.int .i64 0,.bool false,.int .u64 0,.int .u64 0,.bool false,.int .u64 0,.int .u64 0,.int .i64 0,.int .i64 0,.int .i64 0,.int .i64 0,.bool false,.int .i64 0,.bool false,.int .u64 0,.int .u64 0,.bool false,.int .u64 0,.int .u64 0,.int .i64 0,.int .i64 0,.int .i64 0] (Blk.new w5 _ _) HIY.out ZY.out ONE.out ?_)
    rw [← E6.out,← EG.out]
    have HSF:=Lib.hid (show ∀ V,Below w6.heap.size w6 V→(V.cell? ⟨g,5,none⟩=some (.bool false)∧V.cell? ⟨g,6,none⟩=some (.int .u64 0)∧V.cell? ⟨g,7,none⟩=some (.int .u64 167772162)∧V.cell? ⟨g,9,none⟩=some (.int .i64 7)) from fun V hV=>by
      have h:=K6.out.below hV K6.out.lt
      rw [HY.out] at h
      exact ⟨h.cell 5,h.cell 6,h.cell 7,h.cell 9⟩)
    have HS0:=Lib.hid (HSF.out w6.drew (Below.refl _ _).drew)
    go_region_held3 (fun V=>V.cell? ⟨g,5,none⟩=some (.bool false)∧V.cell? ⟨g,6,none⟩=some (.int .u64 0)∧V.cell? ⟨g,7,none⟩=some (.int .u64 167772162)∧V.cell? ⟨g,9,none⟩=some (.int .i64 7)) (first | with_reducible assumption | with_reducible exact HS0.out | with_reducible exact HS7.out) (first | (go_at_call 34; (with_reducible refine (HV.out 167772162 (by omega) (by omega) _).mono ?_); rintro o w7 ⟨rfl,hb7⟩; have B67:=Lib.hid ((Below.refl w6.heap.size w6).drew.trans (hb7.mono (Nat.le_refl _))); have HS7:=Lib.hid (HSF.out w7 B67.out); clear hb7))
    go_wp2_with fail
    go_ret
    exact ⟨rfl,B6.out.trans (B67.out.mono B6.out.size)⟩
  · -- a call that gives these bytes says that they are bytes
    have HN:∀ V,Calls Try.prog 26 #[.agg #[.int .i64 17,.bool false,.int .u64 0,.int .u64 0,.bool false,.int .u64 0,.int .u64 167772161,.int .i64 0,.int .i64 0],.int .i64 9,.slice none 0 0] V fun o w'=>False:=fun V=>(HD.out V).mono fun o w' k=>by
      obtain ⟨_,A,n,c,_,hs⟩:=k
      exact hu hs.u8
    have HV:=Lib.hid (fun (k:Int) (h:0≤k) (h2:k≤4294967295) (V:World)=>fourA.v4_any k h h2 V)
    have HN2:=Lib.hid HN
    clear hB1 hB3 hB4 hBl hBu hu HN HD
    go_enter Try.func23,Try.ntmps23
    go_wp2_with fail
    refine (HV.out 167772161 (by omega) (by omega) _).mono ?_
    rintro o w1 ⟨rfl,hb1⟩
    go_wp2_with fail
    refine (HN2.out _).mono ?_
    rintro o w2 h
    exact h.elim
end Go.Proofs.Ytodckfgfbcnkoaa.natF
/- Layer 15: a datagram of version 4 without a check, in plain words. -/
namespace Go.Proofs.Ytodckfgfbcnkoaa.natI
set_option maxHeartbeats 4000000
set_option maxRecDepth 100000
open Go.ChangeShapes Go.WideShapes Go.ChangeAt Go.RowKit
open base octA rdrA rdrG sumA sumB sixW sixM pktA pktB pktC pktE sixE pktG  tunV natW natY natZ sumD natA pktL natE pktR pktS pktR pktS pktM pktL
set_option linter.unusedVariables false
set_option linter.unusedSimpArgs false
def MkO (K:Nat) (e:Int) (out:List Int) (w:World) (o:Ending) (w':World):Prop:=Below w.heap.size w w'∧∃ (A:Option Addr) (n c:Nat),o=.returned (.tuple #[.slice A n c,.int .i64 e])∧w'.ownsRow K 5 1 (.slice A n c) n (out.map (.int .u8))
theorem whole_dg_fourO (K:Nat) (pr:Int) (sh sl:Int) (d6:Bool) (dh dl sp dp ttl sz:Int) (c1 c2:Nat) (ps bs:List Int) (e:Int) (out:List Int) (w:World)
    (HPS:Hid (∀ V,Below w.heap.size w V→Calls Try.prog 85 #[.agg #[.bool false,.int .u64 sh,.int .u64 sl],.agg #[.bool d6,.int .u64 dh,.int .u64 dl],.int .i64 pr,.int .i64 sz] V (Gives ps V)))
    (HC:Hid (∀ V A2 n2 k2,Below w.heap.size w V→Sl V A2 n2 k2 ps→Calls Try.prog 62 #[.slice A2 n2 k2,.pointer (some ⟨c1,0,none⟩),.pointer (some ⟨c2,0,none⟩)] V (MkP 0 bs V)))
    (HB:Hid (∀ V A2 n2 k2,Below w.heap.size w V→Sl V A2 n2 k2 bs→Calls Try.prog 38 #[.agg #[.int .i64 0,.int .i64 0,.bool false,.bool false,.int .i64 0,.int .i64 ttl,.int .i64 pr,.bool false,.int .u64 sh,.int .u64 sl,.bool d6,.int .u64 dh,.int .u64 dl,.slice none 0 0],.slice A2 n2 k2] V (MkO K e out V))) :
    Calls Try.prog 59 #[.agg #[.int .i64 pr,.bool false,.int .u64 sh,.int .u64 sl,.bool d6,.int .u64 dh,.int .u64 dl,.int .i64 sp,.int .i64 dp],.int .i64 ttl,.int .i64 sz,.func (.func 62) #[] #[.pointer (some ⟨c1,0,none⟩),.pointer (some ⟨c2,0,none⟩)]] w (MkO K e out w):=by
  obtain ⟨w1,hw1⟩:∃ w1,w1=w.alloc (.cells #[.int .i64 pr,.bool false,.int .u64 sh,.int .u64 sl,.bool d6,.int .u64 dh,.int .u64 dl,.int .i64 sp,.int .i64 dp] 34):=⟨_,rfl⟩
  have E1:=Lib.hid hw1
  have B1:=Lib.hid (show Below w.heap.size w w1 from by rw [hw1]; exact (Below.refl _ _).alloc (Nat.le_refl _) _)
  obtain ⟨g,hg⟩:∃ g,g=w.heap.size:=⟨_,rfl⟩
  have EG:=Lib.hid hg
  have KP:=Lib.hid (show Blk w1 g 34 #[.int .i64 pr,.bool false,.int .u64 sh,.int .u64 sl,.bool d6,.int .u64 dh,.int .u64 dl,.int .i64 sp,.int .i64 dp] from by rw [hw1,hg]; exact Blk.new w _ _)
  clear hw1 hg
  go_enter Try.func59,Try.ntmps59
  go_upto_region 1 with fail
  rw [← E1.out,← EG.out]
  have p0:=KP.out.cell 0
  have p1:=KP.out.cell 1
  have p2:=KP.out.cell 2
  have p3:=KP.out.cell 3
  have p4:=KP.out.cell 4
  have p5:=KP.out.cell 5
  have p6:=KP.out.cell 6
  go_wp2_with fail
  refine (HPS.out _ B1.out).mono ?_
  rintro o w2 ⟨hb2,A2,n2,k2,rfl,hsl,hge⟩
  have KP2:=Lib.hid (KP.out.below hb2 KP.out.lt)
  have B2:=Lib.hid (B1.out.trans (hb2.mono B1.out.size))
  have HC2:=Lib.hid (HC.out w2 A2 n2 k2 B2.out hsl)
  clear hb2 hsl hge p0 p1 p2 p3 p4 p5 p6
  go_wp2_with fail
  refine HC2.out.mono ?_
  rintro o w3 ⟨hb3,A3,n3,c3,rfl,hs3⟩
  have KP3:=Lib.hid (KP2.out.below hb3 KP2.out.lt)
  have B3:=Lib.hid (B2.out.trans (hb3.mono B2.out.size))
  have HB3:=Lib.hid (HB.out w3 A3 n3 c3 B3.out hs3)
  clear hb3 hs3
  have p0:=KP3.out.cell 0
  have p1:=KP3.out.cell 1
  have p2:=KP3.out.cell 2
  have p3:=KP3.out.cell 3
  have p4:=KP3.out.cell 4
  have p5:=KP3.out.cell 5
  have p6:=KP3.out.cell 6
  go_wp2_with fail
  refine HB3.out.mono ?_
  rintro o w4 ⟨hb4,A4,n4,c4,rfl,hs4⟩
  have B4:=Lib.hid (B3.out.trans (hb4.mono B3.out.size))
  clear hb4
  go_wp2_with fail
  go_ret2
  exact ⟨B4.out,A4,n4,c4,rfl,hs4⟩
theorem dgram_goO (K:Nat) (s6:Bool) (sh sl:Int) (dh dl sp dp ttl:Int) (A:Option Addr) (n c:Nat) (e:Int) (bs:List Int) (w:World) (hn:n≤1000)
    (HW:Hid (∀ V c1 c2,Below w.heap.size w V→Blk V c1 34 #[.int .i64 17,.bool s6,.int .u64 sh,.int .u64 sl,.bool s6,.int .u64 dh,.int .u64 dl,.int .i64 sp,.int .i64 dp]→Blk V c2 22 #[.slice A n c]→Calls Try.prog 59 #[.agg #[.int .i64 17,.bool s6,.int .u64 sh,.int .u64 sl,.bool s6,.int .u64 dh,.int .u64 dl,.int .i64 sp,.int .i64 dp],.int .i64 ttl,.int .i64 (8+(n:Int)),.func (.func 62) #[] #[.pointer (some ⟨c1,0,none⟩),.pointer (some ⟨c2,0,none⟩)]] V (MkO K e bs V))) :
    Calls Try.prog 26 #[.agg #[.int .i64 17,.bool s6,.int .u64 sh,.int .u64 sl,.bool s6,.int .u64 dh,.int .u64 dl,.int .i64 sp,.int .i64 dp],.int .i64 ttl,.slice A n c] w (MkO K e bs w):=by
  have hmf:∀ (fn:Fn) (first cap:Array Value) (w:World),(Instr.makeFunc fn first cap).run Try.prog w=.ok (.func fn first cap) w:=fun _ _ _ _=>rfl
  obtain ⟨w1,hw1⟩:∃ w1,w1=(w.alloc (.cells #[.int .i64 17,.bool s6,.int .u64 sh,.int .u64 sl,.bool s6,.int .u64 dh,.int .u64 dl,.int .i64 sp,.int .i64 dp] 34)).alloc (.cells #[.slice A n c] 22):=⟨_,rfl⟩
  have E1:=Lib.hid hw1
  have B1:=Lib.hid (show Below w.heap.size w w1 from by rw [hw1]; exact ((Below.refl _ _).alloc (Nat.le_refl _) _).alloc (by simp) _)
  obtain ⟨g,hg⟩:∃ g,g=w.heap.size:=⟨_,rfl⟩
  obtain ⟨q,hq⟩:∃ q,q=w.heap.size+1:=⟨_,rfl⟩
  have EG:=Lib.hid hg
  have EQ:=Lib.hid hq
  have KP:=Lib.hid (show Blk w1 g 34 #[.int .i64 17,.bool s6,.int .u64 sh,.int .u64 sl,.bool s6,.int .u64 dh,.int .u64 dl,.int .i64 sp,.int .i64 dp] from by rw [hw1,hg]; exact (Blk.new w _ _).below ((Below.refl _ _).alloc (Nat.le_refl _) _) (Blk.new w _ _).lt)
  have KQ:=Lib.hid (show Blk w1 q 22 #[.slice A n c] from by
    have h9:=Blk.new (w.alloc (.cells #[.int .i64 17,.bool s6,.int .u64 sh,.int .u64 sl,.bool s6,.int .u64 dh,.int .u64 dl,.int .i64 sp,.int .i64 dp] 34)) 22 #[.slice A n c]
    rw [← hw1] at h9
    rw [hq]
    simpa using h9)
  have HW1:=Lib.hid (HW.out w1 g q B1.out KP.out KQ.out)
  have tv:(s6 == s6)=true:=by simp
  clear hw1 hg hq
  go_enter Try.func26,Try.ntmps26
  go_upto_region 1 with fail
  rw [← E1.out,← EQ.out,← EG.out]
  have p0:=KP.out.cell 0
  have p1:=KP.out.cell 1
  have p2:=KP.out.cell 2
  have p3:=KP.out.cell 3
  have p4:=KP.out.cell 4
  have p5:=KP.out.cell 5
  have p6:=KP.out.cell 6
  have p7:=KP.out.cell 7
  have p8:=KP.out.cell 8
  have q0:=KQ.out.cell 0
  go_wp2_with fail
  refine HW1.out.mono ?_
  rintro o w4 ⟨hb4,A4,n4,c4,rfl,hs4⟩
  have B4:=Lib.hid (B1.out.trans (hb4.mono B1.out.size))
  clear hb4
  go_wp2_with fail
  go_ret2
  exact ⟨B4.out,A4,n4,c4,rfl,hs4⟩
theorem four_bytesO (K:Nat) (ttl pr sl dl:Int) (A:Option Addr) (n c:Nat) (bl:List Int) (w:World) (hK:K≤w.heap.size) (h:Sl w A n c bl) (hn:n≤900) (h1:0≤ttl∧ttl≤255) (h2:0≤pr∧pr≤255) (h3:0≤sl∧sl≤4294967295) (h4:0≤dl∧dl≤4294967295) :
    Calls Try.prog 38 #[.agg #[.int .i64 0,.int .i64 0,.bool false,.bool false,.int .i64 0,.int .i64 ttl,.int .i64 pr,.bool false,.int .u64 0,.int .u64 sl,.bool false,.int .u64 0,.int .u64 dl,.slice none 0 0],.slice A n c] w (MkO K 0 (mkB4 ttl pr sl dl bl) w):=by
  have hl:=h.len
  subst hl
  refine (fourE.bytes_any 0 0 false false 0 ttl pr sl dl none 0 0 [] A bl.length c bl w ⟨by omega,by omega,by omega,h1,h2,h3,h4,by omega,by omega⟩ rfl (.inl rfl) (fun _=>rfl) (fun x hx=>by cases hx) rfl hn h.row h.nil _ rfl).mono ?_
  rintro o w' ⟨v,rfl,h5,h6⟩
  obtain ⟨B,d,rfl⟩:=own_slice h5
  exact ⟨h6,B,_,d,rfl,own_base h5 hK⟩
theorem bare_is (ttl sl dl sp dp c:Int) (pl:List Int):((mkB4 ttl 17 sl dl (udpB.ub sp dp pl c)).set 26 0).set 27 0=mkB4 ttl 17 sl dl (udpB.ub sp dp pl 0):=by
  unfold mkB4
  rw [udpB.ub_len,udpB.ub_len]
  rfl
theorem bare_S (ttl sl dl:Int) (bl:List Int):fourS (mkB4 ttl 17 sl dl bl)=20:=rfl
theorem bare_parse (sl dl sp dp ttl sz:Int) (pl:List Int) (hp:0≤sp∧sp≤65535∧0≤dp∧dp≤65535) (hn:pl.length≤800) :
    withP false ⟨17,false,0,sl,false,0,dl,0,0⟩ ttl sz (udpB.ub sp dp pl 0)=(⟨false,⟨17,false,0,sl,false,0,dl,sp,dp⟩,ttl,0,false,zeroT,sz⟩,0):=by
  obtain ⟨u1,u2,u3,u4,u5⟩:=udpJn.ub_says sp dp pl 0 hp (by omega) (by decide) (by decide)
  have hl:=udpB.ub_len sp dp pl 0
  have hE:udpE_ (udpB.ub sp dp pl 0) (psd false 0 sl 0 dl 17 ((udpB.ub sp dp pl 0).length:Int)) (!false)=0:=by
    unfold udpE_
    rw [if_neg (by omega),if_neg (by omega),if_neg (by
      intro h
      rcases h with ⟨_,h⟩ | ⟨h,_⟩
      · cases h
      · exact h u4)]
  unfold withP
  simp only
  rw [if_neg (by decide),if_pos trivial,hE,if_neg (by decide),u1,u2]
theorem bare_pk (sl dl sp dp ttl:Int) (pl:List Int) (ht:0≤ttl∧ttl≤255) (hp:0≤sp∧sp≤65535∧0≤dp∧dp≤65535) (h3:0≤sl∧sl≤4294967295) (h4:0≤dl∧dl≤4294967295) (hn:pl.length≤500) :
    pkP (mkB4 ttl 17 sl dl (udpB.ub sp dp pl 0))=(⟨false,⟨17,false,0,sl,false,0,dl,sp,dp⟩,ttl,0,false,zeroT,(20+(((8+pl.length:Nat)):Int))⟩,0):=by
  have hl:=udpB.ub_len sp dp pl 0
  rw [mk4_parse ttl 17 sl dl _ ht (by omega) h3 h4 (by omega),bare_parse sl dl sp dp ttl _ pl hp (by omega),hl]
theorem bare_out (ttl sl dl sp dp th tl wp port:Int) (fs:List Int) (pl:List Int) (N:Nat) (hN:(mkB4 ttl 17 sl dl (udpB.ub sp dp pl 0)).length≤N) :
    (natO (mkB4 ttl 17 sl dl (udpB.ub sp dp pl 0)) N 20 false 1 17 fs (aw false th tl) wp port).getD 26 0=0∧(natO (mkB4 ttl 17 sl dl (udpB.ub sp dp pl 0)) N 20 false 1 17 fs (aw false th tl) wp port).getD 27 0=0:=by
  have hx:natX (mkB4 ttl 17 sl dl (udpB.ub sp dp pl 0)) N 20 false 1 fs (aw false th tl) port=setw (setw (setws (mkB4 ttl 17 sl dl (udpB.ub sp dp pl 0)) 16 (aw false th tl)) 22 port) 10 (turns (udpA.w16 (mkB4 ttl 17 sl dl (udpB.ub sp dp pl 0)) 10) fs (aw false th tl)):=by
    unfold natX
    rw [List.take_of_length_le hN,if_neg (show ¬ (false=true) by decide)]
    rfl
  have h6:udpA.w16 (natX (mkB4 ttl 17 sl dl (udpB.ub sp dp pl 0)) N 20 false 1 fs (aw false th tl) port) (20+6)=0:=by
    rw [hx]
    rfl
  unfold natO L4
  rw [if_neg (show ¬ (17:Int)=6 by decide),if_pos h6,hx]
  exact ⟨rfl,rfl⟩
theorem bare_made (pr:Int) (sh sl:Int) (d6:Bool) (dh dl sp dp ttl:Int) (pl:List Int) (hn:pl.length≤500) (hu:U8 pl) (b1:0≤sh∧sh<18446744073709551616) (b2:0≤sl∧sl<18446744073709551616) (b3:0≤dh∧dh<18446744073709551616) (b4:0≤dl∧dl<18446744073709551616) (hm:Made pr false sh sl d6 dh dl sp dp ttl 0 17) :
    ∃ B B0:List Int,B.length=28+pl.length∧U8 B0∧B0=(B.set 26 0).set 27 0∧pkP B0=(⟨false,⟨17,false,0,sl,false,0,dl,sp,dp⟩,ttl,0,false,zeroT,(B.length:Int)⟩,0) ∧
      (∀ (X:List Int) (th tl port:Int),(∃ S N R pr' sh' sl' dh' dl' ttl' fl',PkG B0 ⟨false,⟨17,false,0,sl,false,0,dl,sp,dp⟩,ttl,0,false,zeroT,(B.length:Int)⟩ false pr' sh' sl' dh' dl' ttl' fl' S N R∧X=natO B0 N S false 1 pr' (aw false 0 dl) (aw false th tl) dp port)→X.getD 26 0=0∧X.getD 27 0=0) ∧
      ∀ (K:Nat) (A:Option Addr) (n c:Nat) (w:World),K≤w.heap.size→Sl w A n c pl →
      Calls Try.prog 26 #[.agg #[.int .i64 pr,.bool false,.int .u64 sh,.int .u64 sl,.bool d6,.int .u64 dh,.int .u64 dl,.int .i64 sp,.int .i64 dp],.int .i64 ttl,.slice A n c] w (MkO K 0 B w):=by
  obtain ⟨rfl,rfl,ht,hp,hf,ha⟩:=hm
  obtain ⟨ps,hps⟩:∃ ps,ps=psd false sh sl dh dl 17 (8+(pl.length:Int)):=⟨_,rfl⟩
  obtain ⟨c',hc⟩:∃ c',c'=udpB.chkZ (ps++udpB.ub sp dp pl 0):=⟨_,rfl⟩
  have hM:udpM sp dp pl ps=(0,udpB.ub sp dp pl c'):=by unfold udpM; rw [if_pos hp,hc]
  have hlb:=udpB.ub_len sp dp pl c'
  have hl0:=udpB.ub_len sp dp pl 0
  obtain ⟨rfl,rfl,hs,hd⟩:sh=0∧dh=0∧sl<4294967296∧dl<4294967296:=by
    rcases ha with ha | ha
    · cases ha
    · exact ha
  have hB:=mk4_len ttl 17 sl dl (udpB.ub sp dp pl c')
  have hB0:=mk4_len ttl 17 sl dl (udpB.ub sp dp pl 0)
  have hpk:=bare_pk sl dl sp dp ttl pl ht hp ⟨b2.1,by omega⟩ ⟨b4.1,by omega⟩ hn
  have hz:((mkB4 ttl 17 sl dl (udpB.ub sp dp pl c')).length:Int)=20+(((8+pl.length:Nat)):Int):=by omega
  have hin:=fourD.hk_in 0 0 0 ttl 17 sl dl 0 (20+((0:Nat):Int)+((udpB.ub sp dp pl 0).length:Int)) [] (by omega) (by omega) (by omega) ht (by omega) ⟨b2.1,by omega⟩ ⟨b4.1,by omega⟩ (by omega) (by omega) (by simp) (fun x hx=>by cases hx)
  have hfo:=fo_bd _ (wsum_bd _ hin).1
  have hin2:=fourD.hk_in 0 0 0 ttl 17 sl dl (65535 - fo (wsum (fourD.hk 0 0 0 ttl 17 sl dl 0 (20+((0:Nat):Int)+((udpB.ub sp dp pl 0).length:Int)) []))) (20+((0:Nat):Int)+((udpB.ub sp dp pl 0).length:Int)) [] (by omega) (by omega) (by omega) ht (by omega) ⟨b2.1,by omega⟩ ⟨b4.1,by omega⟩ (by omega) (by omega) (by simp) (fun x hx=>by cases hx)
  refine ⟨mkB4 ttl 17 sl dl (udpB.ub sp dp pl c'),mkB4 ttl 17 sl dl (udpB.ub sp dp pl 0),by omega,fun x hx=>(List.mem_append.1 hx).elim (hin2 x) (udpB.ub_in sp dp pl 0 hu x),(bare_is ttl sl dl sp dp c' pl).symm,by rw [hpk,hz],?_,fun K A n c w hK h=>?_⟩
  · rintro X th tl port ⟨S,N,R,pr',sh',sl',dh',dl',ttl',fl',G,hX⟩
    have hS:=G.at4 rfl
    rw [bare_S] at hS
    subst hS
    have he:=G.eq
    simp only [Pk.mk.injEq,Tp.mk.injEq] at he
    obtain ⟨_,⟨rfl,_⟩,_,_,_,_,hN⟩:=he
    rw [hX]
    exact bare_out ttl sl dl sp dp th tl dp port (aw false 0 dl) pl N (by omega)
  · have hln:=h.len
    have hp40:ps.length≤1000:=by rw [hps]; have:=psd_len false 0 sl 0 dl 17 (8+(pl.length:Int)); omega
    have HPS:=fun V=>psd_any false 0 sl false 0 dl 17 (8+(n:Int)) V b1 b2 b3 b4 (by omega) (by omega)
    rw [← hln] at HPS
    rw [← hps] at HPS
    refine dgram_goO K false 0 sl 0 dl sp dp ttl A n c _ _ w (by omega) (Lib.hid fun V c1 c2 hV k1 k2=>?_)
    have HC:∀ W A2 n2 cc2,Below V.heap.size V W→Sl W A2 n2 cc2 ps→Calls Try.prog 62 #[.slice A2 n2 cc2,.pointer (some ⟨c1,0,none⟩),.pointer (some ⟨c2,0,none⟩)] W (MkP 0 (udpB.ub sp dp pl c') W):=fun W A2 n2 cc2 hW hs=>by
      have h9:=udp_bytes sp dp A A2 n c n2 cc2 pl ps W (h.below (hV.trans (hW.mono hV.size))) hs (by omega) (by have:=hs.len; omega)
      rw [hM] at h9
      exact dg_closure 17 false 0 sl false 0 dl sp dp c1 c2 A A2 n c n2 cc2 0 _ W (k1.below hW k1.lt) (k2.below hW k2.lt) (Lib.hid h9)
    rw [← hln]
    exact whole_dg_fourO K 17 0 sl false 0 dl sp dp ttl _ c1 c2 ps _ _ _ V (Lib.hid fun W hW=>HPS W) (Lib.hid HC) (Lib.hid fun W A2 n2 k2 hW hs=>four_bytesO K ttl 17 sl dl A2 n2 k2 _ W (by have:=hV.size; have:=hW.size; omega) hs (by have:=hs.len; omega) ht (by omega) ⟨b2.1,by omega⟩ ⟨b4.1,by omega⟩)
end Go.Proofs.Ytodckfgfbcnkoaa.natI
