/- 8 texts in one. -/
import Derived.Test.YtodckfgfbcnkoaaNa12
import Derived.Test.YtodckfgfbcnkoaaNa14
import Derived.Test.YtodckfgfbcnkoaaNa23
import Derived.Test.YtodckfgfbcnkoaaNa25
import Derived.Test.YtodckfgfbcnkoaaNa26
import Derived.Test.YtodckfgfbcnkoaaNa27
import Derived.Test.YtodckfgfbcnkoaaNa28
import Derived.Test.YtodckfgfbcnkoaaNa30
/- Layer 15: bytes of a packet of version 6 with another side, parsed again: plain words. -/
namespace Go.Proofs.Ytodckfgfbcnkoaa.natZb
set_option maxHeartbeats 2000000
open Go.ChangeShapes Go.WideShapes Go.ChangeAt Go.RowKit
open base octA octB sumE sixW sixM pktA pktC pktE sixE sixF pktG tunV natW natX natY natZ
set_option linter.unusedVariables false
def V8 (l:List Int) (p:Nat):Int := ((udpA.w16 l p * 65536 + udpA.w16 l (p + 2)) * 65536 + udpA.w16 l (p + 4)) * 65536 + udpA.w16 l (p + 6)
theorem atN_words (m:List Int) (p:Nat):octB.atN m p 8 = V8 m p := by
  show (((((((0 * 256 + m.getD (p + 0) 0) * 256 + m.getD (p + 1) 0) * 256 + m.getD (p + 2) 0) * 256 + m.getD (p + 3) 0) * 256 + m.getD (p + 4) 0) * 256 + m.getD (p + 5) 0) * 256 + m.getD (p + 6) 0) * 256 + m.getD (p + 7) 0 = (((m.getD p 0 * 256 + m.getD (p + 1) 0) * 65536 + (m.getD (p + 2) 0 * 256 + m.getD (p + 3) 0)) * 65536 + (m.getD (p + 4) 0 * 256 + m.getD (p + 5) 0)) * 65536 + (m.getD (p + 6) 0 * 256 + m.getD (p + 7) 0)
  rw [Nat.add_zero]
  omega
theorem V8_drop (l:List Int) (n p:Nat):V8 (l.drop n) p = V8 l (n + p) := by
  unfold V8
  rw [w16_drop,w16_drop,w16_drop,w16_drop]
  rfl
theorem hd_addr (l:List Int) (q:Int):(hdOf l q).sh = V8 l 8∧(hdOf l q).sl = V8 l 16∧(hdOf l q).dh = V8 l 24∧(hdOf l q).dl = V8 l 32 :=
  ⟨(atN_words _ _).trans (V8_drop l 8 0),(atN_words _ _).trans (V8_drop l 8 8),(atN_words _ _).trans (V8_drop l 24 0),(atN_words _ _).trans (V8_drop l 24 8)⟩
theorem V8_four {a b c d n:Int} (ha:0 ≤ a∧a ≤ 65535) (hb:0 ≤ b∧b ≤ 65535) (hc:0 ≤ c∧c ≤ 65535) (hd:0 ≤ d∧d ≤ 65535) (e:n = ((a * 65536 + b) * 65536 + c) * 65536 + d):words n 4 4 = [a,b,c,d] := by
  rw [words4]
  simp only [List.cons.injEq,and_true]
  omega
theorem V8_words (l:List Int) (hu:U8 l) (p:Nat):aw true (V8 l p) (V8 l (p + 8)) = wat l p 8 := by
  have k:∀ i,0 ≤ udpA.w16 l i∧udpA.w16 l i ≤ 65535 := fun i => udpA.w16_in l hu i
  show words (V8 l p) 4 4 ++ words (V8 l (p + 8)) 4 4 = [udpA.w16 l p,udpA.w16 l (p + 2),udpA.w16 l (p + 4),udpA.w16 l (p + 6)] ++ [udpA.w16 l (p + 8),udpA.w16 l (p + 8 + 2),udpA.w16 l (p + 8 + 4),udpA.w16 l (p + 8 + 6)]
  rw [V8_four (n := V8 l p) (k _) (k _) (k _) (k _) rfl,V8_four (n := V8 l (p + 8)) (k _) (k _) (k _) (k _) rfl]
theorem V8_of {l:List Int} {p:Nat} {h n:Int} (h0:0 ≤ h) (h9:h < 18446744073709551616) (n0:0 ≤ n) (n9:n < 18446744073709551616) (e:wat l p 8 = aw true h n):V8 l p = h∧V8 l (p + 8) = n := by
  have e1:[udpA.w16 l p,udpA.w16 l (p + 2),udpA.w16 l (p + 4),udpA.w16 l (p + 6),udpA.w16 l (p + 8),udpA.w16 l (p + 8 + 2),udpA.w16 l (p + 8 + 4),udpA.w16 l (p + 8 + 6)] = [h / 281474976710656 % 65536,h / 4294967296 % 65536,h / 65536 % 65536,h / 1 % 65536,n / 281474976710656 % 65536,n / 4294967296 % 65536,n / 65536 % 65536,n / 1 % 65536] := e
  simp only [List.cons.injEq,and_true] at e1
  obtain ⟨a1,a2,a3,a4,a5,a6,a7,a8⟩ := e1
  unfold V8
  rw [a1,a2,a3,a4,a5,a6,a7,a8]
  omega
theorem p6_inv {l:List Int} {P:Pk} (h:p6 l = (P,0)):∃ ys q r,sixP l = .inr (ys,q,r)∧¬ (lies ys / 8 ≠ 0 ∨ decide (lies ys % 2 = 1) = true)∧withP true ⟨q,true,V8 l 8,V8 l 16,true,V8 l 24,V8 l 32,0,0⟩ (l.getD 7 0) (((40 + extL ys:Nat):Int) + (r.length:Int)) r = (P,0) := by
  unfold p6 at h
  cases hc:sixP l with
  | inl e =>
    rw [hc] at h
    injection h with _ h
    unfold sixP at hc
    split at hc
    · injection hc with hc; omega
    · split at hc
      · injection hc with hc; omega
      · split at hc
        · injection hc with hc; omega
        · unfold ofC at hc
          split at hc
          · injection hc with hc; omega
          · cases hc
  | inr k =>
    obtain ⟨ys,q,r⟩ := k
    rw [hc] at h
    simp only at h
    obtain ⟨a1,a2,a3,a4⟩ := hd_addr l q
    rw [a1,a2,a3,a4] at h
    split at h
    · injection h with _ h
      cases h
    · rename_i k2
      exact ⟨ys,q,r,rfl,k2,h⟩
theorem six_full (l:List Int) (hu:U8 l) {ys:List XP} {q:Int} {r:List Int} (he:sixP l = .inr (ys,q,r)):(l.take (40 + sizeP l)).drop 40 = extB ys q ++ r∧RightE ys∧isX q = false∧(∀ x ∈ ys,U8 x.2)∧nextK ys q = l.getD 6 0 := by
  unfold sixP at he
  split at he
  · cases he
  · split at he
    · cases he
    · split at he
      · cases he
      · cases hc:chn 9 [] (l.getD 6 0) ((l.take (40 + sizeP l)).drop 40) with
        | none => rw [hc] at he; cases he
        | some k =>
          obtain ⟨ys',q',r'⟩ := k
          rw [hc] at he
          obtain ⟨rfl,rfl,rfl⟩:ys' = ys∧q' = q∧r' = r := by
            have e:(Sum.inr (ys',q',r'):Res) = .inr (ys,q,r) := he
            injection e with e
            injection e with e1 e2
            injection e2 with e2 e3
            exact ⟨e1,e2,e3⟩
          obtain ⟨zs,e1,e2,e3,e4,e5,e6,e7,e8,e9,e10⟩ := chn_sound 9 [] _ _ ((hu.take _).drop _) (hu.get 6) RightE.nil (fun x hx => by cases hx) hc
          rw [List.nil_append] at e1
          subst e1
          exact ⟨e3,e4,e5,e8,e2⟩
theorem nat6 (l:List Int) (hu:U8 l) (hn:l.length ≤ 1000) (h6:l.getD 0 0 / 16 = 6) (P:Pk) (hP:pkP l = (P,0)) (her:P.er = false) (s:Nat) (hs:s ≤ 1) (th tl port:Int) (th0:0 ≤ th) (th9:th < 18446744073709551616) (t0:0 ≤ tl) (t9:tl < 18446744073709551616) (p0:0 ≤ port) (p9:port ≤ 65535) :
    ∃ ys q r,sixP l = .inr (ys,q,r)∧∀ out,out = natO l (40 + sizeP l) (40 + extL ys) true s P.t.pr (aw true (sdH P.t s) (sdL P.t s)) (aw true th tl) (sdP P.t s) port →
    pkP out = ({ P with t := turnT P.t s th tl port },0)∧out.length = 40 + sizeP l∧U8 out := by
  have hl0:¬ l.length = 0 := fun k => by
    rw [List.length_eq_zero_iff.mp k] at h6
    exact absurd h6 (by decide)
  have hP6:p6 l = (P,0) := by
    rw [← hP]
    unfold pkP
    rw [if_neg hl0,if_neg (show ¬ 9000 < l.length by omega),if_neg (by omega),if_pos h6]
  obtain ⟨ys,q,R,hE,hF,hW⟩ := p6_inv hP6
  refine ⟨ys,q,R,hE,?_⟩
  intro out ho
  obtain ⟨_,hlen,hsz,hRu,q0,q9⟩ := six_sizes l hu hE
  obtain ⟨hdr,hRE,hqx,hyu,hnx⟩ := six_full l hu hE
  obtain ⟨N,hN⟩:∃ N,N = 40 + sizeP l := ⟨_,rfl⟩
  obtain ⟨S,hS⟩:∃ S,S = 40 + extL ys := ⟨_,rfl⟩
  rw [← hN] at hlen hdr ho ⊢
  rw [← hS] at ho hW
  have sw:S ≤ N := by omega
  have xl:(extB ys q).length = S - 40 := by rw [extB_len]; omega
  have eR:(l.take N).drop S = R := by
    rw [show S = 40 + (S - 40) by omega,← List.drop_drop,hdr,← xl,List.drop_left]
  have eX0:(l.take S).drop 40 = extB ys q := by
    have:(l.take S).drop 40 = ((l.take N).drop 40).take (S - 40) := by rw [List.drop_take,List.drop_take,List.take_take,Nat.min_eq_left (by omega)]
    rw [this,hdr,← xl,List.take_left]
  have hRl:R.length ≤ 1000 := by omega
  have hvt:(⟨q,true,V8 l 8,V8 l 16,true,V8 l 24,V8 l 32,0,0⟩:Tp).s6 = true := rfl
  obtain ⟨hA,hpr⟩ := with_again true _ _ _ R P s th tl port hs hvt hRu hRl hW her p0 p9
  have hpr:q = 6 ∨ q = 17 := hpr
  have hPt:P.t = ⟨q,true,V8 l 8,V8 l 16,true,V8 l 24,V8 l 32,udpA.w16 R 0,udpA.w16 R 2⟩∧8 ≤ R.length∧(q = 6 → 20 ≤ R.length) := by
    rcases with_inv hW her with ⟨k,hE,hPe⟩ | ⟨k,hE,hPe⟩
    · have k:q = 6 := k
      have h20:20 ≤ R.length := by
        unfold tcpE at hE
        split at hE
        · omega
        · omega
      exact ⟨by rw [hPe],by omega,fun _ => h20⟩
    · have k:q = 17 := k
      have h8:8 ≤ R.length := by
        unfold udpE_ at hE
        split at hE
        · omega
        · omega
      exact ⟨by rw [hPe],h8,fun e => by omega⟩
  obtain ⟨hPt,h8,h20⟩ := hPt
  have hfs:aw true (sdH P.t s) (sdL P.t s) = wat l (plc true s) 8 := by
    rw [hPt]
    rcases Nat.lt_or_ge s 1 with k | k
    · obtain rfl:s = 0 := by omega
      exact V8_words l hu 8
    · obtain rfl:s = 1 := by omega
      exact V8_words l hu 24
  have hfs2:aw true (sdH (⟨q,true,V8 l 8,V8 l 16,true,V8 l 24,V8 l 32,0,0⟩:Tp) s) (sdL (⟨q,true,V8 l 8,V8 l 16,true,V8 l 24,V8 l 32,0,0⟩:Tp) s) = wat l (plc true s) 8 := by
    rw [← hfs,hPt]
    rcases Nat.lt_or_ge s 1 with k | k
    · obtain rfl:s = 0 := by omega
      rfl
    · obtain rfl:s = 1 := by omega
      rfl
  have hwp:sdP P.t s = udpA.w16 R (2 * s) := by
    rw [hPt]
    rcases Nat.lt_or_ge s 1 with k | k
    · obtain rfl:s = 0 := by omega
      rfl
    · obtain rfl:s = 1 := by omega
      rfl
  have hpp:P.t.pr = q := by rw [hPt]
  obtain ⟨fs,hfse⟩:∃ fs,fs = wat l (plc true s) 8 := ⟨_,rfl⟩
  obtain ⟨ts,hts⟩:∃ ts,ts = aw true th tl := ⟨_,rfl⟩
  have fW:W16 fs := by rw [hfse]; exact wat_w16 hu _ _
  have tW:W16 ts := by rw [hts]; exact aw_in _ _ _
  have fl:fs.length = 8 := by rw [hfse,wat_len]
  have tl8:ts.length = 8 := by rw [hts,aw_len]; rfl
  rw [hfs2,← hfse,← hts] at hA
  rw [hfs,← hfse,← hts,hwp,hpp] at ho
  have hp8:plc true s = 8 + 16 * s := rfl
  have hL:(l.take N).length = N := by rw [List.length_take]; omega
  obtain ⟨X,hX⟩:∃ X,X = natX l N S true s fs ts port := ⟨_,rfl⟩
  have eX:X = setw (setws (l.take N) (plc true s) ts) (S + 2 * s) port := by rw [hX]; rfl
  have ho:out = L4 X S q (fs ++ [udpA.w16 R (2 * s)]) (ts ++ [port]) := by rw [ho,hX]; rfl
  have Xl:X.length = N := by rw [eX,setw_len,setws_len,hL]
  have Xu:U8 X := by rw [eX]; exact setw_u8 (setws_u8 _ _ (hu.take N) tW) _ _ p0 p9
  have hol:out.length = N := by rw [ho,L4_len,Xl]
  have w2s := udpA.w16_in R hRu (2 * s)
  have hou:U8 out := by rw [ho]; exact L4_u8 Xu _ _ _ _ (by rw [List.length_append,List.length_append,fl,tl8]; rfl) (w16_snoc fW w2s.1 w2s.2) (w16_snoc tW p0 p9)
  have Xd:X.drop S = portR R s port := by
    rw [eX,setw_drop2,setws_drop _ _ _ _ (by omega),eR]
    rfl
  have od:out.drop S = if q = 6 then tcpR R fs ts s port else udpR R fs ts s port := by rw [ho]; exact L4_drop R s port _ hs h8 h20 X S fs ts Xd
  have hSl:(l.take S).length = S := by rw [List.length_take]; omega
  have ot:out.take S = setws (l.take S) (plc true s) ts := by
    rw [ho,L4_take,eX,setw_take,setws_take,List.take_take,Nat.min_eq_left sw,setw_out (setws (l.take S) (plc true s) ts) (S + 2 * s) port (by rw [setws_len,hSl]; omega)]
  have g:∀ i,i < 8 → out.getD i 0 = l.getD i 0 := fun i hi => by
    rw [← fourB.getD_take out S i (by omega),ot,setws_get _ _ _ _ (by omega) (by omega),fourB.getD_take l S i (by omega)]
  have gw:∀ i,i + 1 < 40 → udpA.w16 out i = udpA.w16 (setws (l.take S) (plc true s) ts) i := fun i b => by
    rw [← fourB.w16_take out S i (by omega),ot]
  have g0 := g 0 (by omega)
  have eSz:sizeP out = sizeP l := by unfold sizeP; rw [g 4 (by omega),g 5 (by omega)]
  have hrl:(out.drop S).length = R.length := by rw [List.length_drop]; omega
  have d40:(out.take (40 + sizeP out)).drop 40 = extB ys q ++ out.drop S := by
    rw [eSz,← hN,List.take_of_length_le (by omega),← List.take_append_drop (S - 40) (out.drop 40),List.drop_drop,show 40 + (S - 40) = S by omega]
    congr 1
    have:(out.drop 40).take (S - 40) = (out.take S).drop 40 := by rw [List.drop_take]
    rw [this,ot,setws_drop _ _ _ _ (by omega),eX0]
  have hE':sixP out = .inr (ys,q,out.drop S) := by
    unfold sixP
    rw [if_neg (by omega),g0,if_neg (by omega),d40,g 6 (by omega),← hnx,chn_put ys [] q (out.drop S) 9 (by rw [List.nil_append]; exact hRE) hyu hqx (by have := hRE.most; omega),List.nil_append,if_neg (by omega)]
    rfl
  have eT:(⟨q,true,V8 out 8,V8 out 16,true,V8 out 24,V8 out 32,0,0⟩:Tp) = wsT ⟨q,true,V8 l 8,V8 l 16,true,V8 l 24,V8 l 32,0,0⟩ s th tl := by
    have hw:∀ p,p + 16 ≤ 40 → wat out p 8 = wat (setws (l.take S) (plc true s) ts) p 8 := fun p b => by
      show [udpA.w16 out p,udpA.w16 out (p + 2),udpA.w16 out (p + 2 + 2),udpA.w16 out (p + 2 + 2 + 2),udpA.w16 out (p + 2 + 2 + 2 + 2),udpA.w16 out (p + 2 + 2 + 2 + 2 + 2),udpA.w16 out (p + 2 + 2 + 2 + 2 + 2 + 2),udpA.w16 out (p + 2 + 2 + 2 + 2 + 2 + 2 + 2)] = [_,_,_,_,_,_,_,_]
      rw [gw p (by omega),gw (p + 2) (by omega),gw (p + 2 + 2) (by omega),gw (p + 2 + 2 + 2) (by omega),gw (p + 2 + 2 + 2 + 2) (by omega),gw (p + 2 + 2 + 2 + 2 + 2) (by omega),gw (p + 2 + 2 + 2 + 2 + 2 + 2) (by omega),gw (p + 2 + 2 + 2 + 2 + 2 + 2 + 2) (by omega)]
    have hme:wat out (plc true s) 8 = aw true th tl := by
      rw [hw _ (by omega),← tl8,wat_setws _ _ _ (by omega),hts]
    obtain ⟨hm1,hm2⟩ := V8_of th0 th9 t0 t9 hme
    have hx:∀ p,(p + 8 ≤ plc true s ∨ plc true s + 16 ≤ p) → p + 8 ≤ 40 → V8 out p = V8 l p := fun p a b => by
      unfold V8
      rw [gw p (by omega),gw (p + 2) (by omega),gw (p + 4) (by omega),gw (p + 6) (by omega),setws_w16 _ _ _ _ (by omega) (by omega),setws_w16 _ _ _ _ (by omega) (by omega),setws_w16 _ _ _ _ (by omega) (by omega),setws_w16 _ _ _ _ (by omega) (by omega),fourB.w16_take l S p (by omega),fourB.w16_take l S (p + 2) (by omega),fourB.w16_take l S (p + 4) (by omega),fourB.w16_take l S (p + 6) (by omega)]
    rcases Nat.lt_or_ge s 1 with k | k
    · obtain rfl:s = 0 := by omega
      have hm1:V8 out 8 = th := hm1
      have hm2:V8 out 16 = tl := hm2
      rw [hm1,hm2,hx 24 (by omega) (by omega),hx 32 (by omega) (by omega)]
      rfl
    · obtain rfl:s = 1 := by omega
      have hm1:V8 out 24 = th := hm1
      have hm2:V8 out 32 = tl := hm2
      rw [hm1,hm2,hx 8 (by omega) (by omega),hx 16 (by omega) (by omega)]
      rfl
  refine ⟨?_,hol,hou⟩
  obtain ⟨a1,a2,a3,a4⟩ := hd_addr out q
  unfold pkP
  rw [if_neg (by omega),if_neg (by omega),g0,if_neg (by omega),if_pos h6]
  unfold p6
  rw [hE']
  simp only
  rw [if_neg hF,a1,a2,a3,a4,eT,g 7 (by omega),hrl,od,← hS]
  exact hA
end Go.Proofs.Ytodckfgfbcnkoaa.natZb
/- Layer 5: the bytes of an address that isn't V6. -/
namespace Go.Proofs.Ytodckfgfbcnkoaa.fourL
set_option maxHeartbeats 4000000
set_option maxRecDepth 100000
open Go.ChangeShapes Go.WideShapes Go.ChangeAt Go.RowKit
open base octA octF rdrA fourD fourE
set_option linter.unusedVariables false
def bt (lo:Int) (k:Nat):Int := lo / (2:Int) ^ (56 - 8 * k) % 256
def Arr (lo:Int) (j:Nat) (cs:Array Value):Prop := cs.size = 16∧(∀ (i:Nat) (v:Value),cs[i]? = some v → v.oneCell' = true)∧∀ k,k < j → cs[8 + k]? = some (.int .u8 (bt lo k))
theorem arr_zero (lo:Int):Arr lo 0 (Array.replicate 16 (.int .u8 0)) := by
  refine ⟨by simp,?_,fun k hk => by omega⟩
  intro i v h
  rw [Array.getElem?_replicate] at h
  split at h
  · obtain rfl := Option.some.inj h; rfl
  · cases h
theorem arr_next {lo:Int} {j:Nat} {cs:Array Value} (h:Arr lo j cs) (hj:j < 8) (x y:Int) (hy:y = bt lo j):Arr lo (j + 1) ((cs.setIfInBounds j (.int .u8 x)).setIfInBounds (8 + j) (.int .u8 y)) := by
  obtain ⟨h1,h2,h3⟩ := h
  refine ⟨by simp [h1],?_,?_⟩
  · intro i v hv
    rw [Array.getElem?_setIfInBounds] at hv
    split at hv
    · split at hv
      · obtain rfl := Option.some.inj hv; rfl
      · cases hv
    · rw [Array.getElem?_setIfInBounds] at hv
      split at hv
      · split at hv
        · obtain rfl := Option.some.inj hv; rfl
        · cases hv
      · exact h2 i v hv
  · intro k hk
    rw [Array.getElem?_setIfInBounds]
    by_cases hkj:k = j
    · subst hkj
      rw [if_pos rfl,if_pos (by simp [h1]; omega),hy]
    · rw [if_neg (by omega),Array.getElem?_setIfInBounds,if_neg (by omega)]
      exact h3 k (by omega)
theorem arr_at {lo:Int} {j:Nat} {cs:Array Value} (h:Arr lo j cs) (i:Nat) (hi:i < 16):∃ v,cs[i]? = some v := by
  obtain ⟨h1,_⟩ := h
  exact ⟨_,Array.getElem?_eq_getElem (by omega)⟩
theorem arr_src {lo:Int} {w:World} {g:Nat} {t:TypeId} {cs:Array Value} (h:Arr lo 8 cs) (hB:Blk w g t cs):∀ j v,([bt lo 4,bt lo 5,bt lo 6,bt lo 7].map (Value.int .u8))[j]? = some v → w.cell? ((⟨g,12,none⟩:Addr).add j) = some v := by
  intro j v hv
  rw [Addr.add_lit,hB.cell]
  have hj:j < 4 := by
    have := (List.getElem?_eq_some_iff.mp hv).1
    simpa using this
  have := h.2.2 (4 + j) (by omega)
  rw [show 12 + j = 8 + (4 + j) by omega,this,← hv]
  match j,hj with
  | 0,_ => rfl
  | 1,_ => rfl
  | 2,_ => rfl
  | 3,_ => rfl
theorem arr_one (lo:Int):∀ u ∈ [bt lo 4,bt lo 5,bt lo 6,bt lo 7].map (Value.int .u8),u.oneCell' = true := by
  intro u hu
  rw [List.mem_map] at hu
  obtain ⟨x,_,rfl⟩ := hu
  rfl
theorem bits_four (hi lo:Int) (w:World) :
    Calls Try.prog 83 #[.agg #[.bool false,.int .u64 hi,.int .u64 lo]] w fun e w' => e = .returned (.int .i64 32)∧Below w.heap.size w w' := by
  go_enter Try.func83,Try.ntmps83
  go_wp2
  go_ret
  exact ⟨rfl,(Below.refl _ _).alloc (Nat.le_refl _) _⟩
theorem addr_four (hi lo:Int) (w:World) (h0:0 ≤ hi) (h1:0 ≤ lo) :
    Calls Try.prog 54 #[.agg #[.bool false,.int .u64 hi,.int .u64 lo]] w fun e w' => ∃ v,e = .returned v∧w'.ownsRow w.heap.size 5 1 v 4 ([bt lo 4,bt lo 5,bt lo 6,bt lo 7].map (.int .u8))∧Below w.heap.size w w' := by
  have HSZ := Lib.hid (show (w.alloc (.cells #[.bool false,.int .u64 hi,.int .u64 lo] 32)).heap.size = w.heap.size + 1 by simp)
  have BOX := Lib.hid (Blk.new w 32 #[.bool false,.int .u64 hi,.int .u64 lo])
  have HB0 := Lib.hid (show Below w.heap.size w (w.alloc (.cells #[.bool false,.int .u64 hi,.int .u64 lo] 32)) from (Below.refl _ _).alloc (Nat.le_refl _) _)
  have HBT := Lib.hid (bits_four hi lo)
  obtain ⟨i0,hi0,hz0,hz1,hz2⟩ := info_parts info_u8
  go_enter Try.func54,Try.ntmps54
  go_wp2_with fail
  go_loopw [7,4] (fun i _ wr => ∃ (j:Nat) (cs:Array Value),j ≤ 8∧i = .int .i64 j∧Arr lo j cs∧Blk wr (w.heap.size + 1) 118 cs∧Blk wr w.heap.size 32 #[.bool false,.int .u64 hi,.int .u64 lo]∧Below w.heap.size w wr) (fun i _ _ => 8 - (intOf i).toNat)
  case atStart =>
    refine ⟨0,_,by omega,rfl,arr_zero lo,?_,?_,?_⟩
    · have := Blk.new (w.alloc (.cells #[.bool false,.int .u64 hi,.int .u64 lo] 32)) 118 (Array.replicate 16 (.int .u8 0))
      rw [HSZ.out] at this
      exact this
    · exact BOX.out.alloc _
    · exact HB0.out.alloc (by rw [HSZ.out]; omega) _
  case round =>
    obtain ⟨j,cs,hj,rfl,hA,hB,hX,hbel⟩ := hrel
    have q0 := hX.cell 0
    have q1 := hX.cell 1
    have q2 := hX.cell 2
    by_cases hj8:j < 8
    · obtain ⟨u,hu⟩ := arr_at hA j (by omega)
      obtain ⟨u',hu'⟩ := arr_at hA (8 + j) (by omega)
      have p1:decide ((j:Int) < 8) = true := decide_eq_true (by omega)
      have d1 := (hB.cell j).trans hu
      have d2 := (hB.cell (8 + j)).trans hu'
      have d3 := hB.frozen j
      have d4 := hB.frozen (8 + j)
      go_wp2_with fail
      refine ⟨⟨j + 1,_,by omega,rfl,arr_next hA hj8 _ _ rfl,(hB.set_ _ _).set_ _ _,(hX.far (by show w.heap.size ≠ w.heap.size + 1; omega) _).far (by show w.heap.size ≠ w.heap.size + 1; omega) _,(hbel.setCell (by show w.heap.size ≤ w.heap.size + 1; omega) _).setCell (by show w.heap.size ≤ w.heap.size + 1; omega) _⟩,?_⟩
      show 8 - ((j:Int) + 1).toNat < 8 - ((j:Int)).toNat
      omega
    · obtain rfl:j = 8 := by omega
      have hmk := fun (W:World) => run_make_one (P := Try.prog) 22 5 i0 _ Try.underlying22 hi0 hz0 hz1 rfl .i64 .i64 (4:Int) (by omega) (by rw [hz2]; omega) (by omega) W
      go_wp2_with fail
      refine (HBT.out _).mono ?_
      rintro e w5 ⟨rfl,hb5⟩
      have B5 := Lib.hid (hB.below hb5 hB.lt)
      have L5 := Lib.hid (bel_to hbel hb5 hbel.size)
      have BZ := Lib.hid (show Blk (w5.alloc (.cells (zeros 4 (.int .u8 0)) 5)) w5.heap.size 5 [Value.int .u8 0,.int .u8 0,.int .u8 0,.int .u8 0].toArray from Blk.new w5 5 (zeros 4 (.int .u8 0)))
      have BA := Lib.hid (B5.out.alloc (.cells (zeros 4 (.int .u8 0)) 5))
      have LZ := Lib.hid (L5.out.alloc L5.out.size (.cells (zeros 4 (.int .u8 0)) 5))
      have SRC := Lib.hid (arr_src hA BA.out)
      have ONE := Lib.hid (arr_one lo)
      have LE := Lib.hid L5.out.size
      clear hB hX hb5 hbel
      go_wp2_with (refine wpList_copy_splice (o := ⟨some 39,_,_,_,_,_⟩) rfl (.tmp 34) (.tmp 38) 22 22 rfl 5 Try.underlying22 info1 (some ⟨w5.heap.size,0,none⟩) (some ⟨w.heap.size + 1,12,none⟩) 4 4 4 4 rfl rfl w5.heap.size 0 [Value.int .u8 0,.int .u8 0,.int .u8 0,.int .u8 0] 5 BZ.out ([bt lo 4,bt lo 5,bt lo 6,bt lo 7].map (Value.int .u8)) rfl (fun _ => ⟨rfl,_,rfl,SRC.out⟩) (Nat.le_refl _) ONE.out w.heap.size w LZ.out LE.out ?_; intro w6 hg6 hb6; have G6 := hg6; have L6 := Lib.hid hb6; clear hg6 hb6)
      go_ret
      refine ⟨_,rfl,⟨rfl,.inr ⟨w5.heap.size,4,_,rfl,by have := LE.out; omega,G6.out,Nat.le_refl _,by unfold maxLen; omega,rfl,rfl⟩⟩,L6.out⟩
end Go.Proofs.Ytodckfgfbcnkoaa.fourL
/- Layer 15: a packet with another side, as one contract. -/
namespace Go.Proofs.Ytodckfgfbcnkoaa.natE
set_option maxHeartbeats 1000000
open Go.ChangeShapes Go.WideShapes Go.ChangeAt Go.RowKit
open base octA rdrA rdrG sixW sixM pktA pktB pktC pktE sixE sixF pktG  tunW tunV tunC natW natY natZ natA natB pktL natD natZb
set_option linter.unusedVariables false
set_option linter.unusedSimpArgs false
structure PkG (l:List Int) (P:Pk) (v:Bool) (pr sh sl dh dl ttl fl:Int) (S N:Nat) (R:List Int):Prop where
  eq:P = ⟨v,⟨pr,v,sh,sl,v,dh,dl,udpA.w16 R 0,udpA.w16 R 2⟩,ttl,fl,false,zeroT,(N:Int)⟩
  prs:(pr = 6∧20 ≤ R.length) ∨ (pr = 17∧8 ≤ R.length)
  sum:S + R.length = N
  le:N ≤ l.length
  s20:(if v = true then 40 else 20) ≤ S
  u8:U8 R
  b1:0 ≤ sh∧sh < 18446744073709551616
  b2:0 ≤ sl∧sl < 18446744073709551616
  b3:0 ≤ dh∧dh < 18446744073709551616
  b4:0 ≤ dl∧dl < 18446744073709551616
  again:∀ (s:Nat) (th tl port:Int),s ≤ 1 → 0 ≤ th → th < 18446744073709551616 → 0 ≤ tl → tl < 18446744073709551616 → 0 ≤ port → port ≤ 65535 → (v = false → th = 0∧tl < 4294967296) → ∀ out,out = natO l N S v s pr (aw v (sdH P.t s) (sdL P.t s)) (aw v th tl) (sdP P.t s) port → pkP out = ({ P with t := turnT P.t s th tl port },0)∧out.length = N∧U8 out
  head:∀ (A:Option Addr) (n c:Nat) (w:World),Sl w A n c l → Calls Try.prog 52 #[.slice A n c] w fun o w' => o = .returned (.int .i64 (S:Int))∧Below w.heap.size w w'
theorem tcp_long {R ps:List Int} (h:tcpE R ps = 0):20 ≤ R.length := by
  unfold tcpE at h
  split at h
  · cases h
  · omega
theorem udp_long {R ps:List Int} {b:Bool} (h:udpE_ R ps b = 0):8 ≤ R.length := by
  unfold udpE_ at h
  split at h
  · cases h
  · omega
theorem inv_any (l:List Int) (hu:U8 l) (hn:l.length ≤ 1000) (P:Pk) (hP:pkP l = (P,0)) (her:P.er = false):∃ v pr sh sl dh dl ttl fl S N R,PkG l P v pr sh sl dh dl ttl fl S N R := by
  have hl0:¬ l.length = 0 := fun k => by
    unfold pkP at hP
    rw [if_pos k] at hP
    injection hP with _ h
    cases h
  have hP0 := hP
  unfold pkP at hP
  rw [if_neg hl0,if_neg (show ¬ 9000 < l.length by omega)] at hP
  by_cases h4:l.getD 0 0 / 16 = 4
  · rw [if_pos h4] at hP
    obtain ⟨hE,hF,hW⟩ := p4_inv hP
    obtain ⟨_,s20,s60,es,ew,sw,wl,sr,hf,hfo⟩ := four_sizes l hu hE
    have b12 := w32_in8 l hu 12
    have b16 := w32_in8 l hu 16
    have hR:U8 (fourR l) := (hu.drop _).take _
    have hsz:(20 + ((fourS l - 20:Nat):Int) + ((fourR l).length:Int)) = (((udpA.w16 l 2).toNat:Nat):Int) := by omega
    have hag:∀ (s:Nat) (th tl port:Int),s ≤ 1 → 0 ≤ th → th < 18446744073709551616 → 0 ≤ tl → tl < 18446744073709551616 → 0 ≤ port → port ≤ 65535 → (false = false → th = 0∧tl < 4294967296) → ∀ out,out = natO l (udpA.w16 l 2).toNat (fourS l) false s (l.getD 9 0) (aw false (sdH P.t s) (sdL P.t s)) (aw false th tl) (sdP P.t s) port → pkP out = ({ P with t := turnT P.t s th tl port },0)∧out.length = (udpA.w16 l 2).toNat∧U8 out := by
      intro s th tl port hs _ _ t0 _ p0 p9 hlo out ho
      obtain ⟨rfl,t9⟩ := hlo rfl
      have hpp:P.t.pr = l.getD 9 0 := by rcases with_inv hW her with ⟨_,_,e⟩ | ⟨_,_,e⟩ <;> rw [e]
      rw [← hpp] at ho
      exact nat4 l hu hn h4 P hP0 her s hs tl port t0 t9 p0 p9 out ho
    have hhd:∀ (A:Option Addr) (n c:Nat) (w:World),Sl w A n c l → Calls Try.prog 52 #[.slice A n c] w fun o w' => o = .returned (.int .i64 (fourS l:Int))∧Below w.heap.size w w' := by
      intro A n c w hs
      have hl := hs.len
      obtain ⟨b,off,rfl,hb,hc⟩ := lies_of hs.row (by omega)
      have h9 := head_4 b off n c (l.getD 0 0) _ _ _ _ _ _ (fourS l - 20) (by omega) (fourR l) (by omega) w (by omega) hb (hc 0 (by omega)) (hu.get 0) (Lib.hid fun V hV => (four_any (some ⟨b,off,none⟩) n c l V (hs.below hV) (by omega)).mono fun o w' k => by
        obtain ⟨hb,k⟩ := k
        rcases k with ⟨k1,_⟩ | ⟨_,_,_,_,k2⟩
        · exact absurd hE k1
        · exact ⟨hb,k2⟩)
      have e:(20 + ((fourS l - 20:Nat):Int)) = (fourS l:Int) := by omega
      rw [e] at h9
      exact h9
    rw [hsz] at hW
    have w12:tcpC.w32 l 12 < 4294967296 := by
      have a := udpA.w16_in l hu 12; have b := udpA.w16_in l hu (12 + 2)
      show udpA.w16 l 12 * 65536 + udpA.w16 l (12 + 2) < _
      omega
    rcases with_inv hW her with ⟨hp,hE2,e⟩ | ⟨hp,hE2,e⟩
    · exact ⟨false,_,_,_,_,_,_,_,fourS l,(udpA.w16 l 2).toNat,fourR l,⟨e,.inl ⟨hp,tcp_long hE2⟩,by omega,wl,by simpa using s20,hR,show (0:Int) ≤ 0∧(0:Int) < 18446744073709551616 from ⟨Int.le_refl _,by decide⟩,b12,show (0:Int) ≤ 0∧(0:Int) < 18446744073709551616 from ⟨Int.le_refl _,by decide⟩,b16,hag,hhd⟩⟩
    · exact ⟨false,_,_,_,_,_,_,_,fourS l,(udpA.w16 l 2).toNat,fourR l,⟨e,.inr ⟨hp,udp_long hE2⟩,by omega,wl,by simpa using s20,hR,show (0:Int) ≤ 0∧(0:Int) < 18446744073709551616 from ⟨Int.le_refl _,by decide⟩,b12,show (0:Int) ≤ 0∧(0:Int) < 18446744073709551616 from ⟨Int.le_refl _,by decide⟩,b16,hag,hhd⟩⟩
  · rw [if_neg h4] at hP
    by_cases h6:l.getD 0 0 / 16 = 6
    · rw [if_pos h6] at hP
      obtain ⟨ys,q,r,hC,hF,hW⟩ := p6_inv hP
      obtain ⟨_,hlen,hsum,hru,q0,q9⟩ := six_sizes l hu hC
      have hV8:∀ p,0 ≤ V8 l p∧V8 l p < 18446744073709551616 := fun p => by
        have a := udpA.w16_in l hu p; have b := udpA.w16_in l hu (p + 2); have c := udpA.w16_in l hu (p + 4); have d := udpA.w16_in l hu (p + 6)
        unfold V8
        omega
      have hsz:(((40 + extL ys:Nat):Int) + (r.length:Int)) = ((40 + sizeP l:Nat):Int) := by omega
      have hag:∀ (s:Nat) (th tl port:Int),s ≤ 1 → 0 ≤ th → th < 18446744073709551616 → 0 ≤ tl → tl < 18446744073709551616 → 0 ≤ port → port ≤ 65535 → (true = false → th = 0∧tl < 4294967296) → ∀ out,out = natO l (40 + sizeP l) (40 + extL ys) true s q (aw true (sdH P.t s) (sdL P.t s)) (aw true th tl) (sdP P.t s) port → pkP out = ({ P with t := turnT P.t s th tl port },0)∧out.length = 40 + sizeP l∧U8 out := by
        intro s th tl port hs th0 th9 t0 t9 p0 p9 _ out ho
        obtain ⟨ys2,q2,r2,hC2,hag⟩ := nat6 l hu hn h6 P hP0 her s hs th tl port th0 th9 t0 t9 p0 p9
        rw [hC] at hC2
        injection hC2 with hC2
        injection hC2 with e1 e2
        injection e2 with e2 e3
        subst e1
        have hpp:P.t.pr = q := by rcases with_inv hW her with ⟨_,_,e⟩ | ⟨_,_,e⟩ <;> rw [e]
        rw [← hpp] at ho
        exact hag out ho
      have hhd:∀ (A:Option Addr) (n c:Nat) (w:World),Sl w A n c l → Calls Try.prog 52 #[.slice A n c] w fun o w' => o = .returned (.int .i64 ((40 + extL ys:Nat):Int))∧Below w.heap.size w w' := by
        intro A n c w hs
        have hl := hs.len
        obtain ⟨b,off,rfl,hb,hc⟩ := lies_of hs.row (by omega)
        exact head_6 b off n c (l.getD 0 0) _ _ _ _ _ _ _ _ _ r h6 w (by omega) hb (hc 0 (by omega)) (hu.get 0) (Lib.hid fun V hV => (six_good (some ⟨b,off,none⟩) n c l V (hs.below hV) (by omega) h6 hC).mono fun o w' k => by
          obtain ⟨hb,AX,nx,cx,cls,lab,AR,cr,e,hs,_,hln⟩ := k
          exact ⟨hb,cls,lab,AX,nx,cx,AR,cr,e,hs,hln⟩)
      rw [hsz] at hW
      rcases with_inv hW her with ⟨hp,hE2,e⟩ | ⟨hp,hE2,e⟩
      · exact ⟨true,_,_,_,_,_,_,_,40 + extL ys,40 + sizeP l,r,⟨e,.inl ⟨hp,tcp_long hE2⟩,by omega,hlen,by simp,hru,hV8 8,hV8 16,hV8 24,hV8 32,hag,hhd⟩⟩
      · exact ⟨true,_,_,_,_,_,_,_,40 + extL ys,40 + sizeP l,r,⟨e,.inr ⟨hp,udp_long hE2⟩,by omega,hlen,by simp,hru,hV8 8,hV8 16,hV8 24,hV8 32,hag,hhd⟩⟩
    · rw [if_neg h6] at hP
      injection hP with _ h
      cases h
theorem bt_four (lo:Int):[fourL.bt lo 4,fourL.bt lo 5,fourL.bt lo 6,fourL.bt lo 7] = pb lo 4 4 := rfl
theorem abytes_go (v6:Bool) (h l:Int) (w:World) (h0:0 ≤ h∧h < 18446744073709551616) (l0:0 ≤ l∧l < 18446744073709551616) :
    Calls Try.prog 54 #[.agg #[.bool v6,.int .u64 h,.int .u64 l]] w fun o w' => ∃ v,o = .returned v∧w'.ownsRow w.heap.size 5 1 v (ab v6 h l).length ((ab v6 h l).map (.int .u8))∧Below w.heap.size w w' := by
  cases v6 with
  | true =>
    have e:(ab true h l).length = 16 := by show (pb h 8 8 ++ pb l 8 8).length = 16; simp [pb_len]
    rw [e]
    exact sixJ.abytes_any h l w h0.1 h0.2 l0.1 l0.2
  | false =>
    have e:(ab false h l).length = 4 := pb_len _ _ _
    rw [e]
    have h9 := fourL.addr_four h l w h0.1 l0.1
    rw [bt_four] at h9
    exact h9
theorem natO_is (l:List Int) (N S:Nat) (v:Bool) (s:Nat) (pr:Int) (fs:List Int) (th tl wp port:Int) (hs:s ≤ 1) (hN:N ≤ l.length) (hS:(if v = true then 40 else 20) ≤ S) (hSN:S + 8 ≤ N) :
    x4 pr S (fs ++ [wp]) (aw v th tl ++ [port]) (x3 v fs (aw v th tl) (x2 l N S (plc v s) s (ab v th tl) port)) = natO l N S v s pr fs (aw v th tl) wp port := by
  have hL:(l.take N).length = N := by rw [List.length_take]; omega
  have hpl:plc v s + 2 * (aw v th tl).length ≤ S := by
    rw [aw_len]
    unfold plc
    cases v
    · simp at hS ⊢; omega
    · simp at hS ⊢; omega
  have e1:x1 l N (plc v s) (ab v th tl) = setws (l.take N) (plc v s) (aw v th tl) := by
    unfold x1 splice
    rw [← List.append_assoc,ab_words,wbytes_len]
    exact splice_words (aw v th tl) (l.take N) (plc v s) (by rw [hL]; omega)
  have e2:x2 l N S (plc v s) s (ab v th tl) port = setw (setws (l.take N) (plc v s) (aw v th tl)) (S + 2 * s) port := by unfold x2; rw [e1]
  have e3:x3 v fs (aw v th tl) (x2 l N S (plc v s) s (ab v th tl) port) = natX l N S v s fs (aw v th tl) port := by
    rw [e2]
    cases v with
    | true =>
      unfold x3 natX
      rw [if_pos rfl,if_pos rfl]
    | false =>
      have hS2:20 ≤ S := by simpa using hS
      have hp2:plc false s = 12 + 4 * s := by unfold plc; rw [if_neg (by decide)]
      generalize aw false th tl = ts at *
      have ew:udpA.w16 (setw (setws (l.take N) (plc false s) ts) (S + 2 * s) port) 10 = udpA.w16 l 10 := by
        rw [w16_set _ _ _ _ (by rw [setws_len]; omega) (by omega),setws_w16 _ _ _ _ (by omega) (by omega),fourB.w16_take l N 10 (by omega)]
      unfold x3 natX
      rw [if_neg (by decide),if_neg (by decide),ew]
  rw [e3]
  unfold x4 natO L4
  rfl
theorem ab_u8 (v:Bool) (h l:Int):U8 (ab v h l) := by
  cases v
  · exact pktB.pb_u8 _ _ _
  · exact (pktB.pb_u8 _ _ _).join (pktB.pb_u8 _ _ _)
theorem ab_len (v:Bool) (h l:Int):(ab v h l).length = 2 * (aw v h l).length := by rw [ab_words,wbytes_len]
theorem turn_good (l:List Int) (hu:U8 l) (hn:l.length ≤ 1000) (P:Pk) (hP:pkP l = (P,0)) (her:P.er = false) (s:Nat) (hs:s ≤ 1) (th tl port:Int) (th0:0 ≤ th) (th9:th < 18446744073709551616) (t0:0 ≤ tl) (t9:tl < 18446744073709551616) (p0:0 ≤ port) (p9:port ≤ 65535) (hok:okAd P.v6 th tl = true) :
    ∃ X:List Int,pkP X = ({ P with t := turnT P.t s th tl port },0)∧(X.length:Int) = P.sz∧U8 X∧X.length ≤ l.length ∧
      (∃ S N R pr sh sl dh dl ttl fl,PkG l P P.v6 pr sh sl dh dl ttl fl S N R∧X = natO l N S P.v6 s pr (aw P.v6 (sdH P.t s) (sdL P.t s)) (aw P.v6 th tl) (sdP P.t s) port) ∧
      ∀ (A:Option Addr) (n c:Nat) (w:World),Sl w A n c l → Calls Try.prog 22 #[.slice A n c,.int .i64 s,.agg #[.bool P.v6,.int .u64 th,.int .u64 tl],.int .i64 port] w (MkP 0 X w) := by
  obtain ⟨v,pr,sh,sl,dh,dl,ttl,fl,S,N,R,G⟩ := inv_any l hu hn P hP her
  have hPv:P.v6 = v := by rw [G.eq]
  have hPsz:P.sz = (N:Int) := by rw [G.eq]
  have G0 := G
  rw [hPv] at hok
  have hlo:v = false → th = 0∧tl < 4294967296 := fun h => by
    rw [h] at hok
    simpa [okAd] using hok
  have w0 := udpA.w16_in R G.u8 0
  have w2 := udpA.w16_in R G.u8 2
  have hsum := G.sum
  have h20 := G.s20
  have hprs := G.prs
  have hle := G.le
  have hwp:0 ≤ sdP P.t s∧sdP P.t s ≤ 65535 := by
    rw [G.eq]
    unfold sdP
    split
    · exact w0
    · exact w2
  have hsH:0 ≤ sdH P.t s∧sdH P.t s < 18446744073709551616 := by
    rw [G.eq]
    unfold sdH
    split
    · exact G.b1
    · exact G.b3
  have hsL:0 ≤ sdL P.t s∧sdL P.t s < 18446744073709551616 := by
    rw [G.eq]
    unfold sdL
    split
    · exact G.b2
    · exact G.b4
  have hS8:S + 8 ≤ N := by omega
  have hpb:plc v s + 2 * (aw v th tl).length ≤ S := by
    rw [aw_len]
    unfold plc
    cases v
    · simp at h20 ⊢; omega
    · simp at h20 ⊢; omega
  have hS20:20 ≤ S := by
    cases v
    · simpa using h20
    · simp at h20; omega
  have hal:(aw v (sdH P.t s) (sdL P.t s)).length = (aw v th tl).length := by rw [aw_len,aw_len]
  have hk:1 ≤ (aw v th tl).length∧(aw v th tl).length ≤ 8 := by rw [aw_len]; cases v <;> simp
  have hp0:0 < plc v s := by unfold plc; split <;> omega
  obtain ⟨a1,a2,a3⟩ := G.again s th tl port hs th0 th9 t0 t9 p0 p9 hlo _ rfl
  refine ⟨_,a1,by rw [a2,hPsz],a3,by omega,⟨S,N,R,pr,sh,sl,dh,dl,ttl,fl,by rw [hPv]; exact G0,by rw [hPv]⟩,fun A n c w hsl => ?_⟩
  rw [hPv]
  have hl := hsl.len
  obtain ⟨b,off,rfl,hb,hc⟩ := lies_of hsl.row (by omega)
  rw [← natO_is l N S v s pr _ th tl _ port hs hle h20 hS8]
  have hPar := fun V (hV:Below w.heap.size w V) => parse_any (some ⟨b,off,none⟩) n c l V (hsl.below hV) (by omega)
  have HSD:∀ V:World,Calls Try.prog 50 #[.agg #[.int .i64 pr,.bool v,.int .u64 sh,.int .u64 sl,.bool v,.int .u64 dh,.int .u64 dl,.int .i64 (udpA.w16 R 0),.int .i64 (udpA.w16 R 2)],.int .i64 s] V fun o w' => o = .returned (.tuple #[.agg #[.bool v,.int .u64 (sdH P.t s),.int .u64 (sdL P.t s)],.int .i64 (sdP P.t s)])∧Below V.heap.size V w' := by
    intro V
    rw [G.eq]
    have hs2:s = 0 ∨ s = 1 := by omega
    rcases hs2 with rfl | rfl
    · exact side_0 pr v sh sl v dh dl (udpA.w16 R 0) (udpA.w16 R 2) V
    · exact side_1 pr v sh sl v dh dl (udpA.w16 R 0) (udpA.w16 R 2) V
  have HRT := fun V:World => aright_any v th tl V t0
  rw [hok] at HRT
  rw [hP,G.eq] at hPar
  refine turn_OK b off n c s hs v th tl port p0 p9 v pr v sh sl v dh dl (udpA.w16 R 0) (udpA.w16 R 2) ttl fl 0 false 0 0 false 0 0 0 0 rfl v _ _ (sdP P.t s) hwp.1 hwp.2 (aw v th tl).length hk _ _ (ab v th tl) l S N (plc v s) (ab v th tl).length hal rfl (aw_in _ _ _) (aw_in _ _ _) rfl (ab_u8 _ _ _) (by rw [ab_len]; omega) hp0 (by rw [ab_len]; exact hpb) hS20 hS8 (fun h6 => by omega) (by omega) (by omega) w hsl (Lib.hid hPar) (Lib.hid HRT) (Lib.hid HSD) (Lib.hid fun V => ?_) (Lib.hid fun V => words_go v th tl V ⟨th0,th9⟩ ⟨t0,t9⟩) (Lib.hid fun V hV => G.head _ n c V (hsl.below hV)) (Lib.hid fun V => place_go v s V hs) (Lib.hid fun V => abytes_go v th tl V ⟨th0,th9⟩ ⟨t0,t9⟩)
  have h9 := words_go v (sdH P.t s) (sdL P.t s) V hsH hsL
  rw [hal] at h9
  exact h9
end Go.Proofs.Ytodckfgfbcnkoaa.natE
namespace Go.Proofs.Ytodckfgfbcnkoaa.pktL2
end Go.Proofs.Ytodckfgfbcnkoaa.pktL2
namespace Go.Proofs.Ytodckfgfbcnkoaa.sixZn
end Go.Proofs.Ytodckfgfbcnkoaa.sixZn
namespace Go.Proofs.Ytodckfgfbcnkoaa.tcpKn
end Go.Proofs.Ytodckfgfbcnkoaa.tcpKn
namespace Go.Proofs.Ytodckfgfbcnkoaa.tcpMn
end Go.Proofs.Ytodckfgfbcnkoaa.tcpMn
/- Layer 13: Datagram and Segment of any flow. -/
namespace Go.Proofs.Ytodckfgfbcnkoaa.pktS
open Go.ChangeShapes Go.WideShapes Go.ChangeAt Go.RowKit
open base octA rdrA rdrG sixW sixM pktA pktB pktC sixE sixF pktG pktL pktM pktR
set_option linter.unusedVariables false
theorem six_bytes (ttl pr sh sl dh dl:Int) (A:Option Addr) (n c:Nat) (bl:List Int) (w:World) (h:Sl w A n c bl) (hn:n ≤ 900) (h1:0 ≤ ttl∧ttl ≤ 255) (h2:0 ≤ pr∧pr ≤ 255) (h3:isX pr = false) (b1:0 ≤ sh∧sh < 18446744073709551616) (b2:0 ≤ sl∧sl < 18446744073709551616) (b3:0 ≤ dh∧dh < 18446744073709551616) (b4:0 ≤ dl∧dl < 18446744073709551616) :
    Calls Try.prog 37 #[.agg #[.int .i64 0,.int .i64 0,.int .i64 ttl,.bool true,.int .u64 sh,.int .u64 sl,.bool true,.int .u64 dh,.int .u64 dl,.slice none 0 0,.int .i64 pr],.slice A n c] w (MkP 0 (mkB6 ttl pr sh sl dh dl bl) w) := by
  refine (sixQ.bytes_any ⟨0,0,ttl,true,sh,sl,true,dh,dl,pr⟩ none 0 0 [] A n c bl w rfl (⟨.inl rfl,fun o ho => by cases ho⟩:RdX w none []) (Nat.le_refl _) (right6 ttl pr sh sl dh dl h1 h2 h3) b1 b2 b3 b4 h.len h.row (by omega) h.nil).mono ?_
  rintro o w' ⟨v,rfl,h5,h6⟩
  obtain ⟨B,d,rfl⟩ := own_slice h5
  refine ⟨h6,B,_,d,rfl,Sl.own h5 rfl ?_⟩
  have u8:∀ n:Int,U8 (pb n 8 8) := fun n => pb_u8 n 8 8
  intro x hx
  have hx2:x ∈ sixK.hdB ⟨0,0,ttl,true,sh,sl,true,dh,dl,pr⟩ pr (extL [] + bl.length) ++ ([] ++ bl) := hx
  unfold sixK.hdB sixK.hd8 at hx2
  rw [List.nil_append] at hx2
  have hbn := h.len
  rcases List.mem_append.1 hx2 with hx2 | hx2
  · rcases List.mem_append.1 hx2 with hx2 | hx2
    · rcases List.mem_append.1 hx2 with hx2 | hx2
      · simp only [List.mem_cons,List.not_mem_nil,or_false] at hx2
        rcases hx2 with rfl | rfl | rfl | rfl | rfl | rfl | rfl | rfl <;> omega
      · exact (List.mem_append.1 hx2).elim (u8 _ x) (u8 _ x)
    · exact (List.mem_append.1 hx2).elim (u8 _ x) (u8 _ x)
  · exact h.u8 x hx2
def Made (pr:Int) (s6:Bool) (sh sl:Int) (d6:Bool) (dh dl sp dp ttl fl proto:Int):Prop := pr = proto∧s6 = d6∧(0 ≤ ttl∧ttl ≤ 255)∧(0 ≤ sp∧sp ≤ 65535∧0 ≤ dp∧dp ≤ 65535)∧(0 ≤ fl∧fl ≤ 255)∧(s6 = true ∨ (sh = 0∧dh = 0∧sl < 4294967296∧dl < 4294967296))
theorem dgram_with (s6:Bool) (sh sl dh dl sp dp ttl fl:Int) (A:Option Addr) (n c:Nat) (pl:List Int) (w:World) (h:Sl w A n c pl) (hn:n ≤ 500) (b1:0 ≤ sh∧sh < 18446744073709551616) (b2:0 ≤ sl∧sl < 18446744073709551616) (b3:0 ≤ dh∧dh < 18446744073709551616) (b4:0 ≤ dl∧dl < 18446744073709551616) (ps:List Int) (hps:ps = psd s6 sh sl dh dl 17 (8 + (pl.length:Int))) (e e2:Int) (bs out:List Int) (hM:udpM sp dp pl ps = (e,bs))
    (HB:(e ≠ 0∧e2 = e∧out = []) ∨ (e = 0∧s6 = false∧∀ V A2 n2 k2,Below w.heap.size w V → Sl V A2 n2 k2 bs → Calls Try.prog 38 #[.agg #[.int .i64 0,.int .i64 0,.bool false,.bool false,.int .i64 0,.int .i64 ttl,.int .i64 17,.bool false,.int .u64 sh,.int .u64 sl,.bool false,.int .u64 dh,.int .u64 dl,.slice none 0 0],.slice A2 n2 k2] V (MkP e2 out V)) ∨ (e = 0∧s6 = true∧∀ V A2 n2 k2,Below w.heap.size w V → Sl V A2 n2 k2 bs → Calls Try.prog 37 #[.agg #[.int .i64 0,.int .i64 0,.int .i64 ttl,.bool true,.int .u64 sh,.int .u64 sl,.bool true,.int .u64 dh,.int .u64 dl,.slice none 0 0,.int .i64 17],.slice A2 n2 k2] V (MkP e2 out V))) :
    Calls Try.prog 26 #[.agg #[.int .i64 17,.bool s6,.int .u64 sh,.int .u64 sl,.bool s6,.int .u64 dh,.int .u64 dl,.int .i64 sp,.int .i64 dp],.int .i64 ttl,.slice A n c] w (MkP e2 out w) := by
  have hl := h.len
  have hp40:ps.length ≤ 1000 := by rw [hps]; have := psd_len s6 sh sl dh dl 17 (8 + (pl.length:Int)); omega
  have HPS := fun V => psd_any s6 sh sl s6 dh dl 17 (8 + (n:Int)) V b1 b2 b3 b4 (by omega) (by omega)
  rw [← hl] at HPS
  rw [← hps] at HPS
  refine dgram_go s6 sh sl dh dl sp dp ttl A n c _ _ w (by omega) (Lib.hid fun V c1 c2 hV k1 k2 => ?_)
  have HC:∀ W A2 n2 cc2,Below V.heap.size V W → Sl W A2 n2 cc2 ps → Calls Try.prog 62 #[.slice A2 n2 cc2,.pointer (some ⟨c1,0,none⟩),.pointer (some ⟨c2,0,none⟩)] W (MkP e bs W) := fun W A2 n2 cc2 hW hs => by
    have h9 := udp_bytes sp dp A A2 n c n2 cc2 pl ps W (h.below (hV.trans (hW.mono hV.size))) hs (by omega) (by have := hs.len; omega)
    rw [hM] at h9
    exact dg_closure 17 s6 sh sl s6 dh dl sp dp c1 c2 A A2 n c n2 cc2 e bs W (k1.below hW k1.lt) (k2.below hW k2.lt) (Lib.hid h9)
  rw [← hl]
  rcases HB with ⟨he,rfl,rfl⟩ | ⟨rfl,rfl,HB⟩ | ⟨rfl,rfl,HB⟩
  · exact whole_dg_bad 17 s6 sh sl s6 dh dl sp dp ttl _ c1 c2 ps bs e2 he V (Lib.hid fun W hW => HPS W) (Lib.hid HC)
  · exact whole_dg_four 17 sh sl false dh dl sp dp ttl _ c1 c2 ps bs _ _ V (Lib.hid fun W hW => HPS W) (Lib.hid HC) (Lib.hid fun W A2 n2 k2 hW hs => HB W A2 n2 k2 (hV.trans (hW.mono hV.size)) hs)
  · exact whole_dg_six 17 sh sl true dh dl sp dp ttl _ c1 c2 ps bs _ _ V (Lib.hid fun W hW => HPS W) (Lib.hid HC) (Lib.hid fun W A2 n2 k2 hW hs => HB W A2 n2 k2 (hV.trans (hW.mono hV.size)) hs)
theorem dgram_made (pr:Int) (s6:Bool) (sh sl:Int) (d6:Bool) (dh dl sp dp ttl fl:Int) (pl:List Int) (hn:pl.length ≤ 500) (hu:U8 pl) (b1:0 ≤ sh∧sh < 18446744073709551616) (b2:0 ≤ sl∧sl < 18446744073709551616) (b3:0 ≤ dh∧dh < 18446744073709551616) (b4:0 ≤ dl∧dl < 18446744073709551616) (hm:Made pr s6 sh sl d6 dh dl sp dp ttl 0 17) :
    ∃ B:List Int,B.length = (if s6 = true then 40 else 20) + 8 + pl.length∧B.drop ((if s6 = true then 40 else 20) + 8) = pl∧pkP B = (⟨s6,⟨pr,s6,sh,sl,d6,dh,dl,sp,dp⟩,ttl,0,false,zeroT,(B.length:Int)⟩,0)∧∀ (A:Option Addr) (n c:Nat) (w:World),Sl w A n c pl →
      Calls Try.prog 26 #[.agg #[.int .i64 pr,.bool s6,.int .u64 sh,.int .u64 sl,.bool d6,.int .u64 dh,.int .u64 dl,.int .i64 sp,.int .i64 dp],.int .i64 ttl,.slice A n c] w (MkP 0 B w) := by
  obtain ⟨rfl,rfl,ht,hp,hf,ha⟩ := hm
  obtain ⟨ps,hps⟩:∃ ps,ps = psd s6 sh sl dh dl 17 (8 + (pl.length:Int)) := ⟨_,rfl⟩
  obtain ⟨bs,hbs⟩:∃ bs,bs = udpB.ub sp dp pl (udpB.chkZ (ps ++ udpB.ub sp dp pl 0)) := ⟨_,rfl⟩
  have hM:udpM sp dp pl ps = (0,bs) := by unfold udpM; rw [if_pos hp,hbs]
  have hPA := fun v6 d6 sz => udp_parse v6 s6 sh sl d6 dh dl sp dp ttl sz pl hp (by omega) hu bs (by rw [hbs,hps])
  have hlb:bs.length = 8 + pl.length := by
    rw [hbs]
    exact udpB.ub_len _ _ _ _
  have hdb:bs.drop 8 = pl := by
    rw [hbs]
    rfl
  cases s6 with
  | false =>
    obtain ⟨rfl,rfl,hs,hd⟩:sh = 0∧dh = 0∧sl < 4294967296∧dl < 4294967296 := by
      rcases ha with ha | ha
      · cases ha
      · exact ha
    refine ⟨mkB4 ttl 17 sl dl bs,by rw [mk4_len,hlb,if_neg (by decide)]; omega,?_,?_,fun A n c w h => ?_⟩
    · rw [if_neg (by decide),← List.drop_drop,mk4_drop,hdb]
    · rw [mk4_parse ttl 17 sl dl bs ht (by omega) ⟨b2.1,by omega⟩ ⟨b4.1,by omega⟩ (by omega),hPA false false,mk4_len]
      rfl
    · refine dgram_with false 0 sl 0 dl sp dp ttl fl A n c pl w h (by have := h.len; omega) b1 b2 b3 b4 ps hps 0 0 bs _ hM (.inr (.inl ⟨rfl,rfl,fun V A2 n2 k2 hV hs2 => ?_⟩))
      have h9 := four_bytes ttl 17 0 sl false 0 dl A2 n2 k2 bs V hs2 (by have := hs2.len; omega) b2.1 b4.1
      unfold fourM at h9
      rw [if_pos ⟨ht,by omega,⟨rfl,by omega⟩,rfl,rfl,by omega⟩] at h9
      exact h9
  | true =>
    obtain ⟨m1,m2⟩ := mk6_parse ttl 17 sh sl dh dl bs ht (by omega) (by decide) b1 b2 b3 b4 (by omega)
    refine ⟨mkB6 ttl 17 sh sl dh dl bs,by rw [m2,hlb,if_pos rfl]; omega,?_,?_,fun A n c w h => ?_⟩
    · rw [if_pos rfl,← List.drop_drop,mk6_drop,hdb]
    · rw [m1,hPA true true,m2]
      rfl
    · refine dgram_with true sh sl dh dl sp dp ttl fl A n c pl w h (by have := h.len; omega) b1 b2 b3 b4 ps hps 0 0 bs _ hM (.inr (.inr ⟨rfl,rfl,fun V A2 n2 k2 hV hs2 => ?_⟩))
      exact six_bytes ttl 17 sh sl dh dl A2 n2 k2 bs V hs2 (by have := hs2.len; omega) ht (by omega) (by decide) b1 b2 b3 b4
end Go.Proofs.Ytodckfgfbcnkoaa.pktS
