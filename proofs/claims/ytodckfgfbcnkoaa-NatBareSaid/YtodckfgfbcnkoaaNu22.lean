/- 6 texts in one. -/
import Derived.Laws.CopyRow
import Derived.Deep.RegionHeld3
import Derived.Test.YtodckfgfbcnkoaaNu03
import Derived.Test.YtodckfgfbcnkoaaNu19
import Derived.Test.YtodckfgfbcnkoaaNu21
/- Layer 14: a time to live that is one less. -/
namespace Go.Proofs.Ytodckfgfbcnkoaa.tunH
open Go.ChangeShapes Go.WideShapes Go.ChangeAt Go.RowKit
open base octA octF rdrA rdrG sumB sixW sixM pktA pktB pktD
set_option linter.unusedVariables false
theorem copy_run (W:World) (g o d dc:Nat) (xs ys:List Int) (A:Option Addr) (n c k:Nat) (hg:Blk W g 5 (xs.map (Value.int .u8)).toArray) (hs:Sl W A n c ys) (hk:k=min n d) (h0:0<k) (hfit:o+k≤xs.length) :
    ∃ W',(Builtin.copy_ #[22,22] 3 #[.slice (some ⟨g,o,none⟩) d dc,.slice A n c]).run Try.prog W=.ok (.int .i64 k) W'∧Blk W' g 5 ((splice xs o (ys.take k)).map (Value.int .u8)).toArray∧OnlyG g W W':=by
  have hl:=hs.len
  obtain ⟨b,off,rfl,hb,hc⟩:=lies_of hs.row (by omega)
  have hlk:((ys.take k).map (Value.int .u8)).length=k:=by rw [List.length_map,List.length_take]; omega
  have h:=run_copy_row (P:=Try.prog) W 22 22 3 5 g o d dc ⟨b,off,none⟩ n c (xs.map (Value.int .u8)).toArray 5 ((ys.take k).map (Value.int .u8)) Try.underlying22 octF.info1 hg (by rw [hlk]; exact hk) (fun j v hv=>by
    rw [Addr.add_lit,List.getElem?_map,List.getElem?_take] at *
    split at hv
    · rename_i hj
      rw [hc j (by omega)]
      rw [List.getD_eq_getElem?_getD,List.getElem?_eq_getElem (by omega)]
      rw [List.getElem?_eq_getElem (by omega)] at hv
      exact hv
    · cases hv) (by rw [hlk,List.size_toArray,List.length_map]; exact hfit) (by
    intro v hv
    rw [List.mem_map] at hv
    obtain ⟨x,_,rfl⟩:=hv
    rfl)
  rw [hlk] at h
  have e:((xs.map (Value.int .u8)).toArray.toList.take o++(ys.take k).map (Value.int .u8)++(xs.map (Value.int .u8)).toArray.toList.drop (o+k))=(splice xs o (ys.take k)).map (Value.int .u8):=by
    have hl2:(ys.take k).length=k:=by rw [List.length_take]; omega
    unfold splice
    simp [List.map_take,List.map_drop,hl2]
  rw [e] at h
  exact ⟨_,h,blkRow hg _,onlyRow _⟩
theorem Sl_blk {w:World} {g n:Nat} {xs:List Int} (h:Blk w g 5 (xs.map (Value.int .u8)).toArray) (hl:xs.length=n) (hu:U8 xs) (hn:n≤1000000):Sl w (some ⟨g,0,none⟩) n n xs:=by
  refine ⟨hl,?_,Nat.le_refl _,by omega,(fun h=>by cases h),hu⟩
  have:=sumC.row_blk h
  simpa using this
theorem splice_full (xs ys:List Int) (h:xs.length=ys.length):splice xs 0 ys=ys:=by
  unfold splice
  rw [List.take_zero,List.nil_append,Nat.zero_add,← h,List.drop_length,List.append_nil]
end Go.Proofs.Ytodckfgfbcnkoaa.tunH
/- Layer 15: checks that are turned by words, words put into bytes: plain words. -/
namespace Go.Proofs.Ytodckfgfbcnkoaa.natW
open Go.ChangeShapes Go.WideShapes Go.ChangeAt Go.RowKit
open base octA sumA sumB sumD sumE sixW sixM pktB tunV
set_option linter.unusedVariables false
def W16 (l:List Int):Prop:=∀ x ∈ l,0≤x∧x≤65535
theorem turn_cong (c f t:Int) (c0:0≤c) (c9:c≤65535) (f0:0≤f) (f9:f≤65535) (t0:0≤t) (t9:t≤65535):0≤turn c f t∧turn c f t≤65535∧(turn c f t - (c+f - t)) % 65535=0:=by
  have h1:=fo_mod (n:=65535 - c+(65535 - f)+t) (by omega)
  have h2:=fo_bd (65535 - c+(65535 - f)+t) (by omega)
  unfold turn
  generalize fo (65535 - c+(65535 - f)+t)=k at *
  omega
theorem turns_cong:∀ (fs ts:List Int) (c:Int),fs.length=ts.length→0≤c→c≤65535→W16 fs→W16 ts→0≤turns c fs ts∧turns c fs ts≤65535∧(turns c fs ts - (c+fs.sum - ts.sum)) % 65535=0
  | [],[],c,_,c0,c9,_,_=>⟨c0,c9,by show (c - (c+0 - 0)) % 65535=0; omega⟩
  | f::fs,t::ts,c,h,c0,c9,hf,ht=>by
    obtain ⟨f0,f9⟩:=hf f (by simp)
    obtain ⟨t0,t9⟩:=ht t (by simp)
    obtain ⟨a1,a2,a3⟩:=turn_cong c f t c0 c9 f0 f9 t0 t9
    obtain ⟨b1,b2,b3⟩:=turns_cong fs ts (turn c f t) (by simpa using h) a1 a2 (fun x hx=>hf x (by simp [hx])) (fun x hx=>ht x (by simp [hx]))
    refine ⟨b1,b2,?_⟩
    show (turns (turn c f t) fs ts - (c+(f::fs).sum - (t::ts).sum)) % 65535=0
    rw [List.sum_cons,List.sum_cons]
    generalize turns (turn c f t) fs ts=x at *
    generalize turn c f t=y at *
    omega
  | [],_::_,_,h,_,_,_,_=>by cases h
  | _::_,[],_,h,_,_,_,_=>by cases h
theorem full_of {W:Int} (h:0<W) (m:W % 65535=0):fo W=65535:=by
  unfold fo
  rw [if_neg (by omega)]
  omega
theorem full_is {W:Int} (h0:0≤W) (h:fo W=65535):W % 65535=0:=by
  have:=fo_mod h0
  omega
def setws:List Int→Nat→List Int→List Int
  | l,_,[]=>l
  | l,p,v::vs=>setws (setw l p v) (p+2) vs
def wat (l:List Int):Nat→Nat→List Int
  | _,0=>[]
  | p,n+1=>udpA.w16 l p::wat l (p+2) n
theorem setws_len:∀ (vs l:List Int) (p:Nat),(setws l p vs).length=l.length
  | [],l,p=>rfl
  | v::vs,l,p=>by show (setws (setw l p v) (p+2) vs).length=_; rw [setws_len vs,setw_len]
theorem setws_get:∀ (vs l:List Int) (p i:Nat),p+2*vs.length≤l.length→i<p∨p+2*vs.length≤i→(setws l p vs).getD i 0=l.getD i 0
  | [],l,p,i,_,_=>rfl
  | v::vs,l,p,i,h,k=>by
    rw [List.length_cons] at h k
    show (setws (setw l p v) (p+2) vs).getD i 0=_
    rw [setws_get vs _ _ _ (by rw [setw_len]; omega) (by omega),setw_get _ _ _ _ (by omega),if_neg (by omega),if_neg (by omega)]
theorem setws_w16 (vs l:List Int) (p i:Nat) (h:p+2*vs.length≤l.length) (k:i+1<p∨p+2*vs.length≤i):udpA.w16 (setws l p vs) i=udpA.w16 l i:=by
  unfold udpA.w16
  rw [setws_get vs l p i h (by omega),setws_get vs l p (i+1) h (by omega)]
theorem wat_len (l:List Int):∀ (n p:Nat),(wat l p n).length=n
  | 0,p=>rfl
  | n+1,p=>by show (wat l (p+2) n).length+1=_; rw [wat_len l n]
theorem wat_eq {l m:List Int}:∀ (n p:Nat),(∀ i,p≤i→i<p+2*n→l.getD i 0=m.getD i 0)→wat l p n=wat m p n
  | 0,p,_=>rfl
  | n+1,p,h=>by
    show udpA.w16 l p::wat l (p+2) n=udpA.w16 m p::wat m (p+2) n
    rw [wat_eq n (p+2) (fun i a b=>h i (by omega) (by omega))]
    unfold udpA.w16
    rw [h p (by omega) (by omega),h (p+1) (by omega) (by omega)]
theorem wat_setws:∀ (vs l:List Int) (p:Nat),p+2*vs.length≤l.length→wat (setws l p vs) p vs.length=vs
  | [],l,p,_=>rfl
  | v::vs,l,p,h=>by
    rw [List.length_cons] at h ⊢
    show udpA.w16 (setws (setw l p v) (p+2) vs) p::wat (setws (setw l p v) (p+2) vs) (p+2) vs.length=_
    rw [wat_setws vs _ _ (by rw [setw_len]; omega),setws_w16 vs _ _ _ (by rw [setw_len]; omega) (by omega),w16_setw _ _ _ (by omega)]
theorem wat_w16 {l:List Int} (hu:U8 l):∀ (n p:Nat),W16 (wat l p n)
  | 0,p=>fun x hx=>by cases hx
  | n+1,p=>fun x hx=>by
    rcases List.mem_cons.mp hx with rfl | h
    · have a:=hu.get p
      have b:=hu.get (p+1)
      unfold udpA.w16
      omega
    · exact wat_w16 hu n (p+2) x h
theorem setws_u8:∀ (vs:List Int) {l:List Int} (p:Nat),U8 l→W16 vs→U8 (setws l p vs)
  | [],l,p,h,_=>h
  | v::vs,l,p,h,k=>setws_u8 vs (p+2) (setw_u8 h p v (k v (by simp)).1 (k v (by simp)).2) fun x hx=>k x (by simp [hx])
theorem wsum_setws:∀ (vs l:List Int) (k:Nat),2*k+2*vs.length≤l.length→wsum (setws l (2*k) vs)=wsum l - (wat l (2*k) vs.length).sum+vs.sum
  | [],l,k,_=>by show wsum l=wsum l - 0+0; omega
  | v::vs,l,k,h=>by
    rw [List.length_cons] at h ⊢
    have e:=wsum_setws vs (setw l (2*k) v) (k+1) (by rw [setw_len]; omega)
    have e2:wat (setw l (2*k) v) (2*(k+1)) vs.length=wat l (2*(k+1)) vs.length:=wat_eq _ _ fun i a b=>by
      rw [setw_get _ _ _ _ (by omega),if_neg (by omega),if_neg (by omega)]
    rw [e2,wsum_setw l k v (by omega)] at e
    show wsum (setws (setw l (2*k) v) (2*k+2) vs)=wsum l - (udpA.w16 l (2*k)::wat l (2*k+2) vs.length).sum+(v::vs).sum
    rw [List.sum_cons,List.sum_cons]
    rw [show 2*(k+1)=2*k+2 from rfl] at e
    omega
theorem setws_take:∀ (vs l:List Int) (p n:Nat),(setws l p vs).take n=setws (l.take n) p vs
  | [],l,p,n=>rfl
  | v::vs,l,p,n=>by
    show (setws (setw l p v) (p+2) vs).take n=setws (setw (l.take n) p v) (p+2) vs
    rw [setws_take vs,setw_take]
theorem setws_drop:∀ (vs l:List Int) (p n:Nat),p+2*vs.length≤n→(setws l p vs).drop n=l.drop n
  | [],l,p,n,_=>rfl
  | v::vs,l,p,n,h=>by
    rw [List.length_cons] at h
    show (setws (setw l p v) (p+2) vs).drop n=_
    rw [setws_drop vs _ _ _ (by omega),setw_drop _ _ _ _ (by omega)]
theorem set_drop2 (l:List Int) (p n:Nat) (v:Int):(l.set (n+p) v).drop n=(l.drop n).set p v:=by
  apply List.ext_getElem?
  intro i
  rw [List.getElem?_drop,List.getElem?_set,List.getElem?_set,List.getElem?_drop,List.length_drop]
  by_cases e:p=i
  · rw [if_pos e,if_pos (by omega)]
    by_cases a:n+p<l.length
    · rw [if_pos a,if_pos (by omega)]
    · rw [if_neg a,if_neg (by omega)]
  · rw [if_neg e,if_neg (by omega)]
theorem setw_drop2 (l:List Int) (p n:Nat) (v:Int):(setw l (n+p) v).drop n=setw (l.drop n) p v:=by
  unfold setw
  rw [show n+p+1=n+(p+1) from rfl,set_drop2,set_drop2]
def wbytes:List Int→List Int
  | []=>[]
  | v::vs=>v / 256::v % 256::wbytes vs
theorem wbytes_len:∀ (vs:List Int),(wbytes vs).length=2*vs.length
  | []=>rfl
  | v::vs=>by show (wbytes vs).length+1+1=_; rw [wbytes_len vs,List.length_cons]; omega
theorem splice_words:∀ (vs l:List Int) (p:Nat),p+2*vs.length≤l.length→l.take p++wbytes vs++l.drop (p+2*vs.length)=setws l p vs
  | [],l,p,_=>by show l.take p++[]++l.drop (p+0)=l; rw [List.append_nil,Nat.add_zero,List.take_append_drop]
  | v::vs,l,p,h=>by
    rw [List.length_cons] at h ⊢
    have e:=splice_words vs (setw l p v) (p+2) (by rw [setw_len]; omega)
    show _=setws (setw l p v) (p+2) vs
    rw [← e,setw_take,setw_drop _ _ _ _ (by omega),show p+2*(vs.length+1)=p+2+2*vs.length by omega]
    congr 1
    show l.take p++(v / 256::v % 256::wbytes vs)=setw (l.take (p+2)) p v++wbytes vs
    have e2:setw (l.take (p+2)) p v=l.take p++[v / 256,v % 256]:=by
      obtain ⟨a,b,z,hz⟩:∃ a b z,l.drop p=a::b::z:=by
        have hd:2≤(l.drop p).length:=by rw [List.length_drop]; omega
        match l.drop p,hd with
        | a::b::z,_=>exact ⟨a,b,z,rfl⟩
      have et:l.take (p+2)=l.take p++[a,b]:=by
        rw [List.take_add,hz]
        rfl
      have lp:(l.take p).length=p:=by rw [List.length_take]; omega
      rw [et]
      unfold setw
      rw [List.set_append_right _ _ (by omega),List.set_append_right _ _ (by omega),lp,Nat.sub_self,show p+1 - p=1 by omega]
      rfl
    rw [e2,List.append_assoc]
    rfl
def aw (v6:Bool) (h l:Int):List Int:=if v6 then words h 4 4++words l 4 4 else words l 2 2
def ab (v6:Bool) (h l:Int):List Int:=if v6 then pb h 8 8++pb l 8 8 else pb l 4 4
theorem words4 (n:Int):words n 4 4=[n / 281474976710656 % 65536,n / 4294967296 % 65536,n / 65536 % 65536,n / 1 % 65536]:=rfl
theorem words2 (n:Int):words n 2 2=[n / 65536 % 65536,n / 1 % 65536]:=rfl
theorem pb8 (n:Int):pb n 8 8=[n / 72057594037927936 % 256,n / 281474976710656 % 256,n / 1099511627776 % 256,n / 4294967296 % 256,n / 16777216 % 256,n / 65536 % 256,n / 256 % 256,n / 1 % 256]:=rfl
theorem pb4 (n:Int):pb n 4 4=[n / 16777216 % 256,n / 65536 % 256,n / 256 % 256,n / 1 % 256]:=rfl
theorem pb2 (n:Int):pb n 2 2=[n / 256 % 256,n / 1 % 256]:=rfl
theorem aw_len (v6:Bool) (h l:Int):(aw v6 h l).length=if v6 then 8 else 2:=by cases v6 <;> rfl
theorem aw_in (v6:Bool) (h l:Int):W16 (aw v6 h l):=by
  intro x hx
  have key:∀ n:Int,(∀ x ∈ words n 4 4,0≤x∧x≤65535)∧(∀ x ∈ words n 2 2,0≤x∧x≤65535):=fun n=>by
    rw [words4,words2]
    constructor
    · intro x hx
      simp only [List.mem_cons,List.not_mem_nil,or_false] at hx
      omega
    · intro x hx
      simp only [List.mem_cons,List.not_mem_nil,or_false] at hx
      omega
  cases v6 with
  | true =>
    rcases List.mem_append.mp (show x ∈ words h 4 4++words l 4 4 from hx) with k | k
    · exact (key h).1 x k
    · exact (key l).1 x k
  | false=>exact (key l).2 x hx
theorem wb8 (n:Int):pb n 8 8=wbytes (words n 4 4):=by
  rw [words4,pb8]
  simp only [wbytes,List.cons.injEq,and_true]
  omega
theorem ab_words (v6:Bool) (h l:Int):ab v6 h l=wbytes (aw v6 h l):=by
  cases v6 with
  | false =>
    show pb l 4 4=wbytes (words l 2 2)
    rw [words2,pb4]
    simp only [wbytes,List.cons.injEq,and_true]
    omega
  | true =>
    show pb h 8 8++pb l 8 8=wbytes (words h 4 4++words l 4 4)
    rw [wb8,wb8,words4,words4]
    rfl
end Go.Proofs.Ytodckfgfbcnkoaa.natW
/- Layer 15: segments whose checks are turned, packets with another side: plain words. -/
namespace Go.Proofs.Ytodckfgfbcnkoaa.natX
open Go.ChangeShapes Go.WideShapes Go.ChangeAt Go.RowKit
open octA sumA sumB sumD net sixW sixM pktA pktB pktC tunV natW
set_option linter.unusedVariables false
def portR (R:List Int) (s:Nat) (port:Int):List Int:=setw R (2*s) port
def tcpR (R fs ts:List Int) (s:Nat) (port:Int):List Int:=setw (portR R s port) 16 (turns (udpA.w16 R 16) (fs++[udpA.w16 R (2*s)]) (ts++[port]))
def chk0 (c:Int):Int:=if c=0 then 65535 else c
def udpR (R fs ts:List Int) (s:Nat) (port:Int):List Int:=if udpA.w16 R 6=0 then portR R s port else setw (portR R s port) 6 (chk0 (turns (udpA.w16 R 6) (fs++[udpA.w16 R (2*s)]) (ts++[port])))
theorem sum_snoc (l:List Int) (x:Int):(l++[x]).sum=l.sum+x:=by
  induction l with
  | nil=>show x+0=0+x; omega
  | cons a l ih=>show a+(l++[x]).sum=a+l.sum+x; rw [ih]; omega
theorem w16_snoc {l:List Int} (h:W16 l) {x:Int} (x0:0≤x) (x9:x≤65535):W16 (l++[x]):=fun y hy=>by
  rcases List.mem_append.mp hy with k | k
  · exact h y k
  · rw [List.mem_singleton.mp k]; exact ⟨x0,x9⟩
theorem port_w (R:List Int) (s:Nat) (port:Int) (hs:s≤1) (h4:8≤R.length):udpA.w16 (portR R s port) 0=(if s=0 then port else udpA.w16 R 0)∧udpA.w16 (portR R s port) 2=(if s=0 then udpA.w16 R 2 else port)∧(∀ i,4≤i→(portR R s port).getD i 0=R.getD i 0)∧(portR R s port).length=R.length:=by
  unfold portR
  have hg:∀ i,4≤i→(setw R (2*s) port).getD i 0=R.getD i 0:=fun i hi=>by rw [setw_get _ _ _ _ (by omega),if_neg (by omega),if_neg (by omega)]
  rcases Nat.lt_or_ge s 1 with k | k
  · obtain rfl:s=0:=by omega
    exact ⟨by rw [if_pos rfl]; exact w16_setw R 0 port (by omega),by rw [if_pos rfl]; exact w16_set R 0 port 2 (by omega) (by omega),hg,setw_len _ _ _⟩
  · obtain rfl:s=1:=by omega
    exact ⟨by rw [if_neg (by omega)]; exact w16_set R 2 port 0 (by omega) (by omega),by rw [if_neg (by omega)]; exact w16_setw R 2 port (by omega),hg,setw_len _ _ _⟩
theorem sum_again (R ps ps' fs ts:List Int) (s ck:Nat) (port C:Int) (hs:s≤1) (hck:2≤ck) (hlen:2*ck+1<R.length) (hR:U8 R) (hp:U8 ps) (hp':U8 ps') (n:Nat) (hn:ps.length=2*n) (hn':ps'.length=2*n)
    (h:fo (wsum (ps++R))=65535) (e:wsum ps'=wsum ps - fs.sum+ts.sum) (hpos:0<wsum ps') (p0:0≤port) (p9:port≤65535) (hC0:0≤C) (hC9:C≤65535) (hC:(C - (udpA.w16 R (2*ck)+(fs.sum+udpA.w16 R (2*s)) - (ts.sum+port))) % 65535=0) :
    fo (wsum (ps'++setw (portR R s port) (2*ck) C))=65535:=by
  have e1:=wsum_app n ps R hn
  have e2:=wsum_app n ps' (setw (portR R s port) (2*ck) C) hn'
  have e3:=wsum_setw (portR R s port) ck C (by unfold portR; rw [setw_len]; omega)
  have e4:=wsum_setw R s port (by omega)
  have e5:udpA.w16 (portR R s port) (2*ck)=udpA.w16 R (2*ck):=w16_set R (2*s) port (2*ck) (by omega) (by omega)
  have hw:0≤wsum (ps++R):=(wsum_bd _ (hp.join hR)).1
  have hm:=full_is hw h
  have hu':U8 (setw (portR R s port) (2*ck) C):=setw_u8 (setw_u8 hR _ _ p0 p9) _ _ hC0 hC9
  have hw':=(wsum_bd _ hu').1
  rw [e2]
  unfold portR at e3 e5 hw' ⊢
  rw [e3,e5,e4] at hw' ⊢
  rw [e1] at hm
  exact full_of (by omega) (by omega)
theorem tcp_again (R ps ps' fs ts:List Int) (s:Nat) (port:Int) (hs:s≤1) (hR:U8 R) (hp:U8 ps) (hp':U8 ps') (n:Nat) (hn:ps.length=2*n) (hn':ps'.length=2*n) (hE:tcpE R ps=0)
    (e:wsum ps'=wsum ps - fs.sum+ts.sum) (hpos:0<wsum ps') (p0:0≤port) (p9:port≤65535) (hfl:fs.length=ts.length) (hf:W16 fs) (ht:W16 ts) :
    tcpE (tcpR R fs ts s port) ps'=0∧udpA.w16 (tcpR R fs ts s port) 0=(if s=0 then port else udpA.w16 R 0)∧udpA.w16 (tcpR R fs ts s port) 2=(if s=0 then udpA.w16 R 2 else port)∧(tcpR R fs ts s port).getD 13 0=R.getD 13 0∧(tcpR R fs ts s port).length=R.length∧U8 (tcpR R fs ts s port)∧20≤R.length:=by
  have h20:20≤R.length∧¬ (R.getD 12 0 / 16*4<20∨(R.length:Int)<R.getD 12 0 / 16*4∨R.getD 12 0 % 16≠0)∧fo (wsum (ps++R))=65535:=by
    unfold tcpE at hE
    split at hE
    · omega
    · split at hE
      · omega
      · split at hE
        · omega
        · exact ⟨by omega,‹_›,by omega⟩
  obtain ⟨h20,hoff,hfo⟩:=h20
  have w0:=udpA.w16_in R hR (2*s)
  have w16i:=udpA.w16_in R hR 16
  obtain ⟨c0,c9,cm⟩:=turns_cong (fs++[udpA.w16 R (2*s)]) (ts++[port]) (udpA.w16 R 16) (by rw [List.length_append,List.length_append,hfl]; rfl) w16i.1 w16i.2 (w16_snoc hf w0.1 w0.2) (w16_snoc ht p0 p9)
  rw [sum_snoc,sum_snoc] at cm
  have hsum:=sum_again R ps ps' fs ts s 8 port _ hs (by omega) (by omega) hR hp hp' n hn hn' hfo e hpos p0 p9 c0 c9 cm
  obtain ⟨q1,q2,q3,q4⟩:=port_w R s port hs (by omega)
  have hl16:16+1<(portR R s port).length:=by omega
  have hlen:(tcpR R fs ts s port).length=R.length:=by unfold tcpR; rw [setw_len,q4]
  have g:∀ i,4≤i→i<16→(tcpR R fs ts s port).getD i 0=R.getD i 0:=fun i a b=>by
    unfold tcpR
    rw [setw_get _ _ _ _ hl16,if_neg (by omega),if_neg (by omega),q3 i a]
  refine ⟨?_,?_,?_,g 13 (by omega) (by omega),hlen,setw_u8 (setw_u8 hR _ _ p0 p9) _ _ c0 c9,h20⟩
  · unfold tcpE
    rw [hlen,g 12 (by omega) (by omega),if_neg (by omega),if_neg hoff]
    exact if_neg (by rw [show tcpR R fs ts s port=setw (portR R s port) (2*8) _ from rfl,hsum]; omega)
  · unfold tcpR
    rw [w16_set _ _ _ _ hl16 (by omega),q1]
  · unfold tcpR
    rw [w16_set _ _ _ _ hl16 (by omega),q2]
theorem udp_again (R ps ps' fs ts:List Int) (bare:Bool) (s:Nat) (port:Int) (hs:s≤1) (hR:U8 R) (hp:U8 ps) (hp':U8 ps') (n:Nat) (hn:ps.length=2*n) (hn':ps'.length=2*n) (hE:udpE_ R ps bare=0)
    (e:wsum ps'=wsum ps - fs.sum+ts.sum) (hpos:0<wsum ps') (p0:0≤port) (p9:port≤65535) (hfl:fs.length=ts.length) (hf:W16 fs) (ht:W16 ts) :
    udpE_ (udpR R fs ts s port) ps' bare=0∧udpA.w16 (udpR R fs ts s port) 0=(if s=0 then port else udpA.w16 R 0)∧udpA.w16 (udpR R fs ts s port) 2=(if s=0 then udpA.w16 R 2 else port)∧(udpR R fs ts s port).length=R.length∧U8 (udpR R fs ts s port)∧8≤R.length:=by
  have h8:8≤R.length∧udpA.w16 R 4=R.length∧(udpA.w16 R 6=0→bare=true)∧(udpA.w16 R 6≠0→fo (wsum (ps++R))=65535):=by
    unfold udpE_ at hE
    split at hE
    · omega
    · split at hE
      · omega
      · split at hE
        · omega
        · rename_i a b c
          refine ⟨by omega,by omega,fun k=>?_,fun k=>?_⟩
          · cases hb:bare with
            | true=>rfl
            | false=>exact absurd (.inl ⟨k,hb⟩) c
          · exact Classical.byContradiction fun k2=>c (.inr ⟨k,k2⟩)
  obtain ⟨h8,hln,hb0,hfo⟩:=h8
  have w0:=udpA.w16_in R hR (2*s)
  have w6:=udpA.w16_in R hR 6
  obtain ⟨q1,q2,q3,q4⟩:=port_w R s port hs h8
  have q16:∀ i,4≤i→udpA.w16 (portR R s port) i=udpA.w16 R i:=fun i hi=>by unfold udpA.w16; rw [q3 i hi,q3 (i+1) (by omega)]
  by_cases hz:udpA.w16 R 6=0
  · rw [show udpR R fs ts s port=portR R s port from if_pos hz]
    refine ⟨?_,q1,q2,q4,setw_u8 hR _ _ p0 p9,h8⟩
    unfold udpE_
    rw [q4,q16 4 (by omega),q16 6 (by omega),if_neg (by omega),if_neg (by omega)]
    exact if_neg (by rintro (⟨_,k⟩ | ⟨k,_⟩); · rw [hb0 hz] at k; cases k
                     · exact k hz)
  · rw [show udpR R fs ts s port=setw (portR R s port) 6 (chk0 (turns (udpA.w16 R 6) (fs++[udpA.w16 R (2*s)]) (ts++[port]))) from if_neg hz]
    obtain ⟨c0,c9,cm⟩:=turns_cong (fs++[udpA.w16 R (2*s)]) (ts++[port]) (udpA.w16 R 6) (by rw [List.length_append,List.length_append,hfl]; rfl) w6.1 w6.2 (w16_snoc hf w0.1 w0.2) (w16_snoc ht p0 p9)
    rw [sum_snoc,sum_snoc] at cm
    generalize turns (udpA.w16 R 6) (fs++[udpA.w16 R (2*s)]) (ts++[port])=c at *
    obtain ⟨d0,d9,dn,dm⟩:0≤chk0 c∧chk0 c≤65535∧chk0 c≠0∧(chk0 c - c) % 65535=0:=by
      unfold chk0
      split <;> omega
    generalize chk0 c=d at *
    have hsum:=sum_again R ps ps' fs ts s 3 port d hs (by omega) (by omega) hR hp hp' n hn hn' (hfo hz) e hpos p0 p9 d0 d9 (by show (d - (udpA.w16 R 6+(fs.sum+udpA.w16 R (2*s)) - (ts.sum+port))) % 65535=0; omega)
    have hl6:6+1<(portR R s port).length:=by omega
    refine ⟨?_,?_,?_,by rw [setw_len,q4],setw_u8 (setw_u8 hR _ _ p0 p9) _ _ d0 d9,h8⟩
    · unfold udpE_
      rw [setw_len,q4,w16_set _ _ _ _ hl6 (by omega),w16_setw _ _ _ hl6,q16 4 (by omega),if_neg (by omega),if_neg (by omega)]
      exact if_neg (by rintro (⟨k,_⟩ | ⟨_,k⟩); · exact dn k
                       · exact k hsum)
    · rw [w16_set _ _ _ _ hl6 (by omega),q1]
    · rw [w16_set _ _ _ _ hl6 (by omega),q2]
theorem psd4_sum (sl dl pr sz:Int) (hp:0≤pr) (hp9:pr≤255):wsum (psd4 sl dl pr sz)=(aw false 0 sl).sum+(aw false 0 dl).sum+pr+sz % 65536:=by
  have e:psd4 sl dl pr sz=[byteZ sl 3,byteZ sl 2,byteZ sl 1,byteZ sl 0,byteZ dl 3,byteZ dl 2,byteZ dl 1,byteZ dl 0,byteZ 0 0,byteZ pr 0,byteZ sz 1,byteZ sz 0]:=rfl
  rw [e,show aw false 0 sl=[sl / 65536 % 65536,sl / 1 % 65536] from rfl,show aw false 0 dl=[dl / 65536 % 65536,dl / 1 % 65536] from rfl]
  simp only [wsum,List.sum_cons,List.sum_nil]
  unfold byteZ
  omega
theorem wsum_words:∀ (ws z:List Int),wsum (wbytes ws++z)=ws.sum+wsum z
  | [],z=>by show wsum z=0+wsum z; omega
  | v::ws,z=>by
    show 256*(v / 256)+v % 256+wsum (wbytes ws++z)=(v::ws).sum+wsum z
    rw [wsum_words ws z,List.sum_cons]
    omega
theorem psd6_sum (sh sl dh dl pr sz:Int) (hp:0≤pr) (hp9:pr≤255) (hz:0≤sz) (hz9:sz<4294967296):wsum (psd6 sh sl dh dl pr sz)=(aw true sh sl).sum+(aw true dh dl).sum+pr+(sz / 65536+sz % 65536):=by
  have e:psd6 sh sl dh dl pr sz=wbytes (aw true sh sl)++(wbytes (aw true dh dl)++(pb sz 4 4++pb pr 4 4)):=by
    rw [← ab_words,← ab_words]
    show (pb sh 8 8++(pb sl 8 8++(pb dh 8 8++(pb dl 8 8++[]))))++pb sz 4 4++pb pr 4 4=(pb sh 8 8++pb sl 8 8)++((pb dh 8 8++pb dl 8 8)++(pb sz 4 4++pb pr 4 4))
    simp only [List.append_assoc,List.append_nil]
  rw [e,wsum_words,wsum_words,pb4,pb4]
  simp only [List.cons_append,List.nil_append,wsum]
  omega
end Go.Proofs.Ytodckfgfbcnkoaa.natX
/- Layer 15: a packet with another side, parsed again: plain words. -/
namespace Go.Proofs.Ytodckfgfbcnkoaa.natY
open Go.ChangeShapes Go.WideShapes Go.ChangeAt Go.RowKit
open base octA sumB sumD sixW sixM pktA pktB pktC pktE tunV natW natX
set_option linter.unusedVariables false
theorem sum_in:∀ {l:List Int},W16 l→0≤l.sum
  | [],_=>by show (0:Int)≤0; omega
  | a::l,h=>by
    have h1:=(h a (by simp)).1
    have h2:=sum_in (l:=l) fun x hx=>h x (by simp [hx])
    rw [List.sum_cons]
    omega
def sdH (t:Tp) (s:Nat):Int:=if s=0 then t.sh else t.dh
def sdL (t:Tp) (s:Nat):Int:=if s=0 then t.sl else t.dl
def sdP (t:Tp) (s:Nat):Int:=if s=0 then t.sp else t.dp
def wsT (t:Tp) (s:Nat) (h l:Int):Tp:=if s=0 then { t with sh:=h,sl:=l } else { t with dh:=h,dl:=l }
def turnT (t:Tp) (s:Nat) (h l port:Int):Tp:=if s=0 then { t with sh:=h,sl:=l,sp:=port } else { t with dh:=h,dl:=l,dp:=port }
theorem psd_sum (v:Bool) (pr sz:Int) (hp:pr=6∨pr=17) (hz:0≤sz) (hz9:sz≤1000):∃ K:Int,0<K∧∀ sh sl dh dl,wsum (psd v sh sl dh dl pr sz)=(aw v sh sl).sum+(aw v dh dl).sum+K:=by
  cases v with
  | true =>
    refine ⟨pr+(sz / 65536+sz % 65536),by omega,fun sh sl dh dl=>?_⟩
    rw [show psd true sh sl dh dl pr sz=psd6 sh sl dh dl pr sz from rfl,psd6_sum sh sl dh dl pr sz (by omega) (by omega) (by omega) (by omega)]
    omega
  | false =>
    refine ⟨pr+sz % 65536,by omega,fun sh sl dh dl=>?_⟩
    have e:psd false sh sl dh dl pr sz=psd4 sl dl pr sz:=by unfold psd; rw [if_neg (by decide),if_neg (by omega)]
    rw [e,psd4_sum sl dl pr sz (by omega) (by omega)]
    show (aw false 0 sl).sum+(aw false 0 dl).sum+pr+sz % 65536=(aw false 0 sl).sum+(aw false 0 dl).sum+(pr+sz % 65536)
    omega
theorem psd_u8 (v:Bool) (sh sl dh dl pr sz:Int):U8 (psd v sh sl dh dl pr sz):=by
  unfold psd
  split
  · exact psd6_u8 _ _ _ _ _ _
  · split
    · intro x hx; cases hx
    · exact psd4_u8 _ _ _ _
theorem psd_even (v:Bool) (pr sz:Int) (hp:pr=6∨pr=17):∃ n,∀ sh sl dh dl,(psd v sh sl dh dl pr sz).length=2*n:=by
  cases v with
  | true=>exact ⟨20,fun sh sl dh dl=>psd6_len sh sl dh dl pr sz⟩
  | false =>
    refine ⟨6,fun sh sl dh dl=>?_⟩
    have e:psd false sh sl dh dl pr sz=psd4 sl dl pr sz:=by unfold psd; rw [if_neg (by decide),if_neg (by omega)]
    rw [e,psd4_len]
theorem with_inv {v:Bool} {t:Tp} {ttl sz:Int} {R:List Int} {P:Pk} (h:withP v t ttl sz R=(P,0)) (her:P.er=false) :
    (t.pr=6∧tcpE R (psd t.s6 t.sh t.sl t.dh t.dl t.pr R.length)=0∧P=⟨v,⟨t.pr,t.s6,t.sh,t.sl,t.d6,t.dh,t.dl,udpA.w16 R 0,udpA.w16 R 2⟩,ttl,R.getD 13 0,false,zeroT,sz⟩) ∨
    (t.pr=17∧udpE_ R (psd t.s6 t.sh t.sl t.dh t.dl t.pr R.length) (!v)=0∧P=⟨v,⟨t.pr,t.s6,t.sh,t.sl,t.d6,t.dh,t.dl,udpA.w16 R 0,udpA.w16 R 2⟩,ttl,0,false,zeroT,sz⟩):=by
  unfold withP at h
  split at h
  · rename_i h6
    split at h
    · rename_i k
      injection h with _ h
      exact absurd h k
    · rename_i k
      injection h with h _
      exact .inl ⟨h6,Classical.byContradiction k,h.symm⟩
  · split at h
    · rename_i h17
      split at h
      · rename_i k
        injection h with _ h
        exact absurd h k
      · rename_i k
        injection h with h _
        exact .inr ⟨h17,Classical.byContradiction k,h.symm⟩
    · split at h
      · split at h
        · rename_i k
          injection h with _ h
          exact absurd h k
        · injection h with h _
          rw [← h] at her
          cases her
      · injection h with _ h
        cases h
theorem with_again (v:Bool) (t:Tp) (ttl sz:Int) (R:List Int) (P:Pk) (s:Nat) (h l port:Int) (hs:s≤1) (hv:t.s6=v) (hR:U8 R) (hRl:R.length≤1000) (hP:withP v t ttl sz R=(P,0)) (her:P.er=false) (p0:0≤port) (p9:port≤65535) :
    withP v (wsT t s h l) ttl sz (if t.pr=6 then tcpR R (aw v (sdH t s) (sdL t s)) (aw v h l) s port else udpR R (aw v (sdH t s) (sdL t s)) (aw v h l) s port)=({ P with t:=turnT P.t s h l port },0)∧(t.pr=6∨t.pr=17):=by
  have ep:(wsT t s h l).pr=t.pr:=by unfold wsT; split <;> rfl
  have es:(wsT t s h l).s6=t.s6:=by unfold wsT; split <;> rfl
  have hpr:t.pr=6∨t.pr=17:=by
    rcases with_inv hP her with ⟨k,_⟩ | ⟨k,_⟩
    · exact .inl k
    · exact .inr k
  obtain ⟨K,hK,hsum⟩:=psd_sum v t.pr R.length hpr (by omega) (by omega)
  obtain ⟨n,hn⟩:=psd_even v t.pr R.length hpr
  obtain ⟨ps,hps⟩:∃ ps,ps=psd t.s6 t.sh t.sl t.dh t.dl t.pr R.length:=⟨_,rfl⟩
  obtain ⟨ps',hps'⟩:∃ ps',ps'=psd (wsT t s h l).s6 (wsT t s h l).sh (wsT t s h l).sl (wsT t s h l).dh (wsT t s h l).dl (wsT t s h l).pr R.length:=⟨_,rfl⟩
  have hu:U8 ps:=by rw [hps]; exact psd_u8 _ _ _ _ _ _ _
  have hu':U8 ps':=by rw [hps']; exact psd_u8 _ _ _ _ _ _ _
  have ln:ps.length=2*n:=by rw [hps,hv]; exact hn _ _ _ _
  have ln':ps'.length=2*n:=by rw [hps',es,ep,hv]; exact hn _ _ _ _
  have fl:(aw v (sdH t s) (sdL t s)).length=(aw v h l).length:=by rw [aw_len,aw_len]
  have w1:=aw_in v (sdH t s) (sdL t s)
  have w2:=aw_in v h l
  have e0:wsum ps=(aw v t.sh t.sl).sum+(aw v t.dh t.dl).sum+K:=by rw [hps,hv]; exact hsum _ _ _ _
  have e1:wsum ps'=(aw v (wsT t s h l).sh (wsT t s h l).sl).sum+(aw v (wsT t s h l).dh (wsT t s h l).dl).sum+K:=by rw [hps',es,ep,hv]; exact hsum _ _ _ _
  have n1:=sum_in (aw_in v (wsT t s h l).sh (wsT t s h l).sl)
  have n2:=sum_in (aw_in v (wsT t s h l).dh (wsT t s h l).dl)
  have hpos:0<wsum ps':=by omega
  have ee:wsum ps'=wsum ps - (aw v (sdH t s) (sdL t s)).sum+(aw v h l).sum:=by
    rw [e1,e0]
    unfold wsT sdH sdL
    split
    · show (aw v h l).sum+(aw v t.dh t.dl).sum+K=_
      omega
    · show (aw v t.sh t.sl).sum+(aw v h l).sum+K=_
      omega
  refine ⟨?_,hpr⟩
  rcases with_inv hP her with ⟨k6,hE,hPe⟩ | ⟨k17,hE,hPe⟩
  · rw [if_pos k6]
    rw [← hps] at hE
    obtain ⟨a1,a2,a3,a4,a5,a6,a7⟩:=tcp_again R ps ps' _ _ s port hs hR hu hu' n ln ln' hE ee hpos p0 p9 fl w1 w2
    unfold withP
    rw [ep,if_pos k6,a5,← ep,← hps',if_neg (by omega),a2,a3,a4,hPe,ep]
    unfold wsT turnT
    split
    · rfl
    · rfl
  · rw [if_neg (by omega)]
    rw [← hps] at hE
    obtain ⟨a1,a2,a3,a5,a6,a7⟩:=udp_again R ps ps' _ _ (!v) s port hs hR hu hu' n ln ln' hE ee hpos p0 p9 fl w1 w2
    unfold withP
    rw [ep,if_neg (by omega),if_pos k17,a5,← ep,← hps',if_neg (by omega),a2,a3,hPe,ep]
    unfold wsT turnT
    split
    · rfl
    · rfl
def L4 (X:List Int) (S:Nat) (pr:Int) (fs ts:List Int):List Int:=if pr=6 then setw X (S+16) (turns (udpA.w16 X (S+16)) fs ts) else if udpA.w16 X (S+6)=0 then X else setw X (S+6) (chk0 (turns (udpA.w16 X (S+6)) fs ts))
theorem set_out (l:List Int) (p:Nat) (v:Int) (h:l.length≤p):l.set p v=l:=by
  apply List.ext_getElem?
  intro i
  rw [List.getElem?_set]
  split
  · subst p
    rw [if_neg (by omega),List.getElem?_eq_none (by omega)]
  · rfl
theorem setw_out (l:List Int) (p:Nat) (v:Int) (h:l.length≤p):setw l p v=l:=by
  unfold setw
  rw [set_out l p _ h,set_out l (p+1) _ (by omega)]
theorem L4_len (X:List Int) (S:Nat) (pr:Int) (fs ts:List Int):(L4 X S pr fs ts).length=X.length:=by
  unfold L4
  split
  · exact setw_len _ _ _
  · split
    · rfl
    · exact setw_len _ _ _
theorem L4_take (X:List Int) (S:Nat) (pr:Int) (fs ts:List Int):(L4 X S pr fs ts).take S=X.take S:=by
  have hl:(X.take S).length≤S:=by rw [List.length_take]; omega
  unfold L4
  split
  · rw [setw_take,setw_out _ _ _ (by omega)]
  · split
    · rfl
    · rw [setw_take,setw_out _ _ _ (by omega)]
theorem getD_drop (l:List Int) (i j:Nat):(l.drop i).getD j 0=l.getD (i+j) 0:=by
  rw [List.getD_eq_getElem?_getD,List.getD_eq_getElem?_getD,List.getElem?_drop]
theorem w16_drop (X:List Int) (S i:Nat):udpA.w16 (X.drop S) i=udpA.w16 X (S+i):=by
  unfold udpA.w16
  rw [getD_drop,getD_drop]
  rfl
theorem L4_drop (R:List Int) (s:Nat) (port pr:Int) (hs:s≤1) (h8:8≤R.length) (h20:pr=6→20≤R.length) (X:List Int) (S:Nat) (fs ts:List Int) (hX:X.drop S=portR R s port) :
    (L4 X S pr (fs++[udpA.w16 R (2*s)]) (ts++[port])).drop S=if pr=6 then tcpR R fs ts s port else udpR R fs ts s port:=by
  obtain ⟨_,_,q3,q4⟩:=port_w R s port hs h8
  have q16:∀ i,4≤i→udpA.w16 X (S+i)=udpA.w16 R i:=fun i hi=>by
    rw [← w16_drop,hX]
    unfold udpA.w16
    rw [q3 i hi,q3 (i+1) (by omega)]
  unfold L4
  rw [q16 16 (by omega),q16 6 (by omega)]
  by_cases h6:pr=6
  · rw [if_pos h6,if_pos h6,setw_drop2,hX]
    rfl
  · rw [if_neg h6,if_neg h6]
    unfold udpR
    by_cases hz:udpA.w16 R 6=0
    · rw [if_pos hz,if_pos hz,hX]
    · rw [if_neg hz,if_neg hz,setw_drop2,hX]
end Go.Proofs.Ytodckfgfbcnkoaa.natY
/- Layer 15: checks that are turned in a packet. -/
namespace Go.Proofs.Ytodckfgfbcnkoaa.natA
set_option maxHeartbeats 4000000
set_option maxRecDepth 100000
open Go.ChangeShapes Go.WideShapes Go.ChangeAt Go.RowKit
open base octA octB octC rdrA rdrG sixW sixM pktA pktB sixE  tunV tunH natW natX sumD sumE
set_option linter.unusedVariables false
set_option linter.unusedSimpArgs false
structure OnE (g:Nat) (w w':World):Prop where
  bel:Below g w w'
  els:∀ k,k<w.heap.size→k≠g→w'.heap[k]?=w.heap[k]?
theorem OnE.refl (g:Nat) (w:World):OnE g w w:=⟨Below.refl _ _,fun _ _ _=>rfl⟩
theorem OnE.trans {g:Nat} {a b c:World} (h:OnE g a b) (k:OnE g b c):OnE g a c:=⟨h.bel.trans k.bel,fun i hi hg=>(k.els i (Nat.lt_of_lt_of_le hi h.bel.size) hg).trans (h.els i hi hg)⟩
theorem OnE.of {g:Nat} {w w':World} (h:OnlyG g w w'):OnE g w w':=⟨h.bel,fun k _ hk=>h.els k hk⟩
theorem OnE.below {g:Nat} {w w':World} (h:Below w.heap.size w w') (hg:g<w.heap.size):OnE g w w':=⟨h.mono (by omega),fun k hk _=>h.block k hk⟩
theorem OnE.blk {g x:Nat} {w w':World} {t:TypeId} {cs:Array Value} (h:OnE g w w') (hb:Blk w x t cs) (hx:x≠g):Blk w' x t cs:=(h.els x hb.lt hx).trans hb
theorem OnE.from {g B:Nat} {a w w':World} (h:OnE g w w') (hb:Below B a w) (hB:B≤g):Below B a w':=hb.trans (h.bel.mono hB)
structure Wd (w:World) (g:Nat) (A:Option Addr) (n c:Nat) (l:List Int):Prop where
  len:l.length=n
  row:Row w w.heap.size A (l.map (.int .u16))
  w16:W16 l
  far:∀ b off,A=some ⟨b,off,none⟩→b≠g
theorem at_w (A:Option Addr) (n c f:Nat) (l:List Int) (w:World) (h:Sl w A n c l) (hn:n≤1000) (hf:f<2000) :
    Calls Try.prog 43 #[.slice A n c,.int .i64 f,.int .i64 2] w fun e w'=>e=.returned (.int .u64 (udpA.w16 l f))∧w=w':=by
  have h9:=octC.at_any A n c l f 2 w h.len (by omega) h.nc h.mx h.nil h.row h.u8 (by omega)
  have e:octB.atZ l f 2=udpA.w16 l f:=by
    unfold octB.atZ
    rw [if_neg (by omega),show hs 2=2 from by decide,Int.toNat_natCast]
    show (0*256+l.getD (f+0) 0)*256+l.getD (f+1) 0=_
    unfold udpA.w16
    rw [Nat.add_zero,Int.zero_mul,Int.zero_add]
  rwa [e] at h9
theorem pb_word (C:Int) (c0:0≤C) (c9:C≤65535):pb C 2 2=wbytes [C]:=by
  rw [pb2]
  simp only [wbytes,List.cons.injEq,and_true]
  omega
theorem splice_word (xs:List Int) (p:Nat) (C:Int) (c0:0≤C) (c9:C≤65535) (h:p+2≤xs.length):splice xs p (pb C 2 2)=setw xs p C:=by
  have e:=splice_words [C] xs p (by simpa using h)
  rw [pb_word C c0 c9]
  unfold splice
  rw [← List.append_assoc,wbytes_len]
  exact e
theorem setw_setw (l:List Int) (p:Nat) (a b:Int):setw (setw l p a) p b=setw l p b:=by
  apply List.ext_getElem?
  intro i
  unfold setw
  simp only [List.getElem?_set,List.length_set]
  by_cases h1:p+1=i
  · simp [h1]
  · by_cases h2:p=i
    · simp [h1,h2]
    · simp [h1,h2]
theorem turn_go (g N p:Nat) (xs fs ts:List Int) (A:Option Addr) (n c:Nat) (A':Option Addr) (n' c':Nat) (w:World) (hK:Blk w g 5 (xs.map (Value.int .u8)).toArray) (hN:xs.length=N) (hN9:N≤1000) (hu:U8 xs) (hp:p+2≤N) (hp0:0<p) (hl:fs.length=ts.length) (hF:Wd w g A n c fs) (hT:Wd w g A' n' c' ts) (hn:n≤100) (hn':n'≤100) :
    Calls Try.prog 56 #[.slice (some ⟨g,0,none⟩) N N,.int .i64 p,.slice A n c,.slice A' n' c'] w fun o w'=>o=.returned (.tuple #[])∧Blk w' g 5 ((setw xs p (turns (udpA.w16 xs p) fs ts)).map (Value.int .u8)).toArray∧OnE g w w':=by
  have hw:=udpA.w16_in xs hu p
  obtain ⟨c0,c9,_⟩:=turns_cong fs ts (udpA.w16 xs p) hl hw.1 hw.2 hF.w16 hT.w16
  have HAT:=Lib.hid (at_w (some ⟨g,0,none⟩) N N p xs w (Sl_blk hK hN hu (by omega)) hN9 (by omega))
  have HWD:=Lib.hid (words_any (udpA.w16 xs p) A A' n n' c c' fs ts w w.heap.size hw.1 hw.2 hF.len hT.len (by omega) (by omega) hF.row hT.row hF.w16 hT.w16)
  have HSP:=Lib.hid (splice_word xs p (turns (udpA.w16 xs p) fs ts) c0 c9 (by omega))
  generalize turns (udpA.w16 xs p) fs ts=C at *
  generalize udpA.w16 xs p=q at *
  have wq:IntKind.u16.wrap q=q:=by rw [IntKind.wrap_u16]; omega
  have wC6:IntKind.u64.wrap C=C:=by rw [IntKind.wrap_u64]; omega
  have CB:=Lib.hid (show 0≤C∧C≤65535 from ⟨c0,c9⟩)
  have HM2:=Lib.hid (show 2=min 2 (N - p) from by omega)
  have HFT:=Lib.hid (show p+2≤xs.length from by omega)
  have K0:=Lib.hid hK
  have n8:¬ N=p:=by omega
  have j8:p≤N:=by omega
  have j8i:(p:Int)≤(N:Int):=by omega
  have jz:(0:Int)≤(p:Int):=by omega
  clear hw c0 c9 hK hN hN9 hu hp hp0 hl hF hT hn hn'
  go_enter Try.func56,Try.ntmps56
  go_wp2_with fail
  refine HAT.out.mono ?_
  rintro o w' ⟨rfl,rfl⟩
  go_wp2_with fail
  refine HWD.out.mono ?_
  rintro o w2 ⟨rfl,mm,hm2⟩
  have E2:=Lib.hid hm2
  have B2:=Lib.hid (show Below w.heap.size w w2 from by rw [hm2]; exact base.below_drewN (Below.refl _ _) mm)
  have K2:=Lib.hid (K0.out.below B2.out K0.out.lt)
  clear hm2
  go_upto_region 1 with fail
  have S0:=Lib.hid (show pktB.PS w2 w2.drew (.slice none 0 0) 0 [] from ⟨World.ownsRow_nil _ _ _ _,(Below.refl _ _).drew⟩)
  have HPT:=Lib.hid (S0.out.put C 2 (by omega) (by have:=CB.out; omega) (by have:=CB.out; omega))
  go_region_held3 (fun V=>Below w2.heap.size w2 V∨True) (first | with_reducible assumption | exact .inr trivial) (first | (go_at_call 55; (with_reducible refine HPT.out.mono ?_); rintro o w8 ⟨v8,rfl,hs8⟩; have hs8:pktB.PS w2 w8 v8 2 (pb C 2 2):=hs8; obtain ⟨A8,c8,rfl⟩:=own_slice hs8.own; have B68:=Lib.hid hs8.bel; have S8:=Lib.hid (show Sl w8 A8 2 c8 (pb C 2 2) from Sl.own hs8.own (by rw [pb_len]) (pktB.pb_u8 _ _ _)); have K8:=Lib.hid (K2.out.below B68.out K2.out.lt); obtain ⟨w9,hcp9,hb9,ho9⟩:=copy_run w8 g p (N - p) (N - p) xs (pb C 2 2) A8 2 c8 2 K8.out S8.out HM2.out (by decide) HFT.out; have K9:=Lib.hid hb9; have O9:=Lib.hid ho9; clear hb9 ho9 hs8))
  go_wp2_with fail
  have b9:=K9.out
  rw [List.take_of_length_le (Nat.le_of_eq (pb_len _ _ _)),HSP.out] at b9
  exact bodyPost_end (v:=.tuple #[]) (by simp [results,Try.results56,go_sem]) rfl ⟨rfl,b9,((OnE.below B2.out K0.out.lt).trans (OnE.below B68.out K2.out.lt)).trans (OnE.of O9.out)⟩
theorem udp_z (g N p:Nat) (xs fs ts:List Int) (A:Option Addr) (n c:Nat) (A':Option Addr) (n' c':Nat) (hq:udpA.w16 xs p=0) (w:World) (hK:Blk w g 5 (xs.map (Value.int .u8)).toArray) (hN:xs.length=N) (hN9:N≤1000) (hu:U8 xs) (hp:p+2≤N) (hp0:0<p) (hl:fs.length=ts.length) (hF:Wd w g A n c fs) (hT:Wd w g A' n' c' ts) (hn:n≤100) (hn':n'≤100) :
    Calls Try.prog 58 #[.slice (some ⟨g,0,none⟩) N N,.int .i64 p,.slice A n c,.slice A' n' c'] w fun o w'=>o=.returned (.tuple #[])∧Blk w' g 5 (xs.map (Value.int .u8)).toArray∧OnE g w w':=by
  have HAT:=Lib.hid (at_w (some ⟨g,0,none⟩) N N p xs w (Sl_blk hK hN hu (by omega)) hN9 (by omega))
  rw [hq] at HAT
  have K0:=Lib.hid hK
  clear hq hK hN hN9 hu hp hp0 hl hF hT hn hn'
  go_enter Try.func58,Try.ntmps58
  go_wp2_with fail
  refine HAT.out.mono ?_
  rintro o w' ⟨rfl,rfl⟩
  go_wp2_with fail
  refine bodyPost_ret (v:=.tuple #[]) (by simp [results,Try.results58,go_sem]) rfl ⟨rfl,K0.out,OnE.refl _ _⟩
theorem udp_n (g N p:Nat) (xs fs ts:List Int) (A:Option Addr) (n c:Nat) (A':Option Addr) (n' c':Nat) (hq:udpA.w16 xs p≠0) (hC:turns (udpA.w16 xs p) fs ts≠0) (w:World) (hK:Blk w g 5 (xs.map (Value.int .u8)).toArray) (hN:xs.length=N) (hN9:N≤1000) (hu:U8 xs) (hp:p+2≤N) (hp0:0<p) (hl:fs.length=ts.length) (hF:Wd w g A n c fs) (hT:Wd w g A' n' c' ts) (hn:n≤100) (hn':n'≤100) :
    Calls Try.prog 58 #[.slice (some ⟨g,0,none⟩) N N,.int .i64 p,.slice A n c,.slice A' n' c'] w fun o w'=>o=.returned (.tuple #[])∧Blk w' g 5 ((setw xs p (turns (udpA.w16 xs p) fs ts)).map (Value.int .u8)).toArray∧OnE g w w':=by
  have HAT:=Lib.hid (at_w (some ⟨g,0,none⟩) N N p xs w (Sl_blk hK hN hu (by omega)) hN9 (by omega))
  have hw:=udpA.w16_in xs hu p
  obtain ⟨c0,c9,_⟩:=turns_cong fs ts (udpA.w16 xs p) hl hw.1 hw.2 hF.w16 hT.w16
  have HTN:=Lib.hid (turn_go g N p xs fs ts A n c A' n' c' w hK hN hN9 hu hp hp0 hl hF hT hn hn')
  have HA2:=Lib.hid (show ∀ V,Blk V g 5 ((setw xs p (turns (udpA.w16 xs p) fs ts)).map (Value.int .u8)).toArray→Calls Try.prog 43 #[.slice (some ⟨g,0,none⟩) N N,.int .i64 p,.int .i64 2] V fun e w'=>e=.returned (.int .u64 (turns (udpA.w16 xs p) fs ts))∧V=w' from fun V hV=>by
    have h9:=at_w (some ⟨g,0,none⟩) N N p _ V (Sl_blk hV (by rw [setw_len]; exact hN) (setw_u8 hu p _ c0 c9) (by omega)) hN9 (by omega)
    rw [w16_setw _ _ _ (by omega)] at h9
    exact h9)
  have tq:(udpA.w16 xs p == 0)=false:=by simpa using hq
  generalize udpA.w16 xs p=q at *
  have tC:(turns q fs ts == 0)=false:=by simpa using hC
  generalize turns q fs ts=C at *
  have HM2:=Lib.hid (show 2=min 2 (N - p) from by omega)
  have n8:¬ N=p:=by omega
  have j8:p≤N:=by omega
  have j8i:(p:Int)≤(N:Int):=by omega
  have jz:(0:Int)≤(p:Int):=by omega
  have GLT:=Lib.hid hK.lt
  clear hw c0 c9 hK hN hN9 hu hp hp0 hl hF hT hn hn' hq hC
  go_enter Try.func58,Try.ntmps58
  go_wp2_with fail
  refine HAT.out.mono ?_
  rintro o w' ⟨rfl,rfl⟩
  go_wp2_with fail
  refine HTN.out.mono ?_
  rintro o w2 ⟨rfl,hk2,ho2⟩
  have K2:=Lib.hid hk2
  have O2:=Lib.hid ho2
  clear hk2 ho2
  go_wp2_with fail
  refine (HA2.out _ K2.out).mono ?_
  rintro o w' ⟨rfl,rfl⟩
  go_wp2_with fail
  exact bodyPost_end (v:=.tuple #[]) (by simp [results,Try.results58,go_sem]) rfl ⟨rfl,K2.out,O2.out⟩
theorem udp_m (g N p:Nat) (xs fs ts:List Int) (A:Option Addr) (n c:Nat) (A':Option Addr) (n' c':Nat) (hq:udpA.w16 xs p≠0) (hC:turns (udpA.w16 xs p) fs ts=0) (w:World) (hK:Blk w g 5 (xs.map (Value.int .u8)).toArray) (hN:xs.length=N) (hN9:N≤1000) (hu:U8 xs) (hp:p+2≤N) (hp0:0<p) (hl:fs.length=ts.length) (hF:Wd w g A n c fs) (hT:Wd w g A' n' c' ts) (hn:n≤100) (hn':n'≤100) :
    Calls Try.prog 58 #[.slice (some ⟨g,0,none⟩) N N,.int .i64 p,.slice A n c,.slice A' n' c'] w fun o w'=>o=.returned (.tuple #[])∧Blk w' g 5 ((setw xs p 65535).map (Value.int .u8)).toArray∧OnE g w w':=by
  have HAT:=Lib.hid (at_w (some ⟨g,0,none⟩) N N p xs w (Sl_blk hK hN hu (by omega)) hN9 (by omega))
  have hw:=udpA.w16_in xs hu p
  obtain ⟨c0,c9,_⟩:=turns_cong fs ts (udpA.w16 xs p) hl hw.1 hw.2 hF.w16 hT.w16
  have HTN:=Lib.hid (turn_go g N p xs fs ts A n c A' n' c' w hK hN hN9 hu hp hp0 hl hF hT hn hn')
  have HA2:=Lib.hid (show ∀ V,Blk V g 5 ((setw xs p (turns (udpA.w16 xs p) fs ts)).map (Value.int .u8)).toArray→Calls Try.prog 43 #[.slice (some ⟨g,0,none⟩) N N,.int .i64 p,.int .i64 2] V fun e w'=>e=.returned (.int .u64 (turns (udpA.w16 xs p) fs ts))∧V=w' from fun V hV=>by
    have h9:=at_w (some ⟨g,0,none⟩) N N p _ V (Sl_blk hV (by rw [setw_len]; exact hN) (setw_u8 hu p _ c0 c9) (by omega)) hN9 (by omega)
    rw [w16_setw _ _ _ (by omega)] at h9
    exact h9)
  have tq:(udpA.w16 xs p == 0)=false:=by simpa using hq
  have HSP:=Lib.hid (show splice (setw xs p (turns (udpA.w16 xs p) fs ts)) p (pb 65535 2 2)=setw xs p 65535 from by rw [splice_word _ p 65535 (by omega) (by omega) (by rw [setw_len]; omega),setw_setw])
  have HFT:=Lib.hid (show p+2≤(setw xs p (turns (udpA.w16 xs p) fs ts)).length from by rw [setw_len]; omega)
  rw [hC] at HSP HFT HTN HA2
  clear hC
  generalize udpA.w16 xs p=q at *
  have HM2:=Lib.hid (show 2=min 2 (N - p) from by omega)
  have n8:¬ N=p:=by omega
  have j8:p≤N:=by omega
  have j8i:(p:Int)≤(N:Int):=by omega
  have jz:(0:Int)≤(p:Int):=by omega
  have GLT:=Lib.hid hK.lt
  clear hw c0 c9 hK hN hN9 hu hp hp0 hl hF hT hn hn' hq 
  go_enter Try.func58,Try.ntmps58
  go_wp2_with fail
  refine HAT.out.mono ?_
  rintro o w' ⟨rfl,rfl⟩
  go_wp2_with fail
  refine HTN.out.mono ?_
  rintro o w2 ⟨rfl,hk2,ho2⟩
  have K2:=Lib.hid hk2
  have O2:=Lib.hid ho2
  clear hk2 ho2
  go_wp2_with fail
  refine (HA2.out _ K2.out).mono ?_
  rintro o w' ⟨rfl,rfl⟩
  have CB:=Lib.hid (show (0:Int)≤65535∧(65535:Int)≤65535 from by decide)
  go_upto_region 3 with fail
  have S0:=Lib.hid (show pktB.PS w2 w2.drew (.slice none 0 0) 0 [] from ⟨World.ownsRow_nil _ _ _ _,(Below.refl _ _).drew⟩)
  have HPT:=Lib.hid (S0.out.put 65535 2 (by omega) (by have:=CB.out; omega) (by have:=CB.out; omega))
  go_region_held3 (fun V=>Below w2.heap.size w2 V∨True) (first | with_reducible assumption | exact .inr trivial) (first | (go_at_call 55; (with_reducible refine HPT.out.mono ?_); rintro o w8 ⟨v8,rfl,hs8⟩; have hs8:pktB.PS w2 w8 v8 2 (pb 65535 2 2):=hs8; obtain ⟨A8,c8,rfl⟩:=own_slice hs8.own; have B68:=Lib.hid hs8.bel; have S8:=Lib.hid (show Sl w8 A8 2 c8 (pb 65535 2 2) from Sl.own hs8.own (by rw [pb_len]) (pktB.pb_u8 _ _ _)); have K8:=Lib.hid (K2.out.below B68.out K2.out.lt); obtain ⟨w9,hcp9,hb9,ho9⟩:=copy_run w8 g p (N - p) (N - p) (setw xs p 0) (pb 65535 2 2) A8 2 c8 2 K8.out S8.out HM2.out (by decide) HFT.out; have K9:=Lib.hid hb9; have O9:=Lib.hid ho9; clear hb9 ho9 hs8))
  go_wp2_with fail
  have b9:=K9.out
  rw [List.take_of_length_le (Nat.le_of_eq (pb_len _ _ _)),HSP.out] at b9
  exact bodyPost_end (v:=.tuple #[]) (by simp [results,Try.results58,go_sem]) rfl ⟨rfl,b9,(O2.out.trans (OnE.below B68.out K2.out.lt)).trans (OnE.of O9.out)⟩
theorem udp_go (g N p:Nat) (xs fs ts:List Int) (A:Option Addr) (n c:Nat) (A':Option Addr) (n' c':Nat) (w:World) (hK:Blk w g 5 (xs.map (Value.int .u8)).toArray) (hN:xs.length=N) (hN9:N≤1000) (hu:U8 xs) (hp:p+2≤N) (hp0:0<p) (hl:fs.length=ts.length) (hF:Wd w g A n c fs) (hT:Wd w g A' n' c' ts) (hn:n≤100) (hn':n'≤100) :
    Calls Try.prog 58 #[.slice (some ⟨g,0,none⟩) N N,.int .i64 p,.slice A n c,.slice A' n' c'] w fun o w'=>o=.returned (.tuple #[])∧Blk w' g 5 ((if udpA.w16 xs p=0 then xs else setw xs p (chk0 (turns (udpA.w16 xs p) fs ts))).map (Value.int .u8)).toArray∧OnE g w w':=by
  by_cases hq:udpA.w16 xs p=0
  · rw [if_pos hq]
    exact udp_z g N p xs fs ts A n c A' n' c' hq w hK hN hN9 hu hp hp0 hl hF hT hn hn'
  · rw [if_neg hq]
    unfold chk0
    by_cases hC:turns (udpA.w16 xs p) fs ts=0
    · rw [if_pos hC]
      exact udp_m g N p xs fs ts A n c A' n' c' hq hC w hK hN hN9 hu hp hp0 hl hF hT hn hn'
    · rw [if_neg hC]
      exact udp_n g N p xs fs ts A n c A' n' c' hq hC w hK hN hN9 hu hp hp0 hl hF hT hn hn'
end Go.Proofs.Ytodckfgfbcnkoaa.natA
/- Layer 15: bytes of a packet with another side, parsed again: plain words. -/
namespace Go.Proofs.Ytodckfgfbcnkoaa.natZ
set_option maxHeartbeats 2000000
open Go.ChangeShapes Go.WideShapes Go.ChangeAt Go.RowKit
open base octA sumA sumB sumD sumE sixW sixM pktA pktB pktC pktE sixF pktG tunV natW natX natY
set_option linter.unusedVariables false
def plc (v:Bool) (s:Nat):Nat:=if v then 8+16*s else 12+4*s
def natX (l:List Int) (N S:Nat) (v:Bool) (s:Nat) (fs ts:List Int) (port:Int):List Int :=
  if v then setw (setws (l.take N) (plc v s) ts) (S+2*s) port else setw (setw (setws (l.take N) (plc v s) ts) (S+2*s) port) 10 (turns (udpA.w16 l 10) fs ts)
def natO (l:List Int) (N S:Nat) (v:Bool) (s:Nat) (pr:Int) (fs ts:List Int) (wp port:Int):List Int:=L4 (natX l N S v s fs ts port) S pr (fs++[wp]) (ts++[port])
theorem L4_u8 {X:List Int} (hX:U8 X) (S:Nat) (pr:Int) (fs ts:List Int) (hl:fs.length=ts.length) (hf:W16 fs) (ht:W16 ts):U8 (L4 X S pr fs ts):=by
  have key:∀ c,0≤c∧c≤65535→0≤chk0 c∧chk0 c≤65535:=fun c h=>by unfold chk0; split <;> omega
  unfold L4
  split
  · have w:=udpA.w16_in X hX (S+16)
    obtain ⟨a,b,_⟩:=turns_cong fs ts _ hl w.1 w.2 hf ht
    exact setw_u8 hX _ _ a b
  · split
    · exact hX
    · have w:=udpA.w16_in X hX (S+6)
      obtain ⟨a,b,_⟩:=turns_cong fs ts _ hl w.1 w.2 hf ht
      obtain ⟨c,d⟩:=key _ ⟨a,b⟩
      exact setw_u8 hX _ _ c d
theorem p4_inv {l:List Int} {P:Pk} (h:p4 l=(P,0)):fourE l=0∧¬ (udpA.w16 l 6 % 8192≠0∨decide (udpA.w16 l 6 / 8192 % 2=1)=true)∧withP false ⟨l.getD 9 0,false,0,tcpC.w32 l 12,false,0,tcpC.w32 l 16,0,0⟩ (l.getD 8 0) (20+((fourS l - 20:Nat):Int)+((fourR l).length:Int)) (fourR l)=(P,0):=by
  unfold p4 at h
  split at h
  · rename_i k
    injection h with _ h
    exact absurd h k
  · rename_i k
    split at h
    · injection h with _ h
      cases h
    · rename_i k2
      exact ⟨Classical.byContradiction k,k2,h⟩
theorem w32_words (l:List Int) (hu:U8 l) (p:Nat) (h:Int):aw false h (tcpC.w32 l p)=wat l p 2:=by
  have a:=udpA.w16_in l hu p
  have b:=udpA.w16_in l hu (p+2)
  show words (udpA.w16 l p*65536+udpA.w16 l (p+2)) 2 2=[udpA.w16 l p,udpA.w16 l (p+2)]
  rw [words2]
  simp only [List.cons.injEq,and_true]
  omega
theorem w32_of {l:List Int} {p:Nat} {h n:Int} (n0:0≤n) (n9:n<4294967296) (e:wat l p 2=aw false h n):tcpC.w32 l p=n:=by
  have e1:[udpA.w16 l p,udpA.w16 l (p+2)]=[n / 65536 % 65536,n / 1 % 65536]:=e
  simp only [List.cons.injEq,and_true] at e1
  show udpA.w16 l p*65536+udpA.w16 l (p+2)=n
  omega
theorem wat_take (l:List Int) (n p k:Nat) (h:p+2*k≤n):wat (l.take n) p k=wat l p k:=wat_eq k p fun i a b=>fourB.getD_take l n i (by omega)
theorem nat4 (l:List Int) (hu:U8 l) (hn:l.length≤1000) (h4:l.getD 0 0 / 16=4) (P:Pk) (hP:pkP l=(P,0)) (her:P.er=false) (s:Nat) (hs:s≤1) (tl port:Int) (t0:0≤tl) (t9:tl<4294967296) (p0:0≤port) (p9:port≤65535)
    (out:List Int) (ho:out=natO l (udpA.w16 l 2).toNat (fourS l) false s P.t.pr (aw false (sdH P.t s) (sdL P.t s)) (aw false 0 tl) (sdP P.t s) port) :
    pkP out=({ P with t:=turnT P.t s 0 tl port },0)∧out.length=(udpA.w16 l 2).toNat∧U8 out:=by
  have hP4:p4 l=(P,0):=by
    rw [← hP]
    have hl0:¬ l.length=0:=fun k=>by
      rw [List.length_eq_zero_iff.mp k] at h4
      exact absurd h4 (by decide)
    unfold pkP
    rw [if_neg hl0,if_neg (show ¬ 9000<l.length by omega),if_pos h4]
  obtain ⟨hE,hF,hW⟩:=p4_inv hP4
  obtain ⟨_,s20,s60,es,ew,sw,wl,sr,hf,hfo⟩:=four_sizes l hu hE
  obtain ⟨N,hN⟩:∃ N,N=(udpA.w16 l 2).toNat:=⟨_,rfl⟩
  obtain ⟨S,hS⟩:∃ S,S=fourS l:=⟨_,rfl⟩
  obtain ⟨R,hR⟩:∃ R,R=fourR l:=⟨_,rfl⟩
  rw [← hN] at ew sw wl sr ho ⊢
  rw [← hS] at s20 s60 es sw sr hfo hW ho
  rw [← hR] at sr hW
  have eR:(l.take N).drop S=R:=by rw [hR]; unfold fourR; rw [← hS,← hN,List.drop_take]
  have hRu:U8 R:=by rw [← eR]; exact (hu.take N).drop S
  have hRl:R.length≤1000:=by omega
  have hvt:(⟨l.getD 9 0,false,0,tcpC.w32 l 12,false,0,tcpC.w32 l 16,0,0⟩:Tp).s6=false:=rfl
  obtain ⟨hA,hpr⟩:=with_again false _ _ _ R P s 0 tl port hs hvt hRu hRl hW her p0 p9
  have hpr:l.getD 9 0=6∨l.getD 9 0=17:=hpr
  have hPt:P.t=⟨l.getD 9 0,false,0,tcpC.w32 l 12,false,0,tcpC.w32 l 16,udpA.w16 R 0,udpA.w16 R 2⟩∧8≤R.length∧(l.getD 9 0=6→20≤R.length):=by
    rcases with_inv hW her with ⟨k,hE,hPe⟩ | ⟨k,hE,hPe⟩
    · have k:l.getD 9 0=6:=k
      have h20:20≤R.length:=by
        unfold tcpE at hE
        split at hE
        · omega
        · omega
      exact ⟨by rw [hPe],by omega,fun _=>h20⟩
    · have k:l.getD 9 0=17:=k
      have h8:8≤R.length:=by
        unfold udpE_ at hE
        split at hE
        · omega
        · omega
      exact ⟨by rw [hPe],h8,fun e=>by omega⟩
  obtain ⟨hPt,h8,h20⟩:=hPt
  have hfs:aw false (sdH P.t s) (sdL P.t s)=wat l (plc false s) 2:=by
    rw [hPt]
    rcases Nat.lt_or_ge s 1 with k | k
    · obtain rfl:s=0:=by omega
      exact w32_words l hu 12 _
    · obtain rfl:s=1:=by omega
      exact w32_words l hu 16 _
  have hfs2:aw false (sdH (⟨l.getD 9 0,false,0,tcpC.w32 l 12,false,0,tcpC.w32 l 16,0,0⟩:Tp) s) (sdL (⟨l.getD 9 0,false,0,tcpC.w32 l 12,false,0,tcpC.w32 l 16,0,0⟩:Tp) s)=wat l (plc false s) 2:=by
    rw [← hfs,hPt]
    rcases Nat.lt_or_ge s 1 with k | k
    · obtain rfl:s=0:=by omega
      rfl
    · obtain rfl:s=1:=by omega
      rfl
  have hwp:sdP P.t s=udpA.w16 R (2*s):=by
    rw [hPt]
    rcases Nat.lt_or_ge s 1 with k | k
    · obtain rfl:s=0:=by omega
      rfl
    · obtain rfl:s=1:=by omega
      rfl
  have hpp:P.t.pr=l.getD 9 0:=by rw [hPt]
  obtain ⟨fs,hfse⟩:∃ fs,fs=wat l (plc false s) 2:=⟨_,rfl⟩
  obtain ⟨ts,hts⟩:∃ ts,ts=aw false 0 tl:=⟨_,rfl⟩
  have fW:W16 fs:=by rw [hfse]; exact wat_w16 hu _ _
  have tW:W16 ts:=by rw [hts]; exact aw_in _ _ _
  have fl:fs.length=2:=by rw [hfse,wat_len]
  have tl2:ts.length=2:=by rw [hts,aw_len]; rfl
  rw [hfs2,← hfse,← hts] at hA
  rw [hfs,← hfse,← hts,hwp,hpp] at ho
  have hp12:plc false s=12+4*s:=rfl
  have hL:(l.take N).length=N:=by rw [List.length_take]; omega
  have w10:=udpA.w16_in l hu 10
  obtain ⟨c0,c9,cm⟩:=turns_cong fs ts (udpA.w16 l 10) (by omega) w10.1 w10.2 fW tW
  obtain ⟨C,hC⟩:∃ C,C=turns (udpA.w16 l 10) fs ts:=⟨_,rfl⟩
  rw [← hC] at c0 c9 cm
  obtain ⟨X,hX⟩:∃ X,X=natX l N S false s fs ts port:=⟨_,rfl⟩
  have eX:X=setw (setw (setws (l.take N) (plc false s) ts) (S+2*s) port) 10 C:=by rw [hX,hC]; rfl
  have ho:out=L4 X S (l.getD 9 0) (fs++[udpA.w16 R (2*s)]) (ts++[port]):=by rw [ho,hX]; rfl
  have Xl:X.length=N:=by rw [eX,setw_len,setw_len,setws_len,hL]
  have Xu:U8 X:=by rw [eX]; exact setw_u8 (setw_u8 (setws_u8 _ _ (hu.take N) tW) _ _ p0 p9) _ _ c0 c9
  have hol:out.length=N:=by rw [ho,L4_len,Xl]
  have w2s:=udpA.w16_in R hRu (2*s)
  have hou:U8 out:=by rw [ho]; exact L4_u8 Xu _ _ _ _ (by rw [List.length_append,List.length_append,fl,tl2]; rfl) (w16_snoc fW w2s.1 w2s.2) (w16_snoc tW p0 p9)
  have Xd:X.drop S=portR R s port:=by
    rw [eX,setw_drop _ _ _ _ (by omega),setw_drop2,setws_drop _ _ _ _ (by omega),eR]
    rfl
  have od:out.drop S=if l.getD 9 0=6 then tcpR R fs ts s port else udpR R fs ts s port:=by rw [ho]; exact L4_drop R s port _ hs h8 h20 X S fs ts Xd
  have ot:out.take S=setw (setws (l.take S) (plc false s) ts) 10 C:=by
    have hSl:(l.take S).length=S:=by rw [List.length_take]; omega
    rw [ho,L4_take,eX,setw_take,setw_take,setws_take,List.take_take,Nat.min_eq_left sw,setw_out (setws (l.take S) (plc false s) ts) (S+2*s) port (by rw [setws_len,hSl]; omega)]
  have hSl:(l.take S).length=S:=by rw [List.length_take]; omega
  have l10:10+1<(setws (l.take S) (plc false s) ts).length:=by rw [setws_len,hSl]; omega
  have g:∀ i,i<10→out.getD i 0=l.getD i 0:=fun i hi=>by
    rw [← fourB.getD_take out S i (by omega),ot,setw_get _ _ _ _ l10,if_neg (by omega),if_neg (by omega),setws_get _ _ _ _ (by omega) (by omega),fourB.getD_take l S i (by omega)]
  have g16:∀ i,i+1<10→udpA.w16 out i=udpA.w16 l i:=fun i hi=>by unfold udpA.w16; rw [g i (by omega),g (i+1) hi]
  have gw:∀ i,12≤i→i+1<S→udpA.w16 out i=udpA.w16 (setws (l.take S) (plc false s) ts) i:=fun i a b=>by
    rw [← fourB.w16_take out S i b,ot,w16_set _ _ _ _ l10 (by omega)]
  have g0:=g 0 (by omega)
  have ghl:fourA.hl out=fourA.hl l:=by unfold fourA.hl; rw [g0]
  have gS:fourS out=S:=by rw [hS]; unfold fourS; rw [ghl]
  have e2:=g16 2 (by omega)
  have e6:=g16 6 (by omega)
  have gR:fourR out=out.drop S:=by
    unfold fourR
    rw [gS,e2,← hN,List.take_of_length_le (by rw [List.length_drop]; omega)]
  have hsum:fo (wsum (out.take S))=65535:=by
    have q10:udpA.w16 (setws (l.take S) (plc false s) ts) 10=udpA.w16 l 10:=by
      rw [setws_w16 _ _ _ _ (by omega) (by omega),fourB.w16_take l S 10 (by omega)]
    have hk:plc false s=2*(6+2*s):=by omega
    have ws:wsum (out.take S)=wsum (l.take S) - fs.sum+ts.sum - udpA.w16 l 10+C:=by
      rw [ot,show (10:Nat)=2*5 from rfl,wsum_setw _ 5 _ l10,show 2*5=10 from rfl,q10,hk,wsum_setws _ _ _ (by omega),← hk,tl2,wat_take l S _ _ (by omega),← hfse]
    have wlow:=wsum_low (out.take S) (hou.take _) (by rw [List.length_take]; omega)
    rw [fourB.getD_take _ _ _ (by omega),g0] at wlow
    have wn:=(wsum_bd (l.take S) (hu.take _)).1
    have wm:=full_is wn hfo
    exact full_of (by omega) (by omega)
  have hE':fourE out=0:=by
    unfold fourE
    rw [if_neg (by omega),g0,if_neg (by omega),ghl,if_neg (by omega),e6,if_neg (by omega),e2,if_neg (by omega)]
    rw [show (fourA.hl l).toNat=S by omega,hsum]
    rfl
  have eT:(⟨out.getD 9 0,false,0,tcpC.w32 out 12,false,0,tcpC.w32 out 16,0,0⟩:Tp)=wsT ⟨l.getD 9 0,false,0,tcpC.w32 l 12,false,0,tcpC.w32 l 16,0,0⟩ s 0 tl:=by
    have hw:∀ p,12≤p→p+4≤20→wat out p 2=wat (setws (l.take S) (plc false s) ts) p 2:=fun p a b=>by
      show [udpA.w16 out p,udpA.w16 out (p+2)]=[_,_]
      rw [gw p a (by omega),gw (p+2) (by omega) (by omega)]
    have hme:wat out (plc false s) 2=aw false 0 tl:=by
      rw [hw _ (by omega) (by omega),← tl2,wat_setws _ _ _ (by omega),hts]
    have hm:=w32_of t0 t9 hme
    rw [g 9 (by omega)]
    rcases Nat.lt_or_ge s 1 with k | k
    · obtain rfl:s=0:=by omega
      have hx:tcpC.w32 out 16=tcpC.w32 l 16:=by
        unfold tcpC.w32
        rw [gw 16 (by omega) (by omega),gw (16+2) (by omega) (by omega),setws_w16 _ _ _ _ (by omega) (by omega),setws_w16 _ _ _ _ (by omega) (by omega),fourB.w16_take l S 16 (by omega),fourB.w16_take l S (16+2) (by omega)]
      have hm:tcpC.w32 out 12=tl:=hm
      rw [hm,hx]
      rfl
    · obtain rfl:s=1:=by omega
      have hx:tcpC.w32 out 12=tcpC.w32 l 12:=by
        unfold tcpC.w32
        rw [gw 12 (by omega) (by omega),gw (12+2) (by omega) (by omega),setws_w16 _ _ _ _ (by omega) (by omega),setws_w16 _ _ _ _ (by omega) (by omega),fourB.w16_take l S 12 (by omega),fourB.w16_take l S (12+2) (by omega)]
      have hm:tcpC.w32 out 16=tl:=hm
      rw [hm,hx]
      rfl
  refine ⟨?_,hol,hou⟩
  unfold pkP
  rw [if_neg (by omega),if_neg (by omega),g0,if_pos h4]
  unfold p4
  rw [if_neg (by omega),e6,if_neg hF,eT,g 8 (by omega),gS,gR,show (out.drop S).length=R.length from by rw [List.length_drop]; omega,od]
  exact hA
end Go.Proofs.Ytodckfgfbcnkoaa.natZ
