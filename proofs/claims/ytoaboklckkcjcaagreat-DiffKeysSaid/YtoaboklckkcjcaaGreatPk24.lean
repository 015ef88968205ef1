/- 1 texts in one. -/
import Derived.OwnWalk
import Derived.Test.YtoaboklckkcjcaaGreatPk23
/- Layer 43: what is otherwise between nodes, as the program says it. -/
namespace Go.Proofs.YtoaboklckkcjcaaGreat.dfX
open Go.ChangeShapes Go.WideShapes Go.ChangeAt Go.RowKit
open Go.Proofs.YtoaboklckkcjcaaGreat.base Go.Proofs.YtoaboklckkcjcaaGreat.dfA Go.Proofs.YtoaboklckkcjcaaGreat.dfB Go.Proofs.YtoaboklckkcjcaaGreat.dfC  Go.Proofs.YtoaboklckkcjcaaGreat.dfE
set_option linter.unusedVariables false

theorem step_append_own {P : Program} {w : World} {ops : Array Oper} {o : Oper} {a : Act} {K : Act → World → Prop} {Q : Exit → Act → World → Prop} {E : Prop} (hgd : o.guard = none) (s x : Operand) (t : TypeId)
    (ho : o.op = .call { callee := .builtin .append, args := #[s, x], argTypes := #[t, t] })
    (base : Nat) (e : TypeId) (i : TypeInfo) (z : Value) (size bytes : Nat) (ht : P.underlying t = some (.slice e)) (hi : P.info? e = some i) (hz : i.zero = some z)
    (hsize : i.size = size) (hby : i.bytes = bytes) (hzs : z.cells.size = size) (hsz : 0 < size)
    (v : Value) (n : Nat) (xs : List Value) (hs : a.eval s = v) (hown : w.ownsRow base e size v n xs)
    (ad : Addr) (m c : Nat) (news : List Value) (hx : a.eval x = .slice (some ad) m c) (hl : news.length = m * size) (hnews : ∀ j u, news[j]? = some u → w.cell? (ad.add j) = some u) (h1 : ∀ u ∈ news, u.oneCell' = true)
    (h63 : n + m ≤ maxLen) (hbytes : (n + m) * bytes ≤ 140737488355328) (hbase : base ≤ w.heap.size)
    (h : ∀ v' w', w'.ownsRow base e size v' (n + m) (xs ++ news) → w.grownBy w' v.ownBlock → (v' = .slice none 0 0 ↔ v = .slice none 0 0 ∧ m = 0) → K (a.put o.dst v') w') :
    if Region.wanted o (yielded ops a.tmps) = true then Oper.wp P o a w K Q else E := by
  have hw : Region.wanted o (yielded ops a.tmps) = true := by simp [Region.wanted, hgd]
  rw [if_pos hw]
  exact wp_append_own w s x t ho base e i z size bytes ht hi hz hsize hby hzs hsz v n xs hs hown ad m c news hx hl hnews h1 h63 hbytes hbase h
theorem step_append_any {P : Program} {w : World} {ops : Array Oper} {o : Oper} {a : Act} {K : Act → World → Prop} {Q : Exit → Act → World → Prop} {E : Prop} (hgd : o.guard = none) (s x : Operand) (t : TypeId)
    (ho : o.op = .call { callee := .builtin .append, args := #[s, x], argTypes := #[t, t] })
    (base : Nat) (e : TypeId) (i : TypeInfo) (z : Value) (size bytes : Nat) (ht : P.underlying t = some (.slice e)) (hi : P.info? e = some i) (hz : i.zero = some z)
    (hsize : i.size = size) (hby : i.bytes = bytes) (hzs : z.cells.size = size) (hsz : 0 < size)
    (v : Value) (n : Nat) (xs : List Value) (hs : a.eval s = v) (hown : w.ownsRow base e size v n xs)
    (vs : Value) (m : Nat) (news : List Value) (hx : a.eval x = vs) (hsrc : (vs = .slice none 0 0 ∧ m = 0 ∧ news = []) ∨ ∃ ad c, vs = .slice (some ad) m c ∧ news.length = m * size ∧ ∀ j u, news[j]? = some u → w.cell? (ad.add j) = some u) (h1 : ∀ u ∈ news, u.oneCell' = true)
    (h63 : n + m ≤ maxLen) (hbytes : (n + m) * bytes ≤ 140737488355328) (hbase : base ≤ w.heap.size)
    (h : ∀ v' w', w'.ownsRow base e size v' (n + m) (xs ++ news) → w.grownBy w' v.ownBlock → K (a.put o.dst v') w') :
    if Region.wanted o (yielded ops a.tmps) = true then Oper.wp P o a w K Q else E := by
  rcases hsrc with ⟨e1, e2, e3⟩ | ⟨ad, c, e1, e2, e3⟩
  · subst e1 e2 e3
    have hw : Region.wanted o (yielded ops a.tmps) = true := by simp [Region.wanted, hgd]
    rw [if_pos hw]
    have hrun := run_append_owned_none (P := P) (w := w) base t o.type e i size ht hi v n xs hown
    unfold Oper.wp execOp
    simp only [ho, resolve, invoke, builtin, Sem.run_bind, Sem.run_pure, Result.andThen_ok, List.map_toArray, List.map_cons, List.map_nil, hs, hx, hrun]
    exact h v w (by simpa using hown) ⟨rfl, rfl, rfl, Nat.le_refl _, fun _ _ _ => rfl⟩
  · subst e1
    exact step_append_own hgd s x t ho base e i z size bytes ht hi hz hsize hby hzs hsz v n xs hs hown ad m c news hx e2 e3 h1 h63 hbytes hbase fun v' w' h2 h3 _ => h v' w' h2 h3
theorem own_snoc {w : World} {B : Nat} {v : Value} {l : List Cg} {e : Cg} (h : w.ownsRow B 120 2 v (l.length + 1) (flatC l ++ e.cells.toList)) : OwnC w B v (l ++ [e]) := by
  unfold OwnC
  rw [flatC_snoc, List.length_append]
  exact h
theorem own_app {w : World} {B : Nat} {v : Value} {l k : List Cg} (h : w.ownsRow B 120 2 v (l.length + k.length) (flatC l ++ flatC k)) : OwnC w B v (l ++ k) := by
  unfold OwnC
  rw [flatC_app, List.length_append]
  exact h
theorem src_of {w : World} {B : Nat} {v : Value} {l : List Cg} (h : OwnC w B v l) : (v = .slice none 0 0 ∧ l.length = 0 ∧ flatC l = []) ∨ ∃ ad c, v = .slice (some ad) l.length c ∧ (flatC l).length = l.length * 2 ∧ ∀ j u, (flatC l)[j]? = some u → w.cell? (ad.add j) = some u := by
  obtain ⟨A, cap, h1, h2, h3, h4⟩ := h.slice
  rcases h4 with ⟨e1, e2, e3⟩ | ⟨g, e1, e2, e3, e4⟩
  · subst e1 e2 e3
    exact .inl ⟨h1, rfl, rfl⟩
  · subst e1
    exact .inr ⟨_, cap, h1, flatC_len l, fun j u hu => by rw [Addr.add_lit, Nat.zero_add]; exact e4 j u hu⟩
theorem gone_next (now : List Nd) (l : List Nd) (j : Nat) (hj : j < l.length) : goneC (l.take (j + 1)) now = goneC (l.take j) now ++ (if fz now (l[j]).nm = -1 then [⟨(l[j]).nm, 1⟩] else []) := by
  unfold goneC
  rw [List.take_add_one, List.getElem?_eq_getElem hj, List.filter_append, List.map_append]
  congr 1
  by_cases h : fz now (l[j]).nm = -1
  · simp [h]
  · simp [h]
theorem new_next (was now : List Nd) (l : List Nd) (j : Nat) (hj : j < l.length) : newC was now (l.take (j + 1)) = newC was now (l.take j) ++ oneC was now (l[j]) := by
  unfold newC
  rw [List.take_add_one, List.getElem?_eq_getElem hj, List.flatMap_append]
  simp
theorem goneT_len (now l : List Nd) (j : Nat) : (goneC (l.take j) now).length ≤ l.length := by
  have h1 := gone_len l now (l.take j)
  rw [List.length_take] at h1
  omega
theorem newT_len (was now l : List Nd) (j : Nat) : (newC was now (l.take j)).length ≤ 3 * l.length := by
  have h1 := new_len was now (l.take j)
  rw [List.length_take] at h1
  omega
set_option maxRecDepth 100000 in
set_option maxHeartbeats 8000000 in
theorem of_any (A1 A2 : Option Addr) (c1 c2 : Nat) (was now : List Nd) (w : World) (hr1 : RdN w A1 was) (hr2 : RdN w A2 now) (l1 : was.length ≤ 60) (l2 : now.length ≤ 60) (hc1 : was.length ≤ c1) (hc2 : now.length ≤ c2) (hm1 : c1 ≤ 9223372036854775807) (hm2 : c2 ≤ 9223372036854775807) (hke : ∀ p (hp : p < was.length) q (hq : q < now.length), (was[p]).kind = (now[q]).kind) :
    Calls Tryz.prog 64 #[.slice A1 was.length c1, .slice A2 now.length c2] w fun o w' => ∃ v, o = .returned v ∧ OwnC w' w.heap.size v (goneC was now ++ newC was now now) ∧ Below w.heap.size w w' := by
  obtain ⟨i0, hi0, hz0, hz1, hz2⟩ := info_parts info_c
  have HKE := Lib.hid hke
  clear hke
  have HI0 := Lib.hid hi0
  have HZ0 := Lib.hid hz0
  have HZ1 := Lib.hid hz1
  have HZ2 := Lib.hid hz2
  have HR1 := Lib.hid hr1
  have HR2 := Lib.hid hr2
  have OE := Lib.hid (OwnC.empty w w.heap.size (Nat.le_refl _))
  have BE := Lib.hid ((Below.refl w.heap.size w).alloc (Nat.le_refl _) (.cells #[] 120))
  clear hi0 hz0 hz1 hz2 hr1 hr2
  go_enter Tryz.func64, Tryz.ntmps64
  go_wp2_with fail
  go_loopw [5, 14] (fun out i wr => ∃ j : Nat, i = .int .i64 j ∧ j ≤ was.length ∧ OwnC wr w.heap.size out (goneC (was.take j) now) ∧ Below w.heap.size w wr) (fun _ i _ => was.length - (intOf i).toNat)
  case atStart => exact ⟨0, rfl, by omega, OE.out, BE.out⟩
  case round =>
    obtain ⟨j, rfl, hj, how, hbel⟩ := hrel
    have KO := Lib.hid how
    have KB := Lib.hid hbel
    clear how hbel
    by_cases hjn : j < was.length
    · have t1 : decide ((j : Int) < was.length) = true := decide_eq_true (by omega)
      have t1b : decide (j < was.length) = true := decide_eq_true hjn
      obtain ⟨b, off, hA, hbl, hC⟩ := (HR1.out.below KB.out).at_ j hjn
      subst hA
      have HNX := Lib.hid (gone_next now was j hjn)
      obtain ⟨e, he⟩ : ∃ e, e = was[j] := ⟨_, rfl⟩
      rw [← he] at hC HNX
      have d0 : wr.cell? ⟨b, off + j * 7, none⟩ = some (.string e.nm) := hC 0 (by omega)
      have d1 : wr.cell? ⟨b, off + j * 7 + 1, none⟩ = some (.int .i64 e.kind) := hC 1 (by omega)
      have d2 : wr.cell? ⟨b, off + j * 7 + 2, none⟩ = some (.int .i64 e.ab) := hC 2 (by omega)
      have d3 : wr.cell? ⟨b, off + j * 7 + 3, none⟩ = some (.int .i64 e.wt) := hC 3 (by omega)
      have d4 : wr.cell? ⟨b, off + j * 7 + 4, none⟩ = some (.bool e.v6) := hC 4 (by omega)
      have d5 : wr.cell? ⟨b, off + j * 7 + 5, none⟩ = some (.int .u64 e.hi) := hC 5 (by omega)
      have d6 : wr.cell? ⟨b, off + j * 7 + 6, none⟩ = some (.int .u64 e.lo) := hC 6 (by omega)
      have j0 : (0 : Int) ≤ j := by omega
      have j1 : (j : Int) < was.length := by omega
      have hba : Below wr.heap.size wr (wr.alloc (.cells #[.string e.nm, .int .i64 e.kind, .int .i64 e.ab, .int .i64 e.wt, .bool e.v6, .int .u64 e.hi, .int .u64 e.lo] 67)) := (Below.refl wr.heap.size wr).alloc (Nat.le_refl _) _
      have HF := Lib.hid (find_any A2 c2 now e.nm (wr.alloc (.cells #[.string e.nm, .int .i64 e.kind, .int .i64 e.ab, .int .i64 e.wt, .bool e.v6, .int .u64 e.hi, .int .u64 e.lo] 67)) ((HR2.out.below KB.out).below hba) (by omega) hc2 hm2)
      have HK := Lib.hid (Blk.new wr 67 #[.string e.nm, .int .i64 e.kind, .int .i64 e.ab, .int .i64 e.wt, .bool e.v6, .int .u64 e.hi, .int .u64 e.lo])
      have HBA := Lib.hid (KB.out.trans (hba.mono KB.out.size))
      have HOA := Lib.hid (KO.out.alloc (.cells #[.string e.nm, .int .i64 e.kind, .int .i64 e.ab, .int .i64 e.wt, .bool e.v6, .int .u64 e.hi, .int .u64 e.lo] 67))
      clear hC he hba
      go_wp2_with fail
      refine HF.out.mono ?_
      rintro o w3 ⟨at', rfl, hfd, hb⟩
      have HZ := Lib.hid (fz_is now e.nm at' hfd)
      have B3 := Lib.hid (HBA.out.trans (hb.mono HBA.out.size))
      have O3 := Lib.hid (HOA.out.below hb)
      have k0 : w3.cell? ⟨wr.heap.size, 0, none⟩ = some (.string e.nm) := (show Blk w3 wr.heap.size 67 #[.string e.nm, .int .i64 e.kind, .int .i64 e.ab, .int .i64 e.wt, .bool e.v6, .int .u64 e.hi, .int .u64 e.lo] from (hb.block _ HK.out.lt).trans HK.out).cell 0
      have HGL := Lib.hid (goneT_len now was j)
      clear hb HF d0 d1 d2 d3 d4 d5 d6
      by_cases hm : at' = -1
      · have t3 : (at' == -1) = true := by simp [hm]
        rw [HZ.out, if_pos hm] at HNX
        clear hm hfd
        have KO2 := Lib.hid (O3.out.alloc (.cells #[.string e.nm, .int .i64 1] 120))
        have KB2 := Lib.hid (B3.out.alloc B3.out.size (.cells #[.string e.nm, .int .i64 1] 120))
        have HNE := Lib.hid (show ∀ p u, (Cg.cells ⟨e.nm, 1⟩).toList[p]? = some u → (w3.alloc (.cells #[.string e.nm, .int .i64 1] 120)).cell? ((⟨w3.heap.size, 0, none⟩ : Addr).add p) = some u from fun p u hu => by
          rw [Addr.add_lit, Nat.zero_add, (Blk.new w3 120 #[.string e.nm, .int .i64 1]).cell p]
          have h2 : (Cg.cells ⟨e.nm, 1⟩)[p]? = some u := by simpa using hu
          exact h2)
        have P1 := Lib.hid (show (goneC (was.take j) now).length + 1 ≤ maxLen by unfold maxLen; have := HGL.out; omega)
        have P2 := Lib.hid (show ((goneC (was.take j) now).length + 1) * 24 ≤ 140737488355328 by have := HGL.out; omega)
        have P3 := Lib.hid (show w.heap.size ≤ (w3.alloc (.cells #[.string e.nm, .int .i64 1] 120)).heap.size from KB2.out.size)
        go_wp2_with (at_builtin; refine wpList_append_own _ rfl (.tmp 23) (.tmp 27) _ rfl w.heap.size 120 i0 _ 2 24 Tryz.underlying117 HI0.out HZ0.out HZ1.out HZ2.out rfl (by omega) _ (goneC (was.take j) now).length (flatC (goneC (was.take j) now)) rfl KO2.out ⟨w3.heap.size, 0, none⟩ 1 1 (Cg.cells ⟨e.nm, 1⟩).toList rfl rfl HNE.out (one_c1 _) P1.out P2.out P3.out ?_; intro v6 w6 ho hg _; have HO1 := Lib.hid (own_snoc (l := goneC (was.take j) now) (e := ⟨e.nm, 1⟩) ho); have HB1 := Lib.hid (KB2.out.grown hg P3.out (fun k hk => (KO2.out.lt k hk).1)); clear ho hg)
        go_roundw
        case rel => exact ⟨j + 1, by go_num, by omega, by rw [HNX.out]; exact HO1.out, HB1.out⟩
        case measure => simp [intOf]; omega
      · have t3 : (at' == -1) = false := by simp [hm]
        rw [HZ.out, if_neg hm, List.append_nil] at HNX
        clear hm hfd
        go_wp2_with fail
        go_roundw
        case rel => exact ⟨j + 1, by go_num, by omega, by rw [HNX.out]; exact O3.out, B3.out⟩
        case measure => simp [intOf]; omega
    · have t1 : decide ((j : Int) < was.length) = false := decide_eq_false (by omega)
      have t1b : decide (j < was.length) = false := decide_eq_false hjn
      have hjl : was.take j = was := List.take_of_length_le (by omega)
      rw [hjl] at KO
      have O1 := Lib.hid (show OwnC wr w.heap.size u5 (goneC was now ++ newC was now (now.take 0)) from by
        have : newC was now (now.take 0) = [] := by simp [newC]
        rw [this, List.append_nil]
        exact KO.out)
      clear hjl
      go_wp2_with fail
      go_loopw [5, 32] (fun out i wz => ∃ q : Nat, i = .int .i64 q ∧ q ≤ now.length ∧ OwnC wz w.heap.size out (goneC was now ++ newC was now (now.take q)) ∧ Below w.heap.size w wz) (fun _ i _ => now.length - (intOf i).toNat)
      case atStart => exact ⟨0, rfl, by omega, O1.out, KB.out⟩
      case round =>
        obtain ⟨q, rfl, hq, how, hbel⟩ := hrel
        have KO := Lib.hid how
        have KB := Lib.hid hbel
        clear how hbel
        by_cases hqn : q < now.length
        · have t2 : decide ((q : Int) < now.length) = true := decide_eq_true (by omega)
          have t2b : decide (q < now.length) = true := decide_eq_true hqn
          obtain ⟨b, off, hA, hbl, hC⟩ := (HR2.out.below KB.out).at_ q hqn
          subst hA
          have HNX := Lib.hid (new_next was now now q hqn)
          obtain ⟨e, he⟩ : ∃ e, e = now[q] := ⟨_, rfl⟩
          have HEK := Lib.hid (show ∀ p (hp : p < was.length), (was[p]).kind = e.kind from fun p hp => by rw [he]; exact HKE.out p hp q (by omega))
          rw [← he] at hC HNX
          have d0 : wr.cell? ⟨b, off + q * 7, none⟩ = some (.string e.nm) := hC 0 (by omega)
          have d1 : wr.cell? ⟨b, off + q * 7 + 1, none⟩ = some (.int .i64 e.kind) := hC 1 (by omega)
          have d2 : wr.cell? ⟨b, off + q * 7 + 2, none⟩ = some (.int .i64 e.ab) := hC 2 (by omega)
          have d3 : wr.cell? ⟨b, off + q * 7 + 3, none⟩ = some (.int .i64 e.wt) := hC 3 (by omega)
          have d4 : wr.cell? ⟨b, off + q * 7 + 4, none⟩ = some (.bool e.v6) := hC 4 (by omega)
          have d5 : wr.cell? ⟨b, off + q * 7 + 5, none⟩ = some (.int .u64 e.hi) := hC 5 (by omega)
          have d6 : wr.cell? ⟨b, off + q * 7 + 6, none⟩ = some (.int .u64 e.lo) := hC 6 (by omega)
          have j0 : (0 : Int) ≤ q := by omega
          have j1 : (q : Int) < now.length := by omega
          have hba : Below wr.heap.size wr (wr.alloc (.cells #[.string e.nm, .int .i64 e.kind, .int .i64 e.ab, .int .i64 e.wt, .bool e.v6, .int .u64 e.hi, .int .u64 e.lo] 67)) := (Below.refl wr.heap.size wr).alloc (Nat.le_refl _) _
          have HF := Lib.hid (find_any A1 c1 was e.nm (wr.alloc (.cells #[.string e.nm, .int .i64 e.kind, .int .i64 e.ab, .int .i64 e.wt, .bool e.v6, .int .u64 e.hi, .int .u64 e.lo] 67)) ((HR1.out.below KB.out).below hba) (by omega) hc1 hm1)
          have HK := Lib.hid (Blk.new wr 67 #[.string e.nm, .int .i64 e.kind, .int .i64 e.ab, .int .i64 e.wt, .bool e.v6, .int .u64 e.hi, .int .u64 e.lo])
          have HBA := Lib.hid (KB.out.trans (hba.mono KB.out.size))
          have HOA := Lib.hid (KO.out.alloc (.cells #[.string e.nm, .int .i64 e.kind, .int .i64 e.ab, .int .i64 e.wt, .bool e.v6, .int .u64 e.hi, .int .u64 e.lo] 67))
          clear hC he hba
          go_wp2_with fail
          refine HF.out.mono ?_
          rintro o w3 ⟨at', rfl, hfd, hb⟩
          have HZ := Lib.hid (fz_is was e.nm at' hfd)
          have B3 := Lib.hid (HBA.out.trans (hb.mono HBA.out.size))
          have O3 := Lib.hid (HOA.out.below hb)
          have K3 := Lib.hid (show Blk w3 wr.heap.size 67 #[.string e.nm, .int .i64 e.kind, .int .i64 e.ab, .int .i64 e.wt, .bool e.v6, .int .u64 e.hi, .int .u64 e.lo] from (hb.block _ HK.out.lt).trans HK.out)
          have HGL := Lib.hid (show (goneC was now ++ newC was now (now.take q)).length ≤ 300 from by
            have h1 := goneT_len now was was.length
            rw [List.take_length] at h1
            have h2 := newT_len was now now q
            rw [List.length_append]
            omega)
          clear hb HF d0 d1 d2 d3 d4 d5 d6
          rcases hfd with ⟨rfl, hno⟩ | ⟨p, hp, rfl, hpn, _⟩
          · have HON := Lib.hid (show goneC was now ++ newC was now (now.take (q + 1)) = (goneC was now ++ newC was now (now.take q)) ++ [⟨e.nm, 2⟩] from by
              rw [HNX.out, List.append_assoc]
              congr 2
              unfold oneC
              rw [if_pos HZ.out])
            have k0 := K3.out.cell 0
            have k0' : w3.cell? ⟨wr.heap.size, 0, none⟩ = some (.string e.nm) := k0
            clear hno k0
            have KO2 := Lib.hid (O3.out.alloc (.cells #[.string e.nm, .int .i64 2] 120))
            have KB2 := Lib.hid (B3.out.alloc B3.out.size (.cells #[.string e.nm, .int .i64 2] 120))
            have HNE := Lib.hid (show ∀ p u, (Cg.cells ⟨e.nm, 2⟩).toList[p]? = some u → (w3.alloc (.cells #[.string e.nm, .int .i64 2] 120)).cell? ((⟨w3.heap.size, 0, none⟩ : Addr).add p) = some u from fun p u hu => by
              rw [Addr.add_lit, Nat.zero_add, (Blk.new w3 120 #[.string e.nm, .int .i64 2]).cell p]
              have h2 : (Cg.cells ⟨e.nm, 2⟩)[p]? = some u := by simpa using hu
              exact h2)
            have P1 := Lib.hid (show (goneC was now ++ newC was now (now.take q)).length + 1 ≤ maxLen by unfold maxLen; have := HGL.out; omega)
            have P2 := Lib.hid (show ((goneC was now ++ newC was now (now.take q)).length + 1) * 24 ≤ 140737488355328 by have := HGL.out; omega)
            have P3 := Lib.hid (show w.heap.size ≤ (w3.alloc (.cells #[.string e.nm, .int .i64 2] 120)).heap.size from KB2.out.size)
            go_wp2_with (at_builtin; refine wpList_append_own _ rfl (.tmp 42) (.tmp 46) _ rfl w.heap.size 120 i0 _ 2 24 Tryz.underlying117 HI0.out HZ0.out HZ1.out HZ2.out rfl (by omega) _ (goneC was now ++ newC was now (now.take q)).length (flatC (goneC was now ++ newC was now (now.take q))) rfl KO2.out ⟨w3.heap.size, 0, none⟩ 1 1 (Cg.cells ⟨e.nm, 2⟩).toList rfl rfl HNE.out (one_c1 _) P1.out P2.out P3.out ?_; intro v6 w6 ho hg _; have HO1 := Lib.hid (own_snoc (l := goneC was now ++ newC was now (now.take q)) (e := ⟨e.nm, 2⟩) ho); have HB1 := Lib.hid (KB2.out.grown hg P3.out (fun k hk => (KO2.out.lt k hk).1)); clear ho hg)
            go_roundw
            case rel => exact ⟨q + 1, by go_num, by omega, by rw [HON.out]; exact HO1.out, HB1.out⟩
            case measure => simp [intOf]; omega
          · obtain ⟨a, ha⟩ : ∃ a, a = was[p] := ⟨_, rfl⟩
            have HAK := Lib.hid (show a.kind = e.kind from by rw [ha]; exact HEK.out p hp)
            have HON := Lib.hid (show goneC was now ++ newC was now (now.take (q + 1)) = (goneC was now ++ newC was now (now.take q)) ++ othC a (aboveS was a) e (aboveS now e) from by
              rw [HNX.out, List.append_assoc]
              congr 2
              unfold oneC
              rw [if_neg (by rw [HZ.out]; omega), HZ.out, Int.toNat_natCast, List.getElem?_eq_getElem hp, ← ha])
            obtain ⟨b1, off1, hA1, hbl1, hC1⟩ := (HR1.out.below B3.out).at_ p hp
            subst hA1
            rw [← ha] at hC1
            have y0 : w3.cell? ⟨b1, off1 + p * 7, none⟩ = some (.string a.nm) := hC1 0 (by omega)
            have y1 : w3.cell? ⟨b1, off1 + p * 7 + 1, none⟩ = some (.int .i64 a.kind) := hC1 1 (by omega)
            have y2 : w3.cell? ⟨b1, off1 + p * 7 + 2, none⟩ = some (.int .i64 a.ab) := hC1 2 (by omega)
            have y3 : w3.cell? ⟨b1, off1 + p * 7 + 3, none⟩ = some (.int .i64 a.wt) := hC1 3 (by omega)
            have y4 : w3.cell? ⟨b1, off1 + p * 7 + 4, none⟩ = some (.bool a.v6) := hC1 4 (by omega)
            have y5 : w3.cell? ⟨b1, off1 + p * 7 + 5, none⟩ = some (.int .u64 a.hi) := hC1 5 (by omega)
            have y6 : w3.cell? ⟨b1, off1 + p * 7 + 6, none⟩ = some (.int .u64 a.lo) := hC1 6 (by omega)
            have hfr : ∀ W : World, Below w3.heap.size w3 W → (W.cell? ⟨b1, off1 + p * 7, none⟩ = some (.string a.nm) ∧ W.cell? ⟨b1, off1 + p * 7 + 1, none⟩ = some (.int .i64 a.kind) ∧ W.cell? ⟨b1, off1 + p * 7 + 2, none⟩ = some (.int .i64 a.ab) ∧ W.cell? ⟨b1, off1 + p * 7 + 3, none⟩ = some (.int .i64 a.wt) ∧ W.cell? ⟨b1, off1 + p * 7 + 4, none⟩ = some (.bool a.v6) ∧ W.cell? ⟨b1, off1 + p * 7 + 5, none⟩ = some (.int .u64 a.hi) ∧ W.cell? ⟨b1, off1 + p * 7 + 6, none⟩ = some (.int .u64 a.lo) ∧ W.cell? ⟨wr.heap.size, 0, none⟩ = some (.string e.nm) ∧ W.cell? ⟨wr.heap.size, 1, none⟩ = some (.int .i64 e.kind) ∧ W.cell? ⟨wr.heap.size, 2, none⟩ = some (.int .i64 e.ab) ∧ W.cell? ⟨wr.heap.size, 3, none⟩ = some (.int .i64 e.wt) ∧ W.cell? ⟨wr.heap.size, 4, none⟩ = some (.bool e.v6) ∧ W.cell? ⟨wr.heap.size, 5, none⟩ = some (.int .u64 e.hi) ∧ W.cell? ⟨wr.heap.size, 6, none⟩ = some (.int .u64 e.lo)) := fun W hb => by
              have h1 : Blk W wr.heap.size 67 #[.string e.nm, .int .i64 e.kind, .int .i64 e.ab, .int .i64 e.wt, .bool e.v6, .int .u64 e.hi, .int .u64 e.lo] := (hb.block _ K3.out.lt).trans K3.out
              have e9 : ∀ i, W.cell? ⟨b1, i, none⟩ = w3.cell? ⟨b1, i, none⟩ := fun i => by
                unfold World.cell?
                rw [hb.block b1 hbl1]
              refine ⟨?_, ?_, ?_, ?_, ?_, ?_, ?_, h1.cell 0, h1.cell 1, h1.cell 2, h1.cell 3, h1.cell 4, h1.cell 5, h1.cell 6⟩ <;> rw [e9] <;> assumption
            have HFR := Lib.hid hfr
            have HFS := Lib.hid (show ∀ W W' : World, W'.heap[b1]? = W.heap[b1]? → W'.heap[wr.heap.size]? = W.heap[wr.heap.size]? → (W.cell? ⟨b1, off1 + p * 7, none⟩ = some (.string a.nm) ∧ W.cell? ⟨b1, off1 + p * 7 + 1, none⟩ = some (.int .i64 a.kind) ∧ W.cell? ⟨b1, off1 + p * 7 + 2, none⟩ = some (.int .i64 a.ab) ∧ W.cell? ⟨b1, off1 + p * 7 + 3, none⟩ = some (.int .i64 a.wt) ∧ W.cell? ⟨b1, off1 + p * 7 + 4, none⟩ = some (.bool a.v6) ∧ W.cell? ⟨b1, off1 + p * 7 + 5, none⟩ = some (.int .u64 a.hi) ∧ W.cell? ⟨b1, off1 + p * 7 + 6, none⟩ = some (.int .u64 a.lo) ∧ W.cell? ⟨wr.heap.size, 0, none⟩ = some (.string e.nm) ∧ W.cell? ⟨wr.heap.size, 1, none⟩ = some (.int .i64 e.kind) ∧ W.cell? ⟨wr.heap.size, 2, none⟩ = some (.int .i64 e.ab) ∧ W.cell? ⟨wr.heap.size, 3, none⟩ = some (.int .i64 e.wt) ∧ W.cell? ⟨wr.heap.size, 4, none⟩ = some (.bool e.v6) ∧ W.cell? ⟨wr.heap.size, 5, none⟩ = some (.int .u64 e.hi) ∧ W.cell? ⟨wr.heap.size, 6, none⟩ = some (.int .u64 e.lo)) → (W'.cell? ⟨b1, off1 + p * 7, none⟩ = some (.string a.nm) ∧ W'.cell? ⟨b1, off1 + p * 7 + 1, none⟩ = some (.int .i64 a.kind) ∧ W'.cell? ⟨b1, off1 + p * 7 + 2, none⟩ = some (.int .i64 a.ab) ∧ W'.cell? ⟨b1, off1 + p * 7 + 3, none⟩ = some (.int .i64 a.wt) ∧ W'.cell? ⟨b1, off1 + p * 7 + 4, none⟩ = some (.bool a.v6) ∧ W'.cell? ⟨b1, off1 + p * 7 + 5, none⟩ = some (.int .u64 a.hi) ∧ W'.cell? ⟨b1, off1 + p * 7 + 6, none⟩ = some (.int .u64 a.lo) ∧ W'.cell? ⟨wr.heap.size, 0, none⟩ = some (.string e.nm) ∧ W'.cell? ⟨wr.heap.size, 1, none⟩ = some (.int .i64 e.kind) ∧ W'.cell? ⟨wr.heap.size, 2, none⟩ = some (.int .i64 e.ab) ∧ W'.cell? ⟨wr.heap.size, 3, none⟩ = some (.int .i64 e.wt) ∧ W'.cell? ⟨wr.heap.size, 4, none⟩ = some (.bool e.v6) ∧ W'.cell? ⟨wr.heap.size, 5, none⟩ = some (.int .u64 e.hi) ∧ W'.cell? ⟨wr.heap.size, 6, none⟩ = some (.int .u64 e.lo)) from fun W W' h1 h2 ⟨x0, x1, x2, x3, x4, x5, x6, x7, x8, x9, x10, x11, x12, x13⟩ => ⟨(World.cell?_of_block h1).trans x0, (World.cell?_of_block h1).trans x1, (World.cell?_of_block h1).trans x2, (World.cell?_of_block h1).trans x3, (World.cell?_of_block h1).trans x4, (World.cell?_of_block h1).trans x5, (World.cell?_of_block h1).trans x6, (World.cell?_of_block h2).trans x7, (World.cell?_of_block h2).trans x8, (World.cell?_of_block h2).trans x9, (World.cell?_of_block h2).trans x10, (World.cell?_of_block h2).trans x11, (World.cell?_of_block h2).trans x12, (World.cell?_of_block h2).trans x13⟩)
            have HBL1 := Lib.hid hbl1
            have HOL := Lib.hid KO.out.lt
            have HBW := Lib.hid (show b1 < w.heap.size from by
              obtain ⟨b9, off9, h9, hbw, _⟩ := HR1.out.at_ p hp
              injection h9 with h9
              injection h9 with h9
              omega)
            have R13 := Lib.hid (HR1.out.below B3.out)
            have R23 := Lib.hid (HR2.out.below B3.out)
            have B0 := Lib.hid ((Below.refl w3.heap.size w3).drew)
            have HA1 := Lib.hid (show ∀ W, Below w3.heap.size w3 W → Calls Tryz.prog 94 #[.slice (some ⟨b1, off1, none⟩) was.length c1, .agg #[.string a.nm, .int .i64 a.kind, .int .i64 a.ab, .int .i64 a.wt, .bool a.v6, .int .u64 a.hi, .int .u64 a.lo]] W fun o w' => o = .returned (.string (aboveS was a)) ∧ Below w3.heap.size w3 w' from fun W hb => (above_any _ c1 was a W (R13.out.below hb) hc1 hm1).mono fun o w' ⟨x, y⟩ => ⟨x, hb.trans (y.mono hb.size)⟩)
            have HA2 := Lib.hid (show ∀ W, Below w3.heap.size w3 W → Calls Tryz.prog 94 #[.slice (some ⟨b, off, none⟩) now.length c2, .agg #[.string e.nm, .int .i64 e.kind, .int .i64 e.ab, .int .i64 e.wt, .bool e.v6, .int .u64 e.hi, .int .u64 e.lo]] W fun o w' => o = .returned (.string (aboveS now e)) ∧ Below w3.heap.size w3 w' from fun W hb => (above_any _ c2 now e W (R23.out.below hb) hc2 hm2).mono fun o w' ⟨x, y⟩ => ⟨x, hb.trans (y.mono hb.size)⟩)
            have HOT := Lib.hid (show ∀ W, Below w3.heap.size w3 W → Calls Tryz.prog 93 #[.agg #[.string a.nm, .int .i64 a.kind, .int .i64 a.ab, .int .i64 a.wt, .bool a.v6, .int .u64 a.hi, .int .u64 a.lo], .string (aboveS was a), .agg #[.string e.nm, .int .i64 e.kind, .int .i64 e.ab, .int .i64 e.wt, .bool e.v6, .int .u64 e.hi, .int .u64 e.lo], .string (aboveS now e)] W fun o w' => ∃ v, o = .returned v ∧ OwnC w' w3.heap.size v (othC a (aboveS was a) e (aboveS now e)) ∧ Below w3.heap.size w3 w' from fun W hb => (oth_eq a e _ _ W HAK.out).mono fun o w' ⟨v, x, y, z⟩ => ⟨v, x, y.more hb.size, hb.trans (z.mono hb.size)⟩)
            have HLT := Lib.hid (oth_len a e (aboveS was a) (aboveS now e))
            have s0 := hfr _ B0.out
            have t4 : (((p : Nat) : Int) == -1) = false := by simp
            have p0 : (0 : Int) ≤ p := by omega
            have p1 : (p : Int) < was.length := by omega
            clear hC1 hfr ha hpn y0 y1 y2 y3 y4 y5 y6
            go_wp2_with fail
            go_region_held3 (fun w' => w'.cell? ⟨b1, off1 + p * 7, none⟩ = some (.string a.nm) ∧ w'.cell? ⟨b1, off1 + p * 7 + 1, none⟩ = some (.int .i64 a.kind) ∧ w'.cell? ⟨b1, off1 + p * 7 + 2, none⟩ = some (.int .i64 a.ab) ∧ w'.cell? ⟨b1, off1 + p * 7 + 3, none⟩ = some (.int .i64 a.wt) ∧ w'.cell? ⟨b1, off1 + p * 7 + 4, none⟩ = some (.bool a.v6) ∧ w'.cell? ⟨b1, off1 + p * 7 + 5, none⟩ = some (.int .u64 a.hi) ∧ w'.cell? ⟨b1, off1 + p * 7 + 6, none⟩ = some (.int .u64 a.lo) ∧ w'.cell? ⟨wr.heap.size, 0, none⟩ = some (.string e.nm) ∧ w'.cell? ⟨wr.heap.size, 1, none⟩ = some (.int .i64 e.kind) ∧ w'.cell? ⟨wr.heap.size, 2, none⟩ = some (.int .i64 e.ab) ∧ w'.cell? ⟨wr.heap.size, 3, none⟩ = some (.int .i64 e.wt) ∧ w'.cell? ⟨wr.heap.size, 4, none⟩ = some (.bool e.v6) ∧ w'.cell? ⟨wr.heap.size, 5, none⟩ = some (.int .u64 e.hi) ∧ w'.cell? ⟨wr.heap.size, 6, none⟩ = some (.int .u64 e.lo)) (assumption)
              (first
                | (go_at_call 94
                   (with_reducible refine (HA1.out _ (by first | exact B5b.out | exact B0.out)).mono ?_)
                   rintro o w5 ⟨rfl, hb⟩
                   have s5 := HFR.out _ hb
                   have B5a := Lib.hid hb
                   clear hb)
                | (go_at_call 94
                   (with_reducible refine (HA2.out _ (by first | exact B5a.out | exact B0.out)).mono ?_)
                   rintro o w6 ⟨rfl, hb⟩
                   have s6 := HFR.out _ hb
                   have B5b := Lib.hid hb
                   clear hb)
                | (go_at_call 93
                   (with_reducible refine (HOT.out _ (by first | exact B5b.out | exact B5a.out)).mono ?_)
                   rintro o w7 ⟨v7, rfl, ho, hb⟩
                   have s7 := HFR.out _ hb
                   have O7 := Lib.hid ho
                   have B7 := Lib.hid hb
                   have KO7 := Lib.hid (O3.out.below hb)
                   have P1 := Lib.hid (show (goneC was now ++ newC was now (now.take q)).length + (othC a (aboveS was a) e (aboveS now e)).length ≤ maxLen by unfold maxLen; have := HGL.out; have := HLT.out; omega)
                   have P2 := Lib.hid (show ((goneC was now ++ newC was now (now.take q)).length + (othC a (aboveS was a) e (aboveS now e)).length) * 24 ≤ 140737488355328 by have := HGL.out; have := HLT.out; omega)
                   have P3 := Lib.hid (Nat.le_trans B3.out.size hb.size)
                   clear ho hb)
                | (refine step_append_any rfl (.tmp 48) (.tmp 63) _ rfl w.heap.size 120 i0 _ 2 24 Tryz.underlying117 HI0.out HZ0.out HZ1.out HZ2.out rfl (by omega) _ (goneC was now ++ newC was now (now.take q)).length (flatC (goneC was now ++ newC was now (now.take q))) rfl KO7.out v7 (othC a (aboveS was a) e (aboveS now e)).length (flatC (othC a (aboveS was a) e (aboveS now e))) rfl (src_of O7.out) (one_c _) P1.out P2.out P3.out ?_
                   intro v8 w8 ho hg
                   have O8 := Lib.hid (own_app ho)
                   have B8 := Lib.hid ((B3.out.trans (B7.out.mono B3.out.size)).grown hg P3.out (fun k hk => (KO7.out.lt k hk).1))
                   have s8 := HFS.out w7 w8 (hg.block b1 (Nat.lt_of_lt_of_le HBL1.out B7.out.size) (fun e2 => by have h5 := (HOL.out b1 e2.symm).1; have h6 := HBW.out; omega)) (hg.block wr.heap.size (Nat.lt_of_lt_of_le K3.out.lt B7.out.size) (fun e2 => by have := (HOL.out _ e2.symm).2; omega)) s7
                   clear ho hg))
            all_goals
              go_wp2_with fail
              go_roundw
              case rel => exact ⟨q + 1, by go_num, by omega, by rw [HON.out]; exact O8.out, B8.out⟩
              case measure => simp [intOf]; omega
        · have t2 : decide ((q : Int) < now.length) = false := decide_eq_false (by omega)
          have t2b : decide (q < now.length) = false := decide_eq_false hqn
          have hql : now.take q = now := List.take_of_length_le (by omega)
          rw [hql] at KO
          go_wp2_with fail
          go_ret
          exact ⟨_, rfl, KO.out, KB.out⟩
def exA : Nd := ⟨⟨#[97]⟩, 0, 0, 1, false, 0, 0⟩
def exB : Nd := ⟨⟨#[97]⟩, 0, 0, 2, false, 0, 0⟩
theorem ex_is : goneC [exA] [exB] ++ newC [exA] [exB] [exB] = [⟨⟨#[97]⟩, 3⟩] := by
  have h1 : fz [exA] exB.nm = 0 := fz_is _ _ 0 (.inr ⟨0, by simp, rfl, rfl, fun q hq => by omega⟩)
  have h2 : fz [exB] exA.nm = 0 := fz_is _ _ 0 (.inr ⟨0, by simp, rfl, rfl, fun q hq => by omega⟩)
  have h3 : aboveS [exA] exA = aboveS [exB] exB := rfl
  unfold goneC newC oneC
  rw [List.flatMap_cons, List.flatMap_nil, h1]
  simp only [List.filter_cons, h2, List.filter_nil]
  rw [if_neg (by decide)]
  simp only [Int.toNat_zero, List.getElem?_cons_zero]
  unfold othC
  rw [h3]
  simp [exA, exB]
/-- Appending to a row that is one's own: it stays where it is, or is a new one. -/
theorem awake_any (w : World) : Calls Tryz.prog 37 #[] w fun o w' => o = .returned (.bool true) ∧ Below w.heap.size w w' := by
  have hw : Below w.heap.size w ((w.alloc (.cells exA.cells 67)).alloc (.cells exB.cells 67)) := ((Below.refl w.heap.size w).alloc (Nat.le_refl _) _).alloc (by simp) _
  have ra : RdN ((w.alloc (.cells exA.cells 67)).alloc (.cells exB.cells 67)) (some ⟨w.heap.size, 0, none⟩) [exA] := .inr ⟨w.heap.size, 0, rfl, by simp; omega, fun j hj i hi => by
    have hj0 : j = 0 := by simpa using hj
    subst hj0
    have hb : Blk ((w.alloc (.cells exA.cells 67)).alloc (.cells exB.cells 67)) w.heap.size 67 exA.cells := (Below.heap_alloc _ _ _ (by simp)).trans (Blk.new w _ _)
    rw [hb.cell]
    simp⟩
  have rb : RdN ((w.alloc (.cells exA.cells 67)).alloc (.cells exB.cells 67)) (some ⟨w.heap.size + 1, 0, none⟩) [exB] := .inr ⟨w.heap.size + 1, 0, rfl, by simp, fun j hj i hi => by
    have hj0 : j = 0 := by simpa using hj
    subst hj0
    have hb := Blk.new (w.alloc (.cells exA.cells 67)) 67 exB.cells
    rw [show (w.alloc (.cells exA.cells 67)).heap.size = w.heap.size + 1 by simp] at hb
    rw [hb.cell]
    simp⟩
  have HO := Lib.hid (of_any (some ⟨w.heap.size, 0, none⟩) (some ⟨w.heap.size + 1, 0, none⟩) 1 1 [exA] [exB] _ ra rb (by simp) (by simp) (by simp) (by simp) (by omega) (by omega) (fun p hp q hq => by obtain rfl : p = 0 := (by simpa using hp); obtain rfl : q = 0 := (by simpa using hq); rfl))
  rw [ex_is] at HO
  have HW := Lib.hid hw
  clear hw ra rb
  go_enter Tryz.func37, Tryz.ntmps37
  go_wp2_with fail
  refine HO.out.mono ?_
  rintro o w3 ⟨v, rfl, ho, hb⟩
  have HB := Lib.hid (HW.out.trans (hb.mono HW.out.size))
  obtain ⟨A, cap, hv, hc1, hc2, h4⟩ := ho.slice
  unfold maxLen at hc2
  rcases h4 with ⟨h5, _⟩ | ⟨g, hA, hg1, hg2, hcell⟩
  · cases h5
  subst hA hv
  have d0 : w3.cell? ⟨g, 0, none⟩ = some (.string ⟨#[97]⟩) := hcell 0 _ rfl
  have d1 : w3.cell? ⟨g, 1, none⟩ = some (.int .i64 3) := hcell 1 _ rfl
  clear ho hb hcell
  go_wp2_with fail
  go_ret
  first | exact ⟨rfl, HB.out⟩ | exact ⟨rfl, HB.out.drew⟩
end Go.Proofs.YtoaboklckkcjcaaGreat.dfX
