/- Layer 19: whether two slices say the same. -/
import Derived.Test.YtamndmlaikgogaaVdJ
import Derived.Deep.QuietTactic
import Derived.BigQuiet
namespace Go.Proofs.Ytamndmlaikgogaa.vdP
open Go.ChangeShapes Go.WideShapes Go.ChangeAt Go.RowKit
open Go.Proofs.Ytamndmlaikgogaa.base Go.Proofs.Ytamndmlaikgogaa.dfA Go.Proofs.Ytamndmlaikgogaa.treB Go.Proofs.Ytamndmlaikgogaa.vdA
set_option linter.unusedVariables false

theorem rdN_rows {w : World} {A : Option Addr} {l : List Nd} (h : RdN w A l) : RowsOf w A l.length 7 (fun j => (l.getD j zNd).cells.toList) := by
  rcases h with h0 | ⟨b, off, h1, h2, h3⟩
  · exact .inl (by rw [h0]; rfl)
  · refine .inr ⟨b, off, h1, h2, fun j hj i hi => ?_⟩
    rw [h3 j hj i hi]
    show _ = ((l.getD j zNd).cells.toList)[i]?
    rw [List.getD_eq_getElem?_getD, List.getElem?_eq_getElem hj]
    simp
def allB (q : Nat → Bool) (n : Nat) : Bool := (List.range n).all q
theorem allB_next {q : Nat → Bool} {n : Nat} : allB q (n + 1) = (allB q n && q n) := by
  unfold allB; rw [List.range_succ, List.all_append]; simp
theorem allB_bad {q : Nat → Bool} {k n : Nat} (hk : k < n) (h : q k = false) : allB q n = false := by
  cases e : allB q n with
  | false => rfl
  | true =>
    unfold allB at e
    rw [List.all_eq_true] at e
    have := e k (by simpa using hk)
    rw [h] at this; cases this
def RetB (b : Bool) (w : World) (o : Ending) (w' : World) : Prop := o = .returned (.bool b) ∧ Below w.heap.size w w'
def eqN (x y : Nd) : Bool := (x.nm.toList == y.nm.toList) && x.kind == y.kind && x.ab == y.ab && x.wt == y.wt && x.v6 == y.v6 && x.hi == y.hi && x.lo == y.lo
theorem neN_run (x y : Nd) (W : World) : (binOp .neq 44 (.agg #[.string x.nm, .int .i64 x.kind, .int .i64 x.ab, .int .i64 x.wt, .bool x.v6, .int .u64 x.hi, .int .u64 x.lo]) (.agg #[.string y.nm, .int .i64 y.kind, .int .i64 y.ab, .int .i64 y.wt, .bool y.v6, .int .u64 y.hi, .int .u64 y.lo])).run Try.prog W = .ok (.bool (!(eqN x y))) W := by
  obtain ⟨xnm, xkind, xab, xwt, xv6, xhi, xlo⟩ := x
  obtain ⟨ynm, ykind, yab, ywt, yv6, yhi, ylo⟩ := y
  unfold eqN
  dsimp only
  go_simp
  by_cases h_nm : xnm.toList = ynm.toList
  case neg => simp [h_nm]
  by_cases h_kind : xkind = ykind
  case neg => simp [h_nm, h_kind]
  by_cases h_ab : xab = yab
  case neg => simp [h_nm, h_kind, h_ab]
  by_cases h_wt : xwt = ywt
  case neg => simp [h_nm, h_kind, h_ab, h_wt]
  by_cases h_v6 : xv6 = yv6
  case neg => simp [h_nm, h_kind, h_ab, h_wt, h_v6]
  by_cases h_hi : xhi = yhi
  case neg => simp [h_nm, h_kind, h_ab, h_wt, h_v6, h_hi]
  by_cases h_lo : xlo = ylo
  case neg => simp [h_nm, h_kind, h_ab, h_wt, h_v6, h_hi, h_lo]
  simp [h_nm, h_kind, h_ab, h_wt, h_v6, h_hi, h_lo]
set_option maxHeartbeats 4000000 in
theorem equal_N (A : Option Addr) (c : Nat) (l : List Nd) (A' : Option Addr) (c' : Nat) (l' : List Nd) (w : World) (hr : RowsOf w A l.length 7 (fun j => (l.getD j zNd).cells.toList)) (hr' : RowsOf w A' l'.length 7 (fun j => (l'.getD j zNd).cells.toList))
    (h1 : l.length ≤ c) (h2 : c ≤ 9223372036854775807) (h3 : l'.length ≤ c') (h4 : c' ≤ 9223372036854775807) :
    Calls Try.prog 37 #[.slice A l.length c, .slice A' l'.length c'] w (RetB (l.length == l'.length && allB (fun j => eqN (l.getD j zNd) (l'.getD j zNd)) l.length) w) := by
  obtain ⟨Q, hQ⟩ : ∃ Q, Q = (l.length == l'.length && allB (fun j => eqN (l.getD j zNd) (l'.getD j zNd)) l.length) := ⟨_, rfl⟩
  have HQ := Lib.hid hQ
  rw [← hQ]
  have R1 := Lib.hid hr
  have R2 := Lib.hid hr'
  have W0 := Lib.hid (Below.refl w.heap.size w)
  have HP := Lib.hid (show ∀ b : Bool, Q = b → ∀ W, Below w.heap.size w W → RetB Q w (.returned (.bool b)) W from fun v h W hb => ⟨by rw [h], hb⟩)
  obtain ⟨n, hn⟩ : ∃ n, n = l.length := ⟨_, rfl⟩
  obtain ⟨m, hm⟩ : ∃ m, m = l'.length := ⟨_, rfl⟩
  rw [← hn, ← hm] at HQ
  rw [← hn] at h1 R1 ⊢
  rw [← hm] at h3 R2 ⊢
  clear hQ hr hr' hn hm
  by_cases hnm : n = m
  case neg =>
    have t1 : ((n : Int) != (m : Int)) = true := bne_iff_ne.mpr (by omega)
    have t2 : (n != m) = true := bne_iff_ne.mpr hnm
    have HX := Lib.hid (show Q = false from by rw [HQ.out, show (n == m) = false from beq_false_of_ne hnm]; rfl)
    clear hnm
    go_enter Try.func37, Try.ntmps37
    go_wp2_with fail
    go_ret
    exact HP.out false HX.out _ W0.out
  case pos =>
    subst hnm
    have HQ := Lib.hid (show Q = allB (fun j => eqN (l.getD j zNd) (l'.getD j zNd)) n from by rw [HQ.out, show (n == n) = true from beq_self_eq_true n]; rfl)
    go_enter Try.func37, Try.ntmps37
    go_wp2_with fail
    go_loopw [13] (fun i wr => ∃ k : Nat, i = .int .i64 k ∧ k ≤ n ∧ allB (fun j => eqN (l.getD j zNd) (l'.getD j zNd)) k = true ∧ Below w.heap.size w wr) (fun i _ => n - (intOf i).toNat)
    case atStart => exact ⟨0, rfl, by omega, rfl, W0.out⟩
    case round =>
      obtain ⟨k, rfl, hk, hal, hbel⟩ := hrel
      have KB := Lib.hid hbel
      have KA := Lib.hid hal
      clear hbel hal
      by_cases hkn : k < n
      · have t1 : decide ((k : Int) < n) = true := decide_eq_true (by omega)
        have t3 : decide (k < n) = true := decide_eq_true hkn
        obtain ⟨b, off, hA, _, hC⟩ := rows_at (rows_below R1.out KB.out) k hkn
        obtain ⟨b', off', hA', _, hC'⟩ := rows_at (rows_below R2.out KB.out) k hkn
        subst hA hA'
        obtain ⟨x, hx⟩ : ∃ x, x = l.getD k zNd := ⟨_, rfl⟩
        obtain ⟨y, hy⟩ : ∃ y, y = l'.getD k zNd := ⟨_, rfl⟩
        have hCC := hC
        have hCC' := hC'
        simp only [← hx] at hCC
        simp only [← hy] at hCC'
        have HNE := fun W => neN_run x y W
        obtain ⟨q, hq⟩ : ∃ q, q = eqN x y := ⟨_, rfl⟩
        rw [← hq] at HNE
        have HNX := Lib.hid (show allB (fun j => eqN (l.getD j zNd) (l'.getD j zNd)) (k + 1) = q from by rw [allB_next, KA.out, Bool.true_and, hq, hx, hy])
        have HBD := Lib.hid (show q = false → Q = false from fun h => by rw [HQ.out]; exact allB_bad hkn (by rw [← h, hq, hx, hy]))
        have d0 : wr.cell? ⟨b, off + k * 7, none⟩ = some (.string x.nm) := hCC 0 (by omega)
        have d1 : wr.cell? ⟨b, off + k * 7 + 1, none⟩ = some (.int .i64 x.kind) := hCC 1 (by omega)
        have d2 : wr.cell? ⟨b, off + k * 7 + 2, none⟩ = some (.int .i64 x.ab) := hCC 2 (by omega)
        have d3 : wr.cell? ⟨b, off + k * 7 + 3, none⟩ = some (.int .i64 x.wt) := hCC 3 (by omega)
        have d4 : wr.cell? ⟨b, off + k * 7 + 4, none⟩ = some (.bool x.v6) := hCC 4 (by omega)
        have d5 : wr.cell? ⟨b, off + k * 7 + 5, none⟩ = some (.int .u64 x.hi) := hCC 5 (by omega)
        have d6 : wr.cell? ⟨b, off + k * 7 + 6, none⟩ = some (.int .u64 x.lo) := hCC 6 (by omega)
        have e0' : wr.cell? ⟨b', off' + k * 7, none⟩ = some (.string y.nm) := hCC' 0 (by omega)
        have e1' : wr.cell? ⟨b', off' + k * 7 + 1, none⟩ = some (.int .i64 y.kind) := hCC' 1 (by omega)
        have e2' : wr.cell? ⟨b', off' + k * 7 + 2, none⟩ = some (.int .i64 y.ab) := hCC' 2 (by omega)
        have e3' : wr.cell? ⟨b', off' + k * 7 + 3, none⟩ = some (.int .i64 y.wt) := hCC' 3 (by omega)
        have e4' : wr.cell? ⟨b', off' + k * 7 + 4, none⟩ = some (.bool y.v6) := hCC' 4 (by omega)
        have e5' : wr.cell? ⟨b', off' + k * 7 + 5, none⟩ = some (.int .u64 y.hi) := hCC' 5 (by omega)
        have e6' : wr.cell? ⟨b', off' + k * 7 + 6, none⟩ = some (.int .u64 y.lo) := hCC' 6 (by omega)
        have j0 : (0 : Int) ≤ k := by omega
        have j1 : (k : Int) < n := by omega
        clear hC hC' hCC hCC' hx hy hq
        cases q
        all_goals
          go_wp2_with fail
          go_quiet (fail)
          go_wp2_with fail
        all_goals first
          | (go_roundw
             case rel => exact ⟨k + 1, by go_num, by omega, HNX.out, below_drewN KB.out _⟩
             case measure => simp [intOf]; omega)
          | (go_ret
             exact HP.out false (HBD.out (by first | rfl | trivial)) _ (below_drewN KB.out _))
      · have t1 : decide ((k : Int) < n) = false := decide_eq_false (by omega)
        have t3 : decide (k < n) = false := decide_eq_false hkn
        obtain rfl : n = k := by omega
        go_wp2_with fail
        go_ret
        exact HP.out true (by rw [HQ.out]; exact KA.out) _ KB.out
def eqV (x y : Vp) : Bool := x.v6 == y.v6 && x.hi == y.hi && x.lo == y.lo && x.pr == y.pr && x.po == y.po && x.co == y.co && x.nat == y.nat
theorem neV_run (x y : Vp) (W : World) : (binOp .neq 48 (.agg #[.bool x.v6, .int .u64 x.hi, .int .u64 x.lo, .int .i64 x.pr, .int .i64 x.po, .int .i64 x.co, .bool x.nat]) (.agg #[.bool y.v6, .int .u64 y.hi, .int .u64 y.lo, .int .i64 y.pr, .int .i64 y.po, .int .i64 y.co, .bool y.nat])).run Try.prog W = .ok (.bool (!(eqV x y))) W := by
  obtain ⟨xv6, xhi, xlo, xpr, xpo, xco, xnat⟩ := x
  obtain ⟨yv6, yhi, ylo, ypr, ypo, yco, ynat⟩ := y
  unfold eqV
  dsimp only
  go_simp
  by_cases h_v6 : xv6 = yv6
  case neg => simp [h_v6]
  by_cases h_hi : xhi = yhi
  case neg => simp [h_v6, h_hi]
  by_cases h_lo : xlo = ylo
  case neg => simp [h_v6, h_hi, h_lo]
  by_cases h_pr : xpr = ypr
  case neg => simp [h_v6, h_hi, h_lo, h_pr]
  by_cases h_po : xpo = ypo
  case neg => simp [h_v6, h_hi, h_lo, h_pr, h_po]
  by_cases h_co : xco = yco
  case neg => simp [h_v6, h_hi, h_lo, h_pr, h_po, h_co]
  by_cases h_nat : xnat = ynat
  case neg => simp [h_v6, h_hi, h_lo, h_pr, h_po, h_co, h_nat]
  simp [h_v6, h_hi, h_lo, h_pr, h_po, h_co, h_nat]
set_option maxHeartbeats 4000000 in
theorem equal_V (A : Option Addr) (c : Nat) (l : List Vp) (A' : Option Addr) (c' : Nat) (l' : List Vp) (w : World) (hr : RowsOf w A l.length 7 (fun j => (l.getD j zVp).cells.toList)) (hr' : RowsOf w A' l'.length 7 (fun j => (l'.getD j zVp).cells.toList))
    (h1 : l.length ≤ c) (h2 : c ≤ 9223372036854775807) (h3 : l'.length ≤ c') (h4 : c' ≤ 9223372036854775807) :
    Calls Try.prog 38 #[.slice A l.length c, .slice A' l'.length c'] w (RetB (l.length == l'.length && allB (fun j => eqV (l.getD j zVp) (l'.getD j zVp)) l.length) w) := by
  obtain ⟨Q, hQ⟩ : ∃ Q, Q = (l.length == l'.length && allB (fun j => eqV (l.getD j zVp) (l'.getD j zVp)) l.length) := ⟨_, rfl⟩
  have HQ := Lib.hid hQ
  rw [← hQ]
  have R1 := Lib.hid hr
  have R2 := Lib.hid hr'
  have W0 := Lib.hid (Below.refl w.heap.size w)
  have HP := Lib.hid (show ∀ b : Bool, Q = b → ∀ W, Below w.heap.size w W → RetB Q w (.returned (.bool b)) W from fun v h W hb => ⟨by rw [h], hb⟩)
  obtain ⟨n, hn⟩ : ∃ n, n = l.length := ⟨_, rfl⟩
  obtain ⟨m, hm⟩ : ∃ m, m = l'.length := ⟨_, rfl⟩
  rw [← hn, ← hm] at HQ
  rw [← hn] at h1 R1 ⊢
  rw [← hm] at h3 R2 ⊢
  clear hQ hr hr' hn hm
  by_cases hnm : n = m
  case neg =>
    have t1 : ((n : Int) != (m : Int)) = true := bne_iff_ne.mpr (by omega)
    have t2 : (n != m) = true := bne_iff_ne.mpr hnm
    have HX := Lib.hid (show Q = false from by rw [HQ.out, show (n == m) = false from beq_false_of_ne hnm]; rfl)
    clear hnm
    go_enter Try.func38, Try.ntmps38
    go_wp2_with fail
    go_ret
    exact HP.out false HX.out _ W0.out
  case pos =>
    subst hnm
    have HQ := Lib.hid (show Q = allB (fun j => eqV (l.getD j zVp) (l'.getD j zVp)) n from by rw [HQ.out, show (n == n) = true from beq_self_eq_true n]; rfl)
    go_enter Try.func38, Try.ntmps38
    go_wp2_with fail
    go_loopw [13] (fun i wr => ∃ k : Nat, i = .int .i64 k ∧ k ≤ n ∧ allB (fun j => eqV (l.getD j zVp) (l'.getD j zVp)) k = true ∧ Below w.heap.size w wr) (fun i _ => n - (intOf i).toNat)
    case atStart => exact ⟨0, rfl, by omega, rfl, W0.out⟩
    case round =>
      obtain ⟨k, rfl, hk, hal, hbel⟩ := hrel
      have KB := Lib.hid hbel
      have KA := Lib.hid hal
      clear hbel hal
      by_cases hkn : k < n
      · have t1 : decide ((k : Int) < n) = true := decide_eq_true (by omega)
        have t3 : decide (k < n) = true := decide_eq_true hkn
        obtain ⟨b, off, hA, _, hC⟩ := rows_at (rows_below R1.out KB.out) k hkn
        obtain ⟨b', off', hA', _, hC'⟩ := rows_at (rows_below R2.out KB.out) k hkn
        subst hA hA'
        obtain ⟨x, hx⟩ : ∃ x, x = l.getD k zVp := ⟨_, rfl⟩
        obtain ⟨y, hy⟩ : ∃ y, y = l'.getD k zVp := ⟨_, rfl⟩
        have hCC := hC
        have hCC' := hC'
        simp only [← hx] at hCC
        simp only [← hy] at hCC'
        have HNE := fun W => neV_run x y W
        obtain ⟨q, hq⟩ : ∃ q, q = eqV x y := ⟨_, rfl⟩
        rw [← hq] at HNE
        have HNX := Lib.hid (show allB (fun j => eqV (l.getD j zVp) (l'.getD j zVp)) (k + 1) = q from by rw [allB_next, KA.out, Bool.true_and, hq, hx, hy])
        have HBD := Lib.hid (show q = false → Q = false from fun h => by rw [HQ.out]; exact allB_bad hkn (by rw [← h, hq, hx, hy]))
        have d0 : wr.cell? ⟨b, off + k * 7, none⟩ = some (.bool x.v6) := hCC 0 (by omega)
        have d1 : wr.cell? ⟨b, off + k * 7 + 1, none⟩ = some (.int .u64 x.hi) := hCC 1 (by omega)
        have d2 : wr.cell? ⟨b, off + k * 7 + 2, none⟩ = some (.int .u64 x.lo) := hCC 2 (by omega)
        have d3 : wr.cell? ⟨b, off + k * 7 + 3, none⟩ = some (.int .i64 x.pr) := hCC 3 (by omega)
        have d4 : wr.cell? ⟨b, off + k * 7 + 4, none⟩ = some (.int .i64 x.po) := hCC 4 (by omega)
        have d5 : wr.cell? ⟨b, off + k * 7 + 5, none⟩ = some (.int .i64 x.co) := hCC 5 (by omega)
        have d6 : wr.cell? ⟨b, off + k * 7 + 6, none⟩ = some (.bool x.nat) := hCC 6 (by omega)
        have e0' : wr.cell? ⟨b', off' + k * 7, none⟩ = some (.bool y.v6) := hCC' 0 (by omega)
        have e1' : wr.cell? ⟨b', off' + k * 7 + 1, none⟩ = some (.int .u64 y.hi) := hCC' 1 (by omega)
        have e2' : wr.cell? ⟨b', off' + k * 7 + 2, none⟩ = some (.int .u64 y.lo) := hCC' 2 (by omega)
        have e3' : wr.cell? ⟨b', off' + k * 7 + 3, none⟩ = some (.int .i64 y.pr) := hCC' 3 (by omega)
        have e4' : wr.cell? ⟨b', off' + k * 7 + 4, none⟩ = some (.int .i64 y.po) := hCC' 4 (by omega)
        have e5' : wr.cell? ⟨b', off' + k * 7 + 5, none⟩ = some (.int .i64 y.co) := hCC' 5 (by omega)
        have e6' : wr.cell? ⟨b', off' + k * 7 + 6, none⟩ = some (.bool y.nat) := hCC' 6 (by omega)
        have j0 : (0 : Int) ≤ k := by omega
        have j1 : (k : Int) < n := by omega
        clear hC hC' hCC hCC' hx hy hq
        cases q
        all_goals
          go_wp2_with fail
          go_quiet (fail)
          go_wp2_with fail
        all_goals first
          | (go_roundw
             case rel => exact ⟨k + 1, by go_num, by omega, HNX.out, below_drewN KB.out _⟩
             case measure => simp [intOf]; omega)
          | (go_ret
             exact HP.out false (HBD.out (by first | rfl | trivial)) _ (below_drewN KB.out _))
      · have t1 : decide ((k : Int) < n) = false := decide_eq_false (by omega)
        have t3 : decide (k < n) = false := decide_eq_false hkn
        obtain rfl : n = k := by omega
        go_wp2_with fail
        go_ret
        exact HP.out true (by rw [HQ.out]; exact KA.out) _ KB.out
def eqW (x y : Vw) : Bool := x.v6 == y.v6 && x.hi == y.hi && x.lo == y.lo && x.bits == y.bits && x.lev == y.lev
theorem neW_run (x y : Vw) (W : World) : (binOp .neq 52 (.agg #[.bool x.v6, .int .u64 x.hi, .int .u64 x.lo, .int .i64 x.bits, .int .i64 x.lev]) (.agg #[.bool y.v6, .int .u64 y.hi, .int .u64 y.lo, .int .i64 y.bits, .int .i64 y.lev])).run Try.prog W = .ok (.bool (!(eqW x y))) W := by
  obtain ⟨xv6, xhi, xlo, xbits, xlev⟩ := x
  obtain ⟨yv6, yhi, ylo, ybits, ylev⟩ := y
  unfold eqW
  dsimp only
  go_simp
  by_cases h_v6 : xv6 = yv6
  case neg => simp [h_v6]
  by_cases h_hi : xhi = yhi
  case neg => simp [h_v6, h_hi]
  by_cases h_lo : xlo = ylo
  case neg => simp [h_v6, h_hi, h_lo]
  by_cases h_bits : xbits = ybits
  case neg => simp [h_v6, h_hi, h_lo, h_bits]
  by_cases h_lev : xlev = ylev
  case neg => simp [h_v6, h_hi, h_lo, h_bits, h_lev]
  simp [h_v6, h_hi, h_lo, h_bits, h_lev]
set_option maxHeartbeats 4000000 in
theorem equal_W (A : Option Addr) (c : Nat) (l : List Vw) (A' : Option Addr) (c' : Nat) (l' : List Vw) (w : World) (hr : RowsOf w A l.length 5 (fun j => (l.getD j zVw).cells.toList)) (hr' : RowsOf w A' l'.length 5 (fun j => (l'.getD j zVw).cells.toList))
    (h1 : l.length ≤ c) (h2 : c ≤ 9223372036854775807) (h3 : l'.length ≤ c') (h4 : c' ≤ 9223372036854775807) :
    Calls Try.prog 39 #[.slice A l.length c, .slice A' l'.length c'] w (RetB (l.length == l'.length && allB (fun j => eqW (l.getD j zVw) (l'.getD j zVw)) l.length) w) := by
  obtain ⟨Q, hQ⟩ : ∃ Q, Q = (l.length == l'.length && allB (fun j => eqW (l.getD j zVw) (l'.getD j zVw)) l.length) := ⟨_, rfl⟩
  have HQ := Lib.hid hQ
  rw [← hQ]
  have R1 := Lib.hid hr
  have R2 := Lib.hid hr'
  have W0 := Lib.hid (Below.refl w.heap.size w)
  have HP := Lib.hid (show ∀ b : Bool, Q = b → ∀ W, Below w.heap.size w W → RetB Q w (.returned (.bool b)) W from fun v h W hb => ⟨by rw [h], hb⟩)
  obtain ⟨n, hn⟩ : ∃ n, n = l.length := ⟨_, rfl⟩
  obtain ⟨m, hm⟩ : ∃ m, m = l'.length := ⟨_, rfl⟩
  rw [← hn, ← hm] at HQ
  rw [← hn] at h1 R1 ⊢
  rw [← hm] at h3 R2 ⊢
  clear hQ hr hr' hn hm
  by_cases hnm : n = m
  case neg =>
    have t1 : ((n : Int) != (m : Int)) = true := bne_iff_ne.mpr (by omega)
    have t2 : (n != m) = true := bne_iff_ne.mpr hnm
    have HX := Lib.hid (show Q = false from by rw [HQ.out, show (n == m) = false from beq_false_of_ne hnm]; rfl)
    clear hnm
    go_enter Try.func39, Try.ntmps39
    go_wp2_with fail
    go_ret
    exact HP.out false HX.out _ W0.out
  case pos =>
    subst hnm
    have HQ := Lib.hid (show Q = allB (fun j => eqW (l.getD j zVw) (l'.getD j zVw)) n from by rw [HQ.out, show (n == n) = true from beq_self_eq_true n]; rfl)
    go_enter Try.func39, Try.ntmps39
    go_wp2_with fail
    go_loopw [13] (fun i wr => ∃ k : Nat, i = .int .i64 k ∧ k ≤ n ∧ allB (fun j => eqW (l.getD j zVw) (l'.getD j zVw)) k = true ∧ Below w.heap.size w wr) (fun i _ => n - (intOf i).toNat)
    case atStart => exact ⟨0, rfl, by omega, rfl, W0.out⟩
    case round =>
      obtain ⟨k, rfl, hk, hal, hbel⟩ := hrel
      have KB := Lib.hid hbel
      have KA := Lib.hid hal
      clear hbel hal
      by_cases hkn : k < n
      · have t1 : decide ((k : Int) < n) = true := decide_eq_true (by omega)
        have t3 : decide (k < n) = true := decide_eq_true hkn
        obtain ⟨b, off, hA, _, hC⟩ := rows_at (rows_below R1.out KB.out) k hkn
        obtain ⟨b', off', hA', _, hC'⟩ := rows_at (rows_below R2.out KB.out) k hkn
        subst hA hA'
        obtain ⟨x, hx⟩ : ∃ x, x = l.getD k zVw := ⟨_, rfl⟩
        obtain ⟨y, hy⟩ : ∃ y, y = l'.getD k zVw := ⟨_, rfl⟩
        have hCC := hC
        have hCC' := hC'
        simp only [← hx] at hCC
        simp only [← hy] at hCC'
        have HNE := fun W => neW_run x y W
        obtain ⟨q, hq⟩ : ∃ q, q = eqW x y := ⟨_, rfl⟩
        rw [← hq] at HNE
        have HNX := Lib.hid (show allB (fun j => eqW (l.getD j zVw) (l'.getD j zVw)) (k + 1) = q from by rw [allB_next, KA.out, Bool.true_and, hq, hx, hy])
        have HBD := Lib.hid (show q = false → Q = false from fun h => by rw [HQ.out]; exact allB_bad hkn (by rw [← h, hq, hx, hy]))
        have d0 : wr.cell? ⟨b, off + k * 5, none⟩ = some (.bool x.v6) := hCC 0 (by omega)
        have d1 : wr.cell? ⟨b, off + k * 5 + 1, none⟩ = some (.int .u64 x.hi) := hCC 1 (by omega)
        have d2 : wr.cell? ⟨b, off + k * 5 + 2, none⟩ = some (.int .u64 x.lo) := hCC 2 (by omega)
        have d3 : wr.cell? ⟨b, off + k * 5 + 3, none⟩ = some (.int .i64 x.bits) := hCC 3 (by omega)
        have d4 : wr.cell? ⟨b, off + k * 5 + 4, none⟩ = some (.int .i64 x.lev) := hCC 4 (by omega)
        have e0' : wr.cell? ⟨b', off' + k * 5, none⟩ = some (.bool y.v6) := hCC' 0 (by omega)
        have e1' : wr.cell? ⟨b', off' + k * 5 + 1, none⟩ = some (.int .u64 y.hi) := hCC' 1 (by omega)
        have e2' : wr.cell? ⟨b', off' + k * 5 + 2, none⟩ = some (.int .u64 y.lo) := hCC' 2 (by omega)
        have e3' : wr.cell? ⟨b', off' + k * 5 + 3, none⟩ = some (.int .i64 y.bits) := hCC' 3 (by omega)
        have e4' : wr.cell? ⟨b', off' + k * 5 + 4, none⟩ = some (.int .i64 y.lev) := hCC' 4 (by omega)
        have j0 : (0 : Int) ≤ k := by omega
        have j1 : (k : Int) < n := by omega
        clear hC hC' hCC hCC' hx hy hq
        cases q
        all_goals
          go_wp2_with fail
          go_quiet (fail)
          go_wp2_with fail
        all_goals first
          | (go_roundw
             case rel => exact ⟨k + 1, by go_num, by omega, HNX.out, below_drewN KB.out _⟩
             case measure => simp [intOf]; omega)
          | (go_ret
             exact HP.out false (HBD.out (by first | rfl | trivial)) _ (below_drewN KB.out _))
      · have t1 : decide ((k : Int) < n) = false := decide_eq_false (by omega)
        have t3 : decide (k < n) = false := decide_eq_false hkn
        obtain rfl : n = k := by omega
        go_wp2_with fail
        go_ret
        exact HP.out true (by rw [HQ.out]; exact KA.out) _ KB.out
end Go.Proofs.Ytamndmlaikgogaa.vdP
