/- Layer 39: which tables may be. -/
import Derived.Test.YtjlochieddhmpaaRingE
import Derived.Maps.OwnSet
namespace Go.Proofs.Ytjlochieddhmpaa.ringF
open Go.ChangeShapes Go.WideShapes Go.ChangeAt Go.RowKit
open Go.Proofs.Ytjlochieddhmpaa.base Go.Proofs.Ytjlochieddhmpaa.ringA Go.Proofs.Ytjlochieddhmpaa.ringB Go.Proofs.Ytjlochieddhmpaa.ringE
open Go.Maps
set_option linter.unusedVariables false

def kl (ids : Nat → Int) (k : Nat) : List Lit := (List.range k).map fun j => Lit.int .u64 (ids j)
theorem kl_succ (ids : Nat → Int) (k : Nat) : kl ids (k + 1) = kl ids k ++ [Lit.int .u64 (ids k)] := by unfold kl; rw [List.range_succ, List.map_append]; rfl
def DD (ids : Nat → Int) (k : Nat) : List Lit := (kl ids k).foldl addKey []
theorem DD_succ (ids : Nat → Int) (k : Nat) : DD ids (k + 1) = addKey (DD ids k) (Lit.int .u64 (ids k)) := by unfold DD; rw [kl_succ, List.foldl_append]; rfl
theorem same_int (a b : Int) : (Lit.int .u64 a).sameKey (Lit.int .u64 b) = decide (a = b) := by
  show decide (IntKind.u64 = IntKind.u64 ∧ a = b) = decide (a = b)
  simp
theorem DD_mem (ids : Nat → Int) (x : Int) (k : Nat) : (DD ids k).any (fun y => y.sameKey (Lit.int .u64 x)) = true ↔ ∃ j, j < k ∧ ids j = x := by
  induction k with
  | zero =>
    constructor
    · intro h; simp [DD, kl] at h
    · rintro ⟨j, hj, _⟩; omega
  | succ k ih =>
    rw [DD_succ]
    unfold addKey
    split
    · rename_i h
      rw [ih]
      constructor
      · rintro ⟨j, hj, e⟩; exact ⟨j, by omega, e⟩
      · rintro ⟨j, hj, e⟩
        by_cases ej : j = k
        · subst ej
          have : ∃ q, q < j ∧ ids q = x := by
            rw [← ih, ← e]
            exact h
          exact this
        · exact ⟨j, by omega, e⟩
    · rw [List.any_append, Bool.or_eq_true, ih, List.any_cons, List.any_nil, Bool.or_false, same_int, decide_eq_true_iff]
      constructor
      · rintro (⟨j, hj, e⟩ | e)
        · exact ⟨j, by omega, e⟩
        · exact ⟨k, by omega, e⟩
      · rintro ⟨j, hj, e⟩
        by_cases ej : j = k
        · right; rw [← ej]; exact e
        · left; exact ⟨j, by omega, e⟩
/-- No two are the same. -/
def Uniq (ids : Nat → Int) (k : Nat) : Prop := ∀ i, i < k → ∀ j, j < i → ids j ≠ ids i
theorem DD_len (ids : Nat → Int) (k : Nat) : (DD ids k).length ≤ k ∧ ((DD ids k).length = k ↔ Uniq ids k) := by
  induction k with
  | zero => exact ⟨by simp [DD, kl], ⟨fun _ i hi => by omega, fun _ => by simp [DD, kl]⟩⟩
  | succ k ih =>
    rw [DD_succ]
    unfold addKey
    split
    · rename_i h
      rw [DD_mem] at h
      obtain ⟨j, hj, e⟩ := h
      refine ⟨by omega, ⟨fun hl => by omega, fun hu => ?_⟩⟩
      exact absurd e (hu k (by omega) j hj)
    · rename_i h
      rw [DD_mem] at h
      rw [List.length_append, List.length_singleton]
      refine ⟨by omega, ⟨fun hl i hi j hj => ?_, fun hu => ?_⟩⟩
      · by_cases ei : i = k
        · rw [ei]; exact fun e => h ⟨j, by omega, e⟩
        · exact ih.2.mp (by omega) i (by omega) j hj
      · have := ih.2.mpr (fun i hi j hj => hu i (by omega) j hj)
        omega
theorem kl_key (ids : Nat → Int) (k : Nat) : ∀ x ∈ kl ids k, WideAt.IsKeyLit x := by
  intro x hx
  unfold kl at hx
  rw [List.mem_map] at hx
  obtain ⟨_, _, rfl⟩ := hx
  trivial
theorem size_kl (ids : Nat → Int) (k : Nat) : Go.Maps.size (setOf (H := Unit) (.agg []) (kl ids k)) = (DD ids k).length := size_setOf _ _ (kl_key ids k)
/-- Items: nothing, or so many in memory. -/
def ItemsIn (w : World) (B : Nat) (A : Option Addr) (m : Nat) (ids ws : Nat → Int) : Prop := m = 0 ∨ ∃ b off, A = some ⟨b, off, none⟩ ∧ b < B ∧ ItemsAt w b off m ids ws
theorem ItemsIn.below {w w' : World} {B m : Nat} {A : Option Addr} {ids ws : Nat → Int} (h : ItemsIn w B A m ids ws) (hb : Below B w w') : ItemsIn w' B A m ids ws := by
  rcases h with h | ⟨b, off, h1, h2, h3⟩
  · exact .inl h
  · exact .inr ⟨b, off, h1, h2, h3.below hb h2⟩
/-- A table of such a size, with such items, may be. -/
structure RightP (size : Int) (m : Nat) (ids ws : Nat → Int) : Prop where
  lo : 2 ≤ size
  hi : size ≤ 65537
  pr : Pr size.toNat
  len : (m : Int) ≤ size
  ws : ∀ j, j < m → 0 ≤ ws j ∧ ws j ≤ 65535
  ids : Uniq ids m
def RPost (size : Int) (m : Nat) (ids ws : Nat → Int) (w : World) (e : Ending) (w' : World) : Prop := ∃ b : Bool, e = .returned (.bool b) ∧ (b = true ↔ RightP size m ids ws) ∧ Below w.heap.size w w'
theorem right_few (size : Int) (A : Option Addr) (m c : Nat) (ids ws : Nat → Int) (w : World) (h : size < 2 ∨ 65537 < size) :
    Calls Try.prog 11 #[.int .i64 size, .slice A m c] w (RPost size m ids ws w) := by
  have HF := Lib.hid (show ¬ RightP size m ids ws from fun hp => by have := hp.lo; have := hp.hi; omega)
  by_cases h1 : size < 2
  · have q0 : decide (size < 2) = true := decide_eq_true h1
    clear h
    go_enter Try.func11, Try.ntmps11
    go_wp2
    go_ret
    exact ⟨false, rfl, ⟨fun h => (by cases h), fun h => absurd h HF.out⟩, Below.refl _ _⟩
  · have q0 : decide (size < 2) = false := decide_eq_false h1
    have q1 : decide (65537 < size) = true := decide_eq_true (by omega)
    clear h
    go_enter Try.func11, Try.ntmps11
    go_wp2
    go_ret
    exact ⟨false, rfl, ⟨fun h => (by cases h), fun h => absurd h HF.out⟩, Below.refl _ _⟩
theorem right_np (n : Nat) (A : Option Addr) (m c : Nat) (ids ws : Nat → Int) (w : World) (h2 : 2 ≤ n) (h3 : n ≤ 65537) (h : ¬ Pr n ∨ n < m) (hm : m ≤ 500) :
    Calls Try.prog 11 #[.int .i64 n, .slice A m c] w (RPost n m ids ws w) := by
  have HF := Lib.hid (show ¬ RightP n m ids ws from fun hp => by
    have h4 := hp.pr
    have h5 := hp.len
    rw [Int.toNat_natCast] at h4
    rcases h with h | h
    · exact h h4
    · omega)
  have q0 : decide ((n : Int) < 2) = false := decide_eq_false (by omega)
  have q1 : decide (65537 < (n : Int)) = false := decide_eq_false (by omega)
  have HP := Lib.hid (prime_any n h2 (by omega))
  by_cases hp : Pr n
  · have HP := Lib.hid (show ∀ w, _ from fun w => prime_any n h2 (by omega) w)
    rw [prB_true hp] at HP
    have hmn : n < m := by rcases h with h | h; exact absurd hp h; exact h
    have q2 : decide ((n : Int) < (m : Int)) = true := decide_eq_true (by omega)
    have q3 : decide (n < m) = true := decide_eq_true hmn
    clear h hp
    go_enter Try.func11, Try.ntmps11
    go_wp2_with (go_at_call 6; refine (HP.out _).mono ?_; rintro e w' ⟨rfl, rfl⟩)
    go_ret
    exact ⟨false, rfl, ⟨fun h => (by cases h), fun h => absurd h HF.out⟩, Below.refl _ _⟩
  · have HP := Lib.hid (show ∀ w, _ from fun w => prime_any n h2 (by omega) w)
    rw [prB_false hp] at HP
    clear h hp
    go_enter Try.func11, Try.ntmps11
    go_wp2_with (go_at_call 6; refine (HP.out _).mono ?_; rintro e w' ⟨rfl, rfl⟩)
    go_ret
    exact ⟨false, rfl, ⟨fun h => (by cases h), fun h => absurd h HF.out⟩, Below.refl _ _⟩
set_option maxRecDepth 100000 in
set_option maxHeartbeats 1000000 in
theorem right_go (n : Nat) (A : Option Addr) (m c : Nat) (ids ws : Nat → Int) (w : World) (h2 : 2 ≤ n) (h3 : n ≤ 65537) (hp : Pr n) (hmn : m ≤ n) (hm : m ≤ 500) (hit : ItemsIn w w.heap.size A m ids ws) (hid : ∀ j, j < m → 0 ≤ ids j ∧ ids j < 18446744073709551616) :
    Calls Try.prog 11 #[.int .i64 n, .slice A m c] w (RPost n m ids ws w) := by
  have q0 : decide ((n : Int) < 2) = false := decide_eq_false (by omega)
  have q1 : decide (65537 < (n : Int)) = false := decide_eq_false (by omega)
  have HP := Lib.hid (show ∀ w, _ from fun w => prime_any n h2 (by omega) w)
  rw [prB_true hp] at HP
  have HPR := Lib.hid hp
  have q2 : decide ((n : Int) < (m : Int)) = false := decide_eq_false (by omega)
  have q3 : decide (n < m) = false := decide_eq_false (by omega)
  have q4 : ¬ n < m := by omega
  have q5 : decide (512 < (m : Int)) = false := decide_eq_false (by omega)
  have HIT := Lib.hid hit
  have HID := Lib.hid hid
  have hmm := @run_makeMap Try.prog
  have HU := Lib.hid (DD_len ids m)
  have HSK := Lib.hid (size_kl ids m)
  clear hit hid hp
  go_enter Try.func11, Try.ntmps11
  go_wp2_with (go_at_call 6; refine (HP.out _).mono ?_; rintro e w' ⟨rfl, rfl⟩)
  go_loopw [33, 7] (fun i _ wr => ∃ j : Nat, j ≤ m ∧ i = .int .i64 j ∧ wr.ownsMap Try.prog 24 unitElem w.heap.size j (setOf (H := Unit) (.agg []) (kl ids j)) ∧ Below w.heap.size w wr ∧ Hid (∀ q, q < j → 0 ≤ ws q ∧ ws q ≤ 65535)) (fun i _ _ => m - (intOf i).toNat)
  case atStart => exact ⟨0, by omega, rfl, World.ownsMap_made _ _ _ _, (Below.refl _ _).alloc (Nat.le_refl _) _, fun q hq => by omega⟩
  case round =>
    obtain ⟨j, hj, rfl, hown, hbel, hws⟩ := hrel
    have KB := Lib.hid hbel
    by_cases hlt : j < m
    · have p1 : decide ((j : Int) < (m : Int)) = true := decide_eq_true (by omega)
      rcases HIT.out with h0 | ⟨b, off, rfl, hbl, hcs⟩
      · omega
      · obtain ⟨c1, c2⟩ := (hcs.below hbel hbl) j hlt
        have hidj := HID.out j hlt
        have KO := Lib.hid hown
        have KW := Lib.hid hws.out
        have HSN := Lib.hid (show setOf (H := Unit) (.agg []) (kl ids (j + 1)) = (setOf (.agg []) (kl ids j)).put (Lit.int .u64 (ids j)) (.agg []) by rw [kl_succ, setOf_snoc])
        clear hcs hbel hown hws
        generalize hx : ids j = x at *
        generalize hv : ws j = v at *
        have HV := Lib.hid hv
        clear hx hv
        have HBA := Lib.hid (KB.out.alloc KB.out.size (.cells #[.int .u64 x, .int .i64 v] 38))
        by_cases hv0 : v < 0
        · have r0 : decide (v < 0) = true := decide_eq_true hv0
          have HF := Lib.hid (show ¬ RightP n m ids ws from fun hp => by have := (hp.ws j hlt).1; rw [HV.out] at this; omega)
          go_wp2_with fail
          go_ret
          exact ⟨false, rfl, ⟨fun h => (by cases h), fun h => absurd h HF.out⟩, HBA.out⟩
        · have r0 : decide (v < 0) = false := decide_eq_false hv0
          by_cases hv1 : 65535 < v
          · have r1 : decide (65535 < v) = true := decide_eq_true hv1
            have HF := Lib.hid (show ¬ RightP n m ids ws from fun hp => by have := (hp.ws j hlt).2; rw [HV.out] at this; omega)
            go_wp2_with fail
            go_ret
            exact ⟨false, rfl, ⟨fun h => (by cases h), fun h => absurd h HF.out⟩, HBA.out⟩
          · have r1 : decide (65535 < v) = false := decide_eq_false hv1
            have HWN := Lib.hid (show ∀ q, q < j + 1 → 0 ≤ ws q ∧ ws q ≤ 65535 from fun q hq => by
              by_cases e : q = j
              · rw [e, HV.out]; omega
              · exact KW.out q (by omega))
            have hkey := keyOf_int_mk (P := Try.prog) Try.underlying24 (show (Lit.int .u64 x).wf = true from WalkArith.wf_u64 (by omega))
            go_wp2_with (first
              | (at_mapUpdate; refine wpList_mapUpdate_own _ rfl _ _ _ 51 rfl 24 52 (int_keyed Try.underlying24) Try.underlying51 (unitElem (H := Unit)) w.heap.size j _ rfl (KO.out.alloc _) (by unfold maxLen; omega) _ _ _ rfl rfl hkey _ [] unitElem_mk ?_; intro w1 hown1 hgrow1)
              | go_in)
            go_roundw
            case rel => exact ⟨j + 1, by omega, by go_num, HSN.out.symm ▸ hown1, HBA.out.grown hgrow1 HBA.out.size (fun j hj => by cases hj; exact Nat.le_refl _), HWN.out⟩
            case measure => simp [intOf]; omega
    · obtain rfl : j = m := by omega
      have p1 : decide ((j : Int) < (j : Int)) = false := decide_eq_false (by omega)
      have hown' := hown
      clear HIT
      go_wp2_with (first
        | (at_len; refine wpList_len_own _ rfl _ 51 rfl 24 52 Try.underlying51 _ w.heap.size j _ rfl hown ?_)
        | go_in)
      go_ret
      refine ⟨_, rfl, ?_, hbel⟩
      rw [HSK.out, beq_iff_eq]
      constructor
      · intro h
        exact ⟨by omega, by omega, by rw [Int.toNat_natCast]; exact HPR.out, by omega, hws.out, HU.out.2.mp (by omega)⟩
      · intro h
        have := HU.out.2.mpr h.ids
        omega
theorem right_any (size : Int) (A : Option Addr) (m c : Nat) (ids ws : Nat → Int) (w : World) (hm : m ≤ 500) (hit : ItemsIn w w.heap.size A m ids ws) (hid : ∀ j, j < m → 0 ≤ ids j ∧ ids j < 18446744073709551616) :
    Calls Try.prog 11 #[.int .i64 size, .slice A m c] w (RPost size m ids ws w) := by
  by_cases h : size < 2 ∨ 65537 < size
  · exact right_few size A m c ids ws w h
  · obtain ⟨n, rfl⟩ : ∃ n : Nat, size = n := ⟨size.toNat, by omega⟩
    by_cases hp : ¬ Pr n ∨ n < m
    · exact right_np n A m c ids ws w (by omega) (by omega) hp hm
    · have hpr : Pr n := Classical.byContradiction fun h => hp (.inl h)
      exact right_go n A m c ids ws w (by omega) (by omega) hpr (by rcases Nat.lt_or_ge n m with h | h; exact absurd (.inr h) hp; exact h) hm hit hid
end Go.Proofs.Ytjlochieddhmpaa.ringF
