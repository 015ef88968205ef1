/- Layer 38: few numbers; sorted ones. -/
import Derived.Test.YtpgodmcpdgbhaaaHistF
import Derived.Test.YtpgodmcpdgbhaaaMem
import Derived.Test.YtpgodmcpdgbhaaaIsRow
namespace Go.Proofs.Ytpgodmcpdgbhaaa.histI
open Go.ChangeShapes Go.WideShapes Go.ChangeAt Go.RowKit
open Go.Proofs.Ytpgodmcpdgbhaaa.base Go.Proofs.Ytpgodmcpdgbhaaa.histF
set_option linter.unusedVariables false

theorem few_any (A : Option Addr) (n c B : Nat) (l : List Int) (w : World) (hl : l.length = n) (hc : n ≤ c) (hm : c ≤ 9223372036854775807) (hr : Row w B A (l.map (.int .u64))) (hu : U64 l) :
    Calls Try.prog 17 #[.slice A n c] w fun e w' => ∃ (m : Nat) (S : List Int), e = .returned (.slice A m c) ∧ w = w' ∧ S.length = m ∧ m ≤ 60 ∧ m ≤ c ∧ Row w B A (S.map (.int .u64)) ∧ U64 S := by
  by_cases hn : n ≤ 60
  · have q0 : decide ((60 : Int) < (n : Int)) = false := decide_eq_false (by omega)
    have HR := Lib.hid hr
    have HU := Lib.hid hu
    have HL := Lib.hid hl
    have HC := Lib.hid hc
    clear hr hu hl hc hm
    go_enter Try.func17, Try.ntmps17
    go_wp2
    go_ret
    exact ⟨n, l, rfl, rfl, HL.out, hn, HC.out, HR.out, HU.out⟩
  · have q0 : decide ((60 : Int) < (n : Int)) = true := decide_eq_true (by omega)
    obtain ⟨b, off, rfl, hlen, hr2⟩ := row_cut hr 60 (by omega) (by omega)
    have HR := Lib.hid hr2
    have HU := Lib.hid (show U64 (l.take 60) from fun x hx => hu x (List.mem_of_mem_take hx))
    have HL := Lib.hid hlen
    clear hr hu hl hr2 hlen
    go_enter Try.func17, Try.ntmps17
    go_wp2
    go_ret
    exact ⟨60, l.take 60, rfl, rfl, HL.out, by omega, by omega, HR.out, HU.out⟩
/-- The first n cells. -/
def AtN (n : Nat) (cs : Array Value) (O : Nat → Int) : Prop := cs.size = n ∧ ∀ i, i < n → cs[i]? = some (.int .u64 (O i))
theorem atN_set {n : Nat} {cs : Array Value} {O : Nat → Int} (h : AtN n cs O) (k : Nat) (hk : k < n) (x : Int) : AtN n (cs.setIfInBounds k (.int .u64 x)) (fun i => if i = k then x else O i) := by
  refine ⟨by simp [h.1], fun i hi => ?_⟩
  rw [Array.getElem?_setIfInBounds]
  by_cases e : k = i
  · subst e
    rw [if_pos rfl, if_pos (by have := h.1; omega)]
    simp
  · rw [if_neg e, h.2 i hi]
    simp [Ne.symm e]
theorem atN_zero (n : Nat) : AtN n (zeros n (.int .u64 0)) (fun _ => 0) := by
  refine ⟨zeros_size _ _, fun i hi => ?_⟩
  unfold zeros
  simp [hi]
theorem atN_row {n : Nat} {cs : Array Value} {O : Nat → Int} (h : AtN n cs O) {w : World} {g : Nat} {t : TypeId} (hB : Blk w g t cs) : Row w w.heap.size (some ⟨g, 0, none⟩) (((List.range n).map O).map (.int .u64)) := by
  refine .inr ⟨g, 0, rfl, hB.lt, fun i u hu => ?_⟩
  rw [List.getElem?_map, List.getElem?_map] at hu
  by_cases hi : i < n
  · rw [List.getElem?_range hi] at hu
    rw [Nat.zero_add, hB.cell i, h.2 i hi]
    simpa using hu
  · rw [List.getElem?_eq_none (by simpa using hi)] at hu
    cases hu
theorem info_u64 : (Try.prog.info? 51).map (fun i => (i.zero, i.size, i.bytes)) = some (some (.int .u64 0), 1, 8) := by kernel_rfl
theorem getD_row {w wr : World} {B : Nat} {A : Option Addr} {l : List Int} (hr : Row w B A (l.map (.int .u64))) (hb : Below B w wr) (j : Nat) (hj : j < l.length) :
    ∃ b off, A = some ⟨b, off, none⟩ ∧ b < B ∧ ∀ j, j < l.length → wr.cell? ⟨b, off + j, none⟩ = some (.int .u64 (l.getD j 0)) := by
  obtain ⟨b, off, rfl, hlt, hc⟩ := hr.at_ (by intro h; simp at h; rw [h] at hj; simp at hj)
  refine ⟨b, off, rfl, hlt, fun j hj => ?_⟩
  rw [hb.cell (p := ⟨b, off + j, none⟩) hlt, hc j (.int .u64 l[j]) (by simp [hj]), List.getD_eq_getElem?_getD, List.getElem?_eq_getElem hj]
  rfl
/-- What has been put where it belongs so far. -/
def Placed (X : Nat → Int) (n i : Nat) (O : Nat → Int) : Prop := ∀ k, k < i → O (rank X k n) = X k
theorem Placed.next {X : Nat → Int} {n i : Nat} {O : Nat → Int} (h : Placed X n i O) (hi : i < n) : Placed X n (i + 1) (fun q => if q = rank X i n then X i else O q) := by
  intro k hk
  show (if rank X k n = rank X i n then X i else O (rank X k n)) = X k
  by_cases e : k = i
  · rw [e, if_pos rfl]
  · rw [if_neg (fun h2 => e (rank_inj X k i n (by omega) hi h2)), h k (by omega)]
theorem map_getD (l : List Int) : (List.range l.length).map (fun i => l.getD i 0) = l := by
  refine List.ext_getElem (by simp) fun i h1 h2 => ?_
  simp [List.getD_eq_getElem?_getD, List.getElem?_eq_getElem h2]
def SortPost (n : Nat) (l : List Int) (w : World) (e : Ending) (w' : World) : Prop :=
  ∃ (g : Nat) (S : List Int), e = .returned (.slice (some ⟨g, 0, none⟩) n n) ∧ S.length = n ∧ S.Perm l ∧ S.Pairwise (· ≤ ·) ∧ Row w' w'.heap.size (some ⟨g, 0, none⟩) (S.map (.int .u64)) ∧ Below w.heap.size w w'
theorem sort_fin (n : Nat) (l : List Int) (w w' : World) (g : Nat) (cs : Array Value) (O : Nat → Int) (hl : l.length = n) (hB : Blk w' g 51 cs) (hA : AtN n cs O) (hP : Placed (fun i => l.getD i 0) n n O) (hb : Below w.heap.size w w') :
    SortPost n l w (.returned (.slice (some ⟨g, 0, none⟩) n n)) w' := by
  obtain ⟨h1, h2⟩ := sorted_of n (fun i => l.getD i 0) O hP
  have e : (List.range n).map (fun i => l.getD i 0) = l := by rw [← hl]; exact map_getD l
  rw [e] at h1
  exact ⟨g, _, rfl, by simp, h1, h2, atN_row hA hB, hb⟩
set_option maxHeartbeats 1000000 in
theorem sorted_any (A : Option Addr) (n c : Nat) (l : List Int) (w : World) (hl : l.length = n) (hn : n ≤ 500) (hr : Row w w.heap.size A (l.map (.int .u64))) :
    Calls Try.prog 20 #[.slice A n c] w (SortPost n l w) := by
  obtain ⟨i0, hi0, hz0, hz1, hz2⟩ := info_parts info_u64
  have hmk := fun (W : World) => run_make_one (P := Try.prog) 48 51 i0 _ Try.underlying48 hi0 hz0 hz1 rfl .i64 .i64 (n : Int) (by omega) (by rw [hz2]; omega) (by omega) W
  have HR := Lib.hid hr
  have HFIN := Lib.hid (fun w' g cs O => sort_fin n l w w' g cs O hl)
  have HRL := Lib.hid (fun i (hi : i < n) => rank_lt (fun i => l.getD i 0) i n hi)
  have HRE := Lib.hid (fun i m => rank_le (fun i => l.getD i 0) i m)
  have HGET := Lib.hid (fun wr (hb : Below w.heap.size w wr) j (hj : j < n) => getD_row hr hb j (by rw [hl]; exact hj))
  rw [hl] at HGET
  obtain ⟨X, hX⟩ : ∃ X : Nat → Int, X = fun i => l.getD i 0 := ⟨_, rfl⟩
  rw [← hX] at HFIN HRL HRE
  have HGET := Lib.hid (show ∀ wr (hb : Below w.heap.size w wr) j (hj : j < n), ∃ b off, A = some ⟨b, off, none⟩ ∧ b < w.heap.size ∧ ∀ j, j < n → wr.cell? ⟨b, off + j, none⟩ = some (.int .u64 (X j)) by rw [hX]; exact HGET.out)
  clear hl hr hi0 hz0 hz1 hz2 hX
  go_enter Try.func20, Try.ntmps20
  go_wp2_with fail
  have hmH := Lib.hid hmk
  clear hmk
  go_loopw [4, 5, 6] (fun i _ _ wr => ∃ (k : Nat) (cs : Array Value) (O : Nat → Int), k ≤ n ∧ i = .int .i64 k ∧ Blk wr w.heap.size 51 cs ∧ AtN n cs O ∧ Placed X n k O ∧ Below w.heap.size w wr) (fun i _ _ _ => n - (intOf i).toNat)
  case atStart => exact ⟨0, _, _, by omega, rfl, Blk.new w _ _, atN_zero n, fun k hk => by omega, (Below.refl _ _).alloc (Nat.le_refl _) _⟩
  case round =>
    obtain ⟨k, cs, O, hk, rfl, hblk, hat, hpl, hbel⟩ := hrel
    have KB := Lib.hid hblk
    have KA := Lib.hid hat
    have KP := Lib.hid hpl
    have KBel := Lib.hid hbel
    clear hblk hat hpl hbel
    by_cases hlt : k < n
    · have p1 : decide ((k : Int) < (n : Int)) = true := decide_eq_true (by omega)
      obtain ⟨b, off, rfl, hbl, hc⟩ := HGET.out w (Below.refl _ _) k hlt
      have HC := Lib.hid (show ∀ w2, Below w.heap.size w w2 → ∀ j, j < n → w2.cell? ⟨b, off + j, none⟩ = some (.int .u64 (X j)) from fun w2 hb j hj => (hb.cell (p := ⟨b, off + j, none⟩) hbl).trans (hc j hj))
      clear hc hbl
      go_wp2_with fail
      go_loopw [6, 5] (fun j a w2 => ∃ m : Nat, m ≤ n ∧ j = .int .i64 m ∧ a = .int .i64 (rank X k m : Nat) ∧ Blk w2 w.heap.size 51 cs ∧ Below w.heap.size w w2) (fun j _ _ => n - (intOf j).toNat)
      case atStart => exact ⟨0, by omega, rfl, rfl, KB.out, KBel.out⟩
      case round =>
        obtain ⟨m, hm, rfl, rfl, hblk, hbel⟩ := hrel
        have LB := Lib.hid hblk
        have LBel := Lib.hid hbel
        have rb := HRE.out k m
        clear hblk hbel
        by_cases hlm : m < n
        · have p2 : decide ((m : Int) < (n : Int)) = true := decide_eq_true (by omega)
          have cm := HC.out wr LBel.out m hlm
          have ck := HC.out wr LBel.out k hlt
          by_cases q : X m < X k
          · have q1 : decide (X m < X k) = true := decide_eq_true q
            have hs : rank X k (m + 1) = rank X k m + 1 := by
              show rank X k m + (if aheadZ X m k then 1 else 0) = _
              rw [if_pos ((aheadZ_iff X m k).mpr (.inl q))]
            have HS := Lib.hid hs
            clear hs q
            generalize X m = x at *
            generalize X k = y at *
            generalize rank X k m = r at *
            go_wp2_with fail
            go_region
            all_goals
              go_wp2_with fail
              go_roundw
              case rel => exact ⟨m + 1, by omega, by go_num, by rw [HS.out]; go_num, LB.out.drewN _, below_drewN LBel.out _⟩
              case measure => simp [intOf]; omega
          · have q1 : decide (X m < X k) = false := decide_eq_false q
            by_cases q0 : X m = X k ∧ m < k
            · have q2 : (X m == X k) = true := by simpa using q0.1
              have q3 : decide ((m : Int) < (k : Int)) = true := decide_eq_true (by omega)
              have q5 : decide (m < k) = true := decide_eq_true q0.2
              have q6 : m < k := q0.2
              have hs : rank X k (m + 1) = rank X k m + 1 := by
                show rank X k m + (if aheadZ X m k then 1 else 0) = _
                rw [if_pos ((aheadZ_iff X m k).mpr (.inr q0))]
              have HS := Lib.hid hs
              clear hs q q0
              generalize X m = x at *
              generalize X k = y at *
              generalize rank X k m = r at *
              go_wp2_with fail
              go_region
              all_goals
                go_wp2_with fail
                go_roundw
                case rel => exact ⟨m + 1, by omega, by go_num, by rw [HS.out]; go_num, LB.out.drewN _, below_drewN LBel.out _⟩
                case measure => simp [intOf]; omega
            · have hs : rank X k (m + 1) = rank X k m := by
                show rank X k m + (if aheadZ X m k then 1 else 0) = _
                rw [if_neg (fun h => by rcases (aheadZ_iff X m k).mp h with h | h; exact q h; exact q0 h)]
                rfl
              have HS := Lib.hid hs
              by_cases q4 : X m = X k
              · have q2 : (X m == X k) = true := by simpa using q4
                have q3 : decide ((m : Int) < (k : Int)) = false := decide_eq_false (by omega)
                have q5 : decide (m < k) = false := decide_eq_false (by omega)
                have q6 : ¬ m < k := by omega
                clear hs q q0 q4
                generalize X m = x at *
                generalize X k = y at *
                generalize rank X k m = r at *
                go_wp2_with fail
                go_region
                all_goals
                  go_wp2_with fail
                  go_roundw
                  case rel => exact ⟨m + 1, by omega, by go_num, by rw [HS.out], LB.out.drewN _, below_drewN LBel.out _⟩
                  case measure => simp [intOf]; omega
              · have q2 : (X m == X k) = false := by simpa using q4
                clear hs q q0 q4
                generalize X m = x at *
                generalize X k = y at *
                generalize rank X k m = r at *
                go_wp2_with fail
                go_region
                all_goals
                  go_wp2_with fail
                  go_roundw
                  case rel => exact ⟨m + 1, by omega, by go_num, by rw [HS.out], LB.out.drewN _, below_drewN LBel.out _⟩
                  case measure => simp [intOf]; omega
        · obtain rfl : m = n := by omega
          have p2 : decide ((m : Int) < (m : Int)) = false := decide_eq_false (by omega)
          have ck := HC.out wr LBel.out k hlt
          have hr := HRL.out k hlt
          have HN := Lib.hid (KP.out.next hlt)
          have HA2 := Lib.hid (atN_set KA.out (rank X k m) hr (X k))
          have HB2 := Lib.hid (LB.out.set_ (rank X k m) (.int .u64 (X k)))
          have fz := LB.out.frozen (rank X k m)
          have cz := (LB.out.cell (rank X k m)).trans (KA.out.2 _ hr)
          have rl : rank X k m < m := hr
          clear hr
          generalize X k = y at *
          generalize O (rank X k m) = z at *
          generalize rank X k m = r at *
          go_wp2_with fail
          go_roundw
          case rel => exact ⟨k + 1, _, _, by omega, by go_num, HB2.out, HA2.out, HN.out, LBel.out.setCell (Nat.le_refl _) _⟩
          case measure => simp [intOf]; omega
    · obtain rfl : k = n := by omega
      have p1 : decide ((k : Int) < (k : Int)) = false := decide_eq_false (by omega)
      go_wp2_with fail
      go_ret
      exact HFIN.out _ _ _ _ KB.out KA.out KP.out KBel.out
end Go.Proofs.Ytpgodmcpdgbhaaa.histI
