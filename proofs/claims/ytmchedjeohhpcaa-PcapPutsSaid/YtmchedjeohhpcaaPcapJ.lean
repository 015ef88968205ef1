/- Layer 36: bytes that are read: numbers, parts, copies. -/
import Derived.Test.YtmchedjeohhpcaaPcapI
import Derived.Test.YtmchedjeohhpcaaApp
import Derived.Lib.SliceRun
namespace Go.Proofs.Ytmchedjeohhpcaa.pcapJ
open Go.ChangeShapes Go.WideShapes Go.ChangeAt Go.RowKit
open Go.Proofs.Ytmchedjeohhpcaa.base Go.Proofs.Ytmchedjeohhpcaa.pcapA Go.Proofs.Ytmchedjeohhpcaa.pcapB Go.Proofs.Ytmchedjeohhpcaa.pcapC Go.Proofs.Ytmchedjeohhpcaa.pcapD Go.Proofs.Ytmchedjeohhpcaa.pcapE Go.Proofs.Ytmchedjeohhpcaa.pcapF Go.Proofs.Ytmchedjeohhpcaa.pcapG Go.Proofs.Ytmchedjeohhpcaa.pcapI
set_option linter.unusedVariables false

def Byte (l : List Int) : Prop := ∀ x ∈ l, 0 ≤ x ∧ x < 256
theorem Byte.drop {l : List Int} (h : Byte l) (k : Nat) : Byte (l.drop k) := fun x hx => h x (List.mem_of_mem_drop hx)
theorem Byte.take {l : List Int} (h : Byte l) (k : Nat) : Byte (l.take k) := fun x hx => h x (List.mem_of_mem_take hx)
theorem row_drop {w : World} {B b off : Nat} {xs : List Value} (h : Row w B (some ⟨b, off, none⟩) xs) (k : Nat) : Row w B (some ⟨b, off + k, none⟩) (xs.drop k) := by
  rcases h with h | ⟨b', off', hA, hb, hc⟩
  · exact .inl (by rw [h]; simp)
  · injection hA with hA
    injection hA with h1 h2
    subst h1 h2
    refine .inr ⟨b, off + k, rfl, hb, fun i u hu => ?_⟩
    rw [List.getElem?_drop] at hu
    rw [Nat.add_assoc]
    exact hc _ _ hu
/-- Bytes from a place on, wherever the capacity ends. -/
theorem slice_from (b off n c s : Nat) (hs : s ≤ n) (hnc : n ≤ c) : ∃ AX : Option Addr, AX ≠ none ∧
    (∀ W : World, (Instr.slice 27 (.slice (some ⟨b, off, none⟩) n c) (some (.int .i64 (s : Int))) none none).run Try.prog W = .ok (.slice AX (n - s) (c - s)) W) ∧
    (∀ W : World, (Instr.sliceAt 27 (.slice (some ⟨b, off, none⟩) n c) (some (.int .i64 (s : Int))) none none).run Try.prog W = .ok (.slice AX (n - s) (c - s)) W) ∧
    ∀ (w : World) (B : Nat) (l : List Int), l.length = n → Row w B (some ⟨b, off, none⟩) (l.map (.int .u8)) → Row w B AX ((l.drop s).map (.int .u8)) := by
  have hu : Try.prog.underlying 27 = some (.slice (Try.prog.elem 27)) := by kernel_rfl
  have hz : ∀ W : World, (sizeOf (Try.prog.elem 27)).run Try.prog W = .ok 1 W := fun _ => by kernel_rfl
  have key : ∀ W : World, (Instr.slice 27 (.slice (some ⟨b, off, none⟩) n c) (some (.int .i64 (s : Int))) none none).run Try.prog W = .ok (.slice (if c = s then some ⟨b, off, none⟩ else some ⟨b, off + s, none⟩) (n - s) (c - s)) W := by
    intro W
    rw [run_slice_l W 27 (some ⟨b, off, none⟩) n c hu .i64 (s : Int) (by omega) (by omega), hz]
    simp only [Result.andThen, sliced, Int.toNat_natCast, Nat.mul_one, Option.map_some, Addr.add_lit]
  refine ⟨if c = s then some ⟨b, off, none⟩ else some ⟨b, off + s, none⟩, by split <;> simp, key, fun W => ?_, ?_⟩
  · rw [run_sliceAt_slice W 27 _ _ _ _ hu, key]
  · intro w B l hl hR
    by_cases e : c = s
    · have : l.drop s = [] := List.drop_eq_nil_of_le (by omega)
      rw [this]
      exact .inl rfl
    · rw [if_neg e, List.map_drop]
      exact row_drop hR s
/-- Bytes from a place to another one. -/
theorem slice_part (b off n c s t : Nat) (hs : s ≤ t) (ht : t ≤ n) (hnc : n ≤ c) : ∃ AX : Option Addr, AX ≠ none ∧
    (∀ W : World, (Instr.slice 27 (.slice (some ⟨b, off, none⟩) n c) (some (.int .i64 (s : Int))) (some (.int .u64 (t : Int))) none).run Try.prog W = .ok (.slice AX (t - s) (c - s)) W) ∧
    (∀ W : World, (Instr.sliceAt 27 (.slice (some ⟨b, off, none⟩) n c) (some (.int .i64 (s : Int))) (some (.int .u64 (t : Int))) none).run Try.prog W = .ok (.slice AX (t - s) (c - s)) W) ∧
    ∀ (w : World) (B : Nat) (l : List Int), l.length = n → Row w B (some ⟨b, off, none⟩) (l.map (.int .u8)) → Row w B AX (((l.drop s).take (t - s)).map (.int .u8)) := by
  have hu : Try.prog.underlying 27 = some (.slice (Try.prog.elem 27)) := by kernel_rfl
  have hz : ∀ W : World, (sizeOf (Try.prog.elem 27)).run Try.prog W = .ok 1 W := fun _ => by kernel_rfl
  have key : ∀ W : World, (Instr.slice 27 (.slice (some ⟨b, off, none⟩) n c) (some (.int .i64 (s : Int))) (some (.int .u64 (t : Int))) none).run Try.prog W = .ok (.slice (if c = s then some ⟨b, off, none⟩ else some ⟨b, off + s, none⟩) (t - s) (c - s)) W := by
    intro W
    rw [run_slice_lh W 27 (some ⟨b, off, none⟩) n c hu .i64 .u64 (s : Int) (t : Int) (by omega) (by omega) (by omega), hz]
    simp only [Result.andThen, sliced, Int.toNat_natCast, Nat.mul_one, Option.map_some, Addr.add_lit]
  refine ⟨if c = s then some ⟨b, off, none⟩ else some ⟨b, off + s, none⟩, by split <;> simp, key, fun W => ?_, ?_⟩
  · rw [run_sliceAt_slice W 27 _ _ _ _ hu, key]
  · intro w B l hl hR
    by_cases e : c = s
    · have : (l.drop s).take (t - s) = [] := by rw [show t - s = 0 by omega]; rfl
      rw [this]
      exact .inl rfl
    · rw [if_neg e, List.map_take, List.map_drop]
      exact (row_drop hR s).take _
/-- The number of four bytes at a place. -/
def wAt (l : List Int) (k : Nat) : Nat := wordN (l.getD k 0).toNat (l.getD (k + 1) 0).toNat (l.getD (k + 2) 0).toNat (l.getD (k + 3) 0).toNat
theorem getD_byte {l : List Int} (h : Byte l) (k : Nat) : 0 ≤ l.getD k 0 ∧ l.getD k 0 < 256 := by
  rw [List.getD_eq_getElem?_getD]
  rcases Nat.lt_or_ge k l.length with hk | hk
  · rw [List.getElem?_eq_getElem hk]
    exact h _ (List.getElem_mem hk)
  · rw [List.getElem?_eq_none hk]
    exact ⟨by decide, by decide⟩
theorem wAt_lt {l : List Int} (h : Byte l) (k : Nat) : wAt l k < 4294967296 := by
  have a := getD_byte h k
  have b := getD_byte h (k + 1)
  have c := getD_byte h (k + 2)
  have d := getD_byte h (k + 3)
  exact wordN_lt (by omega) (by omega) (by omega) (by omega)
theorem row_get {w : World} {B b off : Nat} {l : List Int} (h : Row w B (some ⟨b, off, none⟩) (l.map (.int .u8))) (hb : Byte l) (k : Nat) (hk : k < l.length) : w.cell? ⟨b, off + k, none⟩ = some (.int .u8 (((l.getD k 0).toNat : Nat) : Int)) := by
  have hc := row_cells h k (.int .u8 l[k]) (by rw [List.getElem?_map, List.getElem?_eq_getElem hk]; rfl)
  rw [Addr.add_lit] at hc
  rw [hc, List.getD_eq_getElem?_getD, List.getElem?_eq_getElem hk]
  have := hb _ (List.getElem_mem hk)
  rw [Option.getD_some, Int.toNat_of_nonneg this.1]
theorem word_at (big : Bool) (g off c k n : Nat) (l : List Int) (B : Nat) (w : World) (hn : l.length = n) (hr : Row w B (some ⟨g, off, none⟩) (l.map (.int .u8))) (hb : Byte l) (hk : k + 4 ≤ n) (hl : n ≤ 1000000000) :
    Calls Try.prog 19 #[.slice (some ⟨g, off, none⟩) n c, .bool big, .int .i64 (k : Int)] w fun e w' => e = .returned (.int .u32 ((ordN big (wAt l k) : Nat) : Int)) ∧ ∃ q, w' = w.drewN q := by
  have a := getD_byte hb k
  have b := getD_byte hb (k + 1)
  have c' := getD_byte hb (k + 2)
  have d := getD_byte hb (k + 3)
  exact word_any big g off n c k (l.getD k 0).toNat (l.getD (k + 1) 0).toNat (l.getD (k + 2) 0).toNat (l.getD (k + 3) 0).toNat w (by omega) (by omega) (by omega) (by omega) hk hl
    (row_get hr hb k (by omega)) (row_get hr hb (k + 1) (by omega)) (row_get hr hb (k + 2) (by omega)) (row_get hr hb (k + 3) (by omega))
theorem word_bel (big : Bool) (g off c k n : Nat) (l : List Int) (B : Nat) (w : World) (hn : l.length = n) (hr : Row w B (some ⟨g, off, none⟩) (l.map (.int .u8))) (hb : Byte l) (hk : k + 4 ≤ n) (hl : n ≤ 1000000000) :
    Calls Try.prog 19 #[.slice (some ⟨g, off, none⟩) n c, .bool big, .int .i64 (k : Int)] w fun e w' => e = .returned (.int .u32 ((ordN big (wAt l k) : Nat) : Int)) ∧ Below w.heap.size w w' :=
  (word_at big g off c k n l B w hn hr hb hk hl).mono fun e w' ⟨h1, q, h2⟩ => ⟨h1, h2 ▸ below_drewN (Below.refl _ _) q⟩
def ClonePost (w : World) (n : Nat) (l : List Int) (e : Ending) (w' : World) : Prop :=
  ∃ v', e = .returned v' ∧ w'.ownsRow w.heap.size 5 1 v' n (l.map (.int .u8)) ∧ Below w.heap.size w w' ∧ w.heap.size ≤ w'.heap.size
set_option maxRecDepth 100000 in
theorem clone_any (A : Option Addr) (n c : Nat) (l : List Int) (w : World) (hl : l.length = n) (hn : n ≤ 1000000) (hz : A = none → c = 0) (hr : Row w w.heap.size A (l.map (.int .u8))) :
    Calls Try.prog 22 #[.slice A n c] w (ClonePost w n l) := by
  cases A with
  | none =>
    have h0 := row_none hr
    have hl0 : l = [] := by simpa using h0
    subst hl0
    have hn0 : n = 0 := by simpa using hl.symm
    subst hn0
    have hc := hz rfl
    subst hc
    clear hr hz h0 hl
    have q22 : ∀ (w : World) (a : Option Addr) (n c n' c' : Nat), (binOp .eql 27 (.slice a n c) (.slice none n' c')).run Try.prog w = .ok (.bool a.isNone) w := fun w a n c n' c' => Lib.run_eql_slice_nil w _ _ a n c n' c' Try.underlying27
    go_enter Try.func22, Try.ntmps22
    go_wp2_with fail
    go_ret
    exact ⟨_, rfl, World.ownsRow_nil _ _ _ _, Below.refl _ _, Nat.le_refl _⟩
  | some ad =>
    obtain ⟨i0, hi0, hz0, hz1, hz2⟩ := info_parts info_u8
    have HI0 := Lib.hid hi0
    have HZ0 := Lib.hid hz0
    have HZ1 := Lib.hid hz1
    have HZ2 := Lib.hid hz2
    have R1 := Lib.hid hr
    have L1 := Lib.hid hl
    have ONE := Lib.hid (one_u8 l)
    clear hi0 hz0 hz1 hz2 hr hl hz
    have q22 : ∀ (w : World) (a : Option Addr) (n c n' c' : Nat), (binOp .eql 27 (.slice a n c) (.slice none n' c')).run Try.prog w = .ok (.bool a.isNone) w := fun w a n c n' c' => Lib.run_eql_slice_nil w _ _ a n c n' c' Try.underlying27
    go_enter Try.func22, Try.ntmps22
    go_wp2_with (at_builtin; refine wpList_append_row rfl (.tmp 5) (.tmp 6) _ rfl w.heap.size 5 i0 _ 1 Try.underlying27 HI0.out HZ0.out HZ1.out HZ2.out rfl (.slice (some ⟨w.heap.size, 0, none⟩) 0 0) 0 [] rfl (World.ownsRow_lit w #[] 0 (Nat.le_refl _) (by unfold maxLen; omega) rfl) (some ad) n c w.heap.size (l.map (.int .u8)) rfl (by intro h; cases h) (by simp; exact L1.out) (R1.out.below ((Below.refl _ _).alloc (Nat.le_refl _) _)) ONE.out (by unfold maxLen; omega) (by omega) (by simp) ?_; intro va wa owna ga; have HOa := Lib.hid owna; have HBa := Lib.hid (below_grown ((Below.refl _ _).alloc (Nat.le_refl _) _) (World.ownsRow_lit w #[] 0 (Nat.le_refl _) (by unfold maxLen; omega) rfl) (Nat.le_refl _) (by simp) ga); clear owna ga)
    go_ret
    refine ⟨_, rfl, ?_, HBa.out, HBa.out.size⟩
    have := HOa.out
    rwa [Nat.zero_add, List.nil_append] at this
end Go.Proofs.Ytmchedjeohhpcaa.pcapJ
