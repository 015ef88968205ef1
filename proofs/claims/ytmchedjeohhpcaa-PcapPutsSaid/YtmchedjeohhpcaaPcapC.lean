/- Layer 36: words put behind bytes of the call's own. -/
import Derived.Test.YtmchedjeohhpcaaPcapB
import Derived.Laws.BytesArg
namespace Go.Proofs.Ytmchedjeohhpcaa.pcapC
open Go.ChangeShapes Go.WideShapes Go.ChangeAt Go.RowKit
open Go.Proofs.Ytmchedjeohhpcaa.base Go.Proofs.Ytmchedjeohhpcaa.pcapA Go.Proofs.Ytmchedjeohhpcaa.pcapB
set_option linter.unusedVariables false

theorem info_u8 : (Try.prog.info? 5).map (fun i => (i.zero, i.size, i.bytes)) = some (some (.int .u8 0), 1, 1) := by kernel_rfl
/-- A number's four bytes, the greatest one first. -/
def fourZ (n : Nat) : List Int := [(n : Int) / 16777216 % 256, (n : Int) / 65536 % 256, (n : Int) / 256 % 256, (n : Int) % 256]
theorem fourZ_len (n : Nat) : (fourZ n).length = 4 := rfl
def twoZ (n : Nat) : List Int := [(n : Int) / 256 % 256, (n : Int) % 256]
theorem four_one (n : Nat) : ∀ u ∈ (fourZ n).map (Value.int .u8), u.oneCell' = true := by
  intro u hu
  rw [List.mem_map] at hu
  obtain ⟨x, _, rfl⟩ := hu
  rfl
theorem two_one (n : Nat) : ∀ u ∈ (twoZ n).map (Value.int .u8), u.oneCell' = true := by
  intro u hu
  rw [List.mem_map] at hu
  obtain ⟨x, _, rfl⟩ := hu
  rfl
/-- The bytes of words in a file's order. -/
def wb (big : Bool) (l : List Nat) : List Int := l.flatMap fun n => fourZ (ordN big n)
def hb (big : Bool) (l : List Nat) : List Int := l.flatMap fun n => twoZ (ordH big n)
theorem wb_snoc (big : Bool) (l : List Nat) (x : Nat) : wb big (l ++ [x]) = wb big l ++ fourZ (ordN big x) := by simp [wb]
theorem hb_snoc (big : Bool) (l : List Nat) (x : Nat) : hb big (l ++ [x]) = hb big l ++ twoZ (ordH big x) := by simp [hb]
theorem take_snoc (l : List Nat) (k : Nat) (h : k < l.length) : l.take (k + 1) = l.take k ++ [l[k]] := List.take_succ_eq_append_getElem h
/-- A row of bytes is no block of other numbers. -/
theorem own_ne {w : World} {base t : Nat} {v : Value} {n b : Nat} {xs : List Value} {cs : Array Value} (ht : t ≠ 5) (h : w.ownsRow base 5 1 v n xs) (hb : Blk w b t cs) : some b ≠ v.ownBlock := by
  rcases h.2 with ⟨rfl, _⟩ | ⟨g, cap, cur, rfl, hg, hgg, _⟩
  · simp [Value.ownBlock]
  · intro e
    simp [Value.ownBlock] at e
    subst e
    unfold Blk at hb
    rw [hb] at hgg
    injection hgg with h1
    injection h1 with _ h2 _
    exact absurd h2 ht
/-- A list that was just made reads as what it was made of. -/
theorem lit_new (w : World) (cs : Array Value) (t : TypeId) : ∀ (j : Nat) (x : Value), cs.toList[j]? = some x → (w.alloc (.cells cs t)).cell? ((⟨w.heap.size, 0, none⟩ : Addr).add j) = some x := by
  intro j x h
  have e : (⟨w.heap.size, 0, none⟩ : Addr).add j = ⟨w.heap.size, j, none⟩ := by
    simp [Addr.add]
    intro h
    exact h.symm
  rw [e, (Blk.new w t cs).cell j, ← h, Array.getElem?_toList]
def PutPost (w : World) (base B : Nat) (a : World) (m k : Nat) (xs : List Value) (ys : List Int) (e : Ending) (w' : World) : Prop :=
  ∃ v', e = .returned v' ∧ w'.ownsRow base 5 1 v' (m + k) (xs ++ ys.map (.int .u8)) ∧ Below B a w' ∧ base ≤ w'.heap.size ∧ ∀ (g t : Nat) (cs : Array Value), t ≠ 5 → Blk w g t cs → Blk w' g t cs
set_option maxHeartbeats 400000 in
set_option maxRecDepth 100000 in
theorem words_any (big : Bool) (b : Nat) (cs : Array Value) (v : Value) (m : Nat) (xs : List Value) (n c : Nat) (l : List Nat) (base B : Nat) (a w : World) (hown : w.ownsRow base 5 1 v m xs) (hbase : base ≤ w.heap.size) (hm : m + 4 * n ≤ 1000000000) (hbel : Below B a w) (hB : B ≤ base)
    (hl : l.length = n) (hK : Blk w b 22 cs) (hcs : cs.toList = l.map (fun x : Nat => Value.int .u32 (x : Int))) (hw : ∀ x ∈ l, x < 4294967296) :
    Calls Try.prog 16 #[v, .bool big, .slice (some ⟨b, 0, none⟩) n c] w (PutPost w base B a m (4 * n) xs (wb big l)) := by
  obtain ⟨i0, hi0, hz0, hz1, hz2⟩ := info_parts info_u8
  have HI0 := Lib.hid hi0
  have HZ0 := Lib.hid hz0
  have HZ1 := Lib.hid hz1
  have HZ2 := Lib.hid hz2
  have HK0 := Lib.hid hK
  have HCS := Lib.hid hcs
  have HN := Lib.hid hl
  have HW := Lib.hid hw
  have HOwn0 := Lib.hid hown
  have HBel0 := Lib.hid hbel
  clear hi0 hz0 hz1 hz2 hK hcs hl hw hown hbel
  go_enter Try.func16, Try.ntmps16
  go_wp2_with fail
  go_loopw [0, 11] (fun out i wr => ∃ (j : Nat), j ≤ n ∧ i = .int .i64 j ∧ wr.ownsRow base 5 1 out (m + 4 * j) (xs ++ (wb big (l.take j)).map (.int .u8)) ∧ Below B a wr ∧ base ≤ wr.heap.size ∧ Hid (∀ (g t : Nat) (cs : Array Value), t ≠ 5 → Blk w g t cs → Blk wr g t cs)) (fun _ i _ => n - (intOf i).toNat)
  case atStart => exact ⟨0, by omega, rfl, by simpa [wb] using HOwn0.out, HBel0.out, hbase, Lib.hid (fun _ _ _ _ h => h)⟩
  case round =>
    obtain ⟨j, hj, rfl, hown, hbel, hbs, HAL⟩ := hrel
    have hblk := HAL.out b _ cs (by decide) HK0.out
    obtain ⟨A3, c3, rfl⟩ := own_slice hown
    have HOwn := Lib.hid hown
    have HBel := Lib.hid hbel
    by_cases hlt : j < n
    · have hkl : j < l.length := by rw [HN.out]; exact hlt
      have hcell : wr.cell? ⟨b, j, none⟩ = some (.int .u32 ((l[j] : Nat) : Int)) := by
        rw [hblk.cell j, ← Array.getElem?_toList, HCS.out, List.getElem?_map, List.getElem?_eq_getElem hkl]
        rfl
      have hx := HW.out l[j] (List.getElem_mem hkl)
      have hsn : wb big (l.take (j + 1)) = wb big (l.take j) ++ fourZ (ordN big l[j]) := by rw [take_snoc l j hkl, wb_snoc]
      have HSN := Lib.hid hsn
      have HC := Lib.hid (fun w => order_any big hx w)
      have hkk := ordN_lt big hx
      have hmj2 : m + 4 * j ≤ 1000000000 := by omega
      clear hown hbel hblk hsn
      generalize ordN big l[j] = k at *
      generalize l[j] = x at *
      have c1 : IntKind.u8.wrap ((k : Int) / 16777216) = (k : Int) / 16777216 % 256 := by rw [IntKind.wrap_u8]
      have c2 : IntKind.u8.wrap ((k : Int) / 65536) = (k : Int) / 65536 % 256 := by rw [IntKind.wrap_u8]
      have c3' : IntKind.u8.wrap ((k : Int) / 256) = (k : Int) / 256 % 256 := by rw [IntKind.wrap_u8]
      have c4 : IntKind.u8.wrap (k : Int) = (k : Int) % 256 := by rw [IntKind.wrap_u8]
      go_wp2_with fail
      refine (HC.out _).mono ?_
      rintro e w1 ⟨rfl, rfl⟩
      go_wp2_with (at_builtin; refine wpList_append_own _ rfl (.tmp 18) (.tmp 30) _ rfl base 5 i0 _ 1 1 Try.underlying27 HI0.out HZ0.out HZ1.out HZ2.out rfl (by omega) _ (m + 4 * j) _ rfl (HOwn.out.alloc _) ⟨wr.heap.size, 0, none⟩ 4 4 ((fourZ k).map (.int .u8)) rfl rfl (lit_new _ _ _) (four_one k) (by unfold maxLen; omega) (by omega) (by simp; omega) ?_; intro v1 w1 hown1 hg1 _; have HO1 := Lib.hid hown1; have HG1 := Lib.hid hg1; clear hown1 hg1)
      go_roundw
      case rel =>
        refine ⟨j + 1, by omega, by go_num, ?_, below_grown (HBel.out.alloc (by omega) _) (HOwn.out.alloc _) hB (by simp; omega) HG1.out, by have := HG1.out.size; simp at this; omega, Lib.hid (fun g t cs' ht hb => ((HAL.out g t cs' ht hb).alloc (.cells #[.int .u8 ((k : Int) / 16777216 % 256), .int .u8 ((k : Int) / 65536 % 256), .int .u8 ((k : Int) / 256 % 256), .int .u8 ((k : Int) % 256)] 5)).grown HG1.out (own_ne ht (v := .slice A3 (m + 4 * j) c3) (HOwn.out.alloc (.cells #[.int .u8 ((k : Int) / 16777216 % 256), .int .u8 ((k : Int) / 65536 % 256), .int .u8 ((k : Int) / 256 % 256), .int .u8 ((k : Int) % 256)] 5)) ((HAL.out g t cs' ht hb).alloc _)))⟩
        rw [HSN.out, List.map_append, ← List.append_assoc, Nat.mul_succ, ← Nat.add_assoc]
        exact HO1.out
      case measure => simp [intOf]; omega
    · obtain rfl : j = n := by omega
      have hz : l.take j = l := List.take_of_length_le (by rw [HN.out]; omega)
      rw [hz] at HOwn
      clear hown hbel hz hblk
      go_wp2_with fail
      go_ret
      exact ⟨_, rfl, HOwn.out, HBel.out, hbs, HAL.out⟩
set_option maxHeartbeats 400000 in
set_option maxRecDepth 100000 in
theorem halves_big (b : Nat) (cs : Array Value) (v : Value) (m : Nat) (xs : List Value) (n c : Nat) (l : List Nat) (base B : Nat) (a w : World) (hown : w.ownsRow base 5 1 v m xs) (hbase : base ≤ w.heap.size) (hm : m + 2 * n ≤ 1000000000) (hbel : Below B a w) (hB : B ≤ base)
    (hl : l.length = n) (hK : Blk w b 53 cs) (hcs : cs.toList = l.map (fun x : Nat => Value.int .u16 (x : Int))) (hw : ∀ x ∈ l, x < 65536) :
    Calls Try.prog 24 #[v, .bool true, .slice (some ⟨b, 0, none⟩) n c] w (PutPost w base B a m (2 * n) xs (hb true l)) := by
  obtain ⟨i0, hi0, hz0, hz1, hz2⟩ := info_parts info_u8
  have HI0 := Lib.hid hi0
  have HZ0 := Lib.hid hz0
  have HZ1 := Lib.hid hz1
  have HZ2 := Lib.hid hz2
  have HK0 := Lib.hid hK
  have HCS := Lib.hid hcs
  have HN := Lib.hid hl
  have HW := Lib.hid hw
  have HOwn0 := Lib.hid hown
  have HBel0 := Lib.hid hbel
  clear hi0 hz0 hz1 hz2 hK hcs hl hw hown hbel
  go_enter Try.func24, Try.ntmps24
  go_wp2_with fail
  go_loopw [0, 11] (fun out i wr => ∃ (j : Nat), j ≤ n ∧ i = .int .i64 j ∧ wr.ownsRow base 5 1 out (m + 2 * j) (xs ++ (hb true (l.take j)).map (.int .u8)) ∧ Below B a wr ∧ base ≤ wr.heap.size ∧ Hid (∀ (g t : Nat) (cs : Array Value), t ≠ 5 → Blk w g t cs → Blk wr g t cs)) (fun _ i _ => n - (intOf i).toNat)
  case atStart => exact ⟨0, by omega, rfl, by simpa [hb] using HOwn0.out, HBel0.out, hbase, Lib.hid (fun _ _ _ _ h => h)⟩
  case round =>
    obtain ⟨j, hj, rfl, hown, hbel, hbs, HAL⟩ := hrel
    have hblk := HAL.out b _ cs (by decide) HK0.out
    obtain ⟨A3, c3, rfl⟩ := own_slice hown
    have HOwn := Lib.hid hown
    have HBel := Lib.hid hbel
    by_cases hlt : j < n
    · have hkl : j < l.length := by rw [HN.out]; exact hlt
      have hcell : wr.cell? ⟨b, j, none⟩ = some (.int .u16 ((l[j] : Nat) : Int)) := by
        rw [hblk.cell j, ← Array.getElem?_toList, HCS.out, List.getElem?_map, List.getElem?_eq_getElem hkl]
        rfl
      have hx := HW.out l[j] (List.getElem_mem hkl)
      have hsn : hb true (l.take (j + 1)) = hb true (l.take j) ++ twoZ (ordH true l[j]) := by rw [take_snoc l j hkl, hb_snoc]
      have HSN := Lib.hid hsn
      have hmj2 : m + 2 * j ≤ 1000000000 := by omega
      clear hown hbel hblk hsn
      rw [show ordH true l[j] = l[j] from rfl] at HSN
      generalize l[j] = k at *
      have c3' : IntKind.u8.wrap ((k : Int) / 256) = (k : Int) / 256 % 256 := by rw [IntKind.wrap_u8]
      have c4 : IntKind.u8.wrap (k : Int) = (k : Int) % 256 := by rw [IntKind.wrap_u8]
      go_wp2_with (at_builtin; refine wpList_append_own _ rfl (.tmp 19) (.tmp 25) _ rfl base 5 i0 _ 1 1 Try.underlying27 HI0.out HZ0.out HZ1.out HZ2.out rfl (by omega) _ (m + 2 * j) _ rfl (HOwn.out.alloc _) ⟨wr.heap.size, 0, none⟩ 2 2 ((twoZ k).map (.int .u8)) rfl rfl (lit_new _ _ _) (two_one k) (by unfold maxLen; omega) (by omega) (by simp; omega) ?_; intro v1 w1 hown1 hg1 _; have HO1 := Lib.hid hown1; have HG1 := Lib.hid hg1; clear hown1 hg1)
      go_roundw
      case rel =>
        refine ⟨j + 1, by omega, by go_num, ?_, below_grown (HBel.out.alloc (by omega) _) (HOwn.out.alloc _) hB (by simp; omega) HG1.out, by have := HG1.out.size; simp at this; omega, Lib.hid (fun g t cs' ht hb => ((HAL.out g t cs' ht hb).alloc (.cells #[.int .u8 ((k : Int) / 256 % 256), .int .u8 ((k : Int) % 256)] 5)).grown HG1.out (own_ne ht (v := .slice A3 (m + 2 * j) c3) (HOwn.out.alloc (.cells #[.int .u8 ((k : Int) / 256 % 256), .int .u8 ((k : Int) % 256)] 5)) ((HAL.out g t cs' ht hb).alloc _)))⟩
        rw [HSN.out, List.map_append, ← List.append_assoc, Nat.mul_succ, ← Nat.add_assoc]
        exact HO1.out
      case measure => simp [intOf]; omega
    · obtain rfl : j = n := by omega
      have hz : l.take j = l := List.take_of_length_le (by rw [HN.out]; omega)
      rw [hz] at HOwn
      clear hown hbel hz hblk
      go_wp2_with fail
      go_ret
      exact ⟨_, rfl, HOwn.out, HBel.out, hbs, HAL.out⟩
set_option maxHeartbeats 400000 in
set_option maxRecDepth 100000 in
theorem halves_small (b : Nat) (cs : Array Value) (v : Value) (m : Nat) (xs : List Value) (n c : Nat) (l : List Nat) (base B : Nat) (a w : World) (hown : w.ownsRow base 5 1 v m xs) (hbase : base ≤ w.heap.size) (hm : m + 2 * n ≤ 1000000000) (hbel : Below B a w) (hB : B ≤ base)
    (hl : l.length = n) (hK : Blk w b 53 cs) (hcs : cs.toList = l.map (fun x : Nat => Value.int .u16 (x : Int))) (hw : ∀ x ∈ l, x < 65536) :
    Calls Try.prog 24 #[v, .bool false, .slice (some ⟨b, 0, none⟩) n c] w (PutPost w base B a m (2 * n) xs (hb false l)) := by
  obtain ⟨i0, hi0, hz0, hz1, hz2⟩ := info_parts info_u8
  have HI0 := Lib.hid hi0
  have HZ0 := Lib.hid hz0
  have HZ1 := Lib.hid hz1
  have HZ2 := Lib.hid hz2
  have HK0 := Lib.hid hK
  have HCS := Lib.hid hcs
  have HN := Lib.hid hl
  have HW := Lib.hid hw
  have HOwn0 := Lib.hid hown
  have HBel0 := Lib.hid hbel
  clear hi0 hz0 hz1 hz2 hK hcs hl hw hown hbel
  go_enter Try.func24, Try.ntmps24
  go_wp2_with fail
  go_loopw [0, 11] (fun out i wr => ∃ (j : Nat), j ≤ n ∧ i = .int .i64 j ∧ wr.ownsRow base 5 1 out (m + 2 * j) (xs ++ (hb false (l.take j)).map (.int .u8)) ∧ Below B a wr ∧ base ≤ wr.heap.size ∧ Hid (∀ (g t : Nat) (cs : Array Value), t ≠ 5 → Blk w g t cs → Blk wr g t cs)) (fun _ i _ => n - (intOf i).toNat)
  case atStart => exact ⟨0, by omega, rfl, by simpa [hb] using HOwn0.out, HBel0.out, hbase, Lib.hid (fun _ _ _ _ h => h)⟩
  case round =>
    obtain ⟨j, hj, rfl, hown, hbel, hbs, HAL⟩ := hrel
    have hblk := HAL.out b _ cs (by decide) HK0.out
    obtain ⟨A3, c3, rfl⟩ := own_slice hown
    have HOwn := Lib.hid hown
    have HBel := Lib.hid hbel
    by_cases hlt : j < n
    · have hkl : j < l.length := by rw [HN.out]; exact hlt
      have hcell : wr.cell? ⟨b, j, none⟩ = some (.int .u16 ((l[j] : Nat) : Int)) := by
        rw [hblk.cell j, ← Array.getElem?_toList, HCS.out, List.getElem?_map, List.getElem?_eq_getElem hkl]
        rfl
      have hx := HW.out l[j] (List.getElem_mem hkl)
      have hsn : hb false (l.take (j + 1)) = hb false (l.take j) ++ twoZ (ordH false l[j]) := by rw [take_snoc l j hkl, hb_snoc]
      have HSN := Lib.hid hsn
      have HC := Lib.hid (fun w => rev16_any hx w)
      have hkk := rev16_lt l[j]
      have hmj2 : m + 2 * j ≤ 1000000000 := by omega
      clear hown hbel hblk hsn
      rw [show ordH false l[j] = rev16 l[j] from rfl] at HSN
      generalize rev16 l[j] = k at *
      generalize l[j] = x at *
      have c3' : IntKind.u8.wrap ((k : Int) / 256) = (k : Int) / 256 % 256 := by rw [IntKind.wrap_u8]
      have c4 : IntKind.u8.wrap (k : Int) = (k : Int) % 256 := by rw [IntKind.wrap_u8]
      go_wp2_with fail
      refine (HC.out _).mono ?_
      rintro e w1 ⟨rfl, rfl⟩
      go_wp2_with (at_builtin; refine wpList_append_own _ rfl (.tmp 19) (.tmp 25) _ rfl base 5 i0 _ 1 1 Try.underlying27 HI0.out HZ0.out HZ1.out HZ2.out rfl (by omega) _ (m + 2 * j) _ rfl (HOwn.out.alloc _) ⟨wr.heap.size, 0, none⟩ 2 2 ((twoZ k).map (.int .u8)) rfl rfl (lit_new _ _ _) (two_one k) (by unfold maxLen; omega) (by omega) (by simp; omega) ?_; intro v1 w1 hown1 hg1 _; have HO1 := Lib.hid hown1; have HG1 := Lib.hid hg1; clear hown1 hg1)
      go_roundw
      case rel =>
        refine ⟨j + 1, by omega, by go_num, ?_, below_grown (HBel.out.alloc (by omega) _) (HOwn.out.alloc _) hB (by simp; omega) HG1.out, by have := HG1.out.size; simp at this; omega, Lib.hid (fun g t cs' ht hb => ((HAL.out g t cs' ht hb).alloc (.cells #[.int .u8 ((k : Int) / 256 % 256), .int .u8 ((k : Int) % 256)] 5)).grown HG1.out (own_ne ht (v := .slice A3 (m + 2 * j) c3) (HOwn.out.alloc (.cells #[.int .u8 ((k : Int) / 256 % 256), .int .u8 ((k : Int) % 256)] 5)) ((HAL.out g t cs' ht hb).alloc _)))⟩
        rw [HSN.out, List.map_append, ← List.append_assoc, Nat.mul_succ, ← Nat.add_assoc]
        exact HO1.out
      case measure => simp [intOf]; omega
    · obtain rfl : j = n := by omega
      have hz : l.take j = l := List.take_of_length_le (by rw [HN.out]; omega)
      rw [hz] at HOwn
      clear hown hbel hz hblk
      go_wp2_with fail
      go_ret
      exact ⟨_, rfl, HOwn.out, HBel.out, hbs, HAL.out⟩
theorem halves_any (big : Bool) (b : Nat) (cs : Array Value) (v : Value) (m : Nat) (xs : List Value) (n c : Nat) (l : List Nat) (base B : Nat) (a w : World) (hown : w.ownsRow base 5 1 v m xs) (hbase : base ≤ w.heap.size) (hm : m + 2 * n ≤ 1000000000) (hbel : Below B a w) (hB : B ≤ base)
    (hl : l.length = n) (hK : Blk w b 53 cs) (hcs : cs.toList = l.map (fun x : Nat => Value.int .u16 (x : Int))) (hw : ∀ x ∈ l, x < 65536) :
    Calls Try.prog 24 #[v, .bool big, .slice (some ⟨b, 0, none⟩) n c] w (PutPost w base B a m (2 * n) xs (hb big l)) := by
  cases big
  · exact halves_small b cs v m xs n c l base B a w hown hbase hm hbel hB hl hK hcs hw
  · exact halves_big b cs v m xs n c l base B a w hown hbase hm hbel hB hl hK hcs hw
end Go.Proofs.Ytmchedjeohhpcaa.pcapC
