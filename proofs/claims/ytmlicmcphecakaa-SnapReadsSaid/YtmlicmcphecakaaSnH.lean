/- Layer 44: the law's few ops. -/
import Derived.Test.YtmlicmcphecakaaSnG
namespace Go.Proofs.Ytmlicmcphecakaa.snH
open Go.ChangeShapes Go.WideShapes Go.ChangeAt Go.RowKit
open Go.Proofs.Ytmlicmcphecakaa.base Go.Proofs.Ytmlicmcphecakaa.octA Go.Proofs.Ytmlicmcphecakaa.octB Go.Proofs.Ytmlicmcphecakaa.octK Go.Proofs.Ytmlicmcphecakaa.net Go.Proofs.Ytmlicmcphecakaa.rdrA Go.Proofs.Ytmlicmcphecakaa.snA Go.Proofs.Ytmlicmcphecakaa.snB Go.Proofs.Ytmlicmcphecakaa.snC Go.Proofs.Ytmlicmcphecakaa.snD Go.Proofs.Ytmlicmcphecakaa.snE Go.Proofs.Ytmlicmcphecakaa.snF Go.Proofs.Ytmlicmcphecakaa.snG Go.Proofs.Ytmlicmcphecakaa.snK
set_option linter.unusedVariables false

theorem slice_to (b off n c t : Nat) (ht : t ≤ c) (hc : 0 < c) :
    (∀ W : World, (Instr.slice 25 (.slice (some ⟨b, off, none⟩) n c) none (some (.int .i64 (t : Int))) none).run Try.prog W = .ok (.slice (some ⟨b, off, none⟩) t c) W) ∧
    (∀ W : World, (Instr.sliceAt 25 (.slice (some ⟨b, off, none⟩) n c) none (some (.int .i64 (t : Int))) none).run Try.prog W = .ok (.slice (some ⟨b, off, none⟩) t c) W) := by
  have hu : Try.prog.underlying 25 = some (.slice (Try.prog.elem 25)) := by kernel_rfl
  have hz : ∀ W : World, (sizeOf (Try.prog.elem 25)).run Try.prog W = .ok 1 W := fun _ => by kernel_rfl
  have key : ∀ W : World, (Instr.slice 25 (.slice (some ⟨b, off, none⟩) n c) none (some (.int .i64 (t : Int))) none).run Try.prog W = .ok (.slice (some ⟨b, off, none⟩) t c) W := by
    intro W
    rw [run_slice_h W 25 (some ⟨b, off, none⟩) n c hu .i64 (t : Int) (by omega) (by omega), hz]
    simp only [Result.andThen, sliced, Int.toNat_natCast, Nat.mul_one, Option.map_some, Nat.sub_zero, Addr.add_lit, Nat.add_zero]
    split <;> rfl
  exact ⟨key, fun W => by rw [run_sliceAt_slice W 25 _ _ _ _ hu, key]⟩
theorem info_op : (Try.prog.info? 27).map (fun i => (i.zero, i.size, i.bytes)) = some (some (.agg #[.int .i64 0, .slice none 0 0, .string ⟨#[]⟩, .int .i64 0, .int .i64 0, .bool false]), 6, 72) := by kernel_rfl
theorem own_sliceN {w : World} {base e s : Nat} {v : Value} {n : Nat} {xs : List Value} (h : w.ownsRow base e s v n xs) : ∃ A c, v = .slice A n c := by
  rcases h.2 with ⟨rfl, h0⟩ | ⟨g, cap, cur, rfl, _⟩
  · exact ⟨_, _, by rw [h0]⟩
  · exact ⟨_, _, rfl⟩
theorem own_cap {w : World} {B e s : Nat} {A : Option Addr} {n c : Nat} {xs : List Value} (h : w.ownsRow B e s (.slice A n c) n xs) : n ≤ c ∧ c ≤ 9223372036854775807 := by
  rcases h.2 with ⟨hv, h0⟩ | ⟨g, cap, cur, hv, hb, hg, hnc, hm, hsz, htake⟩
  · injection hv with h1 h2 h3
    omega
  · injection hv with h1 h2 h3
    subst h3
    unfold maxLen at hm
    omega
def clip (o : Ob) : Ob := if 300 < o.bs.length then { o with bs := o.bs.take 300 } else o
theorem clip_big {o : Ob} (h : 300 < o.bs.length) : clip o = { o with bs := o.bs.take 300 } := if_pos h
theorem clip_small {o : Ob} (h : ¬ 300 < o.bs.length) : clip o = o := if_neg h
def fewL (l : List Ob) : List Ob := (l.take 40).map clip
theorem fewL_len (l : List Ob) : (fewL l).length = min 40 l.length := by simp [fewL]
theorem fewL_take (l : List Ob) (j : Nat) (h : j < (fewL l).length) : ∃ hj : j < l.length, (fewL l).take (j + 1) = (fewL l).take j ++ [clip l[j]] := by
  have h2 := fewL_len l
  refine ⟨by omega, ?_⟩
  rw [List.take_succ_eq_append_getElem h]
  congr 2
  simp [fewL]
/-- What is asked of ops that came in, besides how they lie. -/
def NilC (l : List Ob) : Prop := ∀ o ∈ l, o.A = none → o.c = 0
theorem clip_in {w : World} {A : Option Addr} {l : List Ob} (h : RdO w A l) (hz : NilC l) (o : Ob) (ho : o ∈ l) : ObIn w (clip o) := by
  obtain ⟨h1, h2, h3, h4, h5⟩ := h.els o ho
  by_cases hb : 300 < o.bs.length
  · rw [clip_big hb]
    refine ⟨?_, hz o ho, ?_, ?_, h3, h4, fun x hx => h5 x (List.mem_of_mem_take hx)⟩
    · have := h1.take 300
      rw [← List.map_take] at this
      exact this
    · show (o.bs.take 300).length ≤ 600
      rw [List.length_take]; omega
    · show (o.bs.take 300).length ≤ o.c
      rw [List.length_take]; omega
  · rw [clip_small hb]
    exact ⟨h1, hz o ho, by omega, h2, h3, h4, h5⟩
theorem few_in {w : World} {A : Option Addr} {l : List Ob} (h : RdO w A l) (hz : NilC l) : ∀ o ∈ fewL l, ObIn w o := fun o ho => by
  unfold fewL at ho
  rw [List.mem_map] at ho
  obtain ⟨x, hx, rfl⟩ := ho
  exact clip_in h hz x (List.mem_of_mem_take hx)
def flatO (l : List Ob) : List Value := l.flatMap fun e => e.cells.toList
theorem flatO_snoc (l : List Ob) (e : Ob) : flatO (l ++ [e]) = flatO l ++ e.cells.toList := by simp [flatO]
theorem flatO_len (l : List Ob) : (flatO l).length = l.length * 6 := by
  induction l with
  | nil => rfl
  | cons o l ih => show (o.cells.toList ++ flatO l).length = _; rw [List.length_append, ih]; simp [Ob.cells]; omega
theorem flatO_get (l : List Ob) : ∀ (j : Nat) (hj : j < l.length) (i : Nat), i < 6 → (flatO l)[j * 6 + i]? = (l[j]).cells[i]? := by
  induction l with
  | nil => intro j hj; simp at hj
  | cons o l ih =>
    intro j hj i hi
    have hc : o.cells.toList.length = 6 := rfl
    show (o.cells.toList ++ flatO l)[j * 6 + i]? = _
    cases j with
    | zero => rw [List.getElem?_append_left (by omega)]; simp
    | succ j =>
      rw [List.getElem?_append_right (by omega), hc, show (j + 1) * 6 + i - 6 = j * 6 + i by omega, ih j (by simpa using hj) i hi]
      simp
theorem opsB_of_row {w : World} {B : Nat} {A : Option Addr} {n c : Nat} {l : List Ob} (h : w.ownsRow B 27 6 (.slice A n c) n (flatO l)) (hn : n = l.length) (he : ∀ o ∈ l, ObIn w o) : OpsB w A l := by
  subst hn
  refine ⟨?_, he⟩
  rcases Nat.eq_zero_or_pos l.length with h0 | h0
  · exact .inl (List.eq_nil_of_length_eq_zero h0)
  · rcases h.2 with ⟨hv, h1⟩ | ⟨g, cap, cur, hv, hb, hg, h1, h2, h3, h4⟩
    · omega
    · have hc : ∀ j, j < l.length * 6 → w.cell? ⟨g, j, none⟩ = (flatO l)[j]? := fun j hj => by
        injection hv with hA hn hc
        subst hA hc
        have := h.cellAt j (by omega)
        exact this
      injection hv with hA hn hcc
      subst hA hcc
      have hB : Blk w g 27 cur := hg
      refine .inr ⟨g, cur, rfl, hB, fun j hj i hi => ?_⟩
      rw [← hB.cell, hc (j * 6 + i) (by omega)]
      exact flatO_get l j hj i hi
theorem own_neB {w : World} {base t e size : Nat} {v : Value} {n b : Nat} {xs : List Value} {cs : Array Value} (ht : t ≠ e) (h : w.ownsRow base e size v n xs) (hb : Blk w b t cs) : ∀ k, v.ownBlock = some k → k ≠ b := by
  rcases h.2 with ⟨rfl, _⟩ | ⟨g, cap, cur, rfl, hg, hgg, _⟩
  · intro k hk; simp [Value.ownBlock] at hk
  · intro k hk e
    simp [Value.ownBlock] at hk
    subst hk e
    unfold Blk at hb
    rw [hb] at hgg
    injection hgg with h1
    injection h1 with _ h2 _
    exact absurd h2 ht
set_option maxHeartbeats 8000000 in
set_option maxRecDepth 100000 in
theorem few_any (A : Option Addr) (c : Nat) (l : List Ob) (w : World) (hr : RdO w A l) (hz : NilC l) (hc1 : l.length ≤ c) (hc2 : c ≤ 9223372036854775807) :
    Calls Try.prog 5 #[.slice A l.length c] w fun o w' => Below w.heap.size w w' ∧ ∃ A' c', o = .returned (.slice A' (fewL l).length c') ∧ OpsB w' A' (fewL l) ∧ (fewL l).length ≤ c' ∧ c' ≤ 9223372036854775807 := by
  obtain ⟨i0, hi0, hz0, hz1, hz2⟩ := info_parts info_op
  have HI0 := Lib.hid hi0
  have HZ0 := Lib.hid hz0
  have HZ1 := Lib.hid hz1
  have HZ2 := Lib.hid hz2
  clear hi0 hz0 hz1 hz2
  have HR := Lib.hid hr
  have HFI := Lib.hid (few_in hr hz)
  have HNC := Lib.hid hz
  obtain ⟨n, hn⟩ : ∃ n, n = l.length := ⟨_, rfl⟩
  have HN := Lib.hid hn
  obtain ⟨m, hm⟩ : ∃ m, m = fewL l := ⟨_, rfl⟩
  have HM := Lib.hid hm
  have hml : m.length = min 40 n := by rw [hm, hn]; exact fewL_len l
  obtain ⟨q, hq⟩ : ∃ q, q = m.length := ⟨_, rfl⟩
  have HQ := Lib.hid hq
  have hq1 : q ≤ 40 := by omega
  have hq2 : q ≤ n := by omega
  have hq3 : q = 40 ∨ q = n := by omega
  have HQ3 := Lib.hid hq3
  rw [← hn] at hc1 ⊢
  rw [← hm]
  clear hr hz hn hm hml hq hq3
  go_enter Try.func5, Try.ntmps5
  go_wp2_with fail
  go_loopw [3, 4] (fun out i wr => ∃ (j : Nat), j ≤ q ∧ i = .int .i64 j ∧ Hid (wr.ownsRow w.heap.size 27 6 out j (flatO (m.take j))) ∧ Hid (Below w.heap.size w wr)) (fun _ i _ => q - (intOf i).toNat)
  case atStart => exact ⟨0, by omega, rfl, Lib.hid (World.ownsRow_nil _ _ _ _), Lib.hid (Below.refl _ _)⟩
  case round =>
    obtain ⟨j, hj, rfl, HO, HB⟩ := hrel
    by_cases hlt : j < q
    · have hjm : j < m.length := HQ.out ▸ hlt
      obtain ⟨hjl, hsn⟩ := fewL_take l j (HM.out ▸ hjm)
      have HSN := Lib.hid hsn
      obtain ⟨b, off, hA, hbl, hC⟩ := (HR.out.below HB.out).at_ j hjl
      subst hA
      obtain ⟨i1, i2, i3, i4, i5⟩ := HR.out.els l[j] (List.getElem_mem hjl)
      have hnc := HNC.out l[j] (List.getElem_mem hjl)
      obtain ⟨e, he⟩ : ∃ e, e = l[j] := ⟨_, rfl⟩
      rw [← he] at hC HSN i1 i2 i3 i4 i5 hnc
      have HRW := Lib.hid i1
      have d0 : wr.cell? ⟨b, off + j * 6, none⟩ = some (.int .i64 e.kind) := hC 0 (by omega)
      have d1 : wr.cell? ⟨b, off + j * 6 + 1, none⟩ = some (.slice e.A e.bs.length e.c) := hC 1 (by omega)
      have d2 : wr.cell? ⟨b, off + j * 6 + 2, none⟩ = some (.string e.nm) := hC 2 (by omega)
      have d3 : wr.cell? ⟨b, off + j * 6 + 3, none⟩ = some (.int .i64 e.host) := hC 3 (by omega)
      have d4 : wr.cell? ⟨b, off + j * 6 + 4, none⟩ = some (.int .i64 e.n) := hC 4 (by omega)
      have d5 : wr.cell? ⟨b, off + j * 6 + 5, none⟩ = some (.bool e.up) := hC 5 (by omega)
      have t1 : decide ((j : Int) < n) = true := decide_eq_true (by omega)
      have t1' : decide (j < n) = true := decide_eq_true (by omega)
      have t2 : decide ((j : Int) < 40) = true := decide_eq_true (by omega)
      have j0 : (0 : Int) ≤ j := by omega
      have j1 : (j : Int) < n := by omega
      have wk : IntKind.i64.wrap ((j : Int) + 1) = (j : Int) + 1 := IntWalk.i64_in _ (by omega)
      clear hC he hsn hjl hjm i1 i5
      by_cases hbig : 300 < e.bs.length
      · have t3 : decide ((300 : Int) < e.bs.length) = true := decide_eq_true (by omega)
        have hc300 : 300 ≤ e.c := by omega
        obtain ⟨ba, oa, hAe, _⟩ := HRW.out.at_ (by intro h; rw [List.map_eq_nil_iff] at h; rw [h] at hbig; simp at hbig)
        have HS := slice_to ba oa e.bs.length e.c 300 hc300 (by omega)
        have r1 : ∀ W : World, (Instr.slice 25 (.slice e.A e.bs.length e.c) none (some (.int .i64 300)) none).run Try.prog W = .ok (.slice e.A 300 e.c) W := by rw [hAe]; exact HS.1
        have r2 : ∀ W : World, (Instr.sliceAt 25 (.slice e.A e.bs.length e.c) none (some (.int .i64 300)) none).run Try.prog W = .ok (.slice e.A 300 e.c) W := by rw [hAe]; exact HS.2
        have HCE := Lib.hid (show (clip e).cells.toList = [.int .i64 e.kind, .slice e.A 300 e.c, .string e.nm, .int .i64 e.host, .int .i64 e.n, .bool e.up] from by
          rw [clip_big hbig]
          have : (e.bs.take 300).length = 300 := by rw [List.length_take]; omega
          simp [Ob.cells]
          omega)
        clear hAe HS
        have hz1 : (wr.alloc (.cells #[.int .i64 e.kind, .slice e.A 300 e.c, .string e.nm, .int .i64 e.host, .int .i64 e.n, .bool e.up] 27)).heap.size = wr.heap.size + 1 := by simp
        have LIT := Blk.new (wr.alloc (.cells #[.int .i64 e.kind, .slice e.A 300 e.c, .string e.nm, .int .i64 e.host, .int .i64 e.n, .bool e.up] 27)) 27 #[.int .i64 e.kind, .slice e.A 300 e.c, .string e.nm, .int .i64 e.host, .int .i64 e.n, .bool e.up]
        rw [hz1] at LIT
        have hnews : ∀ (i : Nat) (u : Value), ([.int .i64 e.kind, .slice e.A 300 e.c, .string e.nm, .int .i64 e.host, .int .i64 e.n, .bool e.up] : List Value)[i]? = some u → ((wr.alloc (.cells #[.int .i64 e.kind, .slice e.A 300 e.c, .string e.nm, .int .i64 e.host, .int .i64 e.n, .bool e.up] 27)).alloc (.cells #[.int .i64 e.kind, .slice e.A 300 e.c, .string e.nm, .int .i64 e.host, .int .i64 e.n, .bool e.up] 27)).cell? ((⟨wr.heap.size + 1, 0, none⟩ : Addr).add i) = some u := by
          intro i u hu
          rw [Addr.add_lit, Nat.zero_add, LIT.cell i, ← hu, ← Array.getElem?_toList]
        have HNEWS := Lib.hid hnews
        have HOX := Lib.hid ((HO.out.alloc (.cells #[.int .i64 e.kind, .slice e.A 300 e.c, .string e.nm, .int .i64 e.host, .int .i64 e.n, .bool e.up] 27)).alloc (.cells #[.int .i64 e.kind, .slice e.A 300 e.c, .string e.nm, .int .i64 e.host, .int .i64 e.n, .bool e.up] 27))
        have HBX := Lib.hid ((HB.out.alloc HB.out.size (.cells #[.int .i64 e.kind, .slice e.A 300 e.c, .string e.nm, .int .i64 e.host, .int .i64 e.n, .bool e.up] 27)).alloc (by have := HB.out.size; simp; omega) (.cells #[.int .i64 e.kind, .slice e.A 300 e.c, .string e.nm, .int .i64 e.host, .int .i64 e.n, .bool e.up] 27))
        have y1 : j + 1 ≤ maxLen := by unfold maxLen; omega
        have y2 : (j + 1) * 72 ≤ 140737488355328 := by omega
        have Y1 := Lib.hid y1
        have Y2 := Lib.hid y2
        clear hnews LIT hz1 y1 y2
        go_wp2_with (at_builtin; refine wpList_append_own _ rfl (.tmp 28) (.tmp 30) _ rfl w.heap.size 27 i0 _ 6 72 Try.underlying22 HI0.out HZ0.out HZ1.out HZ2.out rfl (by omega) _ j _ rfl HOX.out ⟨wr.heap.size + 1, 0, none⟩ 1 1 [.int .i64 e.kind, .slice e.A 300 e.c, .string e.nm, .int .i64 e.host, .int .i64 e.n, .bool e.up] rfl rfl HNEWS.out (by simp [Value.oneCell']) Y1.out Y2.out HBX.out.size ?_; intro va wa owna ga _; have HOa := Lib.hid owna; have HBa := Lib.hid (HBX.out.grown ga HBX.out.size (fun k hk => (HOX.out.lt k hk).1)); clear owna ga)
        go_roundw
        case rel =>
          refine ⟨j + 1, by omega, by go_num, ?_, HBa⟩
          rw [HM.out, HSN.out, flatO_snoc, HCE.out, ← HM.out]
          exact HOa
        case measure => simp [intOf]; omega
      · have t3 : decide ((300 : Int) < e.bs.length) = false := decide_eq_false (by omega)
        have HCE := Lib.hid (show (clip e).cells.toList = [.int .i64 e.kind, .slice e.A e.bs.length e.c, .string e.nm, .int .i64 e.host, .int .i64 e.n, .bool e.up] from by
          rw [clip_small hbig]
          rfl)
        have hz1 : (wr.alloc (.cells #[.int .i64 e.kind, .slice e.A e.bs.length e.c, .string e.nm, .int .i64 e.host, .int .i64 e.n, .bool e.up] 27)).heap.size = wr.heap.size + 1 := by simp
        have LIT := Blk.new (wr.alloc (.cells #[.int .i64 e.kind, .slice e.A e.bs.length e.c, .string e.nm, .int .i64 e.host, .int .i64 e.n, .bool e.up] 27)) 27 #[.int .i64 e.kind, .slice e.A e.bs.length e.c, .string e.nm, .int .i64 e.host, .int .i64 e.n, .bool e.up]
        rw [hz1] at LIT
        have hnews : ∀ (i : Nat) (u : Value), ([.int .i64 e.kind, .slice e.A e.bs.length e.c, .string e.nm, .int .i64 e.host, .int .i64 e.n, .bool e.up] : List Value)[i]? = some u → ((wr.alloc (.cells #[.int .i64 e.kind, .slice e.A e.bs.length e.c, .string e.nm, .int .i64 e.host, .int .i64 e.n, .bool e.up] 27)).alloc (.cells #[.int .i64 e.kind, .slice e.A e.bs.length e.c, .string e.nm, .int .i64 e.host, .int .i64 e.n, .bool e.up] 27)).cell? ((⟨wr.heap.size + 1, 0, none⟩ : Addr).add i) = some u := by
          intro i u hu
          rw [Addr.add_lit, Nat.zero_add, LIT.cell i, ← hu, ← Array.getElem?_toList]
        have HNEWS := Lib.hid hnews
        have HOX := Lib.hid ((HO.out.alloc (.cells #[.int .i64 e.kind, .slice e.A e.bs.length e.c, .string e.nm, .int .i64 e.host, .int .i64 e.n, .bool e.up] 27)).alloc (.cells #[.int .i64 e.kind, .slice e.A e.bs.length e.c, .string e.nm, .int .i64 e.host, .int .i64 e.n, .bool e.up] 27))
        have HBX := Lib.hid ((HB.out.alloc HB.out.size (.cells #[.int .i64 e.kind, .slice e.A e.bs.length e.c, .string e.nm, .int .i64 e.host, .int .i64 e.n, .bool e.up] 27)).alloc (by have := HB.out.size; simp; omega) (.cells #[.int .i64 e.kind, .slice e.A e.bs.length e.c, .string e.nm, .int .i64 e.host, .int .i64 e.n, .bool e.up] 27))
        have y1 : j + 1 ≤ maxLen := by unfold maxLen; omega
        have y2 : (j + 1) * 72 ≤ 140737488355328 := by omega
        have Y1 := Lib.hid y1
        have Y2 := Lib.hid y2
        clear hnews LIT hz1 y1 y2
        go_wp2_with (at_builtin; refine wpList_append_own _ rfl (.tmp 28) (.tmp 30) _ rfl w.heap.size 27 i0 _ 6 72 Try.underlying22 HI0.out HZ0.out HZ1.out HZ2.out rfl (by omega) _ j _ rfl HOX.out ⟨wr.heap.size + 1, 0, none⟩ 1 1 [.int .i64 e.kind, .slice e.A e.bs.length e.c, .string e.nm, .int .i64 e.host, .int .i64 e.n, .bool e.up] rfl rfl HNEWS.out (by simp [Value.oneCell']) Y1.out Y2.out HBX.out.size ?_; intro va wa owna ga _; have HOa := Lib.hid owna; have HBa := Lib.hid (HBX.out.grown ga HBX.out.size (fun k hk => (HOX.out.lt k hk).1)); clear owna ga)
        go_roundw
        case rel =>
          refine ⟨j + 1, by omega, by go_num, ?_, HBa⟩
          rw [HM.out, HSN.out, flatO_snoc, HCE.out, ← HM.out]
          exact HOa
        case measure => simp [intOf]; omega
    · obtain rfl : j = q := by omega
      have hz : m.take j = m := List.take_of_length_le (by rw [← HQ.out]; exact Nat.le_refl _)
      rw [hz] at HO
      obtain ⟨Ao, co, rfl⟩ := own_sliceN HO.out
      have HFI2 := Lib.hid (show ∀ o ∈ m, ObIn wr o from fun o ho => (HFI.out o (HM.out ▸ ho)).below HB.out)
      clear hz
      have t2 : j < n → decide ((j : Int) < 40) = false := fun h => decide_eq_false (by have := HQ3.out; omega)
      by_cases hjn : j < n
      · have t1 : decide ((j : Int) < n) = true := decide_eq_true (by omega)
        have t1' : decide (j < n) = true := decide_eq_true hjn
        have t2' := t2 hjn
        clear t2
        go_wp2_with fail
        go_ret
        exact ⟨HB.out, Ao, co, (by rw [← HQ.out]; rfl), opsB_of_row HO.out HQ.out HFI2.out, by rw [← HQ.out]; exact (own_cap HO.out).1, (own_cap HO.out).2⟩
      · have t1 : decide ((j : Int) < n) = false := decide_eq_false (by omega)
        have t1' : decide (j < n) = false := decide_eq_false hjn
        clear t2
        go_wp2_with fail
        go_ret
        exact ⟨HB.out, Ao, co, (by rw [← HQ.out]; rfl), opsB_of_row HO.out HQ.out HFI2.out, by rw [← HQ.out]; exact (own_cap HO.out).1, (own_cap HO.out).2⟩
end Go.Proofs.Ytmlicmcphecakaa.snH
