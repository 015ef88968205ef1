/- Layer 44: ops put as bytes. -/
import Derived.Test.YtmlicmcphecakaaSnB
import Derived.Test.YtmlicmcphecakaaSnC
import Derived.Test.YtmlicmcphecakaaSnE
import Derived.Lib.SlBytesConst
import Derived.Lib.SmallJoins
namespace Go.Proofs.Ytmlicmcphecakaa.snD
open Go.ChangeShapes Go.WideShapes Go.ChangeAt Go.RowKit
open Go.Proofs.Ytmlicmcphecakaa.base Go.Proofs.Ytmlicmcphecakaa.octA Go.Proofs.Ytmlicmcphecakaa.octB Go.Proofs.Ytmlicmcphecakaa.octK Go.Proofs.Ytmlicmcphecakaa.net Go.Proofs.Ytmlicmcphecakaa.rdrA Go.Proofs.Ytmlicmcphecakaa.snA Go.Proofs.Ytmlicmcphecakaa.snB Go.Proofs.Ytmlicmcphecakaa.snC Go.Proofs.Ytmlicmcphecakaa.snK Go.Proofs.Ytmlicmcphecakaa.snE
set_option linter.unusedVariables false

/-- What is asked of an op whose text lies in memory. -/
structure ObIn (w : World) (o : Ob) : Prop where
  row : Row w w.heap.size o.A (o.bs.map (.int .u8))
  nil : o.A = none → o.c = 0
  l300 : o.bs.length ≤ 600
  cap : o.bs.length ≤ o.c
  cap2 : o.c ≤ 9223372036854775807
  nm : o.nm.size ≤ 9223372036854775807
  u8 : ∀ x ∈ o.bs, 0 ≤ x ∧ x ≤ 255
theorem ObIn.below {w w' : World} {o : Ob} (h : ObIn w o) (hb : Below w.heap.size w w') : ObIn w' o := ⟨(h.row.below hb).more hb.size, h.nil, h.l300, h.cap, h.cap2, h.nm, h.u8⟩
/-- Ops in a block of their own. -/
structure OpsB (w : World) (A : Option Addr) (l : List Ob) : Prop where
  row : l = [] ∨ ∃ b cur, A = some ⟨b, 0, none⟩ ∧ Blk w b 27 cur ∧ ∀ j (hj : j < l.length), ∀ i, i < 6 → cur[j * 6 + i]? = (l[j]).cells[i]?
  els : ∀ o ∈ l, ObIn w o
theorem OpsB.at_ {w : World} {A : Option Addr} {l : List Ob} (h : OpsB w A l) (j : Nat) (hj : j < l.length) : ∃ b cur, A = some ⟨b, 0, none⟩ ∧ Blk w b 27 cur ∧ ∀ i, i < 6 → cur[j * 6 + i]? = (l[j]).cells[i]? := by
  rcases h.row with rfl | ⟨b, cur, h1, h2, h3⟩
  · simp at hj
  · exact ⟨b, cur, h1, h2, h3 j hj⟩
theorem OpsB.below {w w' : World} {A : Option Addr} {l : List Ob} (h : OpsB w A l) (hb : Below w.heap.size w w') : OpsB w' A l := by
  refine ⟨?_, fun o ho => (h.els o ho).below hb⟩
  rcases h.row with rfl | ⟨b, cur, h1, h2, h3⟩
  · exact .inl rfl
  · exact .inr ⟨b, cur, h1, h2.below hb h2.lt, h3⟩
theorem own_below2 {w w' : World} {B : Nat} {e : TypeId} {size : Nat} {v : Value} {n : Nat} {xs : List Value} (h : w.ownsRow B e size v n xs) (hb : Below w.heap.size w w') : w'.ownsRow B e size v n xs := by
  refine ⟨h.1, ?_⟩
  rcases h.2 with hn | ⟨g, cap, cur, e1, hb2, hgg, rest⟩
  · exact .inl hn
  · exact .inr ⟨g, cap, cur, e1, hb2, (hb.block g (h.lt g (by rw [e1]; rfl)).2).trans hgg, rest⟩
def allK (l : List Ob) (k : Nat) : List Int := [68, 83, 84, 49] ++ pb (l.length : Int) 4 4 ++ opsB (l.take k)
theorem allK_len (l : List Ob) (k : Nat) : (allK l k).length = 8 + (opsB (l.take k)).length := by
  unfold allK
  rw [List.length_append, List.length_append, pb_len]
  rfl
theorem allK_next (l : List Ob) {k : Nat} (hk : k < l.length) : allK l (k + 1) = allK l k ++ opB l[k] := by
  unfold allK
  rw [List.take_add_one, List.getElem?_eq_getElem hk]
  simp only [Option.toList_some, opsB_snoc, List.append_assoc]
theorem allK_all (l : List Ob) : allK l l.length = allO l := by
  unfold allK allO
  rw [List.take_length]
theorem take_le (l : List Ob) (k : Nat) (hl : l.length ≤ 40) (h : ∀ o ∈ l, o.bs.length ≤ 600) (hr : ∀ o ∈ l.take k, o.right) : (opsB (l.take k)).length ≤ 34800 := by
  have h1 := opsB_len (l.take k) (fun o ho => ⟨h o (List.mem_of_mem_take ho), by have := hr o ho; unfold Ob.right RightP at this; omega⟩)
  have h2 : (l.take k).length ≤ 40 := by rw [List.length_take]; omega
  omega
def BytesPost (w : World) (l : List Ob) (o : Ending) (w' : World) : Prop :=
  Below w.heap.size w w' ∧ (((∀ x ∈ l, x.right) ∧ ∃ v, o = .returned (.tuple #[v, .int .i64 0]) ∧ w'.ownsRow w.heap.size 5 1 v (allO l).length ((allO l).map (.int .u8))) ∨ ((∃ x ∈ l, ¬ x.right) ∧ o = .returned (.tuple #[.slice none 0 0, .int .i64 1])))
set_option maxHeartbeats 8000000 in
set_option maxRecDepth 100000 in
theorem bytes_any (A : Option Addr) (n c : Nat) (l : List Ob) (w : World) (h : OpsB w A l) (hn : n = l.length) (hl : l.length ≤ 40) (hc : n ≤ c) (hc2 : c ≤ 9223372036854775807) :
    Calls Try.prog 8 #[.slice A n c] w (BytesPost w l) := by
  have HI := Lib.hid h
  have HN := Lib.hid hn
  have HL := Lib.hid hl
  have h300 := Lib.hid (fun o ho => (h.els o ho).l300)
  have t0 : decide ((2048 : Int) < n) = false := decide_eq_false (by omega)
  have t0n : decide (2048 < n) = false := decide_eq_false (by omega)
  have wn : IntKind.u64.wrap (n : Int) = (n : Int) := by rw [IntKind.wrap_u64]; omega
  have hn40 : n ≤ 40 := by omega
  obtain ⟨s0, hs0⟩ : ∃ s, s = w.heap.size := ⟨_, rfl⟩
  have HS0 := Lib.hid hs0
  obtain ⟨w1, hw1⟩ : ∃ w1, w1 = w.alloc (.cells #[.int .u8 68, .int .u8 83, .int .u8 84, .int .u8 49] 5 (4, 5)) := ⟨_, rfl⟩
  have hcv : (convert 25 25 (.slice (some ⟨w.heap.size, 0, none⟩) 4 4)).run Try.prog (w.alloc (.cells #[.int .u8 68, .int .u8 83, .int .u8 84, .int .u8 49] 5)) = .ok (.slice (some ⟨w.heap.size, 0, none⟩) 4 4) (w.alloc (.cells #[.int .u8 68, .int .u8 83, .int .u8 84, .int .u8 49] 5 (4, 5))) := Lib.run_convert_bytes_const w 25 5 #[.int .u8 68, .int .u8 83, .int .u8 84, .int .u8 49] 4 4 Try.underlying25 Try.underlying5
  have E1 := Lib.hid hw1
  have KO1 := Lib.hid (show ∀ j u, (([68, 83, 84, 49] : List Int).map (Value.int .u8))[j]? = some u → w1.cell? ⟨s0, j, none⟩ = some u from fun j u hu => by
    rw [hw1, hs0, World.cell?_alloc_mark]
    simpa using hu)
  have KB1 := Lib.hid (show Below s0 w w1 from by rw [hw1, hs0]; exact (Below.refl _ _).alloc (Nat.le_refl _) _)
  have KT1 := Lib.hid (show KT w w1 from by rw [hw1]; exact (KT.refl w).below ((Below.refl _ _).alloc (Nat.le_refl _) _))
  have HPU := Lib.hid (put_c s0 4 (([68, 83, 84, 49] : List Int).map (Value.int .u8)) (n : Int) 4 s0 s0 w w1 rfl KO1.out (by rw [hs0]; rw [hw1]; simp) (by omega) KB1.out (Nat.le_refl _) (by omega) (by omega) (by decide))
  rw [hs4] at HPU
  have e0 : allK l 0 = [68, 83, 84, 49] ++ pb (n : Int) 4 4 := by unfold allK; rw [List.take_zero, ← hn]; simp [opsB]
  have HE0 := Lib.hid e0
  unfold BytesPost
  rw [← hs0]
  clear h hn hl hs0 hw1 e0
  go_enter Try.func8, Try.ntmps8
  go_wp2_with fail
  rw [← HS0.out, ← E1.out]
  refine HPU.out.mono ?_
  rintro o w2 ⟨v2, rfl, ho2, hb2, hs2, hk2⟩
  have HO2 := Lib.hid (show w2.ownsRow s0 5 1 v2 (allK l 0).length ((allK l 0).map (.int .u8)) from by
    rw [HE0.out, List.map_append, List.length_append, pb_len]
    exact ho2)
  have HB2 := Lib.hid hb2
  have HT2 := Lib.hid (KT1.out.trans hk2)
  obtain ⟨A2, c2, hv2⟩ := own_slice ho2
  subst hv2
  have HS2 := Lib.hid hs2
  clear ho2 hb2 hs2 hk2
  go_wp2_with fail
  go_loopw [4, 18] (fun v i wr => ∃ k : Nat, i = .int .i64 k ∧ k ≤ n ∧ Hid (wr.ownsRow s0 5 1 v (allK l k).length ((allK l k).map (.int .u8))) ∧ Hid (Below s0 w wr) ∧ Hid (KT w wr) ∧ Hid (s0 ≤ wr.heap.size) ∧ Hid (∀ o ∈ l.take k, o.right)) (fun _ i _ => n - (intOf i).toNat)
  case atStart => exact ⟨0, rfl, by omega, HO2, HB2, HT2, HS2, Lib.hid (fun o ho => by simp at ho)⟩
  case round =>
    obtain ⟨k, rfl, hk, HO, HB, HT, HS, HR⟩ := hrel
    obtain ⟨Ar, cr, hvr⟩ := own_slice HO.out
    subst hvr
    by_cases hkn : k < n
    · have t1 : decide ((k : Int) < n) = true := decide_eq_true (by omega)
      have t1n : decide (k < n) = true := decide_eq_true hkn
      have hkl : k < l.length := by have := HN.out; omega
      obtain ⟨b, cur, hA, hblk, hcur⟩ := HI.out.at_ k hkl
      subst hA
      have KBL := Lib.hid (HT.out b _ cur (by decide) hblk)
      have HNX := Lib.hid (allK_next l hkl)
      have HOI := Lib.hid (HI.out.els l[k] (List.getElem_mem hkl))
      have HTK := Lib.hid (show ∀ o, o ∈ l.take (k + 1) ↔ o ∈ l.take k ∨ o = l[k] from fun o => by rw [List.take_add_one, List.getElem?_eq_getElem hkl, List.mem_append]; exact ⟨fun h => h.imp id (fun h => by simpa using h), fun h => h.imp id (fun h => by simpa using h)⟩)
      have HMM := Lib.hid (show l[k] ∈ l from List.getElem_mem hkl)
      obtain ⟨e, he⟩ : ∃ e, e = l[k] := ⟨_, rfl⟩
      rw [← he] at hcur HNX HOI HTK HMM
      have hce : ∀ i, i < 6 → wr.cell? ⟨b, k * 6 + i, none⟩ = e.cells[i]? := fun i hi => by rw [KBL.out.cell, hcur i hi]
      have d0 : wr.cell? ⟨b, k * 6, none⟩ = some (.int .i64 e.kind) := hce 0 (by omega)
      have d1 : wr.cell? ⟨b, k * 6 + 1, none⟩ = some (.slice e.A e.bs.length e.c) := hce 1 (by omega)
      have d2 : wr.cell? ⟨b, k * 6 + 2, none⟩ = some (.string e.nm) := hce 2 (by omega)
      have d3 : wr.cell? ⟨b, k * 6 + 3, none⟩ = some (.int .i64 e.host) := hce 3 (by omega)
      have d4 : wr.cell? ⟨b, k * 6 + 4, none⟩ = some (.int .i64 e.n) := hce 4 (by omega)
      have d5 : wr.cell? ⟨b, k * 6 + 5, none⟩ = some (.bool e.up) := hce 5 (by omega)
      have j0 : (0 : Int) ≤ k := by omega
      have j1 : (k : Int) < n := by omega
      obtain ⟨w3, hw3⟩ : ∃ w3, w3 = wr.alloc (.cells #[.int .i64 e.kind, .slice e.A e.bs.length e.c, .string e.nm, .int .i64 e.host, .int .i64 e.n, .bool e.up] 27) := ⟨_, rfl⟩
      have E3 := Lib.hid hw3
      have BA := Lib.hid (show Below wr.heap.size wr w3 from by rw [hw3]; exact (Below.refl _ _).alloc (Nat.le_refl _) _)
      have KQ := Lib.hid (show Blk w3 wr.heap.size 27 #[.int .i64 e.kind, .slice e.A e.bs.length e.c, .string e.nm, .int .i64 e.host, .int .i64 e.n, .bool e.up] from by rw [hw3]; exact Blk.new wr _ _)
      have HRI := Lib.hid (right_any e.kind e.A e.bs.length e.c e.nm e.host e.n e.up w3)
      clear hcur hce he hw3 hblk
      go_wp2_with fail
      rw [← E3.out]
      refine HRI.out.mono ?_
      rintro o w4 ⟨rfl, hb4⟩
      have HQ4 := Lib.hid (KQ.out.below hb4 KQ.out.lt)
      have BW4 := Lib.hid (show Below wr.heap.size wr w4 from BA.out.trans (hb4.mono BA.out.size))
      have q0 : w4.cell? ⟨wr.heap.size, 0, none⟩ = some (.int .i64 e.kind) := HQ4.out.cell 0
      have q1 : w4.cell? ⟨wr.heap.size, 1, none⟩ = some (.slice e.A e.bs.length e.c) := HQ4.out.cell 1
      have q2 : w4.cell? ⟨wr.heap.size, 2, none⟩ = some (.string e.nm) := HQ4.out.cell 2
      have q3 : w4.cell? ⟨wr.heap.size, 3, none⟩ = some (.int .i64 e.host) := HQ4.out.cell 3
      have q4 : w4.cell? ⟨wr.heap.size, 4, none⟩ = some (.int .i64 e.n) := HQ4.out.cell 4
      have q5 : w4.cell? ⟨wr.heap.size, 5, none⟩ = some (.bool e.up) := HQ4.out.cell 5
      clear hb4 d0 d1 d2 d3 d4 d5
      have HB4 := Lib.hid (HB.out.trans (BW4.out.mono HS.out))
      by_cases hrt : e.right
      · have hrb : decide (RightP e.kind e.bs.length e.nm.size e.host e.n) = true := decide_eq_true hrt
        rw [hrb]
        have HPO := Lib.hid (put_op (.slice Ar (allK l k).length cr) (allK l k).length ((allK l k).map (.int .u8)) e s0 s0 w w4 (own_below2 HO.out BW4.out) (Nat.le_trans HS.out BW4.out.size) (by rw [allK_len]; have := take_le l k HL.out h300.out HR.out; omega) HB4.out (Nat.le_refl _) hrt HOI.out.l300 (by rw [HS0.out]; exact HOI.out.row) HOI.out.nil)
        unfold Ob.cells at HPO
        have HRT := Lib.hid hrt
        clear hrb hrt
        go_wp2_with fail
        refine HPO.out.mono ?_
        rintro o w5 ⟨v5, rfl, ho5, hb5, hs5, hk5⟩
        obtain ⟨A5, c5, hv5⟩ := own_slice ho5
        subst hv5
        have HO5 := Lib.hid (show w5.ownsRow s0 5 1 (.slice A5 ((allK l k).length + (opB e).length) c5) (allK l (k + 1)).length ((allK l (k + 1)).map (.int .u8)) from by
          rw [HNX.out, List.map_append, List.length_append]
          exact ho5)
        have HB5 := Lib.hid hb5
        have HS5 := Lib.hid hs5
        have HT5 := Lib.hid ((HT.out.below BW4.out).trans hk5)
        have HR5 := Lib.hid (show ∀ o ∈ l.take (k + 1), o.right from fun o ho => by
          rcases (HTK.out o).mp ho with h1 | h1
          · exact HR.out o h1
          · rw [h1]; exact HRT.out)
        clear ho5 hb5 hs5 hk5
        go_wp2_with fail
        go_roundw
        case rel => exact ⟨k + 1, by go_num, by omega, HO5, HB5, HT5, HS5, HR5⟩
        case measure => simp [intOf]; omega
      · have hrb : decide (RightP e.kind e.bs.length e.nm.size e.host e.n) = false := decide_eq_false hrt
        rw [hrb]
        have HBAD := Lib.hid (show ∃ x ∈ l, ¬ x.right from ⟨e, HMM.out, hrt⟩)
        clear hrb hrt
        go_wp2_with fail
        go_ret2
        exact ⟨HB4.out, .inr ⟨HBAD.out, rfl⟩⟩
    · have t1 : decide ((k : Int) < n) = false := decide_eq_false (by omega)
      have t1n : decide (k < n) = false := decide_eq_false hkn
      have hkl : k = l.length := by have := HN.out; omega
      have HF := Lib.hid (show allK l k = allO l from by rw [hkl]; exact allK_all l)
      have HAR := Lib.hid (show ∀ x ∈ l, x.right from fun x hx => HR.out x (by rw [hkl, List.take_length]; exact hx))
      have HOF := HO.out
      rw [HF.out] at HOF ⊢
      have HOG := Lib.hid HOF
      clear HOF hkl
      go_wp2_with fail
      go_ret2
      exact ⟨HB.out, .inl ⟨HAR.out, _, rfl, HOG.out⟩⟩
end Go.Proofs.Ytmlicmcphecakaa.snD
