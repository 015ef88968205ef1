/- Layer 16: the nodes of a kind; is there room? -/
import Derived.Test.YtamndmlaikgogaaTreC
import Derived.Test.YtamndmlaikgogaaDfB
import Derived.Test.YtamndmlaikgogaaMem
namespace Go.Proofs.Ytamndmlaikgogaa.treD
open Go.ChangeShapes Go.WideShapes Go.ChangeAt Go.RowKit
open Go.Proofs.Ytamndmlaikgogaa.base Go.Proofs.Ytamndmlaikgogaa.dfA Go.Proofs.Ytamndmlaikgogaa.treB
set_option linter.unusedVariables false

theorem info_i : (Try.prog.info? 3).map (fun i => (i.zero, i.size, i.bytes)) = some (some (.int .i64 0), 1, 8) := by kernel_rfl
/-- The nodes of a kind among the first j. -/
def ofK (l : List Nd) (kind : Int) (j : Nat) : List Int := ((List.range j).filter fun (i : Nat) => (l.getD i zNd).kind == kind).map fun (i : Nat) => (i : Int)
theorem ofK_next {l : List Nd} {kind : Int} {j : Nat} (hj : j < l.length) : ofK l kind (j + 1) = ofK l kind j ++ (if (l[j].kind == kind) = true then [(j : Int)] else []) := by
  unfold ofK
  rw [List.range_succ, List.filter_append, List.map_append]
  congr 1
  have : l.getD j zNd = l[j] := by rw [List.getD_eq_getElem?_getD, List.getElem?_eq_getElem hj]; rfl
  simp only [List.filter_cons, List.filter_nil, this]
  cases (l[j].kind == kind) <;> rfl
theorem ofK_len (l : List Nd) (kind : Int) (j : Nat) : (ofK l kind j).length ≤ j := by
  unfold ofK
  rw [List.length_map]
  have := List.length_filter_le (fun (i : Nat) => (l.getD i zNd).kind == kind) (List.range j)
  rw [List.length_range] at this
  exact this
def OwnI (w : World) (B : Nat) (v : Value) (l : List Int) : Prop := w.ownsRow B 3 1 v l.length (l.map (Value.int .i64))
theorem OwnI.far {w w' : World} {B : Nat} {v : Value} {l : List Int} (h : OwnI w B v l) (hb : ∀ k, v.ownBlock = some k → w'.heap[k]? = w.heap[k]?) : OwnI w' B v l := by
  refine ⟨h.1, ?_⟩
  rcases h.2 with h0 | ⟨g, cap, cur, e1, e2, e3, e4⟩
  · exact .inl h0
  · exact .inr ⟨g, cap, cur, e1, e2, (hb g (by rw [e1]; rfl)).trans e3, e4⟩
theorem OwnI.lt {w : World} {B : Nat} {v : Value} {l : List Int} (h : OwnI w B v l) : ∀ k, v.ownBlock = some k → B ≤ k ∧ k < w.heap.size := World.ownsRow.lt h
theorem OwnI.below {w w' : World} {B : Nat} {v : Value} {l : List Int} (h : OwnI w B v l) (hb : Below w.heap.size w w') : OwnI w' B v l := h.far fun k hk => hb.block k (h.lt k hk).2
theorem OwnI.alloc {w : World} {B : Nat} {v : Value} {l : List Int} (h : OwnI w B v l) (o : Obj) : OwnI (w.alloc o) B v l := World.ownsRow.alloc h o
theorem OwnI.snoc {w : World} {B : Nat} {v : Value} {l : List Int} {x : Int} (h : w.ownsRow B 3 1 v (l.length + 1) (l.map (Value.int .i64) ++ [.int .i64 x])) : OwnI w B v (l ++ [x]) := by
  unfold OwnI
  rw [List.map_append, List.length_append]
  exact h
set_option maxRecDepth 100000 in
set_option maxHeartbeats 8000000 in
theorem ofKind_any {t : Nat} {l : List Nd} {A : Option Addr} {c : Nat} {K : Option Addr} {kn kc : Nat} {w : World} (h : TreeAt w t l A c K kn kc) (kind : Int) (hl : l.length ≤ 2000) :
    Calls Try.prog 59 #[.pointer (some ⟨t, 0, none⟩), .int .i64 kind] w fun o w' => ∃ v, o = .returned v ∧ OwnI w' w.heap.size v (ofK l kind l.length) ∧ Below w.heap.size w w' := by
  obtain ⟨i0, hi0, hz0, hz1, hz2⟩ := info_parts info_i
  have HI0 := Lib.hid hi0
  have HZ0 := Lib.hid hz0
  have HZ1 := Lib.hid hz1
  have HZ2 := Lib.hid hz2
  have BE := Lib.hid ((Below.refl w.heap.size w).alloc (Nat.le_refl _) (.cells #[] 3))
  have OE := Lib.hid (show OwnI (w.alloc (.cells #[] 3)) w.heap.size (.slice (some ⟨w.heap.size, 0, none⟩) 0 0) [] from World.ownsRow_made w #[] 0 (Nat.le_refl _) (Nat.zero_le _) rfl)
  have HT := Lib.hid h
  have HL := Lib.hid (len_any (h.below BE.out))
  have hcap := h.cap
  have hcap2 := h.cap2
  clear hi0 hz0 hz1 hz2 h
  go_enter Try.func59, Try.ntmps59
  go_wp2_with fail
  refine HL.out.mono ?_
  rintro o w1 ⟨rfl, hb⟩
  have B1 := Lib.hid (BE.out.trans (hb.mono BE.out.size))
  have O1 := Lib.hid (OE.out.below hb)
  clear hb
  go_wp2_with fail
  go_loopw [5, 10] (fun out i wr => ∃ j : Nat, i = .int .i64 j ∧ j ≤ l.length ∧ OwnI wr w.heap.size out (ofK l kind j) ∧ Below w.heap.size w wr) (fun _ i _ => l.length - (intOf i).toNat)
  case atStart => exact ⟨0, rfl, by omega, O1.out, B1.out⟩
  case round =>
    obtain ⟨j, rfl, hj, how, hbel⟩ := hrel
    have KO := Lib.hid how
    have KB := Lib.hid hbel
    clear how hbel
    by_cases hjn : j < l.length
    · have t1 : decide ((j : Int) < l.length) = true := decide_eq_true (by omega)
      have hT := HT.out.below KB.out
      have dn := hT.nodes
      obtain ⟨b, off, hA, hbl, hC⟩ := hT.rd.at_ j hjn
      subst hA
      have HNX := Lib.hid (ofK_next (kind := kind) hjn)
      have HLE := Lib.hid (ofK_len l kind j)
      obtain ⟨e, he⟩ : ∃ e, e = l[j] := ⟨_, rfl⟩
      rw [← he] at hC HNX
      have d1 : wr.cell? ⟨b, off + j * 7 + 1, none⟩ = some (.int .i64 e.kind) := hC 1 (by omega)
      have j0 : (0 : Int) ≤ j := by omega
      have j1 : (j : Int) < l.length := by omega
      clear hC he hT
      cases hm : (e.kind == kind) with
      | true =>
        rw [hm, if_pos rfl] at HNX
        have KO2 := Lib.hid (KO.out.alloc (.cells #[.int .i64 j] 3))
        have KB2 := Lib.hid (KB.out.alloc KB.out.size (.cells #[.int .i64 j] 3))
        have HNE := Lib.hid (show ∀ p u, [Value.int .i64 j][p]? = some u → (wr.alloc (.cells #[.int .i64 j] 3)).cell? ((⟨wr.heap.size, 0, none⟩ : Addr).add p) = some u from fun p u hu => by
          rw [Addr.add_lit, Nat.zero_add, (Blk.new wr 3 #[.int .i64 j]).cell p]
          have h2 : (#[Value.int .i64 j])[p]? = some u := by simpa using hu
          exact h2)
        have H1 := Lib.hid (show ∀ u ∈ [Value.int .i64 (j : Int)], u.oneCell' = true from fun u hu => by simp at hu; subst hu; rfl)
        have P1 := Lib.hid (show (ofK l kind j).length + 1 ≤ maxLen by unfold maxLen; have := HLE.out; omega)
        have P2 := Lib.hid (show ((ofK l kind j).length + 1) * 8 ≤ 140737488355328 by have := HLE.out; omega)
        have P3 := Lib.hid (show w.heap.size ≤ (wr.alloc (.cells #[.int .i64 j] 3)).heap.size from KB2.out.size)
        go_wp2_with (at_builtin; refine wpList_append_own _ rfl (.tmp 23) (.tmp 25) _ rfl w.heap.size 3 i0 _ 1 8 Try.underlying108 HI0.out HZ0.out HZ1.out HZ2.out rfl (by omega) _ (ofK l kind j).length ((ofK l kind j).map (Value.int .i64)) rfl KO2.out ⟨wr.heap.size, 0, none⟩ 1 1 [.int .i64 j] rfl rfl HNE.out H1.out P1.out P2.out P3.out ?_; intro v6 w6 ho hg _; have HO1 := Lib.hid (OwnI.snoc (l := ofK l kind j) ho); have HB1 := Lib.hid (KB2.out.grown hg P3.out (fun k hk => (KO2.out.lt k hk).1)); clear ho hg)
        go_roundw
        case rel => exact ⟨j + 1, by go_num, by omega, by rw [HNX.out]; exact HO1.out, HB1.out⟩
        case measure => simp [intOf]; omega
      | false =>
        rw [hm, if_neg (by decide), List.append_nil] at HNX
        go_wp2_with fail
        go_roundw
        case rel => exact ⟨j + 1, by go_num, by omega, by rw [HNX.out]; exact KO.out, KB.out⟩
        case measure => simp [intOf]; omega
    · have t1 : decide ((j : Int) < l.length) = false := decide_eq_false (by omega)
      obtain rfl : j = l.length := by omega
      go_wp2_with fail
      go_ret
      exact ⟨_, rfl, KO.out, KB.out⟩
theorem levels_any {t : Nat} {l : List Nd} {A : Option Addr} {c : Nat} {K : Option Addr} {kn kc : Nat} {w : World} (h : TreeAt w t l A c K kn kc) (hl : l.length ≤ 2000) :
    Calls Try.prog 51 #[.pointer (some ⟨t, 0, none⟩)] w fun o w' => ∃ v, o = .returned v ∧ OwnI w' w.heap.size v (ofK l 1 l.length) ∧ Below w.heap.size w w' := by
  have HO := Lib.hid (ofKind_any h 1 hl)
  clear h
  go_enter Try.func51, Try.ntmps51
  go_wp2_with fail
  refine HO.out.mono ?_
  rintro o w1 ⟨v, rfl, ho, hb⟩
  have H1 := Lib.hid ho
  have H2 := Lib.hid hb
  clear ho hb
  go_wp2_with fail
  go_ret
  exact ⟨v, rfl, H1.out, H2.out⟩
theorem hosts_any {t : Nat} {l : List Nd} {A : Option Addr} {c : Nat} {K : Option Addr} {kn kc : Nat} {w : World} (h : TreeAt w t l A c K kn kc) (hl : l.length ≤ 2000) :
    Calls Try.prog 48 #[.pointer (some ⟨t, 0, none⟩)] w fun o w' => ∃ v, o = .returned v ∧ OwnI w' w.heap.size v (ofK l 4 l.length) ∧ Below w.heap.size w w' := by
  have HO := Lib.hid (ofKind_any h 4 hl)
  clear h
  go_enter Try.func48, Try.ntmps48
  go_wp2_with fail
  refine HO.out.mono ?_
  rintro o w1 ⟨v, rfl, ho, hb⟩
  have H1 := Lib.hid ho
  have H2 := Lib.hid hb
  clear ho hb
  go_wp2_with fail
  go_ret
  exact ⟨v, rfl, H1.out, H2.out⟩
/-- Is there no room for a node of a kind more? -/
def fullB (l : List Nd) (kind : Int) : Bool := decide ((1024 : Int) ≤ l.length) || (if kind = 1 then decide ((4 : Int) ≤ (ofK l 1 l.length).length) else if kind = 4 then decide ((512 : Int) ≤ (ofK l 4 l.length).length) else false)
theorem full_any {t : Nat} {l : List Nd} {A : Option Addr} {c : Nat} {K : Option Addr} {kn kc : Nat} {w : World} (h : TreeAt w t l A c K kn kc) (kind : Int) (hl : l.length ≤ 2000) :
    Calls Try.prog 46 #[.pointer (some ⟨t, 0, none⟩), .int .i64 kind] w fun o w' => o = .returned (.bool (fullB l kind)) ∧ Below w.heap.size w w' := by
  have HL := Lib.hid (levels_any h hl)
  have HH := Lib.hid (hosts_any h hl)
  have HB := Lib.hid (Below.refl w.heap.size w)
  have d0 := h.nodes
  have hcap := h.cap
  have hcap2 := h.cap2
  clear h
  unfold fullB
  go_enter Try.func46, Try.ntmps46
  cases h1 : decide ((1024 : Int) ≤ l.length) with
  | true =>
    rw [Bool.true_or]
    go_wp2_with fail
    go_ret
    exact ⟨rfl, HB.out⟩
  | false =>
    rw [Bool.false_or]
    by_cases hk : kind = 1
    · subst hk
      rw [if_pos rfl]
      go_wp2_with fail
      refine HL.out.mono ?_
      rintro o w1 ⟨v, rfl, ho, hb⟩
      obtain ⟨A2, c2, rfl⟩ := own_slice ho
      have H2 := Lib.hid hb
      clear ho hb
      go_wp2_with fail
      go_ret
      exact ⟨rfl, H2.out⟩
    · rw [if_neg hk]
      have hk1 : (kind == 1) = false := beq_false_of_ne hk
      clear hk
      by_cases hk : kind = 4
      · subst hk
        rw [if_pos rfl]
        go_wp2_with fail
        refine HH.out.mono ?_
        rintro o w1 ⟨v, rfl, ho, hb⟩
        obtain ⟨A2, c2, rfl⟩ := own_slice ho
        have H2 := Lib.hid hb
        clear ho hb
        go_wp2_with fail
        go_ret
        exact ⟨rfl, H2.out⟩
      · rw [if_neg hk]
        have hk4 : (kind == 4) = false := beq_false_of_ne hk
        clear hk
        go_wp2_with fail
        go_ret
        exact ⟨rfl, HB.out⟩
end Go.Proofs.Ytamndmlaikgogaa.treD
