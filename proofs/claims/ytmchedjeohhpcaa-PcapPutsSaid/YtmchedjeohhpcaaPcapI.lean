/- Layer 36: a file as bytes. -/
import Derived.Test.YtmchedjeohhpcaaPcapH
namespace Go.Proofs.Ytmchedjeohhpcaa.pcapI
open Go.ChangeShapes Go.WideShapes Go.ChangeAt Go.RowKit
open Go.Proofs.Ytmchedjeohhpcaa.base Go.Proofs.Ytmchedjeohhpcaa.pcapA Go.Proofs.Ytmchedjeohhpcaa.pcapB Go.Proofs.Ytmchedjeohhpcaa.pcapC Go.Proofs.Ytmchedjeohhpcaa.pcapD Go.Proofs.Ytmchedjeohhpcaa.pcapE Go.Proofs.Ytmchedjeohhpcaa.pcapF Go.Proofs.Ytmchedjeohhpcaa.pcapG
set_option linter.unusedVariables false

/-- The bytes of records. -/
def bodyB (big : Bool) (l : List Rc) : List Int := l.flatMap fun e => wb big [e.sec, e.mic, e.n, e.sz] ++ e.bs
theorem bodyB_snoc (big : Bool) (l : List Rc) (e : Rc) : bodyB big (l ++ [e]) = bodyB big l ++ wb big [e.sec, e.mic, e.n, e.sz] ++ e.bs := by simp [bodyB]
theorem take_snocR (l : List Rc) (k : Nat) (h : k < l.length) : l.take (k + 1) = l.take k ++ [l[k]] := List.take_succ_eq_append_getElem h
theorem wb_len (big : Bool) (l : List Nat) : (wb big l).length = 4 * l.length := by
  induction l with
  | nil => rfl
  | cons x l ih =>
    have e : wb big (x :: l) = fourZ (ordN big x) ++ wb big l := rfl
    rw [e, List.length_append, ih, fourZ_len, List.length_cons]
    omega
/-- What of its bytes a record's slice reads as. -/
def Has (w : World) (e : Rc) : Prop := Row w w.heap.size e.A (e.bs.map (.int .u8)) ∧ e.bs.length = e.n ∧ (e.A = none → e.c = 0) ∧ e.n ≤ 65536
theorem bodyB_len (big : Bool) (w : World) (l : List Rc) (h : ∀ e ∈ l, Has w e) : (bodyB big l).length ≤ 65552 * l.length := by
  induction l with
  | nil => exact Nat.le_refl _
  | cons e l ih =>
    have e1 : bodyB big (e :: l) = (wb big [e.sec, e.mic, e.n, e.sz] ++ e.bs) ++ bodyB big l := rfl
    obtain ⟨_, h2, _, h4⟩ := h e (List.mem_cons_self ..)
    have := ih fun x hx => h x (List.mem_cons_of_mem _ hx)
    rw [e1, List.length_append, List.length_append, wb_len, List.length_cons, h2]
    simp only [List.length_cons, List.length_nil]
    omega
theorem headB_len (big : Bool) (sn link : Nat) : (headB big sn link).length = 24 := by
  cases big <;> rfl
theorem one_u8 (l : List Int) : ∀ u ∈ l.map (Value.int .u8), u.oneCell' = true := by
  intro u hu
  rw [List.mem_map] at hu
  obtain ⟨x, _, rfl⟩ := hu
  rfl
theorem own_as {w : World} {base t : Nat} {v : Value} {n : Nat} {xs : List Value} {Y : List Int} (h : w.ownsRow base t 1 v n xs) (e : xs = Y.map (.int .u8)) : w.ownsRow base t 1 v Y.length (Y.map (.int .u8)) := by
  have hn : n = Y.length := by have := h.1; rw [e, List.length_map] at this; omega
  subst hn e
  exact h
def BytesPost (w : World) (X : List Int) (o : Ending) (w' : World) : Prop :=
  ∃ v, o = .returned (.tuple #[v, .int .i64 0]) ∧ w'.ownsRow w.heap.size 5 1 v X.length (X.map (.int .u8)) ∧ Below w.heap.size w w'
set_option maxHeartbeats 4000000 in
set_option maxRecDepth 100000 in
theorem bytes_yes (big : Bool) (sn link : Nat) (A : Option Addr) (c : Nat) (l : List Rc) (w : World) (h1 : sn < 4294967296) (h2 : link < 4294967296) (hr : RdR w A l) (hw : ∀ e ∈ l, e.ok) (hh : ∀ e ∈ l, Has w e) (hl : l.length ≤ 4096) (hc1 : l.length ≤ c) (hc2 : c ≤ 9223372036854775807) (hyes : rightB sn l = true) :
    Calls Try.prog 7 #[.agg #[.bool big, .int .u32 (sn : Int), .int .u32 (link : Int), .slice A l.length c]] w (BytesPost w (headB big sn link ++ bodyB big l)) := by
  obtain ⟨i0, hi0, hz0, hz1, hz2⟩ := info_parts info_u8
  have HI0 := Lib.hid hi0
  have HZ0 := Lib.hid hz0
  have HZ1 := Lib.hid hz1
  have HZ2 := Lib.hid hz2
  clear hi0 hz0 hz1 hz2
  have BA := Lib.hid (show Below w.heap.size w (w.alloc (.cells #[.bool big, .int .u32 (sn : Int), .int .u32 (link : Int), .slice A l.length c] 25)) from (Below.refl w.heap.size w).alloc (Nat.le_refl _) _)
  have HC := Lib.hid (right_any big sn link A c l (w.alloc (.cells #[.bool big, .int .u32 (sn : Int), .int .u32 (link : Int), .slice A l.length c] 25)) h1 (hr.below BA.out) hw (by omega) hc1 hc2)
  rw [hyes] at HC
  have HK0 := Lib.hid (Blk.new w 25 #[.bool big, .int .u32 (sn : Int), .int .u32 (link : Int), .slice A l.length c])
  have HH := Lib.hid (fun W => head_any big sn link (.slice A l.length c) W h1 h2)
  have HR := Lib.hid hr
  have HW := Lib.hid hw
  have HHas := Lib.hid hh
  have HLEN := Lib.hid (fun j => bodyB_len big w (l.take j) (fun e he => hh e (List.mem_of_mem_take he)))
  have HHL := Lib.hid (headB_len big sn link)
  obtain ⟨n, hn⟩ : ∃ n, n = l.length := ⟨_, rfl⟩
  have HN := Lib.hid hn
  rw [← hn] at HC BA HK0 HH hl hc1 ⊢
  obtain ⟨HX, hHX⟩ : ∃ HX, HX = headB big sn link := ⟨_, rfl⟩
  rw [← hHX] at HH HHL ⊢
  clear hr hw hn hyes hh hHX
  go_enter Try.func7, Try.ntmps7
  go_wp2_with fail
  refine HC.out.mono ?_
  rintro o w1 ⟨rfl, hb⟩
  have hk1 := HK0.out.below hb (by simp)
  have f0 : w1.cell? ⟨w.heap.size, 0, none⟩ = some (.bool big) := hk1.cell 0
  have f1 : w1.cell? ⟨w.heap.size, 1, none⟩ = some (.int .u32 (sn : Int)) := hk1.cell 1
  have f2 : w1.cell? ⟨w.heap.size, 2, none⟩ = some (.int .u32 (link : Int)) := hk1.cell 2
  have f3 : w1.cell? ⟨w.heap.size, 3, none⟩ = some (.slice A n c) := hk1.cell 3
  have HK1 := Lib.hid hk1
  have HB := Lib.hid (BA.out.trans (hb.mono BA.out.size))
  clear hb hk1
  go_wp2_with fail
  refine (HH.out _).mono ?_
  rintro o w2 ⟨v2, rfl, hown2, hb2, hs2⟩
  have hk2 := HK1.out.below hb2 HK1.out.lt
  have g3 : w2.cell? ⟨w.heap.size, 3, none⟩ = some (.slice A n c) := hk2.cell 3
  have HO2 := Lib.hid (show w2.ownsRow w1.heap.size 5 1 v2 HX.length (HX.map (.int .u8)) from HHL.out ▸ hown2)
  have HB2 := Lib.hid hb2
  clear hk2 hown2 hb2
  go_wp2_with fail
  go_loopw [4, 15] (fun out i wr => ∃ (j : Nat), j ≤ n ∧ i = .int .i64 j ∧ wr.ownsRow w1.heap.size 5 1 out (HX ++ bodyB big (l.take j)).length ((HX ++ bodyB big (l.take j)).map (.int .u8)) ∧ Below w1.heap.size w1 wr ∧ w1.heap.size ≤ wr.heap.size) (fun _ i _ => n - (intOf i).toNat)
  case atStart => exact ⟨0, by omega, rfl, by simpa [bodyB] using HO2.out, HB2.out, hs2⟩
  case round =>
    obtain ⟨j, hj, rfl, hown, hbel, hbs⟩ := hrel
    have HLj := HLEN.out j
    by_cases hlt : j < n
    · have hjl : j < l.length := HN.out ▸ hlt
      obtain ⟨b, off, hA, hbl, hC⟩ := ((HR.out.below HB.out).below hbel).at_ j hjl
      subst hA
      have hsn : HX ++ bodyB big (l.take (j + 1)) = (HX ++ bodyB big (l.take j)) ++ wb big [(l[j]).sec, (l[j]).mic, (l[j]).n, (l[j]).sz] ++ (l[j]).bs := by rw [take_snocR l j hjl, bodyB_snoc]; simp only [List.append_assoc]
      have HSN := Lib.hid hsn
      have hlen : (HX ++ bodyB big (l.take j)).length ≤ 270000000 := by
        rw [List.length_append, HHL.out]
        have : (l.take j).length ≤ 4096 := by rw [List.length_take]; omega
        omega
      obtain ⟨hrow, hbl2, hnone, hn6⟩ := HHas.out l[j] (List.getElem_mem hjl)
      obtain ⟨o1, o2, o3, o4⟩ := HW.out l[j] (List.getElem_mem hjl)
      obtain ⟨X, hX⟩ : ∃ X, X = HX ++ bodyB big (l.take j) := ⟨_, rfl⟩
      rw [← hX] at hown hlen HSN
      obtain ⟨e, he⟩ : ∃ e, e = l[j] := ⟨_, rfl⟩
      rw [← he] at hC HSN hrow hbl2 hnone hn6 o1 o2 o3 o4
      have d0 : wr.cell? ⟨b, off + j * 4, none⟩ = some (.int .u32 (e.sec : Int)) := hC 0 (by omega)
      have d1 : wr.cell? ⟨b, off + j * 4 + 1, none⟩ = some (.int .u32 (e.mic : Int)) := hC 1 (by omega)
      have d2 : wr.cell? ⟨b, off + j * 4 + 2, none⟩ = some (.int .u32 (e.sz : Int)) := hC 2 (by omega)
      have d3 : wr.cell? ⟨b, off + j * 4 + 3, none⟩ = some (.slice e.A e.n e.c) := hC 3 (by omega)
      have g0 : wr.cell? ⟨w.heap.size, 0, none⟩ = some (.bool big) := (HK1.out.below hbel HK1.out.lt).cell 0
      have hz0 : (wr.alloc (.cells #[.int .u32 (e.sec : Int), .int .u32 (e.mic : Int), .int .u32 (e.sz : Int), .slice e.A e.n e.c] 38)).heap.size = wr.heap.size + 1 := by simp
      have kr := Blk.new wr 38 #[.int .u32 (e.sec : Int), .int .u32 (e.mic : Int), .int .u32 (e.sz : Int), .slice e.A e.n e.c]
      have hl1 := Blk.new (wr.alloc (.cells #[.int .u32 (e.sec : Int), .int .u32 (e.mic : Int), .int .u32 (e.sz : Int), .slice e.A e.n e.c] 38)) 22 #[.int .u32 (e.sec : Int), .int .u32 (e.mic : Int), .int .u32 (e.n : Int), .int .u32 (e.sz : Int)]
      rw [hz0] at hl1
      have HCW := Lib.hid (words_any big (wr.heap.size + 1) _ _ X.length _ 4 4 [e.sec, e.mic, e.n, e.sz] w1.heap.size w1.heap.size w1 _ ((hown.alloc _).alloc _) (by simp; omega) (by omega) ((hbel.alloc hbs _).alloc (by rw [hz0]; omega) _) (Nat.le_refl _) rfl hl1 rfl (by simp; omega))
      have HKR := Lib.hid kr
      have q0 := kr.cell 0
      have q1 := kr.cell 1
      have q2 := kr.cell 2
      have q3 := kr.cell 3
      have g0' : (wr.alloc (.cells #[.int .u32 (e.sec : Int), .int .u32 (e.mic : Int), .int .u32 (e.sz : Int), .slice e.A e.n e.c] 38)).cell? ⟨w.heap.size, 0, none⟩ = some (.bool big) := ((HK1.out.below hbel HK1.out.lt).alloc _).cell 0
      have j0 : (0 : Int) ≤ j := by omega
      have j1 : (j : Int) < n := by omega
      have hcv : IntKind.u32.wrap (e.n : Int) = (e.n : Int) := by rw [IntKind.wrap_u32]; omega
      have HROW := Lib.hid hrow
      have HBL := Lib.hid hbl2
      have HNONE := Lib.hid hnone
      have HBel := Lib.hid hbel
      clear hC hl1 kr hown hrow hbl2 hnone he hX hsn hbel
      go_wp2_with fail
      refine HCW.out.mono ?_
      rintro o w4 ⟨v4, rfl, hown4, hbel4, hbs4, hst4⟩
      have kr4 := hst4 wr.heap.size _ _ (by decide) (HKR.out.alloc _)
      have p3 := kr4.cell 3
      have HO4 := Lib.hid hown4
      have HB4 := Lib.hid hbel4
      have HR4 := Lib.hid ((HROW.out.below HB.out).below (hbel4.mono HB.out.size))
      have HS4 := Lib.hid hbs4
      clear hown4 hbel4 hst4 kr4 q0 q1 q2 q3 g0' d0 d1 d2 d3 hcv
      have y1 : X.length + 4 * 4 + e.n ≤ maxLen := by unfold maxLen; omega
      have y2 : (X.length + 4 * 4 + e.n) * 1 ≤ 140737488355328 := by omega
      have y3 : (e.bs.map (Value.int .u8)).length = e.n := by rw [List.length_map, HBL.out]
      have Y1 := Lib.hid y1
      have Y2 := Lib.hid y2
      have Y3 := Lib.hid y3
      have Y4 := Lib.hid (Nat.le_trans HB.out.size hbs4)
      clear y1 y2 y3
      go_wp2_with (at_builtin; refine wpList_append_row rfl (.tmp 34) (.tmp 36) _ rfl w1.heap.size 5 i0 _ 1 Try.underlying27 HI0.out HZ0.out HZ1.out HZ2.out rfl v4 (X.length + 4 * 4) _ rfl HO4.out e.A e.n e.c w.heap.size (e.bs.map (.int .u8)) rfl HNONE.out Y3.out HR4.out (one_u8 _) Y1.out Y2.out HS4.out ?_; intro va wa owna ga; have HOa := Lib.hid owna; have HBa := Lib.hid (below_grown HB4.out HO4.out (Nat.le_refl _) HS4.out ga); have HSa := Lib.hid (Nat.le_trans HS4.out ga.size); clear owna ga)
      go_roundw
      case rel =>
        refine ⟨j + 1, by omega, by go_num, ?_, HBa.out, HSa.out⟩
        rw [HSN.out]
        exact own_as HOa.out (by simp only [List.map_append])
      case measure => simp [intOf]; omega
    · obtain rfl : j = n := by omega
      have hz : l.take j = l := List.take_of_length_le (by rw [HN.out]; omega)
      rw [hz] at hown
      have HOwn := Lib.hid hown
      have HBel := Lib.hid (HB.out.trans (hbel.mono HB.out.size))
      clear hown hbel hz
      go_wp2_with fail
      go_ret2
      exact ⟨_, rfl, own_up HOwn.out HB.out.size, HBel.out⟩
end Go.Proofs.Ytmchedjeohhpcaa.pcapI
