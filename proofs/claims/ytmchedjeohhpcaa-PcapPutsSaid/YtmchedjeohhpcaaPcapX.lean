/- Layer 36: packets. -/
import Derived.Test.YtmchedjeohhpcaaPcapU
namespace Go.Proofs.Ytmchedjeohhpcaa.pcapX
open Go.ChangeShapes Go.WideShapes Go.ChangeAt Go.RowKit
open Go.Proofs.Ytmchedjeohhpcaa.base Go.Proofs.Ytmchedjeohhpcaa.pcapA Go.Proofs.Ytmchedjeohhpcaa.pcapB Go.Proofs.Ytmchedjeohhpcaa.pcapC Go.Proofs.Ytmchedjeohhpcaa.pcapD Go.Proofs.Ytmchedjeohhpcaa.pcapE Go.Proofs.Ytmchedjeohhpcaa.pcapF Go.Proofs.Ytmchedjeohhpcaa.pcapG Go.Proofs.Ytmchedjeohhpcaa.pcapI Go.Proofs.Ytmchedjeohhpcaa.pcapJ Go.Proofs.Ytmchedjeohhpcaa.pcapK Go.Proofs.Ytmchedjeohhpcaa.pcapL Go.Proofs.Ytmchedjeohhpcaa.pcapM Go.Proofs.Ytmchedjeohhpcaa.pcapN Go.Proofs.Ytmchedjeohhpcaa.pcapQ Go.Proofs.Ytmchedjeohhpcaa.pcapU
set_option linter.unusedVariables false

/-- A packet: where its bytes lie, and what they are. -/
structure Pk where
  A : Option Addr
  n : Nat
  c : Nat
  bs : List Int
def Pk.val (p : Pk) : Value := .slice p.A p.n p.c
structure Pks (w : World) (B : Nat) (v : Value) (L : List Pk) : Prop where
  row : w.ownsRow B 27 1 v L.length (L.map Pk.val)
  els : ∀ p ∈ L, w.ownsRow B 5 1 p.val p.n (p.bs.map (.int .u8))
theorem Pks.below {w w' : World} {B : Nat} {v : Value} {L : List Pk} (h : Pks w B v L) (hb : Below w.heap.size w w') : Pks w' B v L :=
  ⟨own_below h.row hb, fun e he => own_below (h.els e he) hb⟩
theorem Pks.more {w w' : World} {B : Nat} {v v' : Value} {L : List Pk} {p : Pk} (h : Pks w B v L) (hp : w.ownsRow B 5 1 p.val p.n (p.bs.map (.int .u8))) (ho : w'.ownsRow B 27 1 v' (L.length + 1) (L.map Pk.val ++ [p.val])) (hg : w.grownBy w' v.ownBlock) : Pks w' B v' (L ++ [p]) := by
  refine ⟨by rw [List.length_append, List.map_append]; exact ho, fun x hx => ?_⟩
  rcases List.mem_append.mp hx with hx | hx
  · exact (h.els x hx).kept hg (own_own (by decide) (h.els x hx) h.row)
  · rw [List.mem_singleton.mp hx]
    exact hp.kept hg (own_own (by decide) hp h.row)
def full (e : Rc) : Bool := decide (e.n = e.sz)
def fulls (l : List Rc) : List (List Int) := (l.filter full).map Rc.bs
theorem fulls_yes (l : List Rc) (j : Nat) (hj : j < l.length) (h : (l[j]).n = (l[j]).sz) : fulls (l.take (j + 1)) = fulls (l.take j) ++ [(l[j]).bs] := by
  unfold fulls
  rw [take_snocR l j hj, List.filter_append, List.map_append]
  simp [full, h]
theorem fulls_no (l : List Rc) (j : Nat) (hj : j < l.length) (h : ¬ (l[j]).n = (l[j]).sz) : fulls (l.take (j + 1)) = fulls (l.take j) := by
  unfold fulls
  rw [take_snocR l j hj, List.filter_append, List.map_append]
  simp [full, h]
theorem info_sl : (Try.prog.info? 27).map (fun i => (i.zero, i.size, i.bytes)) = some (some (.slice none 0 0), 1, 24) := by kernel_rfl
def PkPost (l : List Rc) (w : World) (o : Ending) (w' : World) : Prop :=
  ∃ v L, o = .returned v ∧ Pks w' w.heap.size v L ∧ L.map Pk.bs = fulls l ∧ Below w.heap.size w w'
set_option maxHeartbeats 4000000 in
set_option maxRecDepth 100000 in
theorem packets_any (big : Bool) (sn link : Nat) (A : Option Addr) (c : Nat) (l : List Rc) (w : World) (hr : RdR w A l) (hw : ∀ e ∈ l, e.ok) (hh : ∀ e ∈ l, Has w e) (hl : l.length ≤ 4096) (hc1 : l.length ≤ c) (hc2 : c ≤ 9223372036854775807) :
    Calls Try.prog 12 #[.agg #[.bool big, .int .u32 (sn : Int), .int .u32 (link : Int), .slice A l.length c]] w (PkPost l w) := by
  obtain ⟨i0, hi0, hz0, hz1, hz2⟩ := info_parts info_sl
  have HI0 := Lib.hid hi0
  have HZ0 := Lib.hid hz0
  have HZ1 := Lib.hid hz1
  have HZ2 := Lib.hid hz2
  have HR := Lib.hid hr
  have HW := Lib.hid hw
  have HHas := Lib.hid hh
  obtain ⟨n, hn⟩ : ∃ n, n = l.length := ⟨_, rfl⟩
  have HN := Lib.hid hn
  rw [← hn] at hl hc1 ⊢
  clear hi0 hz0 hz1 hz2 hr hw hh hn
  go_enter Try.func12, Try.ntmps12
  go_wp2_with fail
  have hz1 : (w.alloc (.cells #[.bool big, .int .u32 (sn : Int), .int .u32 (link : Int), .slice A n c] 25)).heap.size = w.heap.size + 1 := by simp
  have OL := World.ownsRow_lit (e := 27) (base := w.heap.size) (size := 1) (w.alloc (.cells #[.bool big, .int .u32 (sn : Int), .int .u32 (link : Int), .slice A n c] 25)) #[] 0 (by simp) (by unfold maxLen; omega) rfl
  rw [hz1] at OL
  have HOL := Lib.hid OL
  have HBL := Lib.hid (show Below w.heap.size w ((w.alloc (.cells #[.bool big, .int .u32 (sn : Int), .int .u32 (link : Int), .slice A n c] 25)).alloc (.cells #[] 27)) from ((Below.refl _ _).alloc (Nat.le_refl _) _).alloc (by simp) _)
  clear OL hz1
  go_loopw [3, 10] (fun out i wr => ∃ (j : Nat) (L : List Pk), j ≤ n ∧ i = .int .i64 j ∧ Hid (Pks wr w.heap.size out L) ∧ Hid (L.map Pk.bs = fulls (l.take j)) ∧ Hid (Below w.heap.size w wr)) (fun _ i _ => n - (intOf i).toNat)
  case atStart => exact ⟨0, [], by omega, rfl, Lib.hid ⟨HOL.out, by simp⟩, Lib.hid rfl, HBL⟩
  case round =>
    obtain ⟨j, L, hj, rfl, HP, HE, HB⟩ := hrel
    by_cases hlt : j < n
    · have hjl : j < l.length := HN.out ▸ hlt
      obtain ⟨b, off, hA, hbl, hC⟩ := (HR.out.below HB.out).at_ j hjl
      subst hA
      have HY := Lib.hid (fun h => fulls_yes l j hjl h)
      have HNO := Lib.hid (fun h => fulls_no l j hjl h)
      obtain ⟨hrow, hbl2, hnone, hn6⟩ := HHas.out l[j] (List.getElem_mem hjl)
      obtain ⟨o1, o2, o3, o4⟩ := HW.out l[j] (List.getElem_mem hjl)
      obtain ⟨e, he⟩ : ∃ e, e = l[j] := ⟨_, rfl⟩
      rw [← he] at hC HY HNO hrow hbl2 hnone hn6 o1 o2 o3 o4
      have d0 : wr.cell? ⟨b, off + j * 4, none⟩ = some (.int .u32 (e.sec : Int)) := hC 0 (by omega)
      have d1 : wr.cell? ⟨b, off + j * 4 + 1, none⟩ = some (.int .u32 (e.mic : Int)) := hC 1 (by omega)
      have d2 : wr.cell? ⟨b, off + j * 4 + 2, none⟩ = some (.int .u32 (e.sz : Int)) := hC 2 (by omega)
      have d3 : wr.cell? ⟨b, off + j * 4 + 3, none⟩ = some (.slice e.A e.n e.c) := hC 3 (by omega)
      have j0 : (0 : Int) ≤ j := by omega
      have j1 : (j : Int) < n := by omega
      have hv1 : IntKind.u64.wrap (e.n : Int) = (e.n : Int) := by rw [IntKind.wrap_u64]; omega
      have hv2 : IntKind.u64.wrap (e.sz : Int) = (e.sz : Int) := by rw [IntKind.wrap_u64]; omega
      have HBX := Lib.hid (HB.out.alloc HB.out.size (.cells #[.int .u32 (e.sec : Int), .int .u32 (e.mic : Int), .int .u32 (e.sz : Int), .slice e.A e.n e.c] 38))
      have HPX := Lib.hid (HP.out.below ((Below.refl _ _).alloc (Nat.le_refl _) (.cells #[.int .u32 (e.sec : Int), .int .u32 (e.mic : Int), .int .u32 (e.sz : Int), .slice e.A e.n e.c] 38)))
      have HROW := Lib.hid hrow
      have HBL2 := Lib.hid hbl2
      have HNONE := Lib.hid hnone
      clear hC he hrow hbl2 hnone o1 o2 o3 o4 hjl
      by_cases hf : e.n = e.sz
      · have t1 : ((e.n : Int) == (e.sz : Int)) = true := by rw [hf]; exact beq_self_eq_true _
        have HS := Lib.hid (HY.out hf)
        have kr := Blk.new wr 38 #[.int .u32 (e.sec : Int), .int .u32 (e.mic : Int), .int .u32 (e.sz : Int), .slice e.A e.n e.c]
        have HCL := Lib.hid (clone_any e.A e.n e.c e.bs (wr.alloc (.cells #[.int .u32 (e.sec : Int), .int .u32 (e.mic : Int), .int .u32 (e.sz : Int), .slice e.A e.n e.c] 38)) HBL2.out (by omega) HNONE.out ((HROW.out.below HBX.out).more HBX.out.size))
        clear hf kr
        go_wp2_with fail
        refine HCL.out.mono ?_
        rintro o w6 ⟨v6, rfl, ho6, hb6, hs6⟩
        obtain ⟨A6, c6, rfl⟩ := own_slice ho6
        have al : Below w6.heap.size w6 (w6.alloc (.cells #[.slice A6 e.n c6] 27)) := (Below.refl _ _).alloc (Nat.le_refl _) _
        have HPY := Lib.hid ((HPX.out.below hb6).below al)
        have HBY := Lib.hid ((HBX.out.trans (hb6.mono HBX.out.size)).alloc (Nat.le_trans HBX.out.size hb6.size) (.cells #[.slice A6 e.n c6] 27))
        have HOY := Lib.hid (own_below (own_up ho6 HBX.out.size) al)
        have HNEWS := Lib.hid (lit_new w6 #[.slice A6 e.n c6] 27)
        have y1 : L.length + 1 ≤ maxLen := by
          have := HE.out
          have h2 : L.length ≤ n := by
            rw [← List.length_map (f := Pk.bs), this]
            unfold fulls
            rw [List.length_map]
            exact Nat.le_trans (List.length_filter_le _ _) (by rw [List.length_take]; omega)
          unfold maxLen
          omega
        have y2 : (L.length + 1) * 24 ≤ 140737488355328 := by
          have := HE.out
          have h2 : L.length ≤ n := by
            rw [← List.length_map (f := Pk.bs), this]
            unfold fulls
            rw [List.length_map]
            exact Nat.le_trans (List.length_filter_le _ _) (by rw [List.length_take]; omega)
          omega
        have Y1 := Lib.hid y1
        have Y2 := Lib.hid y2
        clear al ho6 hb6 y1 y2
        go_wp2_with (at_builtin; refine wpList_append_own _ rfl (.tmp 22) (.tmp 26) _ rfl w.heap.size 27 i0 _ 1 24 Try.underlying35 HI0.out HZ0.out HZ1.out HZ2.out rfl (by omega) _ L.length _ rfl HPY.out.row ⟨w6.heap.size, 0, none⟩ 1 1 [.slice A6 e.n c6] rfl rfl HNEWS.out (by simp [Value.oneCell']) Y1.out Y2.out HBY.out.size ?_; intro va wa owna ga _; have HPa := Lib.hid (Pks.more (p := ⟨A6, e.n, c6, e.bs⟩) HPY.out HOY.out owna ga); have HBa := Lib.hid (HBY.out.grown ga HBY.out.size (fun k hk => (HPY.out.row.lt k hk).1)); clear owna ga)
        go_roundw
        case rel => exact ⟨j + 1, L ++ [⟨A6, e.n, c6, e.bs⟩], by omega, by go_num, HPa, Lib.hid (by rw [List.map_append, HE.out, HS.out]; rfl), HBa⟩
        case measure => simp [intOf]; omega
      · have t1 : ((e.n : Int) == (e.sz : Int)) = false := beq_eq_false_iff_ne.mpr (by omega)
        have HS := Lib.hid (HNO.out hf)
        clear hf
        go_wp2_with fail
        go_roundw
        case rel => exact ⟨j + 1, L, by omega, by go_num, HPX, Lib.hid (by rw [HE.out, HS.out]), HBX⟩
        case measure => simp [intOf]; omega
    · obtain rfl : n = j := by omega
      have HE2 := Lib.hid (show L.map Pk.bs = fulls l from by have := HE.out; rwa [List.take_of_length_le (by rw [← HN.out]; exact Nat.le_refl _)] at this)
      go_wp2_with fail
      go_ret
      exact ⟨_, L, rfl, HP.out, HE2.out, HB.out⟩
end Go.Proofs.Ytmchedjeohhpcaa.pcapX
