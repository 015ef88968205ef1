/- Layer 44: ops that are read of their bytes. -/
import Derived.Test.YtmlicmcphecakaaSnJ
namespace Go.Proofs.Ytmlicmcphecakaa.snL
open Go.ChangeShapes Go.WideShapes Go.ChangeAt Go.RowKit
open Go.Proofs.Ytmlicmcphecakaa.base Go.Proofs.Ytmlicmcphecakaa.octA Go.Proofs.Ytmlicmcphecakaa.octB Go.Proofs.Ytmlicmcphecakaa.octF Go.Proofs.Ytmlicmcphecakaa.octK Go.Proofs.Ytmlicmcphecakaa.net Go.Proofs.Ytmlicmcphecakaa.rdrA Go.Proofs.Ytmlicmcphecakaa.snA Go.Proofs.Ytmlicmcphecakaa.snB Go.Proofs.Ytmlicmcphecakaa.snC Go.Proofs.Ytmlicmcphecakaa.snD Go.Proofs.Ytmlicmcphecakaa.snE Go.Proofs.Ytmlicmcphecakaa.snF Go.Proofs.Ytmlicmcphecakaa.snG Go.Proofs.Ytmlicmcphecakaa.snH Go.Proofs.Ytmlicmcphecakaa.snI Go.Proofs.Ytmlicmcphecakaa.snJ Go.Proofs.Ytmlicmcphecakaa.snK
set_option linter.unusedVariables false

theorem own_own {w : World} {B1 B2 e1 e2 s1 s2 : Nat} {v1 v2 : Value} {n1 n2 : Nat} {x1 x2 : List Value} (ht : e1 ≠ e2) (h1 : w.ownsRow B1 e1 s1 v1 n1 x1) (h2 : w.ownsRow B2 e2 s2 v2 n2 x2) : v1.ownBlock = none ∨ v1.ownBlock ≠ v2.ownBlock := by
  rcases h1.2 with ⟨rfl, _⟩ | ⟨g, cap, cur, rfl, hg, hgg, _⟩
  · exact .inl rfl
  · refine .inr fun e => ?_
    have hb : Blk w g e1 cur := hgg
    exact own_neB ht h2 hb g (by rw [← e]; rfl) rfl
theorem left_any (B g : Nat) (l : List Int) (w : World) (h : Rdr w B g l) :
    Calls Try.prog 21 #[.pointer (some ⟨g, 0, none⟩)] w fun e w' => e = .returned (.int .i64 (l.length : Int)) ∧ w = w' := by
  obtain ⟨b, off, c, hblk, hb, hlies, hlc, hc⟩ := h
  have c0 : w.cell? ⟨g, 0, none⟩ = some (.slice (some ⟨b, off, none⟩) l.length c) := by rw [hblk.cell 0]; rfl
  have c1 : w.cell? ⟨g, 1, none⟩ = some (.int .i64 0) := by rw [hblk.cell 1]; rfl
  clear hblk hlies
  go_enter Try.func21, Try.ntmps21
  go_wp2
  go_ret
  exact ⟨rfl, rfl⟩
theorem err_any (B g : Nat) (l : List Int) (w : World) (h : Rdr w B g l) :
    Calls Try.prog 19 #[.pointer (some ⟨g, 0, none⟩)] w fun e w' => e = .returned (.int .i64 0) ∧ w = w' := by
  obtain ⟨b, off, c, hblk, hb, hlies, hlc, hc⟩ := h
  have c1 : w.cell? ⟨g, 1, none⟩ = some (.int .i64 0) := by rw [hblk.cell 1]; rfl
  clear hblk hlies
  go_enter Try.func19, Try.ntmps19
  go_wp2
  go_ret
  exact ⟨rfl, rfl⟩
def lenV : Value → Nat
  | .slice _ n _ => n
  | _ => 0
theorem own_els {g : Nat} {w w' : World} {B e s : Nat} {v : Value} {n : Nat} {xs : List Value} (h : w.ownsRow B e s v n xs) (hg : g < B) (he : Els g w w') : w'.ownsRow B e s v n xs := by
  refine ⟨h.1, ?_⟩
  rcases h.2 with hn | ⟨k, cap, cur, rfl, hb2, hgg, rest⟩
  · exact .inl hn
  · exact .inr ⟨k, cap, cur, rfl, hb2, (he k (Array.getElem?_eq_some_iff.1 hgg).1 (by omega)).trans hgg, rest⟩
/-- Ops that were read: a row of the call's own, and each text one. -/
structure Got (w : World) (B : Nat) (v : Value) (l : List Ob) : Prop where
  row : w.ownsRow B 27 6 v l.length (flatO l)
  els : ∀ e ∈ l, w.ownsRow B 5 1 (.slice e.A e.bs.length e.c) e.bs.length (e.bs.map (.int .u8))
theorem Got.els_ {g : Nat} {w w' : World} {B : Nat} {v : Value} {l : List Ob} (h : Got w B v l) (hg : g < B) (he : Els g w w') : Got w' B v l := ⟨own_els h.row hg he, fun e hm => own_els (h.els e hm) hg he⟩
theorem Got.below {w w' : World} {B : Nat} {v : Value} {l : List Ob} (h : Got w B v l) (hb : Below w.heap.size w w') : Got w' B v l := ⟨own_below2 h.row hb, fun e he => own_below2 (h.els e he) hb⟩
theorem Got.more {w w' : World} {B : Nat} {v v' : Value} {l : List Ob} {e : Ob} (h : Got w B v l) (he : w.ownsRow B 5 1 (.slice e.A e.bs.length e.c) e.bs.length (e.bs.map (.int .u8))) (ho : w'.ownsRow B 27 6 v' (l.length + 1) (flatO l ++ e.cells.toList)) (hg : w.grownBy w' v.ownBlock) : Got w' B v' (l ++ [e]) := by
  refine ⟨by rw [List.length_append, flatO_snoc]; exact ho, fun x hx => ?_⟩
  rcases List.mem_append.mp hx with hx | hx
  · exact (h.els x hx).kept hg (own_own (by decide) (h.els x hx) h.row)
  · rw [List.mem_singleton.mp hx]
    exact he.kept hg (own_own (by decide) he h.row)
theorem opsB_next (l : List Ob) (k : Nat) (hk : k < l.length) : opsB (l.drop k) = opB l[k] ++ opsB (l.drop (k + 1)) := by
  rw [List.drop_eq_getElem_cons hk]
  rfl
theorem opsB_in (l : List Ob) (h : ∀ o ∈ l, ∀ x ∈ opB o, 0 ≤ x ∧ x ≤ 255) : ∀ x ∈ opsB l, 0 ≤ x ∧ x ≤ 255 := fun x hx => by
  unfold opsB at hx
  rw [List.mem_flatMap] at hx
  obtain ⟨o, ho, h2⟩ := hx
  exact h o ho x h2
def ReadPost2 (w : World) (l : List Ob) (e : Ending) (w' : World) : Prop :=
  Below w.heap.size w w' ∧ ∃ v L, e = .returned (.tuple #[v, .int .i64 0]) ∧ L.map Ob.re = l.map Ob.re ∧ Got w' (w.heap.size + 1) v L
set_option maxHeartbeats 8000000 in
set_option maxRecDepth 100000 in
theorem read_ops (b0 off0 n0 c0 : Nat) (l : List Ob) (w : World) (hn0 : n0 = (allO l).length) (hc0 : n0 ≤ c0) (hc1 : c0 ≤ 9223372036854775807) (hb0 : b0 < w.heap.size) (hli : Lies w b0 off0 (allO l)) (hl : l.length ≤ 40) (hr : ∀ o ∈ l, o.right) (h300 : ∀ o ∈ l, o.bs.length ≤ 600) (hin : ∀ o ∈ l, ∀ x ∈ opB o, 0 ≤ x ∧ x ≤ 255) :
    Calls Try.prog 10 #[.slice (some ⟨b0, off0, none⟩) n0 c0] w (ReadPost2 w l) := by
  obtain ⟨i0, hi0, hz0, hz1, hz2⟩ := info_parts info_op
  have HI0 := Lib.hid hi0
  have HZ0 := Lib.hid hz0
  have HZ1 := Lib.hid hz1
  have HZ2 := Lib.hid hz2
  obtain ⟨n, hn⟩ : ∃ n, n = l.length := ⟨_, rfl⟩
  have HN := Lib.hid hn
  obtain ⟨s0, hs0⟩ : ∃ s, s = w.heap.size := ⟨_, rfl⟩
  have HS0 := Lib.hid hs0
  have HRT := Lib.hid hr
  have H3 := Lib.hid h300
  have HIN := Lib.hid hin
  have N0 := Lib.hid (read_rdr b0 off0 n0 c0 s0 (allO l) w hn0.symm hc0 hc1 (by omega) (by omega) hli)
  have hbI : ∀ x ∈ opsB l, 0 ≤ x ∧ x ≤ 255 := opsB_in l hin
  have N1 := Lib.hid (show ∀ V, Rdr V s0 s0 (allO l) → Calls Try.prog 16 #[.pointer (some ⟨s0, 0, none⟩), .int .i64 4] V fun e w' => ∃ b off, e = .returned (.slice (some ⟨b, off, none⟩) 4 4) ∧ b < s0 ∧ Lies w' b off [68, 83, 84, 49] ∧ Rdr w' s0 s0 (pb (n : Int) 4 4 ++ opsB l) ∧ Only s0 V w' from fun V hV => rawL s0 s0 [68, 83, 84, 49] _ V (Nat.le_refl _) (by unfold allO at hV; rw [List.append_assoc, ← hn] at hV; exact hV))
  have N2 := Lib.hid (show ∀ V, Rdr V s0 s0 (pb (n : Int) 4 4 ++ opsB l) → _ from fun V hV => num4 s0 s0 n (opsB l) V (Nat.le_refl _) hV (fun z hz => by rcases List.mem_append.mp hz with h9 | h9; exact pb_in _ _ _ z h9; exact hbI z h9) (by omega) (by omega))
  have hn40 : n ≤ 40 := by omega
  rw [← hs0] at hb0
  clear hi0 hz0 hz1 hz2 hn hr h300 hin hli hbI hl hs0 hn0
  unfold ReadPost2
  rw [← HS0.out]
  go_enter Try.func10, Try.ntmps10
  go_wp2_with fail
  refine N0.out.mono ?_
  rintro e w1 ⟨rfl, hr1, hb1, hs1⟩
  rw [← HS0.out] at hr1 hb1 hs1 ⊢
  have HR1 := Lib.hid hr1
  have BB1 := Lib.hid hb1
  have SZ1 := Lib.hid hs1
  clear hr1 hb1 hs1
  go_wp2_with fail
  refine (N1.out _ HR1.out).mono ?_
  rintro e w2 ⟨b2, off2, rfl, hb2, hl2, hr2, ho2⟩
  have HR2 := Lib.hid hr2
  have BB2 := Lib.hid (ho2.from BB1.out (Nat.le_refl _))
  have SZ2 := Lib.hid (show w2.heap.size = s0 + 1 from ho2.size.trans SZ1.out)
  have cv := conv_row (n := 4) (c := 4) (hl2.row hb2) rfl
  rw [show strOfNums [68, 83, 84, 49] = ⟨#[68, 83, 84, 49]⟩ from by decide] at cv
  clear hr2 ho2 hl2
  go_wp2_with fail
  refine (N2.out _ HR2.out).mono ?_
  rintro e w3 ⟨rfl, hr3, ho3⟩
  have HR3 := Lib.hid hr3
  have BB3 := Lib.hid (ho3.from BB2.out (Nat.le_refl _))
  have SZ3 := Lib.hid (show w3.heap.size = s0 + 1 from ho3.size.trans SZ2.out)
  have tm : decide ((2048 : Int) < n) = false := decide_eq_false (by omega)
  clear hr3 ho3 cv
  have BA4 := Lib.hid (show Below (s0 + 1) w3 (w3.alloc (.cells #[] 27)) from (Below.refl _ _).alloc (Nat.le_of_eq SZ3.out.symm) _)
  have G0 := Lib.hid (show Got (w3.alloc (.cells #[] 27)) (s0 + 1) (.slice (some ⟨w3.heap.size, 0, none⟩) 0 0) [] from ⟨World.ownsRow_made w3 #[] 0 (Nat.le_of_eq SZ3.out.symm) (Nat.zero_le _) rfl, fun e he => by cases he⟩)
  have R0 := Lib.hid (show Rdr (w3.alloc (.cells #[] 27)) s0 s0 (opsB (l.drop 0)) from HR3.out.below BA4.out (by omega) (by omega))
  have B0 := Lib.hid (show Below s0 w (w3.alloc (.cells #[] 27)) from BB3.out.trans (BA4.out.mono (by omega)))
  have S0 := Lib.hid (show s0 + 1 ≤ (w3.alloc (.cells #[] 27)).heap.size from by have := SZ3.out; simp; omega)
  go_wp2_with fail
  go_loopw [6] (fun v wr => ∃ (k : Nat) (L : List Ob), k ≤ n ∧ Hid (L.length = k) ∧ Hid (L.map Ob.re = (l.take k).map Ob.re) ∧ Hid (Got wr (s0 + 1) v L) ∧ Hid (Rdr wr s0 s0 (opsB (l.drop k))) ∧ Hid (Below s0 w wr) ∧ Hid (s0 + 1 ≤ wr.heap.size)) (fun v _ => n - lenV v)
  case atStart => exact ⟨0, [], by omega, Lib.hid rfl, Lib.hid rfl, G0, R0, B0, S0⟩
  case round =>
    obtain ⟨k, L, hk, HL, HRE, HG, HR, HB, HS⟩ := hrel
    obtain ⟨Ar, cr, hvr⟩ := own_sliceN HG.out.row
    have HLo := HL.out
    rw [HLo] at hvr
    subst hvr
    clear HLo
    have HE := Lib.hid (err_any s0 s0 _ _ HR.out)
    by_cases hkn : k < n
    · have t1 : decide ((k : Int) < n) = true := decide_eq_true (by omega)
      have t1n : decide (k < n) = true := decide_eq_true hkn
      have hkl : k < l.length := by have := HN.out; omega
      obtain ⟨o, ho⟩ : ∃ o, o = l[k] := ⟨_, rfl⟩
      have hnx := opsB_next l k hkl
      have hol := List.getElem_mem hkl
      rw [← ho] at hnx hol
      have HOL := Lib.hid hol
      have HTK := Lib.hid (show (l.take (k + 1)).map Ob.re = (l.take k).map Ob.re ++ [Ob.re o] from by rw [List.take_succ_eq_append_getElem hkl, ← ho, List.map_append]; rfl)
      have RG := Lib.hid (read_good s0 s0 o (opsB (l.drop (k + 1))) wr (Nat.le_refl _) (by rw [← hnx]; exact HR.out) (HRT.out o hol) (H3.out o hol) (by
        rw [← hnx]
        exact opsB_in _ fun o' ho' => HIN.out o' (List.mem_of_mem_drop ho')))
      clear ho hnx hol hkl
      go_wp2_with fail
      refine HE.out.mono ?_
      rintro e w' ⟨rfl, rfl⟩
      go_wp2_with fail
      refine RG.out.mono ?_
      rintro e w4 ⟨A, c, rfl, ho4, hr4, hb4, he4, hs4⟩
      have hs5 : s0 + 1 ≤ w4.heap.size := Nat.le_trans HS.out hs4
      obtain ⟨w5, hw5⟩ : ∃ w5, w5 = w4.alloc (.cells #[.int .i64 o.kind, .slice A o.bs.length c, .string o.nm, .int .i64 o.host, .int .i64 o.n, .bool o.up] 27) := ⟨_, rfl⟩
      have E5 := Lib.hid hw5
      have BA5 := Lib.hid (show Below w4.heap.size w4 w5 from by rw [hw5]; exact (Below.refl _ _).alloc (Nat.le_refl _) _)
      have LIT : Blk w5 w4.heap.size 27 #[.int .i64 o.kind, .slice A o.bs.length c, .string o.nm, .int .i64 o.host, .int .i64 o.n, .bool o.up] := by rw [hw5]; exact Blk.new w4 _ _
      have HNEWS := Lib.hid (show ∀ (i : Nat) (u : Value), ([.int .i64 o.kind, .slice A o.bs.length c, .string o.nm, .int .i64 o.host, .int .i64 o.n, .bool o.up] : List Value)[i]? = some u → w5.cell? ((⟨w4.heap.size, 0, none⟩ : Addr).add i) = some u from by
        intro i u hu
        rw [Addr.add_lit, Nat.zero_add, LIT.cell i, ← hu, ← Array.getElem?_toList])
      have HG5 := Lib.hid ((HG.out.els_ (Nat.lt_succ_self _) he4).below BA5.out)
      have HE5 := Lib.hid (own_below2 (own_base ho4 HS.out) BA5.out)
      have HR5 := Lib.hid (hr4.below (BA5.out.mono hs5) (by omega) (Nat.lt_succ_self _))
      have HB5 := Lib.hid ((HB.out.trans hb4).trans (BA5.out.mono (by omega)))
      have HS5 := Lib.hid (Nat.le_trans hs5 BA5.out.size)
      have HOX := Lib.hid (show w5.ownsRow (s0 + 1) 27 6 (.slice Ar k cr) k (flatO L) from by have := HG5.out.row; rw [HL.out] at this; exact this)
      have Y1 := Lib.hid (show k + 1 ≤ maxLen by unfold maxLen; omega)
      have Y2 := Lib.hid (show (k + 1) * 72 ≤ 140737488355328 by omega)
      clear ho4 hr4 hb4 he4 hs4 hs5 hw5 LIT
      go_wp2_with (at_builtin; rw [← E5.out]; refine wpList_append_own _ rfl (.tmp 32) (.tmp 35) _ rfl (s0 + 1) 27 i0 _ 6 72 Try.underlying22 HI0.out HZ0.out HZ1.out HZ2.out rfl (by omega) (.slice Ar k cr) k (flatO L) rfl HOX.out ⟨w4.heap.size, 0, none⟩ 1 1 [.int .i64 o.kind, .slice A o.bs.length c, .string o.nm, .int .i64 o.host, .int .i64 o.n, .bool o.up] rfl rfl HNEWS.out (by simp [Value.oneCell']) Y1.out Y2.out HS5.out ?_; intro va wa owna ga _; have HBl := Lib.hid ((Below.refl (s0 + 1) w5).grown ga HS5.out (fun k hk => (HOX.out.lt k hk).1)); have HGa := Lib.hid (HG5.out.more (e := ⟨o.kind, A, c, o.bs, o.nm, o.host, o.n, o.up⟩) HE5.out (by rw [HL.out]; exact owna) ga); obtain ⟨Aa, ca, hva⟩ := own_sliceN owna; subst hva; clear owna ga)
      go_roundw
      case rel =>
        refine ⟨k + 1, L ++ [⟨o.kind, A, c, o.bs, o.nm, o.host, o.n, o.up⟩], by omega, Lib.hid ?_, Lib.hid ?_, HGa, Lib.hid (HR5.out.below HBl.out (by omega) (Nat.lt_succ_self _)), Lib.hid (HB5.out.trans (HBl.out.mono (by omega))), Lib.hid (Nat.le_trans HS5.out HBl.out.size)⟩
        · rw [List.length_append, HL.out]; rfl
        · rw [List.map_append, HRE.out, HTK.out]; rfl
      case measure => show n - (k + 1) < n - k; omega
    · obtain rfl : k = n := by omega
      have t1 : decide ((k : Int) < k) = false := decide_eq_false (by omega)
      have HD := Lib.hid (show opsB (l.drop k) = [] from by rw [HN.out, List.drop_length]; rfl)
      have HLE := Lib.hid (show Calls Try.prog 21 #[.pointer (some ⟨s0, 0, none⟩)] wr (fun e w' => e = .returned (.int .i64 0) ∧ wr = w') from by have := left_any s0 s0 _ _ HR.out; rw [HD.out] at this; exact this)
      have HTA := Lib.hid (show l.take k = l from by rw [HN.out, List.take_length])
      go_wp2_with fail
      refine HE.out.mono ?_
      rintro e w' ⟨rfl, rfl⟩
      go_wp2_with fail
      refine HLE.out.mono ?_
      rintro e w' ⟨rfl, rfl⟩
      go_wp2_with fail
      refine HE.out.mono ?_
      rintro e w' ⟨rfl, rfl⟩
      go_wp2_with fail
      go_ret2
      exact ⟨HB.out, _, L, rfl, by rw [HRE.out, HTA.out], HG.out⟩
end Go.Proofs.Ytmlicmcphecakaa.snL
