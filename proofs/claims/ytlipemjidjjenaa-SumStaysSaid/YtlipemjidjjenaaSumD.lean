/- Layer 4: checks turned by words, and the words of a number. -/
import Derived.Test.YtlipemjidjjenaaSumC
import Derived.Test.YtlipemjidjjenaaQuiet
namespace Go.Proofs.Ytlipemjidjjenaa.sumD
open Go.ChangeShapes Go.WideShapes Go.ChangeAt Go.RowKit
open Go.Proofs.Ytlipemjidjjenaa.base Go.Proofs.Ytlipemjidjjenaa.sumA Go.Proofs.Ytlipemjidjjenaa.sumB Go.Proofs.Ytlipemjidjjenaa.sumC
set_option linter.unusedVariables false

def turn (c f t : Int) : Int := 65535 - fo (65535 - c + (65535 - f) + t)
def turns (c : Int) : List Int → List Int → Int
  | f :: fs, t :: ts => turns (turn c f t) fs ts
  | _, _ => c
theorem turn_bd (c f t : Int) (a1 : c ≤ 65535) (b1 : f ≤ 65535) (c0 : 0 ≤ t) : 0 ≤ turn c f t ∧ turn c f t ≤ 65535 := by
  have := fo_bd (65535 - c + (65535 - f) + t) (by omega)
  unfold turn; omega
theorem turns_snoc : ∀ (fs ts : List Int) (c f t : Int), fs.length = ts.length → turns c (fs ++ [f]) (ts ++ [t]) = turn (turns c fs ts) f t
  | [], [], c, f, t, _ => rfl
  | f' :: fs, t' :: ts, c, f, t, h => by
    simp only [List.cons_append, turns]
    exact turns_snoc fs ts _ f t (by simpa using h)
  | [], _ :: _, _, _, _, h => by simp at h
  | _ :: _, [], _, _, _, h => by simp at h
theorem turns_min : ∀ (fs ts : List Int) (c : Int), turns c (fs.take (min fs.length ts.length)) (ts.take (min fs.length ts.length)) = turns c fs ts
  | [], _, c => by simp [turns]
  | f :: fs, [], c => by simp [turns]
  | f :: fs, t :: ts, c => by
    have e : min (f :: fs).length (t :: ts).length = min fs.length ts.length + 1 := by simp only [List.length_cons]; omega
    rw [e]
    simp only [List.take_succ_cons, turns]
    exact turns_min fs ts _
theorem take_snoc {α : Type} (l : List α) (k : Nat) (h : k < l.length) : l.take (k + 1) = l.take k ++ [l[k]] := by
  rw [List.take_succ_eq_append_getElem h]

theorem words_any (c : Int) (A A' : Option Addr) (n n' c1 c2 : Nat) (fs ts : List Int) (w : World) (B : Nat) (c0 : 0 ≤ c) (c9 : c ≤ 65535) (hn : fs.length = n) (hn' : ts.length = n') (hl : n ≤ 9223372036854775807) (hl' : n' ≤ 9223372036854775807)
    (hr : Row w B A (fs.map (.int .u16))) (hr' : Row w B A' (ts.map (.int .u16))) (hf : ∀ x ∈ fs, 0 ≤ x ∧ x ≤ 65535) (ht : ∀ x ∈ ts, 0 ≤ x ∧ x ≤ 65535) :
    Calls Try.prog 58 #[.int .u16 c, .slice A n c1, .slice A' n' c2] w fun e w' => e = .returned (.int .u16 (turns c fs ts)) ∧ ∃ m, w' = w.drewN m := by
  have HR := Lib.hid hr
  have HR' := Lib.hid hr'
  have HN := Lib.hid hn
  have HN' := Lib.hid hn'
  have HF := Lib.hid hf
  have HT := Lib.hid ht
  clear hr hr' hn hn' hf ht
  by_cases hnn : n' < n
  · have hM : min fs.length ts.length = n' := by rw [HN.out, HN'.out]; omega
    have HM := Lib.hid hM
    clear hM
    go_enter Try.func58, Try.ntmps58
    go_wp2_with fail
    go_loopw [0, 7, 13] (fun t x i wr => ∃ k m : Nat, k ≤ n' ∧ i = .int .i64 k ∧ t = .int .u16 (turns c (fs.take k) (ts.take k)) ∧ 0 ≤ turns c (fs.take k) (ts.take k) ∧ turns c (fs.take k) (ts.take k) ≤ 65535 ∧ wr = w.drewN m) (fun _ _ i _ => n' - (intOf i).toNat)
    case atStart => exact ⟨0, 0, by omega, rfl, by simp [turns], by simpa [turns] using c0, by simpa [turns] using c9, rfl⟩
    case round =>
      obtain ⟨k, m, hk, rfl, rfl, hb0, hb1, rfl⟩ := hrel
      by_cases hlt : k < n'
      · have hk1 : k < fs.length := by rw [HN.out]; omega
        have hk2 : k < ts.length := by rw [HN'.out]; omega
        obtain ⟨b, off, rfl, hbl, hc⟩ := HR.out.at_ (by intro h; simp at h; rw [h] at hk1; simp at hk1)
        obtain ⟨b2, off2, rfl, hbl2, hc2⟩ := HR'.out.at_ (by intro h; simp at h; rw [h] at hk2; simp at hk2)
        have hcell : w.cell? ⟨b, off + k, none⟩ = some (.int .u16 (fs[k])) := hc k _ (by simp [hk1])
        have hcell2 : w.cell? ⟨b2, off2 + k, none⟩ = some (.int .u16 (ts[k])) := hc2 k _ (by simp [hk2])
        have hs := turns_snoc (fs.take k) (ts.take k) c fs[k] ts[k] (by simp; omega)
        rw [← take_snoc fs k hk1, ← take_snoc ts k hk2] at hs
        obtain ⟨f0, f1⟩ := HF.out fs[k] (List.getElem_mem hk1)
        obtain ⟨t0, t1⟩ := HT.out ts[k] (List.getElem_mem hk2)
        clear hc hc2
        generalize turns c (fs.take k) (ts.take k) = z at *
        generalize fs[k] = f at *
        generalize ts[k] = t at *
        have hbd := turn_bd z f t hb1 f1 t0
        rw [← hs] at hbd
        have HS := Lib.hid hs
        have HBD := Lib.hid hbd
        clear hs hbd
        go_wp2_with fail
        go_quiet ((go_at_call 56; exact quiet_add_left (turn_any _ _ _ hb0 hb1 f0 f1 t0 t1 _)))
        go_wp2_with fail
        go_roundw
        case rel => exact ⟨k + 1, _, by omega, by go_num, by rw [HS.out]; rfl, HBD.out.1, HBD.out.2, rfl⟩
        case measure => simp [intOf]; omega
      · have e : turns c (fs.take k) (ts.take k) = turns c fs ts := by
          have : k = min fs.length ts.length := by rw [HM.out]; omega
          rw [this, turns_min]
        rw [e] at hb0 hb1 ⊢
        clear e
        go_wp2
        go_ret
        exact ⟨rfl, m, rfl⟩
  · have hM : min fs.length ts.length = n := by rw [HN.out, HN'.out]; omega
    have HM := Lib.hid hM
    clear hM
    go_enter Try.func58, Try.ntmps58
    go_wp2_with fail
    go_loopw [0, 7, 13] (fun t x i wr => ∃ k m : Nat, k ≤ n ∧ i = .int .i64 k ∧ t = .int .u16 (turns c (fs.take k) (ts.take k)) ∧ 0 ≤ turns c (fs.take k) (ts.take k) ∧ turns c (fs.take k) (ts.take k) ≤ 65535 ∧ wr = w.drewN m) (fun _ _ i _ => n - (intOf i).toNat)
    case atStart => exact ⟨0, 0, by omega, rfl, by simp [turns], by simpa [turns] using c0, by simpa [turns] using c9, rfl⟩
    case round =>
      obtain ⟨k, m, hk, rfl, rfl, hb0, hb1, rfl⟩ := hrel
      by_cases hlt : k < n
      · have hk1 : k < fs.length := by rw [HN.out]; omega
        have hk2 : k < ts.length := by rw [HN'.out]; omega
        obtain ⟨b, off, rfl, hbl, hc⟩ := HR.out.at_ (by intro h; simp at h; rw [h] at hk1; simp at hk1)
        obtain ⟨b2, off2, rfl, hbl2, hc2⟩ := HR'.out.at_ (by intro h; simp at h; rw [h] at hk2; simp at hk2)
        have hcell : w.cell? ⟨b, off + k, none⟩ = some (.int .u16 (fs[k])) := hc k _ (by simp [hk1])
        have hcell2 : w.cell? ⟨b2, off2 + k, none⟩ = some (.int .u16 (ts[k])) := hc2 k _ (by simp [hk2])
        have hs := turns_snoc (fs.take k) (ts.take k) c fs[k] ts[k] (by simp; omega)
        rw [← take_snoc fs k hk1, ← take_snoc ts k hk2] at hs
        obtain ⟨f0, f1⟩ := HF.out fs[k] (List.getElem_mem hk1)
        obtain ⟨t0, t1⟩ := HT.out ts[k] (List.getElem_mem hk2)
        clear hc hc2
        generalize turns c (fs.take k) (ts.take k) = z at *
        generalize fs[k] = f at *
        generalize ts[k] = t at *
        have hbd := turn_bd z f t hb1 f1 t0
        rw [← hs] at hbd
        have HS := Lib.hid hs
        have HBD := Lib.hid hbd
        clear hs hbd
        go_wp2_with fail
        go_quiet ((go_at_call 56; exact quiet_add_left (turn_any _ _ _ hb0 hb1 f0 f1 t0 t1 _)))
        go_wp2_with fail
        go_roundw
        case rel => exact ⟨k + 1, _, by omega, by go_num, by rw [HS.out]; rfl, HBD.out.1, HBD.out.2, rfl⟩
        case measure => simp [intOf]; omega
      · have e : turns c (fs.take k) (ts.take k) = turns c fs ts := by
          have : k = min fs.length ts.length := by rw [HM.out]; omega
          rw [this, turns_min]
        rw [e] at hb0 hb1 ⊢
        clear e
        go_wp2
        go_ret
        exact ⟨rfl, m, rfl⟩
end Go.Proofs.Ytlipemjidjjenaa.sumD
