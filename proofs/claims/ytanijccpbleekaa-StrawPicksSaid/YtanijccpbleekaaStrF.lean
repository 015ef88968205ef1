/- Layer 25: the law of StrawPicks, its calls. -/
import Derived.Test.YtanijccpbleekaaStrE
namespace Go.Proofs.Ytanijccpbleekaa.strF
open Go.ChangeShapes Go.WideShapes Go.ChangeAt Go.RowKit
open Go.Proofs.Ytanijccpbleekaa.base Go.Proofs.Ytanijccpbleekaa.onceB Go.Proofs.Ytanijccpbleekaa.onceC Go.Proofs.Ytanijccpbleekaa.wideG Go.Proofs.Ytanijccpbleekaa.wideH Go.Proofs.Ytanijccpbleekaa.wideI Go.Proofs.Ytanijccpbleekaa.strA Go.Proofs.Ytanijccpbleekaa.strB Go.Proofs.Ytanijccpbleekaa.strC Go.Proofs.Ytanijccpbleekaa.strD Go.Proofs.Ytanijccpbleekaa.strE
set_option linter.unusedVariables false

theorem picks_any (key : Int) (v : Value) (A : Option Addr) (m c : Nat) (l : List (Int × Int)) (xu xd : Int) (w : World) (hf : ∀ W, Calls Try.prog 11 #[v] W fun o w' => o = .returned (.slice A m c) ∧ W = w')
    (hl : l.length = m) (hm : m ≤ 1000) (hg : ∀ i, good (l.getD i (0, 0))) (hr : Row2 w w.heap.size A l) :
    Calls Try.prog 4 #[.int .u64 key, v, .agg #[.int .u64 xu, .int .u64 xd]] w fun e w' => e = .returned (.bool true) ∧ Below w.heap.size w w' := by
  refine picks_in key v A m c xu xd (plc (pk key l m)) (lenZ key xu) w hf ⟨.inl ?_, (Blk.new w _ _).alloc _, ((Below.refl w.heap.size w).alloc (Nat.le_refl _) _).alloc (by simp) _⟩ ?_ ?_ ?_ ?_ ?_ ?_
  · have := Blk.new (w.alloc (.cells #[.int .u64 xu, .int .u64 xd] 44)) 48 (TabC 0 0 (.slice none 0 0))
    simpa using this
  · intro W st
    exact (strD.pick_any (w.heap.size + 1) 48 key A m c l W st.tab hl hm hg (fun w' ha => rows_keep hr st.bel (by omega) ha)).mono fun e w' ⟨he, ht, ha⟩ => ⟨he, st.aside ht ha⟩
  · intro W st
    exact (strB.pick_any key A m c l W hl hm hg (Row2.more (hr.below st.bel) st.bel.size)).mono fun e w' ⟨he, hb⟩ => ⟨he, st.below hb⟩
  · intro W st
    exact (strC.long_any (w.heap.size + 1) 48 key xu xd W st.tab).mono fun e w' ⟨he, ht, ha⟩ => ⟨he, st.aside ht ha⟩
  · intro W st
    exact (strA.long_any key xu W).mono fun e w' ⟨he, hb⟩ => ⟨he, st.below hb⟩
  · intro W st
    exact (pick_nil key (.slice A m c) W).mono fun e w' ⟨he, hb⟩ => ⟨he, hb ▸ st⟩
  · intro W st
    exact (awake_any W).mono fun e w' ⟨he, hb⟩ => ⟨he, st.below hb⟩
end Go.Proofs.Ytanijccpbleekaa.strF
