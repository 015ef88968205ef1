/- What the cells of a value of plain data are: leaf by leaf, of structs in structs, arrays, slices. -/
import Derived.Test.YtamndmlaikgogaaRow
import Derived.Lib.SmallJoins
import Derived.Deep.Slices
import Derived.Deep.Fields
namespace Go.Proofs.Ytamndmlaikgogaa.base
open Go.RowKit Go.WideShapes Go.ChangeShapes Go.Joins Go.Deep
set_option linter.unusedVariables false

inductive Leaf where
  | int (k : IntKind)
  | bool
  | str
  | sl (t : TypeId)
def fieldLeafs (P : Program) (rec : TypeId → Option (List Leaf)) : List Field → Nat → Option (List Leaf)
  | [], _ => some []
  | f :: fs, off => match rec f.type with
    | some l => if f.offset = off ∧ P.cellsOf f.type = l.length then (fieldLeafs P rec fs (off + l.length)).map (l ++ ·) else none
    | none => none
def many (l : List Leaf) : Nat → List Leaf
  | 0 => []
  | n + 1 => many l n ++ l
def leafs (P : Program) : Nat → TypeId → Option (List Leaf)
  | 0, _ => none
  | n + 1, t => match P.underlying t with
    | some .bool => some [.bool]
    | some (.int k) => some [.int k]
    | some .string => some [.str]
    | some (.slice _) => some [.sl t]
    | some (.struct fs) => match fieldLeafs P (leafs P n) fs.toList 0 with
      | some l => if P.cellsOf t = l.length then some l else none
      | none => none
    | some (.array m e) => match leafs P n e with
      | some l => if P.cellsOf e = l.length ∧ P.cellsOf t = m * l.length then some (many l m) else none
      | none => none
    | _ => none
section
variable {H : Type} {enc : TypeId × Value → H} {P : Program} {w : World} {base : Nat} {spare : Nat → Bool} {held : Bool}
def LeafOk (enc : TypeId × Value → H) (P : Program) (w : World) (base : Nat) (spare : Nat → Bool) (held : Bool) : Leaf → Value → Prop
  | .int k, c => ∃ x, c = .int k x ∧ (Lit.int k x).wf = true
  | .bool, c => ∃ b, c = .bool b
  | .str, c => ∃ s, c = .string s ∧ s.size ≤ maxLen
  | .sl t, c => ∃ n y, DataW.trod enc P w base spare held n t [c] = some y
def Leaves (enc : TypeId × Value → H) (P : Program) (w : World) (base : Nat) (spare : Nat → Bool) (held : Bool) : List Leaf → List Value → Prop
  | [], cs => cs = []
  | l :: ls, cs => ∃ c cs', cs = c :: cs' ∧ LeafOk enc P w base spare held l c ∧ Leaves enc P w base spare held ls cs'
theorem Leaves.append {a b : List Leaf} {x y : List Value} (ha : Leaves enc P w base spare held a x) (hb : Leaves enc P w base spare held b y) : Leaves enc P w base spare held (a ++ b) (x ++ y) := by
  induction a generalizing x with
  | nil => simp only [Leaves] at ha; subst ha; exact hb
  | cons l ls ih =>
    obtain ⟨c, cs, rfl, h1, h2⟩ := ha
    exact ⟨c, cs ++ y, rfl, h1, ih h2⟩
theorem fields_leaves {rec : TypeId → Option (List Leaf)} (hrec : ∀ t l n cs y, rec t = some l → DataW.trod enc P w base spare held n t cs = some y → Leaves enc P w base spare held l cs) :
    ∀ (fs : List Field) (off : Nat) (ls : List Leaf) (cs : List Value), fieldLeafs P rec fs off = some ls →
      (∀ (i : Nat) (f : Field), fs[i]? = some f → ∃ n y, DataW.trod enc P w base spare held n f.type ((cs.drop f.offset).take (P.cellsOf f.type)) = some y) →
      Leaves enc P w base spare held ls ((cs.drop off).take ls.length) := by
  intro fs
  induction fs with
  | nil =>
    intro off ls cs h _
    simp only [fieldLeafs, Option.some.injEq] at h
    subst h
    simp [Leaves]
  | cons f fs ih =>
    intro off ls cs h hf
    simp only [fieldLeafs] at h
    split at h
    · rename_i l hl
      split at h
      · rename_i hc
        obtain ⟨ho, hs⟩ := hc
        cases hr : fieldLeafs P rec fs (off + l.length) with
        | none => rw [hr] at h; cases h
        | some r =>
          rw [hr] at h
          simp only [Option.map_some, Option.some.injEq] at h
          subst h
          obtain ⟨n, y, h0⟩ := hf 0 f rfl
          have h1 := hrec _ _ _ _ _ hl h0
          have h2 := ih _ _ cs hr (fun i g hg => hf (i + 1) g hg)
          rw [ho, hs] at h1
          have e : (cs.drop off).take (l ++ r).length = (cs.drop off).take l.length ++ (cs.drop (off + l.length)).take r.length := by
            rw [List.length_append, List.take_add, List.drop_drop]
          rw [e]
          exact h1.append h2
      · cases h
    · cases h
theorem many_leaves {l : List Leaf} (m : Nat) (cs : List Value) (h : ∀ i, i < m → Leaves enc P w base spare held l ((cs.drop (i * l.length)).take l.length)) :
    Leaves enc P w base spare held (many l m) (cs.take (m * l.length)) := by
  induction m with
  | zero => simp [many, Leaves]
  | succ m ih =>
    have h1 := ih (fun i hi => h i (by omega))
    have h2 := h m (by omega)
    rw [Nat.succ_mul, List.take_add]
    exact h1.append h2
theorem many_length (l : List Leaf) (m : Nat) : (many l m).length = m * l.length := by
  induction m with
  | zero => simp [many]
  | succ m ih => rw [many, List.length_append, ih, Nat.succ_mul]
theorem leaves_of (m : Nat) : ∀ (t : TypeId) (ls : List Leaf) (n : Nat) (cs : List Value) (y : DataW H × List MemPlace), leafs P m t = some ls → DataW.trod enc P w base spare held n t cs = some y → Leaves enc P w base spare held ls cs := by
  induction m with
  | zero => intro t ls n cs y h; simp [leafs] at h
  | succ m ih =>
    intro t ls n cs y h ht
    unfold leafs at h
    cases hu : P.underlying t with
    | none => rw [hu] at h; simp at h
    | some u =>
      rw [hu] at h
      cases u with
      | bool =>
        simp only [Option.some.injEq] at h
        subst h
        obtain ⟨b, rfl, _⟩ := DataW.trod_bool hu ht
        exact ⟨_, _, rfl, ⟨b, rfl⟩, rfl⟩
      | int k =>
        simp only [Option.some.injEq] at h
        subst h
        obtain ⟨x, rfl, _, hx⟩ := DataW.trod_int hu ht
        exact ⟨_, _, rfl, ⟨x, rfl, hx⟩, rfl⟩
      | string =>
        simp only [Option.some.injEq] at h
        subst h
        obtain ⟨x, rfl, _, hx⟩ := DataW.trod_string hu ht
        exact ⟨_, _, rfl, ⟨x, rfl, hx⟩, rfl⟩
      | slice e =>
        simp only [Option.some.injEq] at h
        subst h
        obtain ⟨a, l, c, rfl⟩ := slice_form hu ht
        exact ⟨_, _, rfl, ⟨n, y, ht⟩, rfl⟩
      | struct fs =>
        simp only at h
        split at h
        · rename_i l hl
          split at h
          · rename_i hc
            simp only [Option.some.injEq] at h
            subst h
            obtain ⟨xs, k, _, rfl, hlen, hx, hf⟩ := DataW.trod_struct hu ht
            have := fields_leaves (enc := enc) (w := w) (base := base) (spare := spare) (held := held) (fun t l n cs y => ih t l n cs y) fs.toList 0 l cs hl (fun i f hi => by
              have hi' : fs[i]? = some f := by simpa using hi
              have g := hf i f hi'
              have hlt : i < fs.size := (Array.getElem?_eq_some_iff.1 hi').1
              rw [List.getElem?_eq_getElem (by omega)] at g
              exact ⟨_, _, g⟩)
            rw [List.drop_zero, List.take_of_length_le (by omega)] at this
            exact this
          · cases h
        · cases h
      | array k e =>
        simp only at h
        split at h
        · rename_i l hl
          split at h
          · rename_i hc
            simp only [Option.some.injEq] at h
            subst h
            obtain ⟨xs, n', _, rfl, hlen, hx, hf⟩ := DataW.trod_array hu ht
            have := many_leaves (enc := enc) (P := P) (w := w) (base := base) (spare := spare) (held := held) (l := l) k cs (fun i hi => by
              have g := hf i hi
              rw [List.getElem?_eq_getElem (by omega)] at g
              rw [← hc.1]
              exact ih e l _ _ _ hl g)
            rw [List.take_of_length_le (by omega)] at this
            exact this
          · cases h
        · cases h
      | _ => simp at h
/-- An argument that is a struct. -/
theorem open_leaves {r : Reach} {b0 : Nat} {t : TypeId} {fs : Array Field} {v : Value} {d : DataW H} {p : List MemPlace} (m : Nat) (ls : List Leaf) (hs : P.underlying t = some (.struct fs)) (hl : leafs P m t = some ls)
    (hv : Value.okWide P w r b0 t v) (h : DataW.Trod enc P w base spare held t v d p) : ∃ cs : List Value, v = .agg cs.toArray ∧ Leaves enc P w base spare held ls cs := by
  obtain ⟨cs, rfl, hsz⟩ := okWide_struct hs hv
  obtain ⟨n, hn⟩ := h
  exact ⟨cs.toList, by simp, leaves_of m t ls n _ _ hl hn⟩
end
end Go.Proofs.Ytamndmlaikgogaa.base
