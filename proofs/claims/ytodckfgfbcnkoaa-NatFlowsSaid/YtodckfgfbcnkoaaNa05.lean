/- 3 texts in one. -/
import Derived.Lib.SmallJoins
import Derived.Deep.Slices
import Derived.Deep.Fields
import Derived.Test.YtodckfgfbcnkoaaNa01
import Derived.Test.YtodckfgfbcnkoaaNa04
/- Layer 7: numbers put behind bytes, a list of numbers made meanwhile. -/
namespace Go.Proofs.Ytodckfgfbcnkoaa.octK
set_option maxHeartbeats 400000
set_option maxRecDepth 100000
open Go.ChangeShapes Go.WideShapes Go.ChangeAt Go.RowKit
open base octA octB
set_option linter.unusedVariables false
theorem own_ne {w:World} {base:Nat} {v:Value} {n b:Nat} {xs:List Value} {cs:Array Value} (h:w.ownsRow base 5 1 v n xs) (hb:Blk w b 30 cs):some b ≠ v.ownBlock := by
  rcases h.2 with ⟨rfl,_⟩ | ⟨g,cap,cur,rfl,hg,hgg,_⟩
  · simp [Value.ownBlock]
  · intro e
    simp [Value.ownBlock] at e
    subst e
    unfold Blk at hb
    rw [hb] at hgg
    injection hgg with h1
    injection h1 with _ h2 _
    exact absurd h2 (by decide)
def PutPostK (b:Nat) (cs:Array Value) (base B:Nat) (a:World) (m k:Nat) (xs:List Value) (ys:List Int) (e:Ending) (w':World):Prop :=
  ∃ v',e = .returned v'∧w'.ownsRow base 5 1 v' (m + k) (xs ++ ys.map (.int .u8))∧Below B a w'∧base ≤ w'.heap.size∧Blk w' b 30 cs
theorem put_keep (b:Nat) (cs:Array Value) (v:Value) (m:Nat) (xs:List Value) (n s:Int) (base B:Nat) (a w:World) (hown:w.ownsRow base 5 1 v m xs) (hbase:base ≤ w.heap.size) (hm:m ≤ 1000000) (hbel:Below B a w) (hB:B ≤ base) (n0:0 ≤ n) (n1:n < 18446744073709551616) (hK:Blk w b 30 cs) :
    Calls Try.prog 55 #[v,.int .u64 n,.int .i64 s] w (PutPostK b cs base B a m (hs s) xs (pb n (hs s) (hs s))) := by
  obtain ⟨i0,hi0,hz0,hz1,hz2⟩ := info_parts info_u8
  have HI0 := Lib.hid hi0
  have HZ0 := Lib.hid hz0
  have HZ1 := Lib.hid hz1
  have HZ2 := Lib.hid hz2
  have HOwn0 := Lib.hid hown
  have HBel0 := Lib.hid hbel
  have hk8 := hs_le s
  have HH := Lib.hid (fun w => held_any s w)
  have HK0 := Lib.hid hK
  clear hi0 hz0 hz1 hz2 hown hbel hK
  generalize hs s = k at *
  go_enter Try.func55,Try.ntmps55
  go_wp2_with fail
  refine (HH.out _).mono ?_
  rintro e w' ⟨rfl,rfl⟩
  go_wp2_with fail
  go_loopw [0,7] (fun out i wr => ∃ (j:Nat),j ≤ k∧i = .int .i64 ((k:Int) - 1 - j)∧wr.ownsRow base 5 1 out (m + j) (xs ++ (pb n k j).map (.int .u8))∧Below B a wr∧base ≤ wr.heap.size∧Blk wr b 30 cs) (fun _ i _ => (intOf i + 1).toNat)
  case atStart => exact ⟨0,by omega,by simp,by simpa [pb] using HOwn0.out,HBel0.out,hbase,HK0.out⟩
  case round =>
    obtain ⟨j,hj,rfl,hown,hbel,hbs,hblk⟩ := hrel
    obtain ⟨A3,c3,rfl⟩ := own_slice hown
    have HOwn := Lib.hid hown
    have HBel := Lib.hid hbel
    have HBK := Lib.hid hblk
    by_cases hlt:j < k
    · obtain ⟨q,hq⟩:∃ q:Nat,k = j + q + 1 := ⟨k - j - 1,by omega⟩
      have e1:(k:Int) - 1 - j = (q:Int) := by omega
      have hsn := pb_snoc n k j
      rw [show k - 1 - j = q by omega] at hsn
      have HSN := Lib.hid hsn
      have hq8:(q:Int) ≤ 7 := by omega
      have hq9:q ≤ 7 := by omega
      have HQ := Lib.hid hq
      have hdiv:0 ≤ n / 2 ^ (8 * q) := Int.ediv_nonneg n0 (Int.le_of_lt (Int.pow_pos (by decide)))
      have hby:IntKind.u8.wrap (n / 2 ^ (8 * q)) = byteZ n q := by rw [IntKind.wrap_u8']; rfl
      have hb1 := byteZ_in n q
      rw [e1]
      have hnx:(q:Int) - 1 = (k:Int) - 1 - ((j + 1:Nat):Int) := by omega
      have HNX := Lib.hid hnx
      clear hown hbel hblk e1 hsn hq hnx
      go_wp2_with (at_builtin; refine wpList_append_own _ rfl (.tmp 15) (.tmp 21) _ rfl base 5 i0 _ 1 1 Try.underlying22 HI0.out HZ0.out HZ1.out HZ2.out rfl (by omega) _ (m + j) _ rfl (HOwn.out.alloc _) ⟨wr.heap.size,0,none⟩ 1 1 [.int .u8 (byteZ n q)] rfl rfl (one_new _ _ _) (by simp [Value.oneCell']) (by unfold maxLen; omega) (by omega) (by simp; omega) ?_; intro v1 w1 hown1 hg1 _; have HO1 := Lib.hid hown1; have HG1 := Lib.hid hg1; clear hown1 hg1)
      go_roundw
      case rel =>
        refine ⟨j + 1,by omega,congrArg (Value.int .i64) HNX.out,?_,below_grown (HBel.out.alloc (by omega) _) (HOwn.out.alloc _) hB (by simp; omega) HG1.out,by have := HG1.out.size; simp at this; omega,(HBK.out.alloc (.cells #[.int .u8 (byteZ n q)] 5)).grown HG1.out (own_ne (v := .slice A3 (m + j) c3) (HOwn.out.alloc (.cells #[.int .u8 (byteZ n q)] 5)) (HBK.out.alloc _))⟩
        rw [HSN.out,List.map_append,← List.append_assoc]
        exact HO1.out
      case measure => first | (simp [intOf]; done) | (simp [intOf]; omega)
    · obtain rfl:j = k := by omega
      clear hown hbel hblk
      go_wp2_with fail
      go_ret
      exact ⟨_,rfl,HOwn.out,HBel.out,hbs,HBK.out⟩
theorem all_keep (b:Nat) (cs:Array Value) (v:Value) (m:Nat) (xs:List Value) (s:Int) (n c:Nat) (l:List Int) (base B:Nat) (a w:World) (hown:w.ownsRow base 5 1 v m xs) (hbase:base ≤ w.heap.size) (hm:m + 8 * n ≤ 1000000) (hbel:Below B a w) (hB:B ≤ base)
    (hl:l.length = n) (hK:Blk w b 30 cs) (hcs:cs.toList = l.map (.int .u64)) (hw:∀ x ∈ l,0 ≤ x∧x < 18446744073709551616) :
    Calls Try.prog 65 #[v,.int .i64 s,.slice (some ⟨b,0,none⟩) n c] w (PutPostK b cs base B a m (hs s * n) xs (allb (hs s) l)) := by
  have HK0 := Lib.hid hK
  have HCS := Lib.hid hcs
  have HN := Lib.hid hl
  have HW := Lib.hid hw
  have HOwn0 := Lib.hid hown
  have HBel0 := Lib.hid hbel
  have hk8 := hs_le s
  have hkn:hs s * n ≤ 8 * n := Nat.mul_le_mul_right n hk8
  clear hK hcs hl hw hown hbel
  go_enter Try.func65,Try.ntmps65
  go_wp2_with fail
  go_loopw [0,11] (fun out i wr => ∃ (j:Nat),j ≤ n∧i = .int .i64 j∧wr.ownsRow base 5 1 out (m + hs s * j) (xs ++ (allb (hs s) (l.take j)).map (.int .u8))∧Below B a wr∧base ≤ wr.heap.size∧Blk wr b 30 cs) (fun _ i _ => n - (intOf i).toNat)
  case atStart => exact ⟨0,by omega,rfl,by simpa [allb] using HOwn0.out,HBel0.out,hbase,HK0.out⟩
  case round =>
    obtain ⟨j,hj,rfl,hown,hbel,hbs,hblk⟩ := hrel
    have HOwn := Lib.hid hown
    have HBel := Lib.hid hbel
    by_cases hlt:j < n
    · have hkl:j < l.length := by rw [HN.out]; exact hlt
      have hcell:wr.cell? ⟨b,j,none⟩ = some (.int .u64 (l[j])) := by
        rw [hblk.cell j,← Array.getElem?_toList,HCS.out,List.getElem?_map,List.getElem?_eq_getElem hkl]
        rfl
      have HBK := Lib.hid hblk
      have hx := HW.out l[j] (List.getElem_mem hkl)
      have hsn:allb (hs s) (l.take (j + 1)) = allb (hs s) (l.take j) ++ pb l[j] (hs s) (hs s) := by rw [take_snoc l j hkl,allb_snoc]
      have HSN := Lib.hid hsn
      have hmj:hs s * j ≤ 8 * j := Nat.mul_le_mul_right j hk8
      have hmj2:m + hs s * j ≤ 1000000 := by omega
      clear hown hbel hblk hsn hmj
      generalize l[j] = x at *
      obtain ⟨x0,x1⟩ := hx
      go_wp2_with fail
      refine (put_keep b cs _ _ _ x s base B a _ HOwn.out hbs hmj2 HBel.out hB x0 x1 HBK.out).mono ?_
      rintro e w1 ⟨v1,rfl,hown1,hbel1,hbs1,hbk1⟩
      have HO1 := Lib.hid hown1
      have HB1 := Lib.hid hbel1
      have HK1 := Lib.hid hbk1
      clear hown1 hbel1 hbk1
      go_wp2_with fail
      go_roundw
      case rel =>
        refine ⟨j + 1,by omega,by go_num,?_,HB1.out,hbs1,HK1.out⟩
        · rw [HSN.out,List.map_append,← List.append_assoc,Nat.mul_succ,← Nat.add_assoc]
          exact HO1.out
      case measure => simp [intOf]; omega
    · obtain rfl:j = n := by omega
      have hz:l.take j = l := List.take_of_length_le (by rw [HN.out]; omega)
      rw [hz] at HOwn
      have HBK := Lib.hid hblk
      clear hown hbel hz hblk
      go_wp2_with fail
      go_ret
      exact ⟨_,rfl,HOwn.out,HBel.out,hbs,HBK.out⟩
end Go.Proofs.Ytodckfgfbcnkoaa.octK
/- What the cells of a value of plain data are: leaf by leaf, of structs in structs, arrays, slices. -/
namespace Go.Proofs.Ytodckfgfbcnkoaa.base
open Go.RowKit Go.WideShapes Go.ChangeShapes Go.Joins Go.Deep
set_option linter.unusedVariables false
inductive Leaf where
  | int (k:IntKind)
  | bool
  | str
  | sl (t:TypeId)
def fieldLeafs (P:Program) (rec:TypeId → Option (List Leaf)):List Field → Nat → Option (List Leaf)
  | [],_ => some []
  | f :: fs,off => match rec f.type with
    | some l => if f.offset = off∧P.cellsOf f.type = l.length then (fieldLeafs P rec fs (off + l.length)).map (l ++ ·) else none
    | none => none
def many (l:List Leaf):Nat → List Leaf
  | 0 => []
  | n + 1 => many l n ++ l
def leafs (P:Program):Nat → TypeId → Option (List Leaf)
  | 0,_ => none
  | n + 1,t => match P.underlying t with
    | some .bool => some [.bool]
    | some (.int k) => some [.int k]
    | some .string => some [.str]
    | some (.slice _) => some [.sl t]
    | some (.struct fs) => match fieldLeafs P (leafs P n) fs.toList 0 with
      | some l => if P.cellsOf t = l.length then some l else none
      | none => none
    | some (.array m e) => match leafs P n e with
      | some l => if P.cellsOf e = l.length∧P.cellsOf t = m * l.length then some (many l m) else none
      | none => none
    | _ => none
section
variable {H:Type} {enc:TypeId × Value → H} {P:Program} {w:World} {base:Nat} {spare:Nat → Bool} {held:Bool}
def LeafOk (enc:TypeId × Value → H) (P:Program) (w:World) (base:Nat) (spare:Nat → Bool) (held:Bool):Leaf → Value → Prop
  | .int k,c => ∃ x,c = .int k x∧(Lit.int k x).wf = true
  | .bool,c => ∃ b,c = .bool b
  | .str,c => ∃ s,c = .string s∧s.size ≤ maxLen
  | .sl t,c => ∃ n y,DataW.trod enc P w base spare held n t [c] = some y
def Leaves (enc:TypeId × Value → H) (P:Program) (w:World) (base:Nat) (spare:Nat → Bool) (held:Bool):List Leaf → List Value → Prop
  | [],cs => cs = []
  | l :: ls,cs => ∃ c cs',cs = c :: cs'∧LeafOk enc P w base spare held l c∧Leaves enc P w base spare held ls cs'
theorem Leaves.append {a b:List Leaf} {x y:List Value} (ha:Leaves enc P w base spare held a x) (hb:Leaves enc P w base spare held b y):Leaves enc P w base spare held (a ++ b) (x ++ y) := by
  induction a generalizing x with
  | nil => simp only [Leaves] at ha; subst ha; exact hb
  | cons l ls ih =>
    obtain ⟨c,cs,rfl,h1,h2⟩ := ha
    exact ⟨c,cs ++ y,rfl,h1,ih h2⟩
theorem fields_leaves {rec:TypeId → Option (List Leaf)} (hrec:∀ t l n cs y,rec t = some l → DataW.trod enc P w base spare held n t cs = some y → Leaves enc P w base spare held l cs) :
    ∀ (fs:List Field) (off:Nat) (ls:List Leaf) (cs:List Value),fieldLeafs P rec fs off = some ls →
      (∀ (i:Nat) (f:Field),fs[i]? = some f → ∃ n y,DataW.trod enc P w base spare held n f.type ((cs.drop f.offset).take (P.cellsOf f.type)) = some y) →
      Leaves enc P w base spare held ls ((cs.drop off).take ls.length) := by
  intro fs
  induction fs with
  | nil =>
    intro off ls cs h _
    simp only [fieldLeafs,Option.some.injEq] at h
    subst h
    simp [Leaves]
  | cons f fs ih =>
    intro off ls cs h hf
    simp only [fieldLeafs] at h
    split at h
    · rename_i l hl
      split at h
      · rename_i hc
        obtain ⟨ho,hs⟩ := hc
        cases hr:fieldLeafs P rec fs (off + l.length) with
        | none => rw [hr] at h; cases h
        | some r =>
          rw [hr] at h
          simp only [Option.map_some,Option.some.injEq] at h
          subst h
          obtain ⟨n,y,h0⟩ := hf 0 f rfl
          have h1 := hrec _ _ _ _ _ hl h0
          have h2 := ih _ _ cs hr (fun i g hg => hf (i + 1) g hg)
          rw [ho,hs] at h1
          have e:(cs.drop off).take (l ++ r).length = (cs.drop off).take l.length ++ (cs.drop (off + l.length)).take r.length := by
            rw [List.length_append,List.take_add,List.drop_drop]
          rw [e]
          exact h1.append h2
      · cases h
    · cases h
theorem many_leaves {l:List Leaf} (m:Nat) (cs:List Value) (h:∀ i,i < m → Leaves enc P w base spare held l ((cs.drop (i * l.length)).take l.length)) :
    Leaves enc P w base spare held (many l m) (cs.take (m * l.length)) := by
  induction m with
  | zero => simp [many,Leaves]
  | succ m ih =>
    have h1 := ih (fun i hi => h i (by omega))
    have h2 := h m (by omega)
    rw [Nat.succ_mul,List.take_add]
    exact h1.append h2
theorem leaves_of (m:Nat):∀ (t:TypeId) (ls:List Leaf) (n:Nat) (cs:List Value) (y:DataW H × List MemPlace),leafs P m t = some ls → DataW.trod enc P w base spare held n t cs = some y → Leaves enc P w base spare held ls cs := by
  induction m with
  | zero => intro t ls n cs y h; simp [leafs] at h
  | succ m ih =>
    intro t ls n cs y h ht
    unfold leafs at h
    cases hu:P.underlying t with
    | none => rw [hu] at h; simp at h
    | some u =>
      rw [hu] at h
      cases u with
      | bool =>
        simp only [Option.some.injEq] at h
        subst h
        obtain ⟨b,rfl,_⟩ := DataW.trod_bool hu ht
        exact ⟨_,_,rfl,⟨b,rfl⟩,rfl⟩
      | int k =>
        simp only [Option.some.injEq] at h
        subst h
        obtain ⟨x,rfl,_,hx⟩ := DataW.trod_int hu ht
        exact ⟨_,_,rfl,⟨x,rfl,hx⟩,rfl⟩
      | string =>
        simp only [Option.some.injEq] at h
        subst h
        obtain ⟨x,rfl,_,hx⟩ := DataW.trod_string hu ht
        exact ⟨_,_,rfl,⟨x,rfl,hx⟩,rfl⟩
      | slice e =>
        simp only [Option.some.injEq] at h
        subst h
        obtain ⟨a,l,c,rfl⟩ := slice_form hu ht
        exact ⟨_,_,rfl,⟨n,y,ht⟩,rfl⟩
      | struct fs =>
        simp only at h
        split at h
        · rename_i l hl
          split at h
          · rename_i hc
            simp only [Option.some.injEq] at h
            subst h
            obtain ⟨xs,k,_,rfl,hlen,hx,hf⟩ := DataW.trod_struct hu ht
            have := fields_leaves (enc := enc) (w := w) (base := base) (spare := spare) (held := held) (fun t l n cs y => ih t l n cs y) fs.toList 0 l cs hl (fun i f hi => by
              have hi':fs[i]? = some f := by simpa using hi
              have g := hf i f hi'
              have hlt:i < fs.size := (Array.getElem?_eq_some_iff.1 hi').1
              rw [List.getElem?_eq_getElem (by omega)] at g
              exact ⟨_,_,g⟩)
            rw [List.drop_zero,List.take_of_length_le (by omega)] at this
            exact this
          · cases h
        · cases h
      | array k e =>
        simp only at h
        split at h
        · rename_i l hl
          split at h
          · rename_i hc
            simp only [Option.some.injEq] at h
            subst h
            obtain ⟨xs,n',_,rfl,hlen,hx,hf⟩ := DataW.trod_array hu ht
            have := many_leaves (enc := enc) (P := P) (w := w) (base := base) (spare := spare) (held := held) (l := l) k cs (fun i hi => by
              have g := hf i hi
              rw [List.getElem?_eq_getElem (by omega)] at g
              rw [← hc.1]
              exact ih e l _ _ _ hl g)
            rw [List.take_of_length_le (by omega)] at this
            exact this
          · cases h
        · cases h
      | _ => simp at h
theorem open_leaves {r:Reach} {b0:Nat} {t:TypeId} {fs:Array Field} {v:Value} {d:DataW H} {p:List MemPlace} (m:Nat) (ls:List Leaf) (hs:P.underlying t = some (.struct fs)) (hl:leafs P m t = some ls)
    (hv:Value.okWide P w r b0 t v) (h:DataW.Trod enc P w base spare held t v d p):∃ cs:List Value,v = .agg cs.toArray∧Leaves enc P w base spare held ls cs := by
  obtain ⟨cs,rfl,hsz⟩ := okWide_struct hs hv
  obtain ⟨n,hn⟩ := h
  exact ⟨cs.toList,by simp,leaves_of m t ls n _ _ hl hn⟩
end
end Go.Proofs.Ytodckfgfbcnkoaa.base
/- What the packages over octet and sum share: facts carried over a step, bytes of numbers, what comes in. -/
namespace Go.Proofs.Ytodckfgfbcnkoaa.net
open Go.ChangeShapes Go.WideShapes Go.ChangeAt Go.RowKit Go.Joins Go.Deep
open base sumA sumB octA rdrA
set_option linter.unusedVariables false
theorem pb_two (x:Int) (h0:0 ≤ x) (h1:x ≤ 65535):pb x 2 2 = [x / 256,x % 256] := by
  show [byteZ x (2 - 1 - 0),byteZ x (2 - 1 - 1)] = _
  unfold byteZ
  have a:x / 2 ^ (8 * (2 - 1 - 0)) = x / 256 := rfl
  have b:x / 2 ^ (8 * (2 - 1 - 1)) = x := by show x / 1 = x; omega
  rw [a,b]
  congr 1
  omega
theorem own_keep {w w':World} {base n:Nat} {e:TypeId} {v:Value} {xs:List Value} (h:w.ownsRow base e 1 v n xs) (hb:Below w.heap.size w w'):w'.ownsRow base e 1 v n xs := by
  refine ⟨h.1,?_⟩
  rcases h.2 with hn | ⟨g,cap,cur,rfl,hg,hgg,rest⟩
  · exact .inl hn
  · exact .inr ⟨g,cap,cur,rfl,hg,(hb.block g (Array.getElem?_eq_some_iff.1 hgg).1).trans hgg,rest⟩
theorem bneT {a b:Int} (h:a ≠ b):(a != b) = true := by simpa using h
theorem bneF {a b:Int} (h:a = b):(a != b) = false := by subst h; simp
theorem eqT {a b:Int} (h:a = b):(a == b) = true := by simpa using h
theorem eqF {a b:Int} (h:a ≠ b):(a == b) = false := by simpa using h
theorem wsum_app:∀ (n:Nat) (a b:List Int),a.length = 2 * n → wsum (a ++ b) = wsum a + wsum b := by
  intro n
  induction n with
  | zero => intro a b h; have e:a = [] := List.eq_nil_of_length_eq_zero (by omega); subst e; simp [wsum]
  | succ n ih =>
    intro a b h
    match a,h with
    | x :: y :: a,h =>
      have := ih a b (by simp at h; omega)
      show wsum (x :: y :: (a ++ b)) = wsum (x :: y :: a) + wsum b
      simp only [wsum]
      rw [this]
      omega
theorem pb_four (x:Int) (h0:0 ≤ x) (h1:x ≤ 4294967295):pb x 4 4 = [x / 65536 / 256,x / 65536 % 256,x % 65536 / 256,x % 65536 % 256] := by
  show [byteZ x 3,byteZ x 2,byteZ x 1,byteZ x 0] = _
  unfold byteZ
  have a:x / 2 ^ (8 * 3) = x / 16777216 := rfl
  have b:x / 2 ^ (8 * 2) = x / 65536 := rfl
  have c:x / 2 ^ (8 * 1) = x / 256 := rfl
  have d:x / 2 ^ (8 * 0) = x := by show x / 1 = x; omega
  rw [a,b,c,d]
  congr 1
  · omega
  · congr 1
    congr 1
    · omega
    · congr 1
      omega
theorem pb_one (x:Int) (h0:0 ≤ x) (h1:x ≤ 255):pb x 1 1 = [x] := by
  show [byteZ x 0] = _
  unfold byteZ
  have d:x / 2 ^ (8 * 0) = x := by show x / 1 = x; omega
  rw [d]
  congr 1
  omega
theorem fo_full (s:Int) (h:0 ≤ s):fo (s + (65535 - fo s)) = 65535 ∨ fo s = 65535 := by
  have a := fo_bd s h
  have b := fo_add (x := s) (t := 65535 - fo s) h (by omega)
  refine .inl ?_
  rw [← b,show fo s + (65535 - fo s) = 65535 by omega]
  rfl
theorem none_cap {k:IntKind} {w:World} {a:Option Addr} {len cap:Nat} {zs:List Int}
    (h:(a = none∧len = 0∧cap = 0∧zs = []) ∨ ∃ x,a = some x∧len ≤ cap∧cap ≤ maxLen∧zs.length = cap∧(∀ i,i < zs.length → w.cell? (x.add i) = some (.int k (zs.getD i 0)))∧∀ n ∈ zs,(Lit.int k n).wf = true):a = none → cap = 0 := by
  rcases h with ⟨_,_,h,_⟩ | ⟨x,rfl,_⟩
  · exact fun _ => h
  · intro h; cases h
theorem take_u8 {l:List Int} {m:Nat} (h:∀ x ∈ l,(Lit.int .u8 x).wf = true):∀ x ∈ l.take m,0 ≤ x∧x ≤ 255 := fun x hx => bounds_u8 (h x (List.mem_of_mem_take hx))
section
variable {H:Type} {enc:TypeId × Value → H} {P:Program} {w:World} {base:Nat} {held:Bool}
theorem open_bytes {r:Reach} {b0:Nat} {t e:TypeId} {k:IntKind} {v:Value} {d:DataW H} {p:List MemPlace} (ht:P.underlying t = some (.slice e)) (he:P.underlying e = some (.int k)) (hc:P.cellsOf e = 1)
    (hv:Value.okWide P w r b0 t v) (h:DataW.Trod enc P w base (fun _ => true) held t v d p) :
    ∃ a len cap zs,v = .slice a len cap∧((a = none∧len = 0∧cap = 0∧zs = []) ∨ ∃ x,a = some x∧len ≤ cap∧cap ≤ maxLen∧zs.length = cap∧(∀ i,i < zs.length → w.cell? (x.add i) = some (.int k (zs.getD i 0)))∧∀ n ∈ zs,(Lit.int k n).wf = true) := by
  obtain ⟨a,len,cap,rfl⟩ := okWide_slice ht hv
  obtain ⟨fuel,hf⟩ := h
  rcases open_ints ht he hc hf with ⟨hcs,_⟩ | ⟨x,l,c,zs,hcs,_,hl,hm,hz,_,hcell,hwz⟩
  · simp [Value.cells] at hcs
    obtain ⟨rfl,rfl,rfl⟩ := hcs
    exact ⟨_,_,_,[],rfl,.inl ⟨rfl,rfl,rfl,rfl⟩⟩
  · simp [Value.cells] at hcs
    obtain ⟨rfl,rfl,rfl⟩ := hcs
    exact ⟨_,_,_,zs,rfl,.inr ⟨_,rfl,hl,hm,by simpa using hz,hcell,hwz⟩⟩
end
section
variable {w w':World}
theorem Rdr_keep {B g:Nat} {l:List Int} (h:Rdr w B g l) (hB:B ≤ w.heap.size) (hb:Below w.heap.size w w'):Rdr w' B g l := h.below hb hB h.lt
end
end Go.Proofs.Ytodckfgfbcnkoaa.net
