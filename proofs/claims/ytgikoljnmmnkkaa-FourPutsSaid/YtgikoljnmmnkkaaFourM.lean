/- Layer 8: headers that may not be, the law says so: tos to pr. -/
import Derived.Test.YtgikoljnmmnkkaaFourG
namespace Go.Proofs.Ytgikoljnmmnkkaa.fourM
open Go.ChangeShapes Go.WideShapes Go.ChangeAt Go.RowKit
open Go.Proofs.Ytgikoljnmmnkkaa.base Go.Proofs.Ytgikoljnmmnkkaa.sumA Go.Proofs.Ytgikoljnmmnkkaa.sumB Go.Proofs.Ytgikoljnmmnkkaa.octA Go.Proofs.Ytgikoljnmmnkkaa.octB Go.Proofs.Ytgikoljnmmnkkaa.octC Go.Proofs.Ytgikoljnmmnkkaa.octD Go.Proofs.Ytgikoljnmmnkkaa.octE Go.Proofs.Ytgikoljnmmnkkaa.octF Go.Proofs.Ytgikoljnmmnkkaa.octK Go.Proofs.Ytgikoljnmmnkkaa.rdrA Go.Proofs.Ytgikoljnmmnkkaa.udpA Go.Proofs.Ytgikoljnmmnkkaa.tcpC Go.Proofs.Ytgikoljnmmnkkaa.net Go.Proofs.Ytgikoljnmmnkkaa.fourA Go.Proofs.Ytgikoljnmmnkkaa.fourB Go.Proofs.Ytgikoljnmmnkkaa.fourC Go.Proofs.Ytgikoljnmmnkkaa.fourD Go.Proofs.Ytgikoljnmmnkkaa.fourE Go.Proofs.Ytgikoljnmmnkkaa.fourF Go.Proofs.Ytgikoljnmmnkkaa.fourG 
set_option linter.unusedVariables false

set_option maxRecDepth 100000 in
set_option maxHeartbeats 8000000 in
theorem lw_tos0 (tos id : Int) (df mf : Bool) (fr ttl pr : Int) (s6 : Bool) (sh : Int) (sl : Int) (d6 : Bool) (dh : Int) (dl : Int) (AO : Option Addr) (no co : Nat) (w : World)  (hn : ¬ 0 ≤ tos) :
    Calls Try.prog 30 #[.agg #[.int .i64 tos, .int .i64 id, .bool df, .bool mf, .int .i64 fr, .int .i64 ttl, .int .i64 pr, .bool s6, .int .u64 sh, .int .u64 sl, .bool d6, .int .u64 dh, .int .u64 dl, .slice AO no co]] w fun e w' => e = .returned (.bool false) ∧ Below w.heap.size w w' := by
  have BOX := Lib.hid (Blk.new w 54 #[.int .i64 tos, .int .i64 id, .bool df, .bool mf, .int .i64 fr, .int .i64 ttl, .int .i64 pr, .bool s6, .int .u64 sh, .int .u64 sl, .bool d6, .int .u64 dh, .int .u64 dl, .slice AO no co])
  have HB0 := Lib.hid ((Below.refl w.heap.size w).alloc (Nat.le_refl _) (.cells #[.int .i64 tos, .int .i64 id, .bool df, .bool mf, .int .i64 fr, .int .i64 ttl, .int .i64 pr, .bool s6, .int .u64 sh, .int .u64 sl, .bool d6, .int .u64 dh, .int .u64 dl, .slice AO no co] 54))
  have q : decide (0 ≤ tos) = false := decide_eq_false hn
  clear hn
  go_enter Try.func30, Try.ntmps30
  go_wp2_with fail
  go_ret
  exact ⟨rfl, HB0.out⟩
set_option maxRecDepth 100000 in
set_option maxHeartbeats 8000000 in
theorem lw_tos1 (tos id : Int) (df mf : Bool) (fr ttl pr : Int) (s6 : Bool) (sh : Int) (sl : Int) (d6 : Bool) (dh : Int) (dl : Int) (AO : Option Addr) (no co : Nat) (w : World) (c_tos0 : 0 ≤ tos) (hn : ¬ tos ≤ 255) :
    Calls Try.prog 30 #[.agg #[.int .i64 tos, .int .i64 id, .bool df, .bool mf, .int .i64 fr, .int .i64 ttl, .int .i64 pr, .bool s6, .int .u64 sh, .int .u64 sl, .bool d6, .int .u64 dh, .int .u64 dl, .slice AO no co]] w fun e w' => e = .returned (.bool false) ∧ Below w.heap.size w w' := by
  have BOX := Lib.hid (Blk.new w 54 #[.int .i64 tos, .int .i64 id, .bool df, .bool mf, .int .i64 fr, .int .i64 ttl, .int .i64 pr, .bool s6, .int .u64 sh, .int .u64 sl, .bool d6, .int .u64 dh, .int .u64 dl, .slice AO no co])
  have HB0 := Lib.hid ((Below.refl w.heap.size w).alloc (Nat.le_refl _) (.cells #[.int .i64 tos, .int .i64 id, .bool df, .bool mf, .int .i64 fr, .int .i64 ttl, .int .i64 pr, .bool s6, .int .u64 sh, .int .u64 sl, .bool d6, .int .u64 dh, .int .u64 dl, .slice AO no co] 54))
  have q : decide (tos ≤ 255) = false := decide_eq_false hn
  clear hn
  go_enter Try.func30, Try.ntmps30
  go_wp2_with fail
  go_ret
  exact ⟨rfl, HB0.out⟩
set_option maxRecDepth 100000 in
set_option maxHeartbeats 8000000 in
theorem lw_ttl0 (tos id : Int) (df mf : Bool) (fr ttl pr : Int) (s6 : Bool) (sh : Int) (sl : Int) (d6 : Bool) (dh : Int) (dl : Int) (AO : Option Addr) (no co : Nat) (w : World) (c_tos0 : 0 ≤ tos) (c_tos1 : tos ≤ 255) (hn : ¬ 0 ≤ ttl) :
    Calls Try.prog 30 #[.agg #[.int .i64 tos, .int .i64 id, .bool df, .bool mf, .int .i64 fr, .int .i64 ttl, .int .i64 pr, .bool s6, .int .u64 sh, .int .u64 sl, .bool d6, .int .u64 dh, .int .u64 dl, .slice AO no co]] w fun e w' => e = .returned (.bool false) ∧ Below w.heap.size w w' := by
  have BOX := Lib.hid (Blk.new w 54 #[.int .i64 tos, .int .i64 id, .bool df, .bool mf, .int .i64 fr, .int .i64 ttl, .int .i64 pr, .bool s6, .int .u64 sh, .int .u64 sl, .bool d6, .int .u64 dh, .int .u64 dl, .slice AO no co])
  have HB0 := Lib.hid ((Below.refl w.heap.size w).alloc (Nat.le_refl _) (.cells #[.int .i64 tos, .int .i64 id, .bool df, .bool mf, .int .i64 fr, .int .i64 ttl, .int .i64 pr, .bool s6, .int .u64 sh, .int .u64 sl, .bool d6, .int .u64 dh, .int .u64 dl, .slice AO no co] 54))
  have q : decide (0 ≤ ttl) = false := decide_eq_false hn
  clear hn
  go_enter Try.func30, Try.ntmps30
  go_wp2_with fail
  go_ret
  exact ⟨rfl, HB0.out⟩
set_option maxRecDepth 100000 in
set_option maxHeartbeats 8000000 in
theorem lw_ttl1 (tos id : Int) (df mf : Bool) (fr ttl pr : Int) (s6 : Bool) (sh : Int) (sl : Int) (d6 : Bool) (dh : Int) (dl : Int) (AO : Option Addr) (no co : Nat) (w : World) (c_tos0 : 0 ≤ tos) (c_tos1 : tos ≤ 255) (c_ttl0 : 0 ≤ ttl) (hn : ¬ ttl ≤ 255) :
    Calls Try.prog 30 #[.agg #[.int .i64 tos, .int .i64 id, .bool df, .bool mf, .int .i64 fr, .int .i64 ttl, .int .i64 pr, .bool s6, .int .u64 sh, .int .u64 sl, .bool d6, .int .u64 dh, .int .u64 dl, .slice AO no co]] w fun e w' => e = .returned (.bool false) ∧ Below w.heap.size w w' := by
  have BOX := Lib.hid (Blk.new w 54 #[.int .i64 tos, .int .i64 id, .bool df, .bool mf, .int .i64 fr, .int .i64 ttl, .int .i64 pr, .bool s6, .int .u64 sh, .int .u64 sl, .bool d6, .int .u64 dh, .int .u64 dl, .slice AO no co])
  have HB0 := Lib.hid ((Below.refl w.heap.size w).alloc (Nat.le_refl _) (.cells #[.int .i64 tos, .int .i64 id, .bool df, .bool mf, .int .i64 fr, .int .i64 ttl, .int .i64 pr, .bool s6, .int .u64 sh, .int .u64 sl, .bool d6, .int .u64 dh, .int .u64 dl, .slice AO no co] 54))
  have q : decide (ttl ≤ 255) = false := decide_eq_false hn
  clear hn
  go_enter Try.func30, Try.ntmps30
  go_wp2_with fail
  go_ret
  exact ⟨rfl, HB0.out⟩
set_option maxRecDepth 100000 in
set_option maxHeartbeats 8000000 in
theorem lw_pr0 (tos id : Int) (df mf : Bool) (fr ttl pr : Int) (s6 : Bool) (sh : Int) (sl : Int) (d6 : Bool) (dh : Int) (dl : Int) (AO : Option Addr) (no co : Nat) (w : World) (c_tos0 : 0 ≤ tos) (c_tos1 : tos ≤ 255) (c_ttl0 : 0 ≤ ttl) (c_ttl1 : ttl ≤ 255) (hn : ¬ 0 ≤ pr) :
    Calls Try.prog 30 #[.agg #[.int .i64 tos, .int .i64 id, .bool df, .bool mf, .int .i64 fr, .int .i64 ttl, .int .i64 pr, .bool s6, .int .u64 sh, .int .u64 sl, .bool d6, .int .u64 dh, .int .u64 dl, .slice AO no co]] w fun e w' => e = .returned (.bool false) ∧ Below w.heap.size w w' := by
  have BOX := Lib.hid (Blk.new w 54 #[.int .i64 tos, .int .i64 id, .bool df, .bool mf, .int .i64 fr, .int .i64 ttl, .int .i64 pr, .bool s6, .int .u64 sh, .int .u64 sl, .bool d6, .int .u64 dh, .int .u64 dl, .slice AO no co])
  have HB0 := Lib.hid ((Below.refl w.heap.size w).alloc (Nat.le_refl _) (.cells #[.int .i64 tos, .int .i64 id, .bool df, .bool mf, .int .i64 fr, .int .i64 ttl, .int .i64 pr, .bool s6, .int .u64 sh, .int .u64 sl, .bool d6, .int .u64 dh, .int .u64 dl, .slice AO no co] 54))
  have q : decide (0 ≤ pr) = false := decide_eq_false hn
  clear hn
  go_enter Try.func30, Try.ntmps30
  go_wp2_with fail
  go_ret
  exact ⟨rfl, HB0.out⟩
end Go.Proofs.Ytgikoljnmmnkkaa.fourM
