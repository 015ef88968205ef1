/- Layer 9: the law's chain. -/
import Derived.Test.YtndekicblbpkjaaSixG
namespace Go.Proofs.Ytndekicblbpkjaa.sixL
open Go.ChangeShapes Go.WideShapes Go.ChangeAt Go.RowKit
open Go.Proofs.Ytndekicblbpkjaa.base Go.Proofs.Ytndekicblbpkjaa.octA Go.Proofs.Ytndekicblbpkjaa.octB Go.Proofs.Ytndekicblbpkjaa.octC Go.Proofs.Ytndekicblbpkjaa.octF Go.Proofs.Ytndekicblbpkjaa.octK Go.Proofs.Ytndekicblbpkjaa.net Go.Proofs.Ytndekicblbpkjaa.rdrA Go.Proofs.Ytndekicblbpkjaa.rdrG Go.Proofs.Ytndekicblbpkjaa.sumA Go.Proofs.Ytndekicblbpkjaa.sumB Go.Proofs.Ytndekicblbpkjaa.udpA Go.Proofs.Ytndekicblbpkjaa.tcpC Go.Proofs.Ytndekicblbpkjaa.sixW Go.Proofs.Ytndekicblbpkjaa.sixM Go.Proofs.Ytndekicblbpkjaa.sixA Go.Proofs.Ytndekicblbpkjaa.sixB Go.Proofs.Ytndekicblbpkjaa.sixC Go.Proofs.Ytndekicblbpkjaa.sixD Go.Proofs.Ytndekicblbpkjaa.sixE Go.Proofs.Ytndekicblbpkjaa.sixF Go.Proofs.Ytndekicblbpkjaa.sixG
set_option linter.unusedVariables false

theorem slice_fr (b off n c s : Nat) (si : Int) (hsi : si = (s : Int)) (hs : s ≤ n) (hnc : n ≤ c) : ∃ AX : Option Addr,
    (∀ W : World, (Instr.slice 22 (.slice (some ⟨b, off, none⟩) n c) (some (.int .i64 si)) none none).run Try.prog W = .ok (.slice AX (n - s) (c - s)) W) ∧
    (∀ W : World, (Instr.sliceAt 22 (.slice (some ⟨b, off, none⟩) n c) (some (.int .i64 si)) none none).run Try.prog W = .ok (.slice AX (n - s) (c - s)) W) ∧ AX ≠ none ∧
    ∀ (w : World) (B : Nat) (l : List Int), b < B → l.length = n → Lies w b off l → Row w B AX ((l.drop s).map (.int .u8)) := by
  subst hsi
  have hu : Try.prog.underlying 22 = some (.slice (Try.prog.elem 22)) := by kernel_rfl
  have hz : ∀ W : World, (sizeOf (Try.prog.elem 22)).run Try.prog W = .ok 1 W := fun _ => by kernel_rfl
  have key : ∀ W : World, (Instr.slice 22 (.slice (some ⟨b, off, none⟩) n c) (some (.int .i64 (s : Int))) none none).run Try.prog W = .ok (.slice (if c = s then some ⟨b, off, none⟩ else some ⟨b, off + s, none⟩) (n - s) (c - s)) W := by
    intro W
    rw [run_slice_l W 22 (some ⟨b, off, none⟩) n c hu .i64 (s : Int) (by omega) (by omega), hz]
    simp only [Result.andThen, sliced, Int.toNat_natCast, Nat.mul_one, Option.map_some, Addr.add_lit]
  refine ⟨if c = s then some ⟨b, off, none⟩ else some ⟨b, off + s, none⟩, key, fun W => ?_, by split <;> (intro h; cases h), ?_⟩
  · rw [run_sliceAt_slice W 22 _ _ _ _ hu, key]
  · intro w B l hb hl hL
    by_cases e : c = s
    · have : l.drop s = [] := List.drop_eq_nil_of_le (by omega)
      rw [this]
      exact .inl rfl
    · rw [if_neg e]
      exact (hL.drop s).row hb
theorem slice_mid (b off n c s : Nat) (si : Int) (hsi : si = (s : Int)) (hs : 1 ≤ s) (hsc : s ≤ c) (hc : 1 < c) :
    (∀ W : World, (Instr.slice 22 (.slice (some ⟨b, off, none⟩) n c) (some (.int .i64 1)) (some (.int .i64 si)) none).run Try.prog W = .ok (.slice (some ⟨b, off + 1, none⟩) (s - 1) (c - 1)) W) ∧
    (∀ W : World, (Instr.sliceAt 22 (.slice (some ⟨b, off, none⟩) n c) (some (.int .i64 1)) (some (.int .i64 si)) none).run Try.prog W = .ok (.slice (some ⟨b, off + 1, none⟩) (s - 1) (c - 1)) W) := by
  subst hsi
  have hu : Try.prog.underlying 22 = some (.slice (Try.prog.elem 22)) := by kernel_rfl
  have hz : ∀ W : World, (sizeOf (Try.prog.elem 22)).run Try.prog W = .ok 1 W := fun _ => by kernel_rfl
  have key : ∀ W : World, (Instr.slice 22 (.slice (some ⟨b, off, none⟩) n c) (some (.int .i64 1)) (some (.int .i64 (s : Int))) none).run Try.prog W = .ok (.slice (some ⟨b, off + 1, none⟩) (s - 1) (c - 1)) W := by
    intro W
    rw [run_slice_lh W 22 (some ⟨b, off, none⟩) n c hu .i64 .i64 1 (s : Int) (by omega) (by omega) (by omega), hz]
    simp only [Result.andThen, sliced, Int.toNat_natCast, Nat.mul_one, Option.map_some, Addr.add_lit, show (1 : Int).toNat = 1 from rfl]
    rw [if_neg (by omega)]
  exact ⟨key, fun W => by rw [run_sliceAt_slice W 22 _ _ _ _ hu, key]⟩
theorem results_four {fn : Func} {t u v x : Tmp} (h : fn.results = #[.tmp t, .tmp u, .tmp v, .tmp x]) (tmps : Array Value) (w : World) :
    (results fn tmps).run Try.prog w = .ok (.tuple #[tmps.getD t undef, tmps.getD u undef, tmps.getD v undef, tmps.getD x undef]) w := by
  simp [results, h]
/-- Rows of extensions whose bytes lie elsewhere. -/
def OldX (w : World) (l : List Xt) : Prop := ∀ e ∈ l, Row w w.heap.size e.A (e.d.map (.int .u8)) ∧ e.d.length ≤ e.c ∧ e.c ≤ 9223372036854775807 ∧ U8 e.d ∧ (e.A = none → e.c = 0)
theorem rd_old {w : World} {B : Nat} {A : Option Addr} {n c : Nat} {l : List Xt} (h : w.ownsRow B 73 2 (.slice A n c) n (flatX l)) (hn : n = l.length) (hu : OldX w l) : RdX w A l := by
  subst hn
  refine ⟨?_, hu⟩
  rcases Nat.eq_zero_or_pos l.length with h0 | h0
  · exact .inl (List.eq_nil_of_length_eq_zero h0)
  · rcases h.2 with ⟨hv, h1⟩ | ⟨g, cap, cur, hv, hb, hg, h1, h2, h3, h4⟩
    · omega
    · injection hv with hA hn hc
      subst hA hc
      refine .inr ⟨g, 0, rfl, (Array.getElem?_eq_some_iff.1 hg).1, fun j hj i hi => ?_⟩
      rw [Nat.zero_add, h.cellAt (j * 2 + i) (by omega)]
      exact flatX_get l j hj i hi
theorem OldX.below {w w' : World} {l : List Xt} (h : OldX w l) (hb : Below w.heap.size w w') : OldX w' l := fun e he => by
  obtain ⟨h1, h2⟩ := h e he
  exact ⟨(h1.below hb).more hb.size, h2⟩
/-- What chain tells. -/
def ChnP (w : World) (res : Option (List XP × Int × List Int)) (o : Ending) (w' : World) : Prop := Below w.heap.size w w' ∧ match res with
  | none => o = .returned (.tuple #[.slice none 0 0, .int .i64 0, .slice none 0 0, .bool false])
  | some (ys, q, r) => ∃ Ax cx Ar cr, o = .returned (.tuple #[.slice Ax ys.length cx, .int .i64 q, .slice Ar r.length cr, .bool true]) ∧ Row w' w'.heap.size Ar (r.map (.int .u8)) ∧ r.length ≤ cr ∧ cr ≤ 9223372036854775807 ∧ (Ar = none → cr = 0)
/-- A round of chain. -/
structure ChSt (w : World) (p0 : Int) (l : List Int) (wr : World) (k : Nat) (p : Int) (xs : List Xt) (ys : List Int) (Ab : Option Addr) (n c : Nat) (Ax : Option Addr) (cx : Nat) : Prop where
  res : chn 9 [] p0 l = chn (9 - k) (xs.map Xt.re) p ys
  len : xs.length = k
  n : ys.length = n
  row : Row w w.heap.size Ab (ys.map (.int .u8))
  u8 : U8 ys
  nil : Ab = none → c = 0
  own : wr.ownsRow w.heap.size 73 2 (.slice Ax k cx) k (flatX xs)
  els : OldX w xs
  bel : Below w.heap.size w wr
set_option maxHeartbeats 8000000 in
set_option maxRecDepth 100000 in
theorem chain_any (p0 : Int) (A : Option Addr) (n0 c0 : Nat) (l : List Int) (w : World) (hp0 : 0 ≤ p0 ∧ p0 ≤ 255) (hl : l.length = n0) (hr : Row w w.heap.size A (l.map (.int .u8))) (hu : U8 l) (hn : n0 ≤ 1000) (hnc : n0 ≤ c0) (hc : c0 ≤ 9223372036854775807) (hnil : A = none → c0 = 0) :
    Calls Try.prog 15 #[.int .i64 p0, .slice A n0 c0] w (ChnP w (chn 9 [] p0 l)) := by
  obtain ⟨i0, hi0, hz0, hz1, hz2⟩ := info_parts info_ext
  have HI0 := Lib.hid hi0
  have HZ0 := Lib.hid hz0
  have HZ1 := Lib.hid hz1
  have HZ2 := Lib.hid hz2
  have HS0 := Lib.hid (show ChSt w p0 l w 0 p0 [] l A n0 c0 none 0 from ⟨rfl, rfl, hl, hr, hu, hnil, World.ownsRow_nil _ _ _ _, (fun e he => by cases he), Below.refl _ _⟩)
  have HNO := Lib.hid (show ∀ w', chn 9 [] p0 l = none → Below w.heap.size w w' → ChnP w (chn 9 [] p0 l) (.returned (.tuple #[.slice none 0 0, .int .i64 0, .slice none 0 0, .bool false])) w' from fun w' h1 h2 => ⟨h2, by rw [h1]⟩)
  have HYES := Lib.hid (show ∀ w' (xs : List XP) (k : Nat) q (r : List Int) Ax cx Ar nr cr, chn 9 [] p0 l = some (xs, q, r) → xs.length = k → r.length = nr → Row w' w'.heap.size Ar (r.map (.int .u8)) → nr ≤ cr → cr ≤ 9223372036854775807 → (Ar = none → cr = 0) → Below w.heap.size w w' → ChnP w (chn 9 [] p0 l) (.returned (.tuple #[.slice Ax k cx, .int .i64 q, .slice Ar nr cr, .bool true])) w' from fun w' xs k q r Ax cx Ar nr cr h1 h2 h3 h4 h5 h6 h7 h8 => ⟨h8, by
    subst h2 h3
    rw [h1]
    exact ⟨Ax, cx, Ar, cr, rfl, h4, h5, h6, h7⟩⟩)
  obtain ⟨PP, hPP⟩ : ∃ PP, PP = ChnP w (chn 9 [] p0 l) := ⟨_, rfl⟩
  rw [← hPP] at HNO HYES ⊢
  clear hi0 hz0 hz1 hz2 hl hr hu hnil hPP
  go_enter Try.func15, Try.ntmps15
  go_upto_region 3 with fail
  go_loopw [0, 1, 8, 9] (fun nx bv ov kv wr => ∃ (k : Nat) (p : Int) (xs : List Xt) (ys : List Int) (Ab : Option Addr) (n c : Nat) (Ax : Option Addr) (cx : Nat), k ≤ 8 ∧ kv = .int .i64 k ∧ nx = .int .i64 p ∧ (0 ≤ p ∧ p ≤ 255) ∧ bv = .slice Ab n c ∧ ov = .slice Ax k cx ∧ n ≤ 1000 ∧ n ≤ c ∧ c ≤ 9223372036854775807 ∧ Hid (ChSt w p0 l wr k p xs ys Ab n c Ax cx)) (fun _ _ _ k _ => 9 - (intOf k).toNat)
  case atStart => exact ⟨0, p0, [], l, A, n0, c0, none, 0, by omega, rfl, rfl, hp0, rfl, rfl, hn, hnc, hc, HS0⟩
  case round =>
    obtain ⟨k, p, xs, ys, Ab, n, c, Ax, cx, hk, rfl, rfl, hp9, rfl, rfl, hn9, hnc9, hc9, HS⟩ := hrel
    have IS := Lib.hid (fun V => lis_any p V)
    have t0 : decide ((k : Int) < 9) = true := decide_eq_true (by omega)
    have t0n : decide (k < 9) = true := decide_eq_true (by omega)
    have hke : 9 - k = (8 - k) + 1 := by omega
    cases hp : isX p with
    | false =>
      rw [hp] at IS
      have HD := Lib.hid (show chn 9 [] p0 l = some (xs.map Xt.re, p, ys) from by rw [HS.out.res, hke]; exact chn_done hp)
      clear hp hke
      go_wp2_with fail
      refine (IS.out _).mono ?_
      rintro o w' ⟨rfl, rfl⟩
      go_wp2_with fail
      refine (IS.out _).mono ?_
      rintro o w' ⟨rfl, rfl⟩
      go_wp2_with fail
      (try simp only [Exit.inBlock, Exit.then])
      refine bodyPost_ret (results_four rfl _ _) rfl ?_
      exact HYES.out _ _ _ _ _ _ _ _ _ _ HD.out (by rw [List.length_map]; exact HS.out.len) HS.out.n ((HS.out.row.below HS.out.bel).more HS.out.bel.size) hnc9 hc9 HS.out.nil HS.out.bel
    | true =>
      rw [hp] at IS
      have FR := Lib.hid (lfrag_any Ax k cx xs wr HS.out.len (rd_old HS.out.own HS.out.len.symm (HS.out.els.below HS.out.bel)) (by omega))
      go_wp2_with fail
      refine (IS.out _).mono ?_
      rintro o w' ⟨rfl, rfl⟩
      go_wp2_with fail
      refine FR.out.mono ?_
      rintro o w2 ⟨rfl, hb2⟩
      have BF := Lib.hid (HS.out.bel.trans (hb2.mono HS.out.bel.size))
      have BB := Lib.hid hb2
      obtain ⟨v, hv⟩ : ∃ v, v = lies (xs.map Xt.re) := ⟨_, rfl⟩
      have HV := Lib.hid hv
      have hv0 : 0 ≤ v ∧ v ≤ 65535 := by
        rw [hv]
        refine lies_in fun x hx => ?_
        rw [List.mem_map] at hx
        obtain ⟨e, he, rfl⟩ := hx
        exact (HS.out.els e he).2.2.2.1
      rw [← hv]
      clear hv hb2
      obtain ⟨u, hu⟩ : ∃ u, u = v / 8 := ⟨_, rfl⟩
      have HU := Lib.hid hu
      have hu0 : 0 ≤ u := by omega
      rw [← hu]
      clear hu
      by_cases h1 : 0 < u
      · have t1 : decide (0 < u) = true := decide_eq_true h1
        have HNONE : chn 9 [] p0 l = none := by rw [HS.out.res, hke]; exact chn_no hp (.inl (by rw [← HV.out, ← HU.out]; omega))
        clear h1 hke hp
        go_wp2_with fail
        (try simp only [Exit.inBlock, Exit.then])
        refine bodyPost_ret (results_four rfl _ _) rfl ?_
        exact HNO.out _ HNONE BF.out
      have t1 : decide (0 < u) = false := decide_eq_false h1
      have hz : lies (xs.map Xt.re) / 8 = 0 := by rw [← HV.out, ← HU.out]; omega
      by_cases h2 : k = 8
      · have t2 : ((k : Int) == 8) = true := by simp; omega
        have HNONE : chn 9 [] p0 l = none := by rw [HS.out.res, hke]; exact chn_no hp (.inr (.inl (by rw [List.length_map, HS.out.len]; exact h2)))
        clear h1 hke hp hz h2
        go_wp2_with fail
        (try simp only [Exit.inBlock, Exit.then])
        refine bodyPost_ret (results_four rfl _ _) rfl ?_
        exact HNO.out _ HNONE BF.out
      have t2 : ((k : Int) == 8) = false := by simp; omega
      have hk8 : k + 1 ≤ 8 := by omega
      by_cases h3 : n < 8
      · have t2b : decide ((n : Int) < 8) = true := decide_eq_true (by omega)
        have t2bn : decide (n < 8) = true := decide_eq_true h3
        have HNONE : chn 9 [] p0 l = none := by rw [HS.out.res, hke]; exact chn_no hp (.inr (.inr (.inl (by rw [HS.out.n]; exact h3))))
        clear h1 hke hp hz h2 h3
        go_wp2_with fail
        (try simp only [Exit.inBlock, Exit.then])
        refine bodyPost_ret (results_four rfl _ _) rfl ?_
        exact HNO.out _ HNONE BF.out
      have t2b : decide ((n : Int) < 8) = false := decide_eq_false (by omega)
      have t2bn : decide (n < 8) = false := decide_eq_false h3
      have hn8 : 8 ≤ n := by omega
      obtain ⟨b, off, hAb, hbl, hli⟩ := lies_of HS.out.row (by rw [HS.out.n]; omega)
      subst hAb
      have HLI := Lib.hid hli
      obtain ⟨s, hs⟩ : ∃ s, s = siz p ys := ⟨_, rfl⟩
      have hs9 : s ≤ 2048 := by rw [hs]; exact siz_le p HS.out.u8
      clear hli h3
      by_cases h4 : p = 0
      · have t5 : (p == 0) = true := by simpa using h4
        by_cases h5 : k = 0
        · have t6 : decide (0 < (k : Int)) = false := decide_eq_false (by omega)
          have t6n : decide (0 < k) = false := decide_eq_false (by omega)
          have HOK := Lib.hid (show ¬ (lies (xs.map Xt.re) / 8 ≠ 0 ∨ (xs.map Xt.re).length = 8 ∨ ys.length < 8 ∨ (p = 0 ∧ (xs.map Xt.re).length ≠ 0)) from by
            have := HS.out.len
            have := HS.out.n
            rw [List.length_map]
            omega)
          clear h1 hz h2 h4 h5
          by_cases h44 : p = 44
          · have t3 : (p != 44) = false := by simpa using h44
            have hsi : (8 : Int) = s := by rw [hs]; unfold siz; rw [if_pos h44]; rfl
            clear h44
            have h8s : 8 ≤ s := by rw [hs]; exact siz_8 p ys
            have t4 : decide ((n : Int) < 8) = false := decide_eq_false (by omega)
            have t4n : decide (n < 8) = false := decide_eq_false (by omega)
            have hsn : s ≤ n := by omega
            obtain ⟨AX, fr1, fr2, hax, hrow⟩ := slice_fr b off n c s 8 hsi hsn hnc9
            obtain ⟨mi1, mi2⟩ := slice_mid b off n c s 8 hsi (by omega) (by omega) (by omega)
            have HROW := Lib.hid (hrow w w.heap.size ys hbl HS.out.n HLI.out)
            have HAX := Lib.hid hax
            have HMR := Lib.hid (show Row w w.heap.size (some ⟨b, off + 1, none⟩) (((ys.take s).drop 1).map (.int .u8)) from ((HLI.out.take s).drop 1).row hbl)
            obtain ⟨dn, hdn⟩ : ∃ dn, dn = s - 1 := ⟨_, rfl⟩
            have HDN := Lib.hid (show ((ys.take s).drop 1).length = dn from by rw [List.length_drop, List.length_take, HS.out.n, hdn]; omega)
            obtain ⟨dc, hdc⟩ : ∃ dc, dc = c - 1 := ⟨_, rfl⟩
            obtain ⟨en, hen⟩ : ∃ en, en = n - s := ⟨_, rfl⟩
            obtain ⟨ec, hec⟩ : ∃ ec, ec = c - s := ⟨_, rfl⟩
            rw [← hdn, ← hdc] at mi1 mi2
            rw [← hen, ← hec] at fr1 fr2
            obtain ⟨xs2, hxs2⟩ : ∃ xs2, xs2 = xs ++ [Xt.mk p (some ⟨b, off + 1, none⟩) dc ((ys.take s).drop 1)] := ⟨_, rfl⟩
            have h0 := HS.out.u8.get 0
            obtain ⟨z, hz0⟩ : ∃ z, z = ys.getD 0 0 := ⟨_, rfl⟩
            rw [← hz0] at h0
            have wz : IntKind.i64.wrap z = z := IntWalk.i64_in _ (by omega)
            have HCH := Lib.hid (show chn 9 [] p0 l = chn (9 - (k + 1)) (xs2.map Xt.re) z (ys.drop s) from by
              rw [HS.out.res, hke, chn_next hp HOK.out (by rw [HS.out.n, ← hs]; exact hsn), ← hs, ← hz0, hxs2, List.map_append, show 9 - (k + 1) = 8 - k by omega]
              rfl)
            have HNX := Lib.hid (show ∀ (W : World) (Ay : Option Addr) (cy : Nat), W.ownsRow w.heap.size 73 2 (.slice Ay (k + 1) cy) (k + 1) (flatX xs ++ [.int .i64 p, .slice (some ⟨b, off + 1, none⟩) dn dc]) → Below w.heap.size w W → ChSt w p0 l W (k + 1) z xs2 (ys.drop s) AX en ec Ay cy from fun W Ay cy h1 h2 => by
              refine ⟨HCH.out, ?_, ?_, HROW.out, HS.out.u8.drop s, fun h => absurd h HAX.out, ?_, ?_, h2⟩
              · rw [hxs2, List.length_append, HS.out.len]; rfl
              · rw [List.length_drop, HS.out.n, hen]
              · rw [hxs2, flatX_snoc]
                show W.ownsRow _ _ _ _ _ (flatX xs ++ [.int .i64 p, .slice (some ⟨b, off + 1, none⟩) ((ys.take s).drop 1).length dc])
                rw [HDN.out]
                exact h1
              · intro e he
                rw [hxs2] at he
                rcases List.mem_append.mp he with h9 | h9
                · exact HS.out.els e h9
                · rw [List.mem_singleton.mp h9]
                  exact ⟨HMR.out, by show ((ys.take s).drop 1).length ≤ dc; rw [HDN.out]; omega, by show dc ≤ _; omega, (HS.out.u8.take s).drop 1, fun h => by cases h⟩)
            have he1 : en ≤ 1000 := by omega
            have he2 : en ≤ ec := by omega
            have he3 : ec ≤ 9223372036854775807 := by omega
            have OX2 := Lib.hid (own_below2 HS.out.own BB.out)
            obtain ⟨w5, hw5⟩ : ∃ w5, w5 = w2.alloc (.cells #[.int .i64 p, .slice (some ⟨b, off + 1, none⟩) dn dc] 73) := ⟨_, rfl⟩
            have E5 := Lib.hid hw5
            have BA5 := Lib.hid (show Below w2.heap.size w2 w5 from by rw [hw5]; exact (Below.refl _ _).alloc (Nat.le_refl _) _)
            have LIT : Blk w5 w2.heap.size 73 #[.int .i64 p, .slice (some ⟨b, off + 1, none⟩) dn dc] := by rw [hw5]; exact Blk.new w2 _ _
            have HNEWS := Lib.hid (show ∀ (i : Nat) (u : Value), ([.int .i64 p, .slice (some ⟨b, off + 1, none⟩) dn dc] : List Value)[i]? = some u → w5.cell? ((⟨w2.heap.size, 0, none⟩ : Addr).add i) = some u from by
              intro i u hu
              rw [Addr.add_lit, Nat.zero_add, LIT.cell i, ← hu, ← Array.getElem?_toList])
            have OX5 := Lib.hid (own_below2 OX2.out BA5.out)
            have B5 := Lib.hid (BF.out.trans (BA5.out.mono BF.out.size))
            have Z5 := Lib.hid (B5.out.size)
            have HMZ := Lib.hid (show ∀ W, Below w.heap.size w W → W.cell? ⟨b, off, none⟩ = some (.int .u8 z) from fun W hW => by
              rw [hz0]
              exact (hW.cell (p := ⟨b, off, none⟩) hbl).trans (HLI.out 0 (by have := HS.out.n; omega)))
            have Y1 := Lib.hid (show k + 1 ≤ maxLen by unfold maxLen; omega)
            have Y2 := Lib.hid (show (k + 1) * 32 ≤ 140737488355328 by omega)
            have wk : IntKind.i64.wrap ((k : Int) + 1) = (k : Int) + 1 := IntWalk.i64_in _ (by omega)
            clear hw5 LIT hz0 hxs2 hen hec hdn hdc hrow hax hs hke hp hsi h8s hsn
            go_upto_region 14 with (at_builtin; rw [← E5.out]; refine wpList_append_own _ rfl (.tmp 57) (.tmp 63) _ rfl w.heap.size 73 i0 _ 2 32 Try.underlying27 HI0.out HZ0.out HZ1.out HZ2.out rfl (by omega) (.slice Ax k cx) k (flatX xs) rfl OX5.out ⟨w2.heap.size, 0, none⟩ 1 1 [.int .i64 p, .slice (some ⟨b, off + 1, none⟩) dn dc] rfl rfl HNEWS.out (by simp [Value.oneCell']) Y1.out Y2.out Z5.out ?_; intro va wa owna ga _; have HBa := Lib.hid (B5.out.grown ga Z5.out (fun k hk => (OX5.out.lt k hk).1)); obtain ⟨Aa, ca, hva⟩ := own_sliceN owna; subst hva; have OWA := Lib.hid owna; clear owna ga)
            have mz : wa.cell? ⟨b, off, none⟩ = some (.int .u8 z) := HMZ.out _ HBa.out
            go_wp2_with fail
            go_roundw
            case rel => exact ⟨k + 1, z, xs2, ys.drop s, AX, en, ec, Aa, ca, hk8, by go_num, rfl, h0, rfl, rfl, he1, he2, he3, Lib.hid (HNX.out wa Aa ca OWA.out HBa.out)⟩
            case measure => simp [intOf]; omega
          · have t3 : (p != 44) = true := by simpa using h44
            have m1 : w2.cell? ⟨b, off + 1, none⟩ = some (.int .u8 (ys.getD 1 0)) := (BF.out.cell (p := ⟨b, off + 1, none⟩) hbl).trans (HLI.out 1 (by have := HS.out.n; omega))
            have hy := HS.out.u8.get 1
            obtain ⟨y, hye⟩ : ∃ y, y = ys.getD 1 0 := ⟨_, rfl⟩
            have hsi : 8 + 8 * y = (s : Int) := by rw [hs]; unfold siz; rw [if_neg h44, ← hye]; rw [← hye] at hy; omega
            rw [← hye] at m1 hy
            have w1 : IntKind.i64.wrap y = y := IntWalk.i64_in _ (by omega)
            have w3 : IntKind.i64.wrap (8 * y) = 8 * y := IntWalk.i64_in _ (by omega)
            have w4 : IntKind.i64.wrap (8 + 8 * y) = 8 + 8 * y := IntWalk.i64_in _ (by omega)
            clear h44 hye
            have h8s : 8 ≤ s := by rw [hs]; exact siz_8 p ys
            by_cases hns : n < s
            · have t4 : decide ((n : Int) < (8 + 8 * y)) = true := decide_eq_true (by omega)
              have t4n : decide (n < s) = true := decide_eq_true (by omega)
              have HNONE : chn 9 [] p0 l = none := by rw [HS.out.res, hke]; exact chn_short hp (by rw [HS.out.n, ← hs]; exact hns)
              clear hns hs hsi h8s
              go_wp2_with fail
              (try simp only [Exit.inBlock, Exit.then])
              refine bodyPost_ret (results_four rfl _ _) rfl ?_
              exact HNO.out _ HNONE BF.out
            have t4 : decide ((n : Int) < (8 + 8 * y)) = false := decide_eq_false (by omega)
            have t4n : decide (n < s) = false := decide_eq_false (by omega)
            have hsn : s ≤ n := by omega
            obtain ⟨AX, fr1, fr2, hax, hrow⟩ := slice_fr b off n c s (8 + 8 * y) hsi hsn hnc9
            obtain ⟨mi1, mi2⟩ := slice_mid b off n c s (8 + 8 * y) hsi (by omega) (by omega) (by omega)
            have HROW := Lib.hid (hrow w w.heap.size ys hbl HS.out.n HLI.out)
            have HAX := Lib.hid hax
            have HMR := Lib.hid (show Row w w.heap.size (some ⟨b, off + 1, none⟩) (((ys.take s).drop 1).map (.int .u8)) from ((HLI.out.take s).drop 1).row hbl)
            obtain ⟨dn, hdn⟩ : ∃ dn, dn = s - 1 := ⟨_, rfl⟩
            have HDN := Lib.hid (show ((ys.take s).drop 1).length = dn from by rw [List.length_drop, List.length_take, HS.out.n, hdn]; omega)
            obtain ⟨dc, hdc⟩ : ∃ dc, dc = c - 1 := ⟨_, rfl⟩
            obtain ⟨en, hen⟩ : ∃ en, en = n - s := ⟨_, rfl⟩
            obtain ⟨ec, hec⟩ : ∃ ec, ec = c - s := ⟨_, rfl⟩
            rw [← hdn, ← hdc] at mi1 mi2
            rw [← hen, ← hec] at fr1 fr2
            obtain ⟨xs2, hxs2⟩ : ∃ xs2, xs2 = xs ++ [Xt.mk p (some ⟨b, off + 1, none⟩) dc ((ys.take s).drop 1)] := ⟨_, rfl⟩
            have h0 := HS.out.u8.get 0
            obtain ⟨z, hz0⟩ : ∃ z, z = ys.getD 0 0 := ⟨_, rfl⟩
            rw [← hz0] at h0
            have wz : IntKind.i64.wrap z = z := IntWalk.i64_in _ (by omega)
            have HCH := Lib.hid (show chn 9 [] p0 l = chn (9 - (k + 1)) (xs2.map Xt.re) z (ys.drop s) from by
              rw [HS.out.res, hke, chn_next hp HOK.out (by rw [HS.out.n, ← hs]; exact hsn), ← hs, ← hz0, hxs2, List.map_append, show 9 - (k + 1) = 8 - k by omega]
              rfl)
            have HNX := Lib.hid (show ∀ (W : World) (Ay : Option Addr) (cy : Nat), W.ownsRow w.heap.size 73 2 (.slice Ay (k + 1) cy) (k + 1) (flatX xs ++ [.int .i64 p, .slice (some ⟨b, off + 1, none⟩) dn dc]) → Below w.heap.size w W → ChSt w p0 l W (k + 1) z xs2 (ys.drop s) AX en ec Ay cy from fun W Ay cy h1 h2 => by
              refine ⟨HCH.out, ?_, ?_, HROW.out, HS.out.u8.drop s, fun h => absurd h HAX.out, ?_, ?_, h2⟩
              · rw [hxs2, List.length_append, HS.out.len]; rfl
              · rw [List.length_drop, HS.out.n, hen]
              · rw [hxs2, flatX_snoc]
                show W.ownsRow _ _ _ _ _ (flatX xs ++ [.int .i64 p, .slice (some ⟨b, off + 1, none⟩) ((ys.take s).drop 1).length dc])
                rw [HDN.out]
                exact h1
              · intro e he
                rw [hxs2] at he
                rcases List.mem_append.mp he with h9 | h9
                · exact HS.out.els e h9
                · rw [List.mem_singleton.mp h9]
                  exact ⟨HMR.out, by show ((ys.take s).drop 1).length ≤ dc; rw [HDN.out]; omega, by show dc ≤ _; omega, (HS.out.u8.take s).drop 1, fun h => by cases h⟩)
            have he1 : en ≤ 1000 := by omega
            have he2 : en ≤ ec := by omega
            have he3 : ec ≤ 9223372036854775807 := by omega
            have OX2 := Lib.hid (own_below2 HS.out.own BB.out)
            obtain ⟨w5, hw5⟩ : ∃ w5, w5 = w2.alloc (.cells #[.int .i64 p, .slice (some ⟨b, off + 1, none⟩) dn dc] 73) := ⟨_, rfl⟩
            have E5 := Lib.hid hw5
            have BA5 := Lib.hid (show Below w2.heap.size w2 w5 from by rw [hw5]; exact (Below.refl _ _).alloc (Nat.le_refl _) _)
            have LIT : Blk w5 w2.heap.size 73 #[.int .i64 p, .slice (some ⟨b, off + 1, none⟩) dn dc] := by rw [hw5]; exact Blk.new w2 _ _
            have HNEWS := Lib.hid (show ∀ (i : Nat) (u : Value), ([.int .i64 p, .slice (some ⟨b, off + 1, none⟩) dn dc] : List Value)[i]? = some u → w5.cell? ((⟨w2.heap.size, 0, none⟩ : Addr).add i) = some u from by
              intro i u hu
              rw [Addr.add_lit, Nat.zero_add, LIT.cell i, ← hu, ← Array.getElem?_toList])
            have OX5 := Lib.hid (own_below2 OX2.out BA5.out)
            have B5 := Lib.hid (BF.out.trans (BA5.out.mono BF.out.size))
            have Z5 := Lib.hid (B5.out.size)
            have HMZ := Lib.hid (show ∀ W, Below w.heap.size w W → W.cell? ⟨b, off, none⟩ = some (.int .u8 z) from fun W hW => by
              rw [hz0]
              exact (hW.cell (p := ⟨b, off, none⟩) hbl).trans (HLI.out 0 (by have := HS.out.n; omega)))
            have Y1 := Lib.hid (show k + 1 ≤ maxLen by unfold maxLen; omega)
            have Y2 := Lib.hid (show (k + 1) * 32 ≤ 140737488355328 by omega)
            have wk : IntKind.i64.wrap ((k : Int) + 1) = (k : Int) + 1 := IntWalk.i64_in _ (by omega)
            clear hw5 LIT hz0 hxs2 hen hec hdn hdc hrow hax hs hke hp hsi h8s hsn
            go_upto_region 14 with (at_builtin; rw [← E5.out]; refine wpList_append_own _ rfl (.tmp 57) (.tmp 63) _ rfl w.heap.size 73 i0 _ 2 32 Try.underlying27 HI0.out HZ0.out HZ1.out HZ2.out rfl (by omega) (.slice Ax k cx) k (flatX xs) rfl OX5.out ⟨w2.heap.size, 0, none⟩ 1 1 [.int .i64 p, .slice (some ⟨b, off + 1, none⟩) dn dc] rfl rfl HNEWS.out (by simp [Value.oneCell']) Y1.out Y2.out Z5.out ?_; intro va wa owna ga _; have HBa := Lib.hid (B5.out.grown ga Z5.out (fun k hk => (OX5.out.lt k hk).1)); obtain ⟨Aa, ca, hva⟩ := own_sliceN owna; subst hva; have OWA := Lib.hid owna; clear owna ga)
            have mz : wa.cell? ⟨b, off, none⟩ = some (.int .u8 z) := HMZ.out _ HBa.out
            go_wp2_with fail
            go_roundw
            case rel => exact ⟨k + 1, z, xs2, ys.drop s, AX, en, ec, Aa, ca, hk8, by go_num, rfl, h0, rfl, rfl, he1, he2, he3, Lib.hid (HNX.out wa Aa ca OWA.out HBa.out)⟩
            case measure => simp [intOf]; omega
        · have t6 : decide (0 < (k : Int)) = true := decide_eq_true (by omega)
          have t6n : decide (0 < k) = true := decide_eq_true (by omega)
          have HNONE : chn 9 [] p0 l = none := by rw [HS.out.res, hke]; exact chn_no hp (.inr (.inr (.inr ⟨h4, by rw [List.length_map, HS.out.len]; exact h5⟩)))
          clear h1 hke hp hz h2 h4 h5 hs
          go_wp2_with fail
          (try simp only [Exit.inBlock, Exit.then])
          refine bodyPost_ret (results_four rfl _ _) rfl ?_
          exact HNO.out _ HNONE BF.out
      · have t5 : (p == 0) = false := by simpa using h4
        have HOK := Lib.hid (show ¬ (lies (xs.map Xt.re) / 8 ≠ 0 ∨ (xs.map Xt.re).length = 8 ∨ ys.length < 8 ∨ (p = 0 ∧ (xs.map Xt.re).length ≠ 0)) from by
          have := HS.out.len
          have := HS.out.n
          rw [List.length_map]
          omega)
        clear h1 hz h2 h4
        by_cases h44 : p = 44
        · have t3 : (p != 44) = false := by simpa using h44
          have hsi : (8 : Int) = s := by rw [hs]; unfold siz; rw [if_pos h44]; rfl
          clear h44
          have h8s : 8 ≤ s := by rw [hs]; exact siz_8 p ys
          have t4 : decide ((n : Int) < 8) = false := decide_eq_false (by omega)
          have t4n : decide (n < 8) = false := decide_eq_false (by omega)
          have hsn : s ≤ n := by omega
          obtain ⟨AX, fr1, fr2, hax, hrow⟩ := slice_fr b off n c s 8 hsi hsn hnc9
          obtain ⟨mi1, mi2⟩ := slice_mid b off n c s 8 hsi (by omega) (by omega) (by omega)
          have HROW := Lib.hid (hrow w w.heap.size ys hbl HS.out.n HLI.out)
          have HAX := Lib.hid hax
          have HMR := Lib.hid (show Row w w.heap.size (some ⟨b, off + 1, none⟩) (((ys.take s).drop 1).map (.int .u8)) from ((HLI.out.take s).drop 1).row hbl)
          obtain ⟨dn, hdn⟩ : ∃ dn, dn = s - 1 := ⟨_, rfl⟩
          have HDN := Lib.hid (show ((ys.take s).drop 1).length = dn from by rw [List.length_drop, List.length_take, HS.out.n, hdn]; omega)
          obtain ⟨dc, hdc⟩ : ∃ dc, dc = c - 1 := ⟨_, rfl⟩
          obtain ⟨en, hen⟩ : ∃ en, en = n - s := ⟨_, rfl⟩
          obtain ⟨ec, hec⟩ : ∃ ec, ec = c - s := ⟨_, rfl⟩
          rw [← hdn, ← hdc] at mi1 mi2
          rw [← hen, ← hec] at fr1 fr2
          obtain ⟨xs2, hxs2⟩ : ∃ xs2, xs2 = xs ++ [Xt.mk p (some ⟨b, off + 1, none⟩) dc ((ys.take s).drop 1)] := ⟨_, rfl⟩
          have h0 := HS.out.u8.get 0
          obtain ⟨z, hz0⟩ : ∃ z, z = ys.getD 0 0 := ⟨_, rfl⟩
          rw [← hz0] at h0
          have wz : IntKind.i64.wrap z = z := IntWalk.i64_in _ (by omega)
          have HCH := Lib.hid (show chn 9 [] p0 l = chn (9 - (k + 1)) (xs2.map Xt.re) z (ys.drop s) from by
            rw [HS.out.res, hke, chn_next hp HOK.out (by rw [HS.out.n, ← hs]; exact hsn), ← hs, ← hz0, hxs2, List.map_append, show 9 - (k + 1) = 8 - k by omega]
            rfl)
          have HNX := Lib.hid (show ∀ (W : World) (Ay : Option Addr) (cy : Nat), W.ownsRow w.heap.size 73 2 (.slice Ay (k + 1) cy) (k + 1) (flatX xs ++ [.int .i64 p, .slice (some ⟨b, off + 1, none⟩) dn dc]) → Below w.heap.size w W → ChSt w p0 l W (k + 1) z xs2 (ys.drop s) AX en ec Ay cy from fun W Ay cy h1 h2 => by
            refine ⟨HCH.out, ?_, ?_, HROW.out, HS.out.u8.drop s, fun h => absurd h HAX.out, ?_, ?_, h2⟩
            · rw [hxs2, List.length_append, HS.out.len]; rfl
            · rw [List.length_drop, HS.out.n, hen]
            · rw [hxs2, flatX_snoc]
              show W.ownsRow _ _ _ _ _ (flatX xs ++ [.int .i64 p, .slice (some ⟨b, off + 1, none⟩) ((ys.take s).drop 1).length dc])
              rw [HDN.out]
              exact h1
            · intro e he
              rw [hxs2] at he
              rcases List.mem_append.mp he with h9 | h9
              · exact HS.out.els e h9
              · rw [List.mem_singleton.mp h9]
                exact ⟨HMR.out, by show ((ys.take s).drop 1).length ≤ dc; rw [HDN.out]; omega, by show dc ≤ _; omega, (HS.out.u8.take s).drop 1, fun h => by cases h⟩)
          have he1 : en ≤ 1000 := by omega
          have he2 : en ≤ ec := by omega
          have he3 : ec ≤ 9223372036854775807 := by omega
          have OX2 := Lib.hid (own_below2 HS.out.own BB.out)
          obtain ⟨w5, hw5⟩ : ∃ w5, w5 = w2.alloc (.cells #[.int .i64 p, .slice (some ⟨b, off + 1, none⟩) dn dc] 73) := ⟨_, rfl⟩
          have E5 := Lib.hid hw5
          have BA5 := Lib.hid (show Below w2.heap.size w2 w5 from by rw [hw5]; exact (Below.refl _ _).alloc (Nat.le_refl _) _)
          have LIT : Blk w5 w2.heap.size 73 #[.int .i64 p, .slice (some ⟨b, off + 1, none⟩) dn dc] := by rw [hw5]; exact Blk.new w2 _ _
          have HNEWS := Lib.hid (show ∀ (i : Nat) (u : Value), ([.int .i64 p, .slice (some ⟨b, off + 1, none⟩) dn dc] : List Value)[i]? = some u → w5.cell? ((⟨w2.heap.size, 0, none⟩ : Addr).add i) = some u from by
            intro i u hu
            rw [Addr.add_lit, Nat.zero_add, LIT.cell i, ← hu, ← Array.getElem?_toList])
          have OX5 := Lib.hid (own_below2 OX2.out BA5.out)
          have B5 := Lib.hid (BF.out.trans (BA5.out.mono BF.out.size))
          have Z5 := Lib.hid (B5.out.size)
          have HMZ := Lib.hid (show ∀ W, Below w.heap.size w W → W.cell? ⟨b, off, none⟩ = some (.int .u8 z) from fun W hW => by
            rw [hz0]
            exact (hW.cell (p := ⟨b, off, none⟩) hbl).trans (HLI.out 0 (by have := HS.out.n; omega)))
          have Y1 := Lib.hid (show k + 1 ≤ maxLen by unfold maxLen; omega)
          have Y2 := Lib.hid (show (k + 1) * 32 ≤ 140737488355328 by omega)
          have wk : IntKind.i64.wrap ((k : Int) + 1) = (k : Int) + 1 := IntWalk.i64_in _ (by omega)
          clear hw5 LIT hz0 hxs2 hen hec hdn hdc hrow hax hs hke hp hsi h8s hsn
          go_upto_region 14 with (at_builtin; rw [← E5.out]; refine wpList_append_own _ rfl (.tmp 57) (.tmp 63) _ rfl w.heap.size 73 i0 _ 2 32 Try.underlying27 HI0.out HZ0.out HZ1.out HZ2.out rfl (by omega) (.slice Ax k cx) k (flatX xs) rfl OX5.out ⟨w2.heap.size, 0, none⟩ 1 1 [.int .i64 p, .slice (some ⟨b, off + 1, none⟩) dn dc] rfl rfl HNEWS.out (by simp [Value.oneCell']) Y1.out Y2.out Z5.out ?_; intro va wa owna ga _; have HBa := Lib.hid (B5.out.grown ga Z5.out (fun k hk => (OX5.out.lt k hk).1)); obtain ⟨Aa, ca, hva⟩ := own_sliceN owna; subst hva; have OWA := Lib.hid owna; clear owna ga)
          have mz : wa.cell? ⟨b, off, none⟩ = some (.int .u8 z) := HMZ.out _ HBa.out
          go_wp2_with fail
          go_roundw
          case rel => exact ⟨k + 1, z, xs2, ys.drop s, AX, en, ec, Aa, ca, hk8, by go_num, rfl, h0, rfl, rfl, he1, he2, he3, Lib.hid (HNX.out wa Aa ca OWA.out HBa.out)⟩
          case measure => simp [intOf]; omega
        · have t3 : (p != 44) = true := by simpa using h44
          have m1 : w2.cell? ⟨b, off + 1, none⟩ = some (.int .u8 (ys.getD 1 0)) := (BF.out.cell (p := ⟨b, off + 1, none⟩) hbl).trans (HLI.out 1 (by have := HS.out.n; omega))
          have hy := HS.out.u8.get 1
          obtain ⟨y, hye⟩ : ∃ y, y = ys.getD 1 0 := ⟨_, rfl⟩
          have hsi : 8 + 8 * y = (s : Int) := by rw [hs]; unfold siz; rw [if_neg h44, ← hye]; rw [← hye] at hy; omega
          rw [← hye] at m1 hy
          have w1 : IntKind.i64.wrap y = y := IntWalk.i64_in _ (by omega)
          have w3 : IntKind.i64.wrap (8 * y) = 8 * y := IntWalk.i64_in _ (by omega)
          have w4 : IntKind.i64.wrap (8 + 8 * y) = 8 + 8 * y := IntWalk.i64_in _ (by omega)
          clear h44 hye
          have h8s : 8 ≤ s := by rw [hs]; exact siz_8 p ys
          by_cases hns : n < s
          · have t4 : decide ((n : Int) < (8 + 8 * y)) = true := decide_eq_true (by omega)
            have t4n : decide (n < s) = true := decide_eq_true (by omega)
            have HNONE : chn 9 [] p0 l = none := by rw [HS.out.res, hke]; exact chn_short hp (by rw [HS.out.n, ← hs]; exact hns)
            clear hns hs hsi h8s
            go_wp2_with fail
            (try simp only [Exit.inBlock, Exit.then])
            refine bodyPost_ret (results_four rfl _ _) rfl ?_
            exact HNO.out _ HNONE BF.out
          have t4 : decide ((n : Int) < (8 + 8 * y)) = false := decide_eq_false (by omega)
          have t4n : decide (n < s) = false := decide_eq_false (by omega)
          have hsn : s ≤ n := by omega
          obtain ⟨AX, fr1, fr2, hax, hrow⟩ := slice_fr b off n c s (8 + 8 * y) hsi hsn hnc9
          obtain ⟨mi1, mi2⟩ := slice_mid b off n c s (8 + 8 * y) hsi (by omega) (by omega) (by omega)
          have HROW := Lib.hid (hrow w w.heap.size ys hbl HS.out.n HLI.out)
          have HAX := Lib.hid hax
          have HMR := Lib.hid (show Row w w.heap.size (some ⟨b, off + 1, none⟩) (((ys.take s).drop 1).map (.int .u8)) from ((HLI.out.take s).drop 1).row hbl)
          obtain ⟨dn, hdn⟩ : ∃ dn, dn = s - 1 := ⟨_, rfl⟩
          have HDN := Lib.hid (show ((ys.take s).drop 1).length = dn from by rw [List.length_drop, List.length_take, HS.out.n, hdn]; omega)
          obtain ⟨dc, hdc⟩ : ∃ dc, dc = c - 1 := ⟨_, rfl⟩
          obtain ⟨en, hen⟩ : ∃ en, en = n - s := ⟨_, rfl⟩
          obtain ⟨ec, hec⟩ : ∃ ec, ec = c - s := ⟨_, rfl⟩
          rw [← hdn, ← hdc] at mi1 mi2
          rw [← hen, ← hec] at fr1 fr2
          obtain ⟨xs2, hxs2⟩ : ∃ xs2, xs2 = xs ++ [Xt.mk p (some ⟨b, off + 1, none⟩) dc ((ys.take s).drop 1)] := ⟨_, rfl⟩
          have h0 := HS.out.u8.get 0
          obtain ⟨z, hz0⟩ : ∃ z, z = ys.getD 0 0 := ⟨_, rfl⟩
          rw [← hz0] at h0
          have wz : IntKind.i64.wrap z = z := IntWalk.i64_in _ (by omega)
          have HCH := Lib.hid (show chn 9 [] p0 l = chn (9 - (k + 1)) (xs2.map Xt.re) z (ys.drop s) from by
            rw [HS.out.res, hke, chn_next hp HOK.out (by rw [HS.out.n, ← hs]; exact hsn), ← hs, ← hz0, hxs2, List.map_append, show 9 - (k + 1) = 8 - k by omega]
            rfl)
          have HNX := Lib.hid (show ∀ (W : World) (Ay : Option Addr) (cy : Nat), W.ownsRow w.heap.size 73 2 (.slice Ay (k + 1) cy) (k + 1) (flatX xs ++ [.int .i64 p, .slice (some ⟨b, off + 1, none⟩) dn dc]) → Below w.heap.size w W → ChSt w p0 l W (k + 1) z xs2 (ys.drop s) AX en ec Ay cy from fun W Ay cy h1 h2 => by
            refine ⟨HCH.out, ?_, ?_, HROW.out, HS.out.u8.drop s, fun h => absurd h HAX.out, ?_, ?_, h2⟩
            · rw [hxs2, List.length_append, HS.out.len]; rfl
            · rw [List.length_drop, HS.out.n, hen]
            · rw [hxs2, flatX_snoc]
              show W.ownsRow _ _ _ _ _ (flatX xs ++ [.int .i64 p, .slice (some ⟨b, off + 1, none⟩) ((ys.take s).drop 1).length dc])
              rw [HDN.out]
              exact h1
            · intro e he
              rw [hxs2] at he
              rcases List.mem_append.mp he with h9 | h9
              · exact HS.out.els e h9
              · rw [List.mem_singleton.mp h9]
                exact ⟨HMR.out, by show ((ys.take s).drop 1).length ≤ dc; rw [HDN.out]; omega, by show dc ≤ _; omega, (HS.out.u8.take s).drop 1, fun h => by cases h⟩)
          have he1 : en ≤ 1000 := by omega
          have he2 : en ≤ ec := by omega
          have he3 : ec ≤ 9223372036854775807 := by omega
          have OX2 := Lib.hid (own_below2 HS.out.own BB.out)
          obtain ⟨w5, hw5⟩ : ∃ w5, w5 = w2.alloc (.cells #[.int .i64 p, .slice (some ⟨b, off + 1, none⟩) dn dc] 73) := ⟨_, rfl⟩
          have E5 := Lib.hid hw5
          have BA5 := Lib.hid (show Below w2.heap.size w2 w5 from by rw [hw5]; exact (Below.refl _ _).alloc (Nat.le_refl _) _)
          have LIT : Blk w5 w2.heap.size 73 #[.int .i64 p, .slice (some ⟨b, off + 1, none⟩) dn dc] := by rw [hw5]; exact Blk.new w2 _ _
          have HNEWS := Lib.hid (show ∀ (i : Nat) (u : Value), ([.int .i64 p, .slice (some ⟨b, off + 1, none⟩) dn dc] : List Value)[i]? = some u → w5.cell? ((⟨w2.heap.size, 0, none⟩ : Addr).add i) = some u from by
            intro i u hu
            rw [Addr.add_lit, Nat.zero_add, LIT.cell i, ← hu, ← Array.getElem?_toList])
          have OX5 := Lib.hid (own_below2 OX2.out BA5.out)
          have B5 := Lib.hid (BF.out.trans (BA5.out.mono BF.out.size))
          have Z5 := Lib.hid (B5.out.size)
          have HMZ := Lib.hid (show ∀ W, Below w.heap.size w W → W.cell? ⟨b, off, none⟩ = some (.int .u8 z) from fun W hW => by
            rw [hz0]
            exact (hW.cell (p := ⟨b, off, none⟩) hbl).trans (HLI.out 0 (by have := HS.out.n; omega)))
          have Y1 := Lib.hid (show k + 1 ≤ maxLen by unfold maxLen; omega)
          have Y2 := Lib.hid (show (k + 1) * 32 ≤ 140737488355328 by omega)
          have wk : IntKind.i64.wrap ((k : Int) + 1) = (k : Int) + 1 := IntWalk.i64_in _ (by omega)
          clear hw5 LIT hz0 hxs2 hen hec hdn hdc hrow hax hs hke hp hsi h8s hsn
          go_upto_region 14 with (at_builtin; rw [← E5.out]; refine wpList_append_own _ rfl (.tmp 57) (.tmp 63) _ rfl w.heap.size 73 i0 _ 2 32 Try.underlying27 HI0.out HZ0.out HZ1.out HZ2.out rfl (by omega) (.slice Ax k cx) k (flatX xs) rfl OX5.out ⟨w2.heap.size, 0, none⟩ 1 1 [.int .i64 p, .slice (some ⟨b, off + 1, none⟩) dn dc] rfl rfl HNEWS.out (by simp [Value.oneCell']) Y1.out Y2.out Z5.out ?_; intro va wa owna ga _; have HBa := Lib.hid (B5.out.grown ga Z5.out (fun k hk => (OX5.out.lt k hk).1)); obtain ⟨Aa, ca, hva⟩ := own_sliceN owna; subst hva; have OWA := Lib.hid owna; clear owna ga)
          have mz : wa.cell? ⟨b, off, none⟩ = some (.int .u8 z) := HMZ.out _ HBa.out
          go_wp2_with fail
          go_roundw
          case rel => exact ⟨k + 1, z, xs2, ys.drop s, AX, en, ec, Aa, ca, hk8, by go_num, rfl, h0, rfl, rfl, he1, he2, he3, Lib.hid (HNX.out wa Aa ca OWA.out HBa.out)⟩
          case measure => simp [intOf]; omega
end Go.Proofs.Ytndekicblbpkjaa.sixL
