/- Layer 8: what bytes that were put say. -/
import Derived.Test.YtgikoljnmmnkkaaFourG
namespace Go.Proofs.Ytgikoljnmmnkkaa.fourH
open Go.ChangeShapes Go.WideShapes Go.ChangeAt Go.RowKit
open Go.Proofs.Ytgikoljnmmnkkaa.base Go.Proofs.Ytgikoljnmmnkkaa.sumA Go.Proofs.Ytgikoljnmmnkkaa.sumB Go.Proofs.Ytgikoljnmmnkkaa.octA Go.Proofs.Ytgikoljnmmnkkaa.octB Go.Proofs.Ytgikoljnmmnkkaa.octC Go.Proofs.Ytgikoljnmmnkkaa.octD Go.Proofs.Ytgikoljnmmnkkaa.octE Go.Proofs.Ytgikoljnmmnkkaa.octF Go.Proofs.Ytgikoljnmmnkkaa.octK Go.Proofs.Ytgikoljnmmnkkaa.rdrA Go.Proofs.Ytgikoljnmmnkkaa.udpA Go.Proofs.Ytgikoljnmmnkkaa.tcpC Go.Proofs.Ytgikoljnmmnkkaa.net Go.Proofs.Ytgikoljnmmnkkaa.fourA Go.Proofs.Ytgikoljnmmnkkaa.fourB Go.Proofs.Ytgikoljnmmnkkaa.fourC Go.Proofs.Ytgikoljnmmnkkaa.fourD Go.Proofs.Ytgikoljnmmnkkaa.fourE Go.Proofs.Ytgikoljnmmnkkaa.fourF Go.Proofs.Ytgikoljnmmnkkaa.fourG
set_option linter.unusedVariables false

theorem flz_back (df mf : Bool) (fr : Int) (h0 : 0 ≤ fr) (h1 : fr ≤ 8191) : decide (flz df mf fr / 16384 % 2 = 1) = df ∧ decide (flz df mf fr / 8192 % 2 = 1) = mf ∧ flz df mf fr % 8192 = fr ∧ flz df mf fr < 32768 := by
  unfold flz
  cases df <;> cases mf <;> simp <;> omega
theorem wsum_hk (tos id fl ttl pr sl dl ck sz : Int) (os : List Int) (c0 : 0 ≤ ck) (c1 : ck ≤ 65535) : wsum (hk tos id fl ttl pr sl dl ck sz os) = wsum (hk tos id fl ttl pr sl dl 0 sz os) + ck := by
  unfold hk
  rw [wsum_app 10 _ os rfl, wsum_app 10 _ os rfl]
  simp only [wsum]
  omega
theorem hk_chk (tos id fl ttl pr sl dl sz : Int) (os : List Int) (hin : ∀ x ∈ hk tos id fl ttl pr sl dl 0 sz os, 0 ≤ x ∧ x ≤ 255) : fo (wsum (hk tos id fl ttl pr sl dl (65535 - fo (wsum (hk tos id fl ttl pr sl dl 0 sz os))) sz os)) = 65535 := by
  have s0 := (wsum_bd _ hin).1
  have b := fo_bd _ s0
  rw [wsum_hk _ _ _ _ _ _ _ _ _ _ (by omega) (by omega)]
  rcases fo_full _ s0 with h | h
  · exact h
  · rw [h]; simpa using h
theorem hk_says (tos id fl ttl pr sl dl ck sz : Int) (os t : List Int) (s : Nat) (hs : 20 + os.length = s) (h4 : s % 4 = 0) (h60 : s ≤ 60) (f0 : 0 ≤ fl) :
    (hk tos id fl ttl pr sl dl ck sz os ++ t).getD 0 0 / 16 = 4 ∧ hl (hk tos id fl ttl pr sl dl ck sz os ++ t) = (s : Int) ∧ w16 (hk tos id fl ttl pr sl dl ck sz os ++ t) 6 = fl ∧ w16 (hk tos id fl ttl pr sl dl ck sz os ++ t) 2 = sz ∧
      (hk tos id fl ttl pr sl dl ck sz os ++ t).take s = hk tos id fl ttl pr sl dl ck sz os ∧ (hk tos id fl ttl pr sl dl ck sz os ++ t).drop s = t ∧ (hk tos id fl ttl pr sl dl ck sz os).drop 20 = os := by
  have hlen : (hk tos id fl ttl pr sl dl ck sz os).length = s := by rw [hk_len, hs]
  refine ⟨?_, ?_, ?_, ?_, ?_, ?_, rfl⟩
  · show (64 + (20 + (os.length : Int)) / 4) / 16 = 4
    omega
  · show (64 + (20 + (os.length : Int)) / 4) % 16 * 4 = _
    omega
  · show fl / 256 * 256 + fl % 256 = fl
    omega
  · show sz / 256 * 256 + sz % 256 = sz
    omega
  · rw [List.take_append_of_le_length (by omega), List.take_of_length_le (by omega)]
  · rw [List.drop_append_of_le_length (by omega), List.drop_of_length_le (by omega), List.nil_append]
theorem hk_hd (tos id ttl pr sl dl ck sz : Int) (df mf : Bool) (fr : Int) (os t : List Int) (f0 : 0 ≤ fr) (f1 : fr ≤ 8191) (AO : Option Addr) (no co : Nat) :
    hd (hk tos id (flz df mf fr) ttl pr sl dl ck sz os ++ t) AO no co = .agg #[.int .i64 tos, .int .i64 id, .bool df, .bool mf, .int .i64 fr, .int .i64 ttl, .int .i64 pr, .bool false, .int .u64 0, .int .u64 sl, .bool false, .int .u64 0, .int .u64 dl, .slice AO no co] := by
  obtain ⟨a, b, c, _⟩ := flz_back df mf fr f0 f1
  have e6 : w16 (hk tos id (flz df mf fr) ttl pr sl dl ck sz os ++ t) 6 = flz df mf fr := by
    show flz df mf fr / 256 * 256 + flz df mf fr % 256 = _
    omega
  have e4 : w16 (hk tos id (flz df mf fr) ttl pr sl dl ck sz os ++ t) 4 = id := by
    show id / 256 * 256 + id % 256 = _
    omega
  have e12 : w32 (hk tos id (flz df mf fr) ttl pr sl dl ck sz os ++ t) 12 = sl := by
    show (sl / 65536 / 256 * 256 + sl / 65536 % 256) * 65536 + (sl % 65536 / 256 * 256 + sl % 65536 % 256) = _
    omega
  have e16 : w32 (hk tos id (flz df mf fr) ttl pr sl dl ck sz os ++ t) 16 = dl := by
    show (dl / 65536 / 256 * 256 + dl / 65536 % 256) * 65536 + (dl % 65536 / 256 * 256 + dl % 65536 % 256) = _
    omega
  unfold hd
  rw [e6, e4, e12, e16, a, b, c]
  rfl
theorem parse_both (b off n c s : Nat) (l : List Int) (w : World) (hl' : l.length = n) (hn : 20 ≤ n) (hn2 : n ≤ 1000) (hnc : n ≤ c) (hc : c ≤ 9223372036854775807) (hb : b < w.heap.size) (hs : Lies w b off l) (hx : ∀ x ∈ l, 0 ≤ x ∧ x ≤ 255)
    (h1 : l.getD 0 0 / 16 = 4) (h2 : 20 ≤ s) (h3 : s ≤ n) (hsz : hl l = (s : Int)) (hq : w16 l 6 < 32768) (a : Nat) (ha : w16 l 2 = (a : Int)) (ha1 : s ≤ a) (ha2 : a ≤ n) (hS : fo (wsum (l.take s)) = 65535) :
    Calls Try.prog 25 #[.slice (some ⟨b, off, none⟩) n c] w (OkPost w l ((l.drop s).take (a - s)) s (a - s)) := by
  by_cases hcs : c = s
  · exact parse_near b off n c s l w hl' hn hn2 hnc hc hb hs hx h1 h2 h3 hsz hq a ha ha1 ha2 hS hcs
  · exact parse_far b off n c s l w hl' hn hn2 hnc hc hb hs hx h1 h2 h3 hsz hq a ha ha1 ha2 hS hcs
theorem quote_both (b off n c s : Nat) (l : List Int) (w : World) (hl' : l.length = n) (hn : 20 ≤ n) (hn2 : n ≤ 1000) (hnc : n ≤ c) (hc : c ≤ 9223372036854775807) (hb : b < w.heap.size) (hs : Lies w b off l) (hx : ∀ x ∈ l, 0 ≤ x ∧ x ≤ 255)
    (h1 : l.getD 0 0 / 16 = 4) (h2 : 20 ≤ s) (h3 : s ≤ n) (hsz : hl l = (s : Int)) :
    Calls Try.prog 23 #[.slice (some ⟨b, off, none⟩) n c] w (OkPost w l (l.drop s) s (n - s)) := by
  by_cases hcs : c = s
  · exact quote_near b off n c s l w hl' hn hn2 hnc hc hb hs hx h1 h2 h3 hsz hcs
  · exact quote_far b off n c s l w hl' hn hn2 hnc hc hb hs hx h1 h2 h3 hsz hcs
/-- What a header that was put is read as. -/
def BackPost (w : World) (tos id : Int) (df mf : Bool) (fr ttl pr sl dl : Int) (no : Nat) (os pl : List Int) (e : Ending) (w' : World) : Prop :=
  ∃ AO co A2 c2, e = .returned (.tuple #[.agg #[.int .i64 tos, .int .i64 id, .bool df, .bool mf, .int .i64 fr, .int .i64 ttl, .int .i64 pr, .bool false, .int .u64 0, .int .u64 sl, .bool false, .int .u64 0, .int .u64 dl, .slice AO no co], .slice A2 pl.length c2, .int .i64 0]) ∧ Row w' w'.heap.size AO (os.map (.int .u8)) ∧ Row w' w'.heap.size A2 (pl.map (.int .u8)) ∧ Below w.heap.size w w'
theorem back_parse (g c N : Nat) (tos id : Int) (df mf : Bool) (fr ttl pr sl dl : Int) (no : Nat) (os pl more : List Int) (w : World) (hok : okF tos id fr ttl pr sl dl no) (hol : os.length = no) (hox : ∀ x ∈ os, 0 ≤ x ∧ x ≤ 255) (hpl : pl.length ≤ 300) (hpx : ∀ x ∈ pl, 0 ≤ x ∧ x ≤ 255) (hml : more.length ≤ 300) (hmx : ∀ x ∈ more, 0 ≤ x ∧ x ≤ 255) (ck : Int) (hck : 65535 - fo (wsum (hk tos id (flz df mf fr) ttl pr sl dl 0 (20 + no + (pl.length : Int)) os)) = ck)
    (hN : 20 + no + pl.length + more.length = N) (hnc : N ≤ c) (hc : c ≤ 9223372036854775807) (hg : g < w.heap.size) (hs : Lies w g 0 ((hk tos id (flz df mf fr) ttl pr sl dl ck (20 + no + (pl.length : Int)) os ++ pl) ++ more)) :
    Calls Try.prog 25 #[.slice (some ⟨g, 0, none⟩) N c] w (BackPost w tos id df mf fr ttl pr sl dl no os pl) := by
  obtain ⟨h1, h2, h3, h4, h5, h6, h7, h8, h9⟩ := hok
  have ff := flz_in df mf fr h3.1 h3.2
  have fb := flz_back df mf fr h3.1 h3.2
  have hin0 := hk_in tos id (flz df mf fr) ttl pr sl dl 0 (20 + no + (pl.length : Int)) os h1 h2 ff h4 h5 h6 h7 (by omega) (by omega) (by omega) hox
  have fbd := fo_bd _ (wsum_bd _ hin0).1
  have hin := hk_in tos id (flz df mf fr) ttl pr sl dl ck (20 + no + (pl.length : Int)) os h1 h2 ff h4 h5 h6 h7 (by omega) (by omega) (by omega) hox
  rw [List.append_assoc] at hs
  obtain ⟨s1, s2, s3, s4, s5, s6, s7⟩ := hk_says tos id (flz df mf fr) ttl pr sl dl ck (20 + no + (pl.length : Int)) os (pl ++ more) (20 + no) (by omega) (by omega) (by omega) ff.1
  refine (parse_both g 0 N c (20 + no) _ w ?_ (by omega) (by omega) hnc hc hg hs ?_ s1 (by omega) (by omega) s2 (by rw [s3]; exact fb.2.2.2) (20 + no + pl.length) (by rw [s4]; omega) (by omega) (by omega) ?_).mono ?_
  · rw [List.length_append, hk_len, hol, List.length_append]; omega
  · intro x hx
    rw [List.mem_append, List.mem_append] at hx
    rcases hx with hx | hx | hx
    · exact hin x hx
    · exact hpx x hx
    · exact hmx x hx
  · rw [s5, ← hck]
    exact hk_chk tos id (flz df mf fr) ttl pr sl dl _ os hin0
  · rintro e w' ⟨AO, co, v, rfl, hnn, ownO, ownR, hbel⟩
    rw [s5, s7, show 20 + no - 20 = no by omega] at ownO
    rw [s6, show 20 + no + pl.length - (20 + no) = pl.length by omega, List.take_append_of_le_length (Nat.le_refl _), List.take_length] at ownR
    obtain ⟨A2, c2, rfl⟩ := own_slice ownR
    rw [show 20 + no - 20 = no by omega, hk_hd tos id ttl pr sl dl ck _ df mf fr os _ h3.1 h3.2]
    exact ⟨AO, co, A2, c2, rfl, own_row ownO, own_row ownR, hbel⟩
theorem back_quote (g c N : Nat) (tos id : Int) (df mf : Bool) (fr ttl pr sl dl : Int) (no : Nat) (os pl : List Int) (w : World) (hok : okF tos id fr ttl pr sl dl no) (hol : os.length = no) (hox : ∀ x ∈ os, 0 ≤ x ∧ x ≤ 255) (hpl : pl.length ≤ 300) (hpx : ∀ x ∈ pl, 0 ≤ x ∧ x ≤ 255) (ck : Int) (c0 : 0 ≤ ck) (c1 : ck ≤ 65535)
    (hN : 20 + no + pl.length = N) (hnc : N ≤ c) (hc : c ≤ 9223372036854775807) (hg : g < w.heap.size) (hs : Lies w g 0 (hk tos id (flz df mf fr) ttl pr sl dl ck (20 + no + (pl.length : Int)) os ++ pl)) :
    Calls Try.prog 23 #[.slice (some ⟨g, 0, none⟩) N c] w (BackPost w tos id df mf fr ttl pr sl dl no os pl) := by
  obtain ⟨h1, h2, h3, h4, h5, h6, h7, h8, h9⟩ := hok
  have ff := flz_in df mf fr h3.1 h3.2
  have hin := hk_in tos id (flz df mf fr) ttl pr sl dl ck (20 + no + (pl.length : Int)) os h1 h2 ff h4 h5 h6 h7 ⟨c0, c1⟩ (by omega) (by omega) hox
  obtain ⟨s1, s2, s3, s4, s5, s6, s7⟩ := hk_says tos id (flz df mf fr) ttl pr sl dl ck (20 + no + (pl.length : Int)) os pl (20 + no) (by omega) (by omega) (by omega) ff.1
  refine (quote_both g 0 N c (20 + no) _ w ?_ (by omega) (by omega) hnc hc hg hs ?_ s1 (by omega) (by omega) s2).mono ?_
  · rw [List.length_append, hk_len, hol]; omega
  · intro x hx
    rw [List.mem_append] at hx
    rcases hx with hx | hx
    · exact hin x hx
    · exact hpx x hx
  · rintro e w' ⟨AO, co, v, rfl, hnn, ownO, ownR, hbel⟩
    rw [s5, s7, show 20 + no - 20 = no by omega] at ownO
    rw [s6, show N - (20 + no) = pl.length by omega] at ownR
    obtain ⟨A2, c2, rfl⟩ := own_slice ownR
    rw [show 20 + no - 20 = no by omega, hk_hd tos id ttl pr sl dl ck _ df mf fr os _ h3.1 h3.2]
    exact ⟨AO, co, A2, c2, rfl, own_row ownO, own_row ownR, hbel⟩
end Go.Proofs.Ytgikoljnmmnkkaa.fourH
