/-
  What is proved: for every two texts and every byte, the law EscapeQuotes returns true and leaves its arguments as they were. No condition.
-/
import Derived.Test.YtndnakligoagaaaBase
import Derived.Test.YtndnakligoagaaaPUnq
import Derived.Test.YtndnakligoagaaaPQuote
namespace Go.Proofs.Ytndnakligoagaaa.escapeQuotes
open Go.ChangeShapes Go.WideShapes Go.ChangeAt Go.RowKit Go.Deep
set_option linter.unusedVariables false

/-- The byte that texts stand between. -/
def quoteB (q : Nat) : Nat := if classT q = 4 ∧ q ≠ 92 then q else 34
theorem quoteB_ok : ∀ q, q < 256 → quoteB q < 256 ∧ quoteB q ≠ 92 ∧ isPrint (quoteB q) = true ∧ isWord (quoteB q) = false := by decide +kernel
theorem nums_append (a b : ByteArray) : numsOf (a ++ b) = numsOf a ++ numsOf b := by
  unfold numsOf
  rw [ByteArray.data_append, Array.toList_append, List.map_append]
theorem quoteT_lt (s : ByteArray) (q : Nat) (hq : q < 256) : ∀ n ∈ quoteT s q, n < 256 := by
  intro n hn
  simp [quoteT] at hn
  rcases hn with h | h | h
  · omega
  · exact quoteUp_lt s q s.size n h
  · omega
theorem quoteT_len (s : ByteArray) (q : Nat) : (quoteT s q).length ≤ 4 * s.size + 2 := by
  have := quoteUp_len s q s.size
  simp [quoteT]; omega

set_option maxHeartbeats 1000000 in
theorem quoteB_any (q : Nat) (hq : q < 256) (w : World) :
    Calls Try.prog 11 #[.int .u8 q] w fun e w' => e = .returned (.int .u8 ((quoteB q : Nat) : Int)) ∧ w = w' := by
  have HB : Hid (quoteB q = if classT q = 4 ∧ q ≠ 92 then q else 34) := rfl
  go_enter Try.func11, Try.ntmps11
  go_wp2_with fail
  refine (rclass_any q hq _).mono ?_
  rintro e w1 ⟨rfl, rfl⟩
  generalize classT q = k at HB ⊢
  by_cases h4 : k = 4
  · subst h4
    by_cases h92 : q = 92
    · have e1 : ((q : Int) != 92) = false := by simp; omega
      have HZ : Hid (quoteB q = 34) := by show _ = _; rw [HB.out, if_neg (fun h => h.2 h92)]
      clear h92
      go_wp2_with fail
      go_ret
      exact ⟨by rw [HZ.out]; rfl, rfl⟩
    · have e1 : ((q : Int) != 92) = true := by simp; omega
      have HZ : Hid (quoteB q = q) := by show _ = _; rw [HB.out, if_pos ⟨rfl, h92⟩]
      clear h92
      go_wp2_with fail
      go_ret
      exact ⟨by rw [HZ.out]; rfl, rfl⟩
  · have e1 : ((k : Int) == 4) = false := by simp; omega
    have HZ : Hid (quoteB q = 34) := by show _ = _; rw [HB.out, if_neg (fun h => h4 h.1)]
    clear h4
    go_wp2_with fail
    go_ret
    exact ⟨by rw [HZ.out]; rfl, rfl⟩

set_option maxHeartbeats 4000000 in
set_option maxRecDepth 100000 in
theorem law (s t : ByteArray) (q : Nat) (hq : q < 256) (w : World) (hs : s.size ≤ maxLen) (ht : t.size ≤ maxLen) :
    Calls Try.prog 4 #[.string s, .string t, .int .u8 q] w fun e w' => e = .returned (.bool true) ∧ Below w.heap.size w w' := by
  unfold maxLen at hs ht
  go_enter Try.func4, Try.ntmps4
  go_wp2_with fail
  refine (awake_any _).mono ?_
  rintro e w1 ⟨rfl, b1⟩
  have hb1 := b1.size
  by_cases ho2 : 300 < s.size
  · go_wp2_with fail
    go_ret
    exact ⟨rfl, b1⟩
  by_cases hs2 : 300 < t.size
  · go_wp2_with fail
    go_ret
    exact ⟨rfl, b1⟩
  have HQ := Lib.hid (quoteB_ok q hq)
  go_wp2_with fail
  refine (quoteB_any q hq _).mono ?_
  rintro e w2 ⟨rfl, rfl⟩
  generalize quoteB q = c at HQ ⊢
  have hc : c < 256 := HQ.out.1
  have HU := Lib.hid (unq_quote c HQ.out.2.1 HQ.out.2.2 s (numsOf t))
  have hz := quoteT_len s c
  have hz1 : (strOf (quoteT s c)).size ≤ 1202 := by rw [strOf_size]; omega
  have HL := Lib.hid (strOf_size (quoteT s c))
  have HN : Hid (unq c (numsOf (strOf (quoteT s c) ++ t)) = (numsOf s, (quoteT s c).length, true)) := by
    show _ = _
    rw [nums_append, nums_str _ (quoteT_lt s c hc), HU.out]
  have HZ : Hid ((strOf (quoteT s c) ++ t).size ≤ 1000000) := by
    show _ ≤ _
    rw [ByteArray.size_append]; omega
  have HS := Lib.hid (strOf_nums s)
  rcases hr : unq c (numsOf t) with ⟨r1, r2, r3⟩
  have HR := Lib.hid hr
  clear hr hz HU
  go_wp2_with fail
  refine (quote_any s c hc _ (by omega)).mono ?_
  rintro e w2 ⟨rfl, b2⟩
  have hb2 := b1.trans (b2.mono hb1)
  clear b2
  go_wp2_with fail
  refine (unq_any _ c HZ.out _).mono ?_
  rintro e w3 ⟨rfl, b3⟩
  rw [HN.out, uqV_mk, HS.out]
  have hb3 := hb2.trans (b3.mono hb2.size)
  clear b3
  go_wp2_with fail
  refine (unq_any t c (by omega) _).mono ?_
  rintro e w4 ⟨rfl, b4⟩
  rw [HR.out, uqV_mk]
  have hb4 := hb3.trans (b4.mono hb3.size)
  clear b4
  go_wp2_with fail
  refine (runq_any t c (by omega) _).mono ?_
  rintro e w5 ⟨rfl, b5⟩
  rw [HR.out, uqV_mk]
  have hb5 := hb4.trans (b5.mono hb4.size)
  clear b5
  go_wp2_with fail
  refine (rquote_any s c hc _ (by omega)).mono ?_
  rintro e w6 ⟨rfl, b6⟩
  have hb6 := hb5.trans (b6.mono hb5.size)
  clear b6
  have hl := HL.out
  go_wp2_with fail
  go_ret
  exact ⟨rfl, hb6⟩

theorem walk (s t : ByteArray) (x : Int) (w : World) (w2 : s.size ≤ maxLen) (w3 : t.size ≤ maxLen) (w1 : (Lit.int .u8 x).wf = true) :
    Calls Try.prog 4 #[.string s, .string t, .int .u8 x] w fun e w' => e = .returned (.bool true) ∧ Below w.heap.size w w' := by
  have h1 := bounds_u8 w1
  obtain ⟨m, rfl⟩ := Int.eq_ofNat_of_zero_le h1.1
  exact law s t m (by omega) w w2 w3

set_option maxRecDepth 100000 in
theorem lifted (os : Os) (started : os.Started) (H : Type) (enc : TypeId × Value → H) :
    ReturnsInHanded {} Try.checked os 4 .any (Rows.escapeQuotesSpec.pre6 enc Try.prog Try.f4 Rows.escapeQuotesRow.domain false) (Rows.escapeQuotesSpec.post enc Try.prog Try.f4 false true false false) := by
  refine returnsInHanded_of_change (C := Try.checked) own started (by kernel_rfl) Try.func4
    (ChangeSpec.witness6 (enc := enc) (C := Try.checked) false ⟨#[], #[.string ⟨#[]⟩, .string ⟨#[]⟩, .int .u8 0], []⟩ 8 (by kernel_rfl) (by kernel_rfl) (by kernel_rfl) (by kernel_rfl)) ?_
  intro W base args ds gs before hval0 hW hcnd _
  have hval : ∀ (j : Nat) t v, Try.f4.params[j]? = some t → args[j]? = some v → Value.okWide Try.prog W .any base t v := hval0
  have hW' := hW
  obtain ⟨p, q, hA0, hV, rfl, hfz, hnd⟩ := hW
  have hA : DataW.TrodAll enc Try.prog W 0 (fun _ => true) true Try.f4.params.toList args.toList ds p := hA0
  rw [Try.params4] at hA hval
  obtain ⟨v0, vs0, d0, ds0, p0, q0, hargs, rfl, rfl, h0, r0⟩ := trodAll_cons hA
  obtain ⟨v1, vs1, d1, ds1, p1, q1, rfl, rfl, rfl, h1, r1⟩ := trodAll_cons r0
  obtain ⟨v2, vs2, d2, ds2, p2, q2, rfl, rfl, rfl, h2, r2⟩ := trodAll_cons r1
  obtain ⟨rfl, rfl, rfl⟩ := trodAll_nil r2
  obtain rfl : args = #[v0, v1, v2] := by cases args; simp_all
  obtain ⟨rfl, rfl⟩ := trodVars_none hV
  obtain ⟨s0, rfl, rfl, rfl, w0⟩ := Go.ChangeMaps.open_string Try.underlying9 (hval 0 9 v0 rfl rfl) h0
  obtain ⟨s1, rfl, rfl, rfl, w1⟩ := Go.ChangeMaps.open_string Try.underlying9 (hval 1 9 v1 rfl rfl) h1
  obtain ⟨a2, rfl, rfl, rfl, w2⟩ := open_int Try.underlying5 (hval 2 5 v2 rfl rfl) h2
  clear hA0 hval0
  refine (walk s0 s1 a2 W w0 w1 w2).mono fun e W' ⟨he, bel⟩ => ?_
  subst he
  exact ⟨_, rfl, _, _, _, [], _, [], hW', trodAll_mk1 (shut_bool Try.underlying4 _), (trodAll_cons_mk (Go.ChangeMaps.shut_string Try.underlying9 w0) (trodAll_cons_mk (Go.ChangeMaps.shut_string Try.underlying9 w1) (trodAll_cons_mk (shut_int Try.underlying5 w2) trodAll_mk0))), rfl, bel.frame _, fun h => by cases h⟩

theorem over : Rows.escapeQuotesRow.holds Try.pinned (OpenSpec.ofChange Rows.escapeQuotesSpec) :=
  OpenClaim.holds_of_wide 4 Try.f4 rfl rfl rfl rfl rfl rfl rfl ⟨rfl, rfl, rfl, rfl, rfl⟩ rfl rfl rfl rfl rfl (by kernel_rfl) Try.func4 (by kernel_rfl)
    (of_decide_eq_true (by kernel_rfl)) (by unfold Func.isWrapper; first | (rw [if_pos (by decide +kernel)]; kernel_rfl) | (rw [if_neg (by decide +kernel)]; exact ⟨rfl, rfl⟩))
    (fun os started H enc _ => lifted os started H enc)

/-- The statement. -/
theorem proved : Rows.EscapeQuotesSaid := over
end Go.Proofs.Ytndnakligoagaaa.escapeQuotes
