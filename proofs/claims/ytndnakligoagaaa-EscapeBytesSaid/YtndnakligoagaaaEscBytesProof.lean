/-
  What is proved: for every byte and every two texts, the law EscapeBytes returns true and leaves its arguments as they were. No condition.
-/
import Derived.Test.YtndnakligoagaaaBase
import Derived.Test.YtndnakligoagaaaRRead
import Derived.Test.YtndnakligoagaaaPQuote
namespace Go.Proofs.Ytndnakligoagaaa.escapeBytes
open Go.ChangeShapes Go.WideShapes Go.ChangeAt Go.RowKit Go.Deep
set_option linter.unusedVariables false

theorem rdV_mk (a b : Nat) (o : Bool) : rdV (a, b, o) = .tuple #[.int .u8 ((a : Nat) : Int), .int .i64 ((b : Nat) : Int), .bool o] := rfl
theorem nums_append (a b : ByteArray) : numsOf (a ++ b) = numsOf a ++ numsOf b := by
  unfold numsOf
  rw [ByteArray.data_append, Array.toList_append, List.map_append]
theorem quoted_sign : ∀ c, c < 256 → inB ⟨#[34, 47]⟩ c = true → isPrint c = true ∧ isWord c = false := by decide +kernel
theorem rd_again (c : Nat) (hc : c < 256) (s : ByteArray) : rd (numsOf (strOf (byteT c (inB ⟨#[34, 47]⟩ c)) ++ s)) = (c, (byteT c (inB ⟨#[34, 47]⟩ c)).length, true) := by
  rw [nums_append, nums_str _ (byteF_lt c _ hc), rd_byteT c hc _ (quoted_sign c hc)]

set_option maxHeartbeats 4000000 in
set_option maxRecDepth 100000 in
theorem law (c : Nat) (hc : c < 256) (o s : ByteArray) (w : World) (ho : o.size ≤ maxLen) (hs : s.size ≤ maxLen) :
    Calls Try.prog 3 #[.int .u8 c, .string o, .string s] w fun e w' => e = .returned (.bool true) ∧ Below w.heap.size w w' := by
  have HO := Lib.hid ho
  have HS := Lib.hid hs
  unfold maxLen at hs ho
  go_enter Try.func3, Try.ntmps3
  go_wp2_with fail
  refine (awake_any _).mono ?_
  rintro e w1 ⟨rfl, b1⟩
  have hb1 := b1.size
  by_cases ho2 : 100 < o.size
  · go_wp2_with fail
    go_ret
    exact ⟨rfl, b1⟩
  by_cases hs2 : 300 < s.size
  · go_wp2_with fail
    go_ret
    exact ⟨rfl, b1⟩
  have HR2 := Lib.hid (rd_again c hc s)
  have hz := byteT_len c (inB ⟨#[34, 47]⟩ c)
  have hz1 : (strOf (byteT c (inB ⟨#[34, 47]⟩ c))).size ≤ 4 := by rw [strOf_size]; exact hz
  have HZ : Hid ((strOf (byteT c (inB ⟨#[34, 47]⟩ c)) ++ s).size ≤ maxLen) := by
    show _ ≤ _
    rw [ByteArray.size_append]; unfold maxLen; omega
  have HL := Lib.hid (strOf_size (byteT c (inB ⟨#[34, 47]⟩ c)))
  clear hz
  rcases hr : rd (numsOf s) with ⟨r1, r2, r3⟩
  have HR := Lib.hid hr
  clear hr
  go_wp2_with fail
  refine (byte_any c hc o _).mono ?_
  rintro e w2 ⟨rfl, b2⟩
  have hb2 := b1.trans (b2.mono hb1)
  clear b2
  go_wp2_with fail
  refine (read_any s HS.out _).mono ?_
  rintro e w3 ⟨rfl, b3⟩
  rw [HR.out, rdV_mk]
  have hb3 := hb2.trans (b3.mono hb2.size)
  clear b3
  go_wp2_with fail
  refine (rread_any s HS.out _).mono ?_
  rintro e w4 ⟨rfl, b4⟩
  rw [HR.out, rdV_mk]
  have hb4 := hb3.trans (b4.mono hb3.size)
  clear b4
  go_wp2_with fail
  refine (byte_any c hc _ _).mono ?_
  rintro e w5 ⟨rfl, b5⟩
  have hb5 := hb4.trans (b5.mono hb4.size)
  clear b5
  go_wp2_with fail
  refine (read_any _ HZ.out _).mono ?_
  rintro e w6 ⟨rfl, b6⟩
  rw [HR2.out, rdV_mk]
  have hb6 := hb5.trans (b6.mono hb5.size)
  clear b6
  go_wp2_with fail
  refine (rbyte_any c hc o HO.out _).mono ?_
  rintro e w7 ⟨rfl, b7⟩
  have hb7 := hb6.trans (b7.mono hb6.size)
  clear b7
  go_wp2_with fail
  refine (byte_any c hc _ _).mono ?_
  rintro e w8 ⟨rfl, b8⟩
  have hb8 := hb7.trans (b8.mono hb7.size)
  clear b8
  have hl := HL.out
  go_wp2_with fail
  go_ret
  exact ⟨rfl, hb8⟩

theorem walk (x : Int) (o s : ByteArray) (w : World) (w1 : (Lit.int .u8 x).wf = true) (w2 : o.size ≤ maxLen) (w3 : s.size ≤ maxLen) :
    Calls Try.prog 3 #[.int .u8 x, .string o, .string s] w fun e w' => e = .returned (.bool true) ∧ Below w.heap.size w w' := by
  have h1 := bounds_u8 w1
  obtain ⟨m, rfl⟩ := Int.eq_ofNat_of_zero_le h1.1
  exact law m (by omega) o s w w2 w3

set_option maxRecDepth 100000 in
theorem lifted (os : Os) (started : os.Started) (H : Type) (enc : TypeId × Value → H) :
    ReturnsInHanded {} Try.checked os 3 .any (Rows.escapeBytesSpec.pre6 enc Try.prog Try.f3 Rows.escapeBytesRow.domain false) (Rows.escapeBytesSpec.post enc Try.prog Try.f3 false true false false) := by
  refine returnsInHanded_of_change (C := Try.checked) own started (by kernel_rfl) Try.func3
    (ChangeSpec.witness6 (enc := enc) (C := Try.checked) false ⟨#[], #[.int .u8 0, .string ⟨#[]⟩, .string ⟨#[]⟩], []⟩ 8 (by kernel_rfl) (by kernel_rfl) (by kernel_rfl) (by kernel_rfl)) ?_
  intro W base args ds gs before hval0 hW hcnd _
  have hval : ∀ (j : Nat) t v, Try.f3.params[j]? = some t → args[j]? = some v → Value.okWide Try.prog W .any base t v := hval0
  have hW' := hW
  obtain ⟨p, q, hA0, hV, rfl, hfz, hnd⟩ := hW
  have hA : DataW.TrodAll enc Try.prog W 0 (fun _ => true) true Try.f3.params.toList args.toList ds p := hA0
  rw [Try.params3] at hA hval
  obtain ⟨v0, vs0, d0, ds0, p0, q0, hargs, rfl, rfl, h0, r0⟩ := trodAll_cons hA
  obtain ⟨v1, vs1, d1, ds1, p1, q1, rfl, rfl, rfl, h1, r1⟩ := trodAll_cons r0
  obtain ⟨v2, vs2, d2, ds2, p2, q2, rfl, rfl, rfl, h2, r2⟩ := trodAll_cons r1
  obtain ⟨rfl, rfl, rfl⟩ := trodAll_nil r2
  obtain rfl : args = #[v0, v1, v2] := by cases args; simp_all
  obtain ⟨rfl, rfl⟩ := trodVars_none hV
  obtain ⟨a0, rfl, rfl, rfl, w0⟩ := open_int Try.underlying5 (hval 0 5 v0 rfl rfl) h0
  obtain ⟨s1, rfl, rfl, rfl, w1⟩ := Go.ChangeMaps.open_string Try.underlying9 (hval 1 9 v1 rfl rfl) h1
  obtain ⟨s2, rfl, rfl, rfl, w2⟩ := Go.ChangeMaps.open_string Try.underlying9 (hval 2 9 v2 rfl rfl) h2
  clear hA0 hval0
  refine (walk a0 s1 s2 W w0 w1 w2).mono fun e W' ⟨he, bel⟩ => ?_
  subst he
  exact ⟨_, rfl, _, _, _, [], _, [], hW', trodAll_mk1 (shut_bool Try.underlying4 _), (trodAll_cons_mk (shut_int Try.underlying5 w0) (trodAll_cons_mk (Go.ChangeMaps.shut_string Try.underlying9 w1) (trodAll_cons_mk (Go.ChangeMaps.shut_string Try.underlying9 w2) trodAll_mk0))), rfl, bel.frame _, fun h => by cases h⟩

theorem over : Rows.escapeBytesRow.holds Try.pinned (OpenSpec.ofChange Rows.escapeBytesSpec) :=
  OpenClaim.holds_of_wide 3 Try.f3 rfl rfl rfl rfl rfl rfl rfl ⟨rfl, rfl, rfl, rfl, rfl⟩ rfl rfl rfl rfl rfl (by kernel_rfl) Try.func3 (by kernel_rfl)
    (of_decide_eq_true (by kernel_rfl)) (by unfold Func.isWrapper; first | (rw [if_pos (by decide +kernel)]; kernel_rfl) | (rw [if_neg (by decide +kernel)]; exact ⟨rfl, rfl⟩))
    (fun os started H enc _ => lifted os started H enc)

/-- The statement. -/
theorem proved : Rows.EscapeBytesSaid := over
end Go.Proofs.Ytndnakligoagaaa.escapeBytes
