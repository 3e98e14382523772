import Derived.Test.YtjehgdjlncofeaaZBld
import Derived.Test.YtjehgdjlncofeaaZURSm
namespace Go.Proofs.Ytjehgdjlncofeaa
open Go.RowKit Go.Maps Go.WideElems Go.ChangeMaps Go.MapKept
set_option linter.unusedVariables false
set_option linter.unusedSimpArgs false

/-- The texts of tokens, one behind the other. -/
def txtF (l : List Tok) : List Nat := l.flatMap (fun t => numsOf t.s)
theorem txtF_lt (l : List Tok) : ∀ n ∈ txtF l, n < 256 := by
  intro n hn
  obtain ⟨t, _, ht⟩ := List.mem_flatMap.1 hn
  exact numsOf_lt _ n ht
theorem txtF_take {l : List Tok} {k : Nat} (h : k < l.length) : txtF (l.take (k + 1)) = txtF (l.take k) ++ numsOf l[k].s := by
  unfold txtF
  rw [List.take_succ_eq_append_getElem h, List.flatMap_append]
  simp only [List.flatMap_cons, List.flatMap_nil, List.append_nil]
theorem txtF_take_le (l : List Tok) (k : Nat) : (txtF (l.take k)).length ≤ (txtF l).length := by
  have h : txtF l = txtF (l.take k) ++ txtF (l.drop k) := by
    unfold txtF
    rw [← List.flatMap_append, List.take_append_drop]
  rw [h, List.length_append]
  omega

set_option maxHeartbeats 2000000 in
set_option maxRecDepth 100000 in
theorem mtext_any (n c : Nat) (a : Option Addr) (A : List Tok) (hA : A.length = n) (hn : n ≤ 9223372036854775807) (hlen : (txtF A).length ≤ 100000000) (w : World) (h1 : TkAt w a A) :
    Calls Try.prog 12 #[.slice a n c] w fun e w' => e = .returned (.string (strOf (txtF A))) ∧ Below w.heap.size w w' := by
  have H := Lib.hid (And.intro h1 (And.intro hA hlen))
  have k1 := al w (.cells #[.pointer none, .slice none 0 0] 59)
  have HB := Lib.hid (And.intro (Bld.new w) k1)
  clear h1 hA hlen k1
  go_enter Try.func12, Try.ntmps12
  go_wp2_with fail
  obtain ⟨b, hb0⟩ : ∃ b0, w.heap.size = b0 := ⟨_, rfl⟩
  have Hb0 := Lib.hid hb0
  rw [hb0] at HB
  rw [hb0]
  clear hb0
  generalize w.alloc (.cells #[.pointer none, .slice none 0 0] 59) = W0 at HB ⊢
  go_loopw [5, 8] (fun _ v wr => ∃ k : Nat, v = .int .i64 k ∧ k ≤ n ∧ Hid (Below b w wr ∧ Bld b b (txtF (A.take k)) wr)) (fun _ v _ => n - (intOf v).toNat)
  case atStart => exact ⟨0, rfl, Nat.zero_le _, HB.out.2, HB.out.1⟩
  case round =>
    obtain ⟨k, rfl, hk, HL⟩ := hrel
    by_cases hlt : k < n
    · have hkA : k < A.length := by rw [H.out.2.1]; exact hlt
      obtain ⟨g1, o1, rfl, _, x0, x1, x2⟩ := (H.out.1.below (by rw [Hb0.out]; exact HL.out.1)).get k hkA
      have HT := Lib.hid (txtF_take hkA)
      have Hle := Lib.hid (txtF_take_le A (k + 1))
      have i1 : (k : Int) < (n : Int) := by omega
      generalize A[k] = x at x0 x1 x2 HT
      obtain ⟨r, s, p⟩ := x
      dsimp only at x0 x1 x2 HT
      have k2 := al wr (.cells #[.int .i64 r, .string s, .int .i64 p] 36)
      have HL2 : Hid (Below b w (wr.alloc (.cells #[.int .i64 r, .string s, .int .i64 p] 36)) ∧ Bld b b (txtF (A.take k)) (wr.alloc (.cells #[.int .i64 r, .string s, .int .i64 p] 36)) ∧ b ≤ (wr.alloc (.cells #[.int .i64 r, .string s, .int .i64 p] 36)).heap.size) := by
        have hz := HL.out.1.size
        have hz2 := Hb0.out
        have hz3 := k2.size
        exact ⟨HL.out.1.trans (k2.mono (by omega)), HL.out.2.keep k2, by omega⟩
      have hs : strOf (numsOf s) = s := strOf_nums s
      have hml := Hle.out
      rw [HT.out, List.length_append] at hml
      have hmx := H.out.2.2
      have HW := write_any b b (txtF (A.take k)) (numsOf s) _ HL2.out.2.1 (numsOf_lt s) (by omega) HL2.out.2.2
      rw [hs] at HW
      have HW2 := Lib.hid HW
      clear hkA k2 hs HW hml hmx
      go_wp2_with fail
      refine HW2.out.mono ?_
      rintro e w5 ⟨rfl, hbl, b5⟩
      have HL5 : Hid (Below b w w5 ∧ Bld b b (txtF (A.take (k + 1))) w5) := ⟨HL2.out.1.trans b5, by rw [HT.out]; exact hbl⟩
      clear hbl b5 x0 x1 x2 HW2
      go_wp2_with fail
      go_roundw
      case rel => exact ⟨k + 1, by go_num, by omega, HL5.out⟩
      case measure => simp [intOf]; omega
    · obtain rfl : k = n := by omega
      have hb9 := HL.out.2
      rw [List.take_of_length_le (by rw [H.out.2.1]; exact Nat.le_refl _)] at hb9
      have HX := Lib.hid (text_any b b (txtF A) wr hb9 (txtF_lt A) (by have := HL.out.1.size; have := Hb0.out; omega))
      clear hb9
      go_wp2_with (go_at_call 26; refine HX.out.mono ?_; rintro e w5 ⟨rfl, b5⟩)
      go_ret
      exact ⟨rfl, by rw [Hb0.out]; exact HL.out.1.trans b5⟩
end Go.Proofs.Ytjehgdjlncofeaa
