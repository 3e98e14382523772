import Derived.Test.YtldpmcgkbdejjaaZBldB
import Derived.Test.YtldpmcgkbdejjaaZJFew
namespace Go.Proofs.Ytldpmcgkbdejjaa
open Go.RowKit Go.Maps Go.WideElems Go.ChangeMaps Go.MapKept
set_option linter.unusedVariables false
set_option linter.unusedSimpArgs false

set_option maxHeartbeats 2000000 in
set_option maxRecDepth 100000 in
theorem join_any (l : List ByteArray) (hl : FewT l) (n c : Nat) (a : Option Addr) (hn : l.length = n) (m c2 : Nat) (b2 : Option Addr) (f : Nat → Bool) (hm : m ≤ 100000) (w : World) (h1 : SsAt w a l) (h2 : BAt w b2 m f) :
    Calls Try.prog 13 #[.slice a n c, .slice b2 m c2] w fun e w' => e = .returned (.string (jnS l m f)) ∧ Below w.heap.size w w' := by
  have H := Lib.hid (And.intro h1 (And.intro h2 (And.intro hl hn)))
  have hn8 : n ≤ 8 := by rw [← hn]; exact hl.n
  have k1 := al w (.cells #[.pointer none, .slice none 0 0] 58)
  have HB := Lib.hid (And.intro (Bld.new w) k1)
  clear h1 h2 hl hn k1
  go_enter Try.func13, Try.ntmps13
  go_wp2_with fail
  obtain ⟨b, hb0⟩ : ∃ b0, w.heap.size = b0 := ⟨_, rfl⟩
  have Hb0 := Lib.hid hb0
  rw [hb0] at HB
  rw [hb0]
  clear hb0
  generalize w.alloc (.cells #[.pointer none, .slice none 0 0] 58) = W0 at HB ⊢
  go_loopw [6, 7, 10] (fun _ _ v wr => ∃ k : Nat, v = .int .i64 k ∧ k ≤ n ∧ Hid (Below b w wr ∧ Bld b b (jnN l m f k) wr)) (fun _ _ v _ => n - (intOf v).toNat)
  case atStart => exact ⟨0, rfl, Nat.zero_le _, HB.out.2, HB.out.1⟩
  case round =>
    obtain ⟨k, rfl, hk, HL⟩ := hrel
    by_cases hlt : k < n
    · have hkA : k < l.length := by rw [H.out.2.2.2]; exact hlt
      obtain ⟨g1, o1, rfl, _, q1⟩ := (H.out.1.below (by rw [Hb0.out]; exact HL.out.1)) (by omega)
      have x1 := q1 k hkA
      have HT : Hid ((k + 1 < n ∧ k < m ∧ f k = true → jnN l m f (k + 1) = jnN l m f k ++ numsOf l[k] ++ [32]) ∧ (¬ (k + 1 < n ∧ k < m ∧ f k = true) → jnN l m f (k + 1) = jnN l m f k ++ numsOf l[k])) := by
        have e := H.out.2.2.2
        exact ⟨fun h => by rw [List.append_assoc]; exact jnN_yes hkA ⟨by omega, h.2⟩, fun h => jnN_no hkA (fun h' => h ⟨by omega, h'.2⟩)⟩
      have hml := jnN_le H.out.2.2.1 m f k (by omega)
      have hsl := H.out.2.2.1.s k hkA
      have i1 : (k : Int) < (n : Int) := by omega
      clear q1
      generalize l[k] = s at x1 HT hsl
      have hs : strOf (numsOf s) = s := strOf_nums s
      have hnl : (numsOf s).length ≤ 8 := by rw [show (numsOf s).length = s.size from by rw [← strOf_size, hs]]; exact hsl
      have hz : b ≤ wr.heap.size := by have := HL.out.1.size; have := Hb0.out; omega
      have HW := write_any b b (jnN l m f k) (numsOf s) wr HL.out.2 (numsOf_lt s) (by omega) hz
      rw [hs] at HW
      have HW2 := Lib.hid HW
      have Hn2 := Lib.hid (And.intro hml hnl)
      clear hkA hs HW hml hnl hsl hz
      go_upto_region 6 with (go_at_call 27; refine HW2.out.mono ?_; rintro e w5 ⟨rfl, hbl, b5⟩)
      have HL5 : Hid (Below b w w5 ∧ Bld b b (jnN l m f k ++ numsOf s) w5) := ⟨HL.out.1.trans b5, hbl⟩
      clear hbl b5 x1 HW2
      by_cases c1 : k + 1 < n
      · have i2 : (k : Int) < (n : Int) - 1 := by omega
        by_cases c2 : k < m
        · have i3 : (k : Int) < (m : Int) := by omega
          obtain ⟨g2, o2, rfl, _, q2⟩ := (H.out.2.1.below (by rw [Hb0.out]; exact HL5.out.1)) (by omega)
          have x2 := q2 k c2
          clear q2
          rcases hf : f k with _ | _
          · rw [hf] at x2
            have HE := Lib.hid (HT.out.2 (fun h => by rw [hf] at h; exact absurd h.2.2 (by decide)))
            clear hf
            go_wp2_with fail
            go_roundw
            case rel => exact ⟨k + 1, by go_num, by omega, by rw [HE.out]; exact HL5.out⟩
            case measure => simp [intOf]; omega
          · rw [hf] at x2
            have HE := Lib.hid (HT.out.1 ⟨c1, c2, hf⟩)
            clear hf
            have hz : b ≤ w5.heap.size := by have := HL5.out.1.size; have := Hb0.out; omega
            have HP := Lib.hid (put_kept b b (jnN l m f k ++ numsOf s) 32 w5 HL5.out.2 (by rw [List.length_append]; have := Hn2.out; omega) hz)
            clear hz
            go_wp2_with (go_at_call 28; refine HP.out.mono ?_; rintro e w6 ⟨rfl, hbl, b6, _⟩)
            have HL6 : Hid (Below b w w6 ∧ Bld b b (jnN l m f (k + 1)) w6) := ⟨HL5.out.1.trans b6, by rw [HE.out]; exact hbl⟩
            clear hbl b6 HP
            go_wp2_with fail
            go_roundw
            case rel => exact ⟨k + 1, by go_num, by omega, HL6.out⟩
            case measure => simp [intOf]; omega
        · have i3 : ¬ ((k : Int) < (m : Int)) := by omega
          have HE := Lib.hid (HT.out.2 (fun h => c2 h.2.1))
          go_wp2_with fail
          go_roundw
          case rel => exact ⟨k + 1, by go_num, by omega, by rw [HE.out]; exact HL5.out⟩
          case measure => simp [intOf]; omega
      · have i2 : ¬ ((k : Int) < (n : Int) - 1) := by omega
        have HE := Lib.hid (HT.out.2 (fun h => c1 h.1))
        go_wp2_with fail
        go_roundw
        case rel => exact ⟨k + 1, by go_num, by omega, by rw [HE.out]; exact HL5.out⟩
        case measure => simp [intOf]; omega
    · obtain rfl : k = n := by omega
      have HX := Lib.hid (text_any b b (jnN l m f k) wr HL.out.2 (jnN_lt _ _ _ _) (by have := HL.out.1.size; have := Hb0.out; omega))
      go_wp2_with (go_at_call 29; refine HX.out.mono ?_; rintro e w5 ⟨rfl, b5⟩)
      go_ret
      exact ⟨by unfold jnS; rw [H.out.2.2.2]; rfl, by rw [Hb0.out]; exact HL.out.1.trans b5⟩
end Go.Proofs.Ytldpmcgkbdejjaa

namespace Go.Proofs.Ytldpmcgkbdejjaa
open Go.RowKit Go.Maps Go.WideElems Go.ChangeMaps Go.MapKept
set_option linter.unusedVariables false
set_option linter.unusedSimpArgs false

set_option maxHeartbeats 2000000 in
set_option maxRecDepth 100000 in
theorem rjoin_any (l : List ByteArray) (hl : FewT l) (n c : Nat) (a : Option Addr) (hn : l.length = n) (m c2 : Nat) (b2 : Option Addr) (f : Nat → Bool) (hm : m ≤ 100000) (w : World) (h1 : SsAt w a l) (h2 : BAt w b2 m f) :
    Calls Try.prog 21 #[.slice a n c, .slice b2 m c2] w fun e w' => e = .returned (.string (jnS l m f)) ∧ w' = w := by
  have H := Lib.hid (And.intro h1 (And.intro h2 (And.intro hl hn)))
  have hn8 : n ≤ 8 := by rw [← hn]; exact hl.n
  clear h1 h2 hl hn
  go_enter Try.func21, Try.ntmps21
  go_wp2_with fail
  go_loopw [5, 6] (fun s v wr => ∃ k : Nat, v = .int .i64 k ∧ k ≤ n ∧ wr = w ∧ s = .string (strOf (jnN l m f k))) (fun _ v _ => n - (intOf v).toNat)
  case atStart => exact ⟨0, rfl, Nat.zero_le _, rfl, rfl⟩
  case round =>
    obtain ⟨k, rfl, hk, rfl, rfl⟩ := hrel
    by_cases hlt : k < n
    · have hkA : k < l.length := by rw [H.out.2.2.2]; exact hlt
      obtain ⟨g1, o1, rfl, _, q1⟩ := H.out.1 (by omega)
      have x1 := q1 k hkA
      have HT : Hid ((k + 1 < n ∧ k < m ∧ f k = true → strOf (jnN l m f (k + 1)) = strOf (jnN l m f k) ++ l[k] ++ strOf [32]) ∧ (¬ (k + 1 < n ∧ k < m ∧ f k = true) → strOf (jnN l m f (k + 1)) = strOf (jnN l m f k) ++ l[k])) := by
        have e := H.out.2.2.2
        have hs : strOf (numsOf l[k]) = l[k] := strOf_nums l[k]
        refine ⟨fun h => ?_, fun h => ?_⟩
        · rw [jnN_yes hkA ⟨by omega, h.2⟩, ← List.append_assoc, ← strOf_append, ← strOf_append, hs]
        · rw [jnN_no hkA (fun h' => h ⟨by omega, h'.2⟩), ← strOf_append, hs]
      have hml := jnN_le H.out.2.2.1 m f k (by omega)
      have hsl := H.out.2.2.1.s k hkA
      have i1 : (k : Int) < (n : Int) := by omega
      have hz1 : (strOf (jnN l m f k)).size ≤ 72 := by rw [strOf_size]; omega
      clear q1
      generalize l[k] = s at x1 HT hsl
      generalize strOf (jnN l m f k) = t at HT hz1 ⊢
      have j1 : ¬ 9223372036854775807 < t.size + s.size := by omega
      have j2 : ¬ 9223372036854775807 < (t ++ s).size + (⟨#[32]⟩ : ByteArray).size := by rw [ByteArray.size_append]; show ¬ 9223372036854775807 < _ + 1; omega
      clear hkA hml hsl hz1
      by_cases c1 : k + 1 < n
      · have i2 : (k : Int) + 1 < (n : Int) := by omega
        by_cases c2 : k < m
        · have i3 : (k : Int) < (m : Int) := by omega
          obtain ⟨g2, o2, rfl, _, q2⟩ := H.out.2.1 (by omega)
          have x2 := q2 k c2
          clear q2
          rcases hf : f k with _ | _
          · rw [hf] at x2
            have HE := Lib.hid (HT.out.2 (fun h => by rw [hf] at h; exact absurd h.2.2 (by decide)))
            clear hf
            go_wp2_with fail
            go_roundw
            case rel => exact ⟨k + 1, by go_num, by omega, trivial, by rw [HE.out]⟩
            case measure => simp [intOf]; omega
          · rw [hf] at x2
            have HE := Lib.hid (HT.out.1 ⟨c1, c2, hf⟩)
            clear hf
            go_wp2_with fail
            go_roundw
            case rel => exact ⟨k + 1, by go_num, by omega, trivial, by rw [HE.out]; rfl⟩
            case measure => simp [intOf]; omega
        · have i3 : ¬ ((k : Int) < (m : Int)) := by omega
          have HE := Lib.hid (HT.out.2 (fun h => c2 h.2.1))
          go_wp2_with fail
          go_roundw
          case rel => exact ⟨k + 1, by go_num, by omega, trivial, by rw [HE.out]⟩
          case measure => simp [intOf]; omega
      · have i2 : ¬ ((k : Int) + 1 < (n : Int)) := by omega
        have HE := Lib.hid (HT.out.2 (fun h => c1 h.1))
        go_wp2_with fail
        go_roundw
        case rel => exact ⟨k + 1, by go_num, by omega, trivial, by rw [HE.out]⟩
        case measure => simp [intOf]; omega
    · obtain rfl : k = n := by omega
      go_wp2_with fail
      go_ret
      exact ⟨by unfold jnS; rw [H.out.2.2.2]; rfl, rfl⟩
end Go.Proofs.Ytldpmcgkbdejjaa
