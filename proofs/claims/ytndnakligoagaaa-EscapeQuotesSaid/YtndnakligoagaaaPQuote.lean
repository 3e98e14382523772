import Derived.Test.YtndnakligoagaaaPByte
import Derived.Test.YtndnakligoagaaaEscQuote
namespace Go.Proofs.Ytndnakligoagaaa
open Go.RowKit

theorem byteT_lt (c : Nat) (o : Bool) (hc : c < 256) : ∀ n ∈ byteT c o, n < 256 := by
  unfold byteT hexd
  intro n hn
  repeat' split at hn
  all_goals
    simp at hn
    omega
theorem quoteUp_lt (s : ByteArray) (q k : Nat) : ∀ n ∈ quoteUp s q k, n < 256 := by
  intro n hn
  unfold quoteUp at hn
  rw [List.mem_flatMap] at hn
  obtain ⟨i, _, hi⟩ := hn
  exact byteT_lt _ _ (UInt8.toNat_lt _) n hi

set_option maxHeartbeats 2000000 in
set_option maxRecDepth 100000 in
theorem quote_any (s : ByteArray) (q : Nat) (hq : q < 256) (w : World) (hs : s.size ≤ 1000000) :
    Calls Try.prog 12 #[.string s, .int .u8 q] w fun e w' => e = .returned (.string (strOf (quoteT s q))) ∧ Below w.heap.size w w' := by
  have hcv := fun W g => conv_one W g q
  go_enter Try.func12, Try.ntmps12
  go_wp2_with fail
  have hq1 : ∀ n ∈ [q], n < 256 := by simpa using hq
  have HQ1 := Lib.hid hq1
  clear hq1
  have hb0 : Bld w.heap.size (w.heap.size + 1) [] ((w.alloc (.cells #[.int .u8 ((q : Nat) : Int)] 5)).alloc (.cells #[.pointer none, .slice none 0 0] 44)) := by
    have := Bld.new (w.alloc (.cells #[.int .u8 ((q : Nat) : Int)] 5))
    exact Bld.weaken (by simpa using this) (Nat.le_succ _)
  have hbel0 : Below w.heap.size w ((w.alloc (.cells #[.int .u8 ((q : Nat) : Int)] 5)).alloc (.cells #[.pointer none, .slice none 0 0] 44)) := ((Below.refl _ _).alloc (Nat.le_refl _) _).alloc (by simp) _
  refine (write_any w.heap.size (w.heap.size + 1) [] [q] _ hb0 HQ1.out (by simp) (by simp; omega)).mono ?_
  rintro e w1 ⟨rfl, hb1, hl1⟩
  have hbel1 := hbel0.trans hl1
  rw [List.nil_append] at hb1
  have HB1 := Lib.hid hb1
  have HL1 := Lib.hid hbel1
  clear hb0 hbel0 hl1 hb1 hbel1 hcv
  go_wp2_with fail
  go_loopw [15] (fun i wr => ∃ k : Nat, k ≤ s.size ∧ i = .int .i64 k ∧ Bld w.heap.size (w.heap.size + 1) (q :: quoteUp s q k) wr ∧ Below w.heap.size w wr) (fun i _ => s.size - (intOf i).toNat)
  case atStart => exact ⟨0, Nat.zero_le _, rfl, HB1.out, HL1.out⟩
  case round =>
    clear HB1 HL1
    obtain ⟨k, hk, rfl, hb, hbel⟩ := hrel
    have HB := Lib.hid hb
    have hbw := hbel.size
    have hql := quoteUp_len s q k
    have HQL := Lib.hid hql
    clear hb hql
    by_cases hlt : k < s.size
    · have HN := Lib.hid (quoteUp_succ s q k hlt)
      have HO := Lib.hid (inB_one q s[k].toNat hq)
      have hc := UInt8.toNat_lt s[k]
      go_wp2_with fail
      refine (byte_any s[k].toNat hc (strOf [q]) _).mono ?_
      rintro e w2 ⟨rfl, b2⟩
      rw [HO.out]
      have HB2 := Lib.hid (HB.out.keep b2)
      have HL2 := Lib.hid (hbel.trans (b2.mono hbw))
      have hbw2 := (hbel.trans (b2.mono hbw)).size
      clear b2 hbel
      go_wp2_with fail
      refine (write_any w.heap.size (w.heap.size + 1) (q :: quoteUp s q k) (byteT s[k].toNat (s[k].toNat == q)) _ HB2.out (byteT_lt _ _ hc) (by have := byteT_len s[k].toNat (s[k].toNat == q); have := HQL.out; simp; omega) hbw2).mono ?_
      rintro e w3 ⟨rfl, hb3, hl3⟩
      rw [List.cons_append, ← HN.out] at hb3
      have HB3 := Lib.hid hb3
      have HL3 := Lib.hid (HL2.out.trans hl3)
      clear hb3 hl3
      go_wp2_with fail
      go_roundw
      case rel => exact ⟨k + 1, by omega, by go_num, HB3.out, HL3.out⟩
      case measure => simp [intOf]; omega
    · obtain rfl : k = s.size := by omega
      go_wp2_with fail
      refine (write_any w.heap.size (w.heap.size + 1) (q :: quoteUp s q s.size) [q] _ HB.out HQ1.out (by have := HQL.out; simp; omega) hbw).mono ?_
      rintro e w3 ⟨rfl, hb3, hl3⟩
      have HB3 := Lib.hid hb3
      have HL3 := Lib.hid (hbel.trans hl3)
      have hbw3 := (hbel.trans hl3).size
      clear hb3 hl3 hbel
      go_wp2_with fail
      refine (text_any w.heap.size (w.heap.size + 1) (q :: quoteUp s q s.size ++ [q]) _ HB3.out ?_ hbw3).mono ?_
      · intro n hn
        simp at hn
        rcases hn with h | h | h
        · omega
        · exact quoteUp_lt s q s.size n h
        · omega
      rintro e w4 ⟨rfl, hl4⟩
      go_wp2_with fail
      go_ret
      exact ⟨rfl, HL3.out.trans hl4⟩

theorem awake_any (w : World) : Calls Try.prog 6 #[] w fun e w' => e = .returned (.bool true) ∧ Below w.heap.size w w' := by
  have H1 : Hid (strOf (byteT 10 (inB ⟨#[]⟩ 10)) = ⟨#[92, 110]⟩) := by show _ = _; decide
  have H2 : Hid (strOf (quoteT ⟨#[97, 34, 98]⟩ 34) = ⟨#[34, 97, 92, 34, 98, 34]⟩) := by show _ = _; decide +kernel
  go_enter Try.func6, Try.ntmps6
  go_wp2_with fail
  refine (byte_any 10 (by decide) _ _).mono ?_
  rintro e w1 ⟨rfl, b1⟩
  rw [H1.out]
  have hbw := b1.size
  go_wp2_with fail
  refine (quote_any _ 34 (by decide) _ (by decide)).mono ?_
  rintro e w2 ⟨rfl, b2⟩
  rw [H2.out]
  go_wp2_with fail
  go_ret
  exact ⟨rfl, b1.trans (b2.mono hbw)⟩
end Go.Proofs.Ytndnakligoagaaa
