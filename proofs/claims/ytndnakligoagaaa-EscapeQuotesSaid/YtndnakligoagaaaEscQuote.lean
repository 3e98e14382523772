import Derived.Test.YtndnakligoagaaaEscByte
import Derived.Deep.RegionWith
namespace Go.Proofs.Ytndnakligoagaaa
open Go.RowKit

/-- The texts of the first k bytes between two q. -/
def quoteUp (s : ByteArray) (q k : Nat) : List Nat := (List.range k).flatMap fun i => let c := (s.data.toList.getD i 0).toNat; byteT c (c == q)
theorem quoteUp_succ (s : ByteArray) (q k : Nat) (h : k < s.size) : quoteUp s q (k + 1) = quoteUp s q k ++ byteT s[k].toNat (s[k].toNat == q) := by
  have e : s.data[k]? = some s[k] := Array.getElem?_eq_getElem h
  simp [quoteUp, List.range_succ, e]
theorem byteT_len (c : Nat) (o : Bool) : (byteT c o).length ≤ 4 := by
  unfold byteT
  repeat' split
  all_goals simp
theorem quoteUp_len (s : ByteArray) (q k : Nat) : (quoteUp s q k).length ≤ 4 * k := by
  induction k with
  | zero => simp [quoteUp]
  | succ k ih =>
    have h : quoteUp s q (k + 1) = quoteUp s q k ++ byteT (s.data.toList.getD k 0).toNat ((s.data.toList.getD k 0).toNat == q) := by simp [quoteUp, List.range_succ]
    rw [h, List.length_append]
    have := byteT_len (s.data.toList.getD k 0).toNat ((s.data.toList.getD k 0).toNat == q)
    omega
theorem inB_one (q c : Nat) (hq : q < 256) : inB (strOf [q]) c = (c == q) := by
  unfold inB
  rw [strOf_list, Bool.eq_iff_iff]
  simp [Nat.mod_eq_of_lt hq]
  exact eq_comm
/-- A text between two q. -/
def quoteT (s : ByteArray) (q : Nat) : List Nat := q :: quoteUp s q s.size ++ [q]

set_option maxHeartbeats 1000000 in
set_option maxRecDepth 100000 in
theorem rquote_any (s : ByteArray) (q : Nat) (hq : q < 256) (w : World) (hs : s.size ≤ 1000000) :
    Calls Try.prog 15 #[.string s, .int .u8 q] w fun e w' => e = .returned (.string (strOf (quoteT s q))) ∧ Below w.heap.size w w' := by
  have hcv := fun W g => conv_one W g q
  go_enter Try.func15, Try.ntmps15
  go_wp2_with fail
  go_loopw [5, 6] (fun v i wr => ∃ k : Nat, k ≤ s.size ∧ i = .int .i64 k ∧ v = .string (strOf (q :: quoteUp s q k)) ∧ Below w.heap.size w wr) (fun _ i _ => s.size - (intOf i).toNat)
  case atStart => exact ⟨0, Nat.zero_le _, rfl, rfl, (Below.refl _ _).alloc (Nat.le_refl _) _⟩
  case round =>
    obtain ⟨k, hk, rfl, rfl, hbel⟩ := hrel
    have hl := quoteUp_len s q k
    have hz1 : (strOf (q :: quoteUp s q k)).size ≤ 4000001 := by rw [strOf_size]; simp; omega
    have hz2 : (strOf [q]).size ≤ 1 := by rw [strOf_size]; simp
    have hbw := hbel.size
    by_cases hlt : k < s.size
    · have HN := Lib.hid (quoteUp_succ s q k hlt)
      have HO := Lib.hid (inB_one q s[k].toNat hq)
      have hb := UInt8.toNat_lt s[k]
      have HL : Hid ((strOf [q]).size ≤ maxLen) := by show _ ≤ _; rw [strOf_size]; simp; unfold maxLen; omega
      have hz3 : (strOf (byteT s[k].toNat (inB (strOf [q]) s[k].toNat))).size ≤ 4 := by rw [strOf_size]; exact byteT_len _ _
      go_wp2_with fail
      go_region_with ((go_at_call 10; refine (rbyte_any s[k].toNat hb (strOf [q]) HL.out _).mono ?_; rintro e w5 ⟨rfl, b5⟩))
      all_goals
        go_wp2_with fail
        go_roundw
        case rel => exact ⟨k + 1, by omega, by go_num, by rw [strOf_append, HN.out, HO.out]; rfl, by
          refine hbel.trans (Below.mono (Below.trans (b := _) ?_ (b5.mono ?_)) hbw)
          · first | exact (Below.refl _ wr).drew.alloc (Nat.le_refl _) _ | exact ((Below.refl _ wr).alloc (Nat.le_refl _) _).drew
          · simp⟩
        case measure => simp [intOf]; omega
    · obtain rfl : k = s.size := by omega
      go_wp2_with fail
      go_ret
      exact ⟨congrArg (fun b => Ending.returned (.string b)) (by rw [strOf_append]; rfl), hbel.alloc hbw _⟩
end Go.Proofs.Ytndnakligoagaaa
