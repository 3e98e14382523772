import Derived.Test.YtndnakligoagaaaUqMath
namespace Go.Proofs.Ytndnakligoagaaa
open Go.RowKit

/-- .. as a value. -/
def uqV (r : List Nat × Nat × Bool) : Value := .tuple #[.string (strOf r.1), .int .i64 ((r.2.1 : Nat) : Int), .bool r.2.2]
theorem uqV_mk (a : List Nat) (b : Nat) (o : Bool) : uqV (a, b, o) = .tuple #[.string (strOf a), .int .i64 ((b : Nat) : Int), .bool o] := rfl
theorem uqV_no : uqV uqNo = .tuple #[.string ⟨#[]⟩, .int .i64 0, .bool false] := rfl

set_option maxHeartbeats 4000000 in
set_option maxRecDepth 100000 in
theorem runq_any (s : ByteArray) (q : Nat) (hs : s.size ≤ 1000000) (w : World) :
    Calls Try.prog 14 #[.string s, .int .u8 q] w fun e w' => e = .returned (uqV (unq q (numsOf s))) ∧ Below w.heap.size w w' := by
  rcases Nat.eq_zero_or_pos s.size with hz | hp
  · have hl : s.toList = [] := by rw [ByteArray.toList_eq]; exact List.eq_nil_of_length_eq_zero (by simpa using hz)
    have hl2 : (!s.toList.isEmpty) = false := by rw [hl]; rfl
    have HZ : Hid (uqV (unq q (numsOf s)) = .tuple #[.string ⟨#[]⟩, .int .i64 0, .bool false]) := by show _ = _; rw [nums_zero s hz]; rfl
    clear hz
    go_enter Try.func14, Try.ntmps14
    go_wp2_with fail
    go_ret3
    exact ⟨by rw [HZ.out]; rfl, Below.refl _ _⟩
  have hl : s.toList.isEmpty = false := ne_empty s hp
  have hl2 : (!s.toList.isEmpty) = true := by rw [hl]; rfl
  by_cases h0 : s[0].toNat = q
  · have e0 : ((s[0].toNat : Int) != (q : Int)) = false := by simp; omega
    have HU := Lib.hid (UqAt.start s q hp h0)
    have HV : Hid (uqV uqNo = .tuple #[.string ⟨#[]⟩, .int .i64 0, .bool false]) := rfl
    generalize unq q (numsOf s) = R at HU ⊢
    have HRD : Hid (∀ k, rd (numsOf (s.extract k s.size)) = rd ((numsOf s).drop k)) := fun k => by rw [nums_from]
    clear h0
    go_enter Try.func14, Try.ntmps14
    go_wp2_with fail
    go_loopw [7, 8] (fun v i wr => ∃ (k : Nat) (acc : List Nat), i = .int .i64 k ∧ k ≤ s.size ∧ v = .string (strOf acc) ∧ acc.length ≤ k ∧ Hid (UqAt s q R k acc) ∧ Below w.heap.size w wr) (fun _ i _ => s.size - (intOf i).toNat)
    case atStart => exact ⟨1, [], rfl, hp, rfl, by simp, HU, Below.refl _ _⟩
    case round =>
      clear HU
      obtain ⟨k, acc, rfl, hk, rfl, hacc, HU, hbel⟩ := hrel
      by_cases hlt : k < s.size
      · have hc := UInt8.toNat_lt s[k]
        by_cases hq : s[k].toNat = q
        · have e1 : ((s[k].toNat : Int) != (q : Int)) = false := by simp; omega
          have HZ : Hid (uqV R = .tuple #[.string (strOf acc), .int .i64 ((k + 1 : Nat) : Int), .bool true]) := by show _ = _; rw [HU.out.hit hlt hq]; rfl
          clear hq
          go_wp2_with fail
          go_ret3
          exact ⟨by rw [HZ.out]; rfl, hbel⟩
        have e1 : ((s[k].toNat : Int) != (q : Int)) = true := by simp; omega
        by_cases h10 : s[k].toNat = 10
        · have e2 : ((s[k].toNat : Int) != 10) = false := by simp; omega
          have HZ : Hid (uqV R = .tuple #[.string ⟨#[]⟩, .int .i64 0, .bool false]) := by show _ = _; rw [HU.out.feed hlt hq h10]; rfl
          clear hq h10
          go_wp2_with fail
          go_ret3
          exact ⟨by rw [HZ.out]; rfl, hbel⟩
        have e2 : ((s[k].toNat : Int) != 10) = true := by simp; omega
        have hbw := hbel.size
        have HES : Hid ((s.extract k s.size).size ≤ maxLen) := by
          show _ ≤ _
          rw [ByteArray.size_extract]; unfold maxLen; omega
        rcases hr : rd ((numsOf s).drop k) with ⟨a, b, o⟩
        have HR := Lib.hid ((HRD.out k).trans hr)
        have hz1 : (strOf acc).size ≤ 1000000 := by rw [strOf_size]; omega
        have hz2 : (strOf [a]).size ≤ 1 := by rw [strOf_size]; simp
        rcases o with _ | _
        · have HZ : Hid (uqV R = .tuple #[.string ⟨#[]⟩, .int .i64 0, .bool false]) := by show _ = _; rw [HU.out.fail hlt hq h10 hr]; rfl
          clear hq h10 hr HU
          go_wp2_with fail
          refine (rread_any _ HES.out _).mono ?_
          rintro e w2 ⟨rfl, b2⟩
          rw [HR.out, rdV_mk]
          have hb2 := hbel.trans (b2.mono hbw)
          clear b2
          go_wp2_with fail
          go_ret3
          exact ⟨by rw [HZ.out]; rfl, hb2⟩
        · obtain ⟨hn, ha, hb, hkb⟩ := HU.out.next hlt hq h10 hr
          have HN := Lib.hid hn
          have hcv := fun W g => conv_one W g a
          clear hq h10 hr HU hn
          go_wp2_with fail
          refine (rread_any _ HES.out _).mono ?_
          rintro e w2 ⟨rfl, b2⟩
          rw [HR.out, rdV_mk]
          have hb2 := hbel.trans (b2.mono hbw)
          have hbw2 := hb2.size
          clear b2
          go_wp2_with fail
          go_roundw
          case rel => exact ⟨k + b, acc ++ [a], by go_num, hkb, by rw [strOf_append], by simp; omega, HN, hb2.alloc hbw2 _⟩
          case measure => simp [intOf]; omega
      · have HZ : Hid (uqV R = .tuple #[.string ⟨#[]⟩, .int .i64 0, .bool false]) := by show _ = _; rw [HU.out.fin (by omega)]; rfl
        go_wp2_with fail
        go_ret3
        exact ⟨by rw [HZ.out]; rfl, hbel⟩
  · have e0 : ((s[0].toNat : Int) != (q : Int)) = true := by simp; omega
    have HZ : Hid (uqV (unq q (numsOf s)) = .tuple #[.string ⟨#[]⟩, .int .i64 0, .bool false]) := by show _ = _; rw [unq_not s q hp h0]; rfl
    clear h0
    go_enter Try.func14, Try.ntmps14
    go_wp2_with fail
    go_ret3
    exact ⟨by rw [HZ.out]; rfl, Below.refl _ _⟩
end Go.Proofs.Ytndnakligoagaaa
