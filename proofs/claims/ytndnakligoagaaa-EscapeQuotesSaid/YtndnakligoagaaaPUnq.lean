import Derived.Test.YtndnakligoagaaaRUnq
import Derived.Test.YtndnakligoagaaaConv
namespace Go.Proofs.Ytndnakligoagaaa
open Go.RowKit

set_option maxHeartbeats 4000000 in
set_option maxRecDepth 100000 in
theorem unq_any (s : ByteArray) (q : Nat) (hs : s.size ≤ 1000000) (w : World) :
    Calls Try.prog 13 #[.string s, .int .u8 q] w fun e w' => e = .returned (uqV (unq q (numsOf s))) ∧ Below w.heap.size w w' := by
  rcases Nat.eq_zero_or_pos s.size with hz | hp
  · have hl : s.toList = [] := by rw [ByteArray.toList_eq]; exact List.eq_nil_of_length_eq_zero (by simpa using hz)
    have hl2 : (!s.toList.isEmpty) = false := by rw [hl]; rfl
    have HZ : Hid (uqV (unq q (numsOf s)) = .tuple #[.string ⟨#[]⟩, .int .i64 0, .bool false]) := by show _ = _; rw [nums_zero s hz]; rfl
    clear hz
    go_enter Try.func13, Try.ntmps13
    go_wp2_with fail
    go_ret3
    exact ⟨by rw [HZ.out]; rfl, Below.refl _ _⟩
  have hl : s.toList.isEmpty = false := ne_empty s hp
  have hl2 : (!s.toList.isEmpty) = true := by rw [hl]; rfl
  by_cases h0 : s[0].toNat = q
  · have e0 : ((s[0].toNat : Int) != (q : Int)) = false := by simp; omega
    have HU := Lib.hid (UqAt.start s q hp h0)
    have HV : Hid (uqV uqNo = .tuple #[.string ⟨#[]⟩, .int .i64 0, .bool false]) := rfl
    generalize unq q (numsOf s) = R at HU ⊢
    have HRD : Hid (∀ k, rd (numsOf (s.extract k s.size)) = rd ((numsOf s).drop k)) := fun k => by rw [nums_from]
    obtain ⟨i0, hi, hz0, hz1, hz2⟩ := info_parts Try.info_u8
    clear h0
    go_enter Try.func13, Try.ntmps13
    go_wp2_with fail
    go_loopw [7, 8] (fun v i wr => ∃ (k : Nat) (acc : List Nat), i = .int .i64 k ∧ k ≤ s.size ∧ wr.ownsRow w.heap.size 5 1 v acc.length (u8s acc) ∧ acc.length ≤ k ∧ Hid (UqAt s q R k acc) ∧ Below w.heap.size w wr) (fun _ i _ => s.size - (intOf i).toNat)
    case atStart => exact ⟨1, [], rfl, hp, World.ownsRow_nil _ _ _ _, by simp, HU, Below.refl _ _⟩
    case round =>
      clear HU
      obtain ⟨k, acc, rfl, hk, hown, hacc, HU, hbel⟩ := hrel
      obtain ⟨a0, cap0, rfl⟩ := ownsRow_slice hown
      by_cases hlt : k < s.size
      · have hc := UInt8.toNat_lt s[k]
        by_cases hq : s[k].toNat = q
        · have e1 : ((s[k].toNat : Int) == (q : Int)) = true := by simp; omega
          have HZ : Hid (uqV R = .tuple #[.string (strOf acc), .int .i64 ((k + 1 : Nat) : Int), .bool true]) := by show _ = _; rw [HU.out.hit hlt hq]; rfl
          have hcv := conv_any hown rfl
          clear hq
          go_wp2_with fail
          go_ret3
          exact ⟨by rw [HZ.out]; rfl, hbel⟩
        have e1 : ((s[k].toNat : Int) == (q : Int)) = false := by simp; omega
        have hbw := hbel.size
        have HES : Hid ((s.extract k s.size).size ≤ maxLen) := by
          show _ ≤ _
          rw [ByteArray.size_extract]; unfold maxLen; omega
        rcases hr : rd ((numsOf s).drop k) with ⟨a, b, o⟩
        have HR := Lib.hid ((HRD.out k).trans hr)
        by_cases h10 : s[k].toNat = 10
        · have e2 : ((s[k].toNat : Int) == 10) = true := by simp; omega
          have HZ : Hid (uqV R = .tuple #[.string ⟨#[]⟩, .int .i64 0, .bool false]) := by show _ = _; rw [HU.out.feed hlt hq h10]; rfl
          clear hq h10 hr HU
          rcases o with _ | _
          all_goals
            go_wp2_with fail
            refine (read_any _ HES.out _).mono ?_
            rintro e w2 ⟨rfl, b2⟩
            rw [HR.out, rdV_mk]
            have hb2 := hbel.trans (b2.mono hbw)
            clear b2
            go_wp2_with fail
            go_ret3
            exact ⟨by rw [HZ.out]; rfl, hb2⟩
        have e2 : ((s[k].toNat : Int) == 10) = false := by simp; omega
        rcases o with _ | _
        · have HZ : Hid (uqV R = .tuple #[.string ⟨#[]⟩, .int .i64 0, .bool false]) := by show _ = _; rw [HU.out.fail hlt hq h10 hr]; rfl
          clear hq h10 hr HU
          go_wp2_with fail
          refine (read_any _ HES.out _).mono ?_
          rintro e w2 ⟨rfl, b2⟩
          rw [HR.out, rdV_mk]
          have hb2 := hbel.trans (b2.mono hbw)
          clear b2
          go_wp2_with fail
          go_ret3
          exact ⟨by rw [HZ.out]; rfl, hb2⟩
        · obtain ⟨hn, ha, hb, hkb⟩ := HU.out.next hlt hq h10 hr
          have HN := Lib.hid hn
          clear hq h10 hr HU hn
          go_wp2_with fail
          refine (read_any _ HES.out _).mono ?_
          rintro e w2 ⟨rfl, b2⟩
          rw [HR.out, rdV_mk]
          have hb2 := hbel.trans (b2.mono hbw)
          have hbw2 := hb2.size
          have hown2 := ownsRow_keep hown b2
          clear b2 hown
          go_wp2_with (at_builtin; refine wpList_append_own _ rfl _ _ 39 rfl w.heap.size 5 i0 (.int .u8 0) 1 1 Try.underlying39 hi hz0 hz1 hz2 rfl (by decide) _ _ _ rfl (hown2.alloc _) ⟨w2.heap.size, 0, none⟩ 1 1 [.int .u8 ((a : Nat) : Int)] rfl rfl ?c1 ?c2 ?c3 ?c4 ?c5 ?_)
          case c1 =>
            intro j u hj
            match j, hj with
            | 0, hj => simp at hj; subst hj; simp [Addr.add]
          case c2 => intro u hu; simp at hu; subst hu; rfl
          case c3 => unfold maxLen; omega
          case c4 => omega
          case c5 => simp; omega
          intro v' w5 hown5 hgrow5 _
          have hB5 : Below w.heap.size w2 w5 := ((Below.refl _ w2).alloc (by omega) _).trans (grown_kept hgrow5 (hown2.alloc _) (by simp; omega))
          have hown6 : w5.ownsRow w.heap.size 5 1 v' (acc ++ [a]).length (u8s (acc ++ [a])) := by rw [u8s_snoc]; simpa using hown5
          have hb5 := hb2.trans hB5
          have HO := Lib.hid hown6
          clear hown5 hgrow5 hown2 hB5 hb2 hown6
          go_wp2_with fail
          go_roundw
          case rel => exact ⟨k + b, acc ++ [a], by go_num, hkb, HO.out, by simp; omega, HN, hb5⟩
          case measure => simp [intOf]; omega
      · have HZ : Hid (uqV R = .tuple #[.string ⟨#[]⟩, .int .i64 0, .bool false]) := by show _ = _; rw [HU.out.fin (by omega)]; rfl
        go_wp2_with fail
        go_ret3
        exact ⟨by rw [HZ.out]; rfl, hbel⟩
  · have e0 : ((s[0].toNat : Int) != (q : Int)) = true := by simp; omega
    have HZ : Hid (uqV (unq q (numsOf s)) = .tuple #[.string ⟨#[]⟩, .int .i64 0, .bool false]) := by show _ = _; rw [unq_not s q hp h0]; rfl
    clear h0
    go_enter Try.func13, Try.ntmps13
    go_wp2_with fail
    go_ret3
    exact ⟨by rw [HZ.out]; rfl, Below.refl _ _⟩
end Go.Proofs.Ytndnakligoagaaa
