import Derived.Test.YtjhfgiflcenjpaaDoorZRx
namespace Go.Proofs.YtjhfgiflcenjpaaDoor
open Go.RowKit

set_option maxRecDepth 100000 in
theorem list_any (p : Nat → Bool) (w : World) : Calls Tryd.prog 65 #[(.agg #[.int .u64 ((wd p 0 : Nat) : Int), .int .u64 ((wd p 1 : Nat) : Int), .int .u64 ((wd p 2 : Nat) : Int), .int .u64 ((wd p 3 : Nat) : Int)])] w (ListPost (lst p 256) w) := by
  obtain ⟨i0, hi, hz0, hz1, hz2⟩ := info_parts Tryd.info_u8
  go_enter Tryd.func65, Tryd.ntmps65
  go_wp2_with fail
  go_loopw [3, 5] (fun v i wr => ∃ k : Nat, i = .int .i64 k ∧ k ≤ 256 ∧ Collects w p (lst p k) v wr) (fun _ i _ => 256 - (intOf i).toNat)
  case atStart => exact ⟨0, rfl, Nat.zero_le _, ⟨St.new _ _ _, World.ownsRow_nil _ _ _ _, (Below.refl _ _).alloc (Nat.le_refl _) _⟩⟩
  case round =>
    obtain ⟨k, rfl, hk, R⟩ := hrel
    obtain ⟨r0, r1, r2, r3, r4, r5, r6, r7⟩ := row4 R.s0
    have hs0 := R.s0.lt
    obtain ⟨a, cap, rfl⟩ := ownsRow_slice R.own
    by_cases hlt : k < 256
    · go_wp2_with fail
      refine (has_any p k hlt _).mono ?_
      rintro e w1 ⟨rfl, b1⟩
      have hown1 := ownsRow_keep R.own b1
      have hst1 := R.s0.keep b1
      have hb1 := R.below.trans (b1.mono (by omega))
      have hs1 := b1.size
      have hl := lst_le p k
      clear R b1 r0 r1 r2 r3 r4 r5 r6 r7
      rcases hpk : p k with _ | _
      · have HN := Lib.hid (lst_no p k hpk)
        clear hpk
        go_wp2_with fail
        go_roundw
        case rel => exact ⟨k + 1, by go_num, by omega, by rw [HN.out]; exact ⟨hst1, hown1, hb1⟩⟩
        case measure => simp [intOf]; omega
      · have HN := Lib.hid (lst_yes p k hpk)
        clear hpk
        go_wp2_with (at_builtin; refine wpList_append_own _ rfl _ _ 49 rfl (w.heap.size + 1) 5 i0 (.int .u8 0) 1 1 Tryd.underlying49 hi hz0 hz1 hz2 rfl (by decide) _ _ _ rfl (hown1.alloc _) ⟨w1.heap.size, 0, none⟩ 1 1 [.int .u8 (k : Nat)] rfl rfl ?c1 ?c2 ?c3 ?c4 ?c5 ?_)
        case c1 =>
          intro j u hj
          match j, hj with
          | 0, hj => simp at hj; subst hj; simp [Addr.add]
        case c2 => intro u hu; simp at hu; subst hu; rfl
        case c3 => unfold maxLen; omega
        case c4 => omega
        case c5 => simp; omega
        intro v' w5 hown5 hgrow5 _
        have hB5 : Below (w.heap.size + 1) w1 w5 := ((Below.refl _ w1).alloc (by omega) _).trans (grown_kept hgrow5 (hown1.alloc _) (by simp; omega))
        have R5 : Collects w p (lst p k ++ [k]) v' w5 := ⟨hst1.below hB5 (by omega), by rw [u8s_snoc]; simpa using hown5, hb1.trans (hB5.mono (by omega))⟩
        clear hown5 hgrow5 hown1 hst1 hB5 hb1
        go_wp2_with fail
        go_roundw
        case rel => exact ⟨k + 1, by go_num, by omega, by rw [HN.out]; exact R5⟩
        case measure => simp [intOf]; omega
    · obtain rfl : k = 256 := by omega
      go_wp2_with fail
      go_ret
      exact ⟨a, cap, rfl, ownsRow_base R.own (by omega), R.below⟩
end Go.Proofs.YtjhfgiflcenjpaaDoor
