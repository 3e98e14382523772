import Derived.Test.YtnkaenfmmlahlaaFeed
import Derived.Outline
namespace Go.Proofs.Ytnkaenfmmlahlaa
open Go.Conc Go.RowKit

/-- The numbers after k rounds of Peek's loop. -/
def turned (v : Int) (l : List Int) (k : Nat) : List Int := l.drop k ++ v :: l.take k
theorem turned_step (v : Int) (l : List Int) (k : Nat) (h : k < l.length) : ∃ x r, turned v l k = x :: r ∧ r ++ [x] = turned v l (k + 1) ∧ r.length = l.length := by
  refine ⟨l[k], l.drop (k + 1) ++ v :: l.take k, ?_, ?_, ?_⟩
  · unfold turned
    rw [List.drop_eq_getElem_cons h]
    rfl
  · unfold turned
    rw [List.take_succ_eq_append_getElem h]
    simp
  · simp; omega
theorem turned_end (v : Int) (l : List Int) : turned v l l.length = v :: l := by simp [turned]

theorem peek_none {w : World} {b c cap : Nat} {sh : Bool} {lost : Nat} (h : FeedAt w b c cap [] sh lost) :
    Calls Try.prog 17 #[.pointer (some ⟨b, 0, none⟩)] w fun e w' => e = .returned (.tuple #[.int .i64 0, .int .i64 3]) ∧ w = w' := by
  go_enter Try.func17, Try.ntmps17
  go_wp2_with fail
  refine (Take_none h).mono ?_
  rintro e w' ⟨rfl, rfl⟩
  go_wp2_with fail
  go_ret2
  exact ⟨rfl, rfl⟩

set_option maxHeartbeats 400000 in
theorem peek_some {w : World} {b c cap : Nat} {sh : Bool} {lost : Nat} {v : Int} {l : List Int} (h : FeedAt w b c cap (v :: l) sh lost) (hcap : cap ≤ 1024) :
    Calls Try.prog 17 #[.pointer (some ⟨b, 0, none⟩)] w (Leaves (.tuple #[.int .i64 v, .int .i64 0]) b c cap (v :: l) sh lost w) := by
  have hf := h.fits
  simp only [List.length_cons] at hf
  go_enter Try.func17, Try.ntmps17
  go_wp2_with fail
  refine (Take_some h).mono ?_
  rintro e w1 ⟨rfl, h1, k1⟩
  go_wp2_with fail
  refine (Send_room h1 v (by omega)).mono ?_
  rintro e w2 ⟨rfl, h2, k2⟩
  go_wp2_with fail
  refine (len_any h2).mono ?_
  rintro e w3 ⟨rfl, rfl⟩
  rw [show ((l ++ [v]).length : Int) = ((l.length + 1 : Nat) : Int) from by simp]
  have K0 : Kept [b, c] w w2 := k1.trans k2
  clear k1 k2 h1 h
  go_wp2_with fail
  go_loopw [22] (fun i wr => ∃ k : Nat, k ≤ l.length ∧ i = .int .i64 k ∧ FeedAt wr b c cap (turned v l k) sh lost ∧ Kept [b, c] w wr) (fun i _ => l.length - (intOf i).toNat)
  case atStart => exact ⟨0, by omega, rfl, by simpa [turned] using h2, K0⟩
  case round =>
    obtain ⟨k, hk, rfl, hF, hK⟩ := hrel
    by_cases hlt : k < l.length
    · obtain ⟨x, r, e1, e2, e3⟩ := turned_step v l k hlt
      rw [e1] at hF
      have E2 := Lib.hid e2
      clear e1 e2 h2
      have hr : r.length < cap := by omega
      clear e3
      go_wp2_with fail
      refine (Take_some hF).mono ?_
      rintro e w3 ⟨rfl, h3, k3⟩
      go_wp2_with fail
      refine (Send_room h3 x hr).mono ?_
      rintro e w4 ⟨rfl, h4, k4⟩
      rw [E2.out] at h4
      go_wp2_with fail
      go_roundw
      case rel => exact ⟨k + 1, by omega, by go_num, h4, (hK.trans k3).trans k4⟩
      case measure => simp [intOf]; omega
    · obtain rfl : k = l.length := by omega
      rw [turned_end] at hF
      go_wp2_with fail
      go_ret2
      exact ⟨rfl, hF, hK⟩
end Go.Proofs.Ytnkaenfmmlahlaa
