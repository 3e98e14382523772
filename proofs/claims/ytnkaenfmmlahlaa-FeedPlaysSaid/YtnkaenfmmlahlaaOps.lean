import Derived.Test.YtnkaenfmmlahlaaRefPut
import Derived.Deep.QuietTactic
import Derived.BigQuiet
import Derived.RegionTactic
import Derived.WalkLawsBesides
import Derived.WalkSmall
namespace Go.Proofs.Ytnkaenfmmlahlaa
open Go.Conc Go.RowKit

theorem done_any {w : World} {b c cap : Nat} {l : List Int} {sh : Bool} {lost : Nat} (h : FeedAt w b c cap l sh lost) :
    Calls Try.prog 25 #[.pointer (some ⟨b, 0, none⟩)] w fun e w' => e = .returned (.bool (sh && decide (l.length = 0))) ∧ w = w' := by
  have h1 := h.cell1
  cases sh with
  | false =>
    go_enter Try.func25, Try.ntmps25
    go_wp2
    go_ret
    exact ⟨rfl, rfl⟩
  | true =>
    go_enter Try.func25, Try.ntmps25
    go_wp2_with (go_at_call 19; refine (len_any h).mono ?_; rintro e w' ⟨rfl, rfl⟩)
    go_ret
    refine ⟨?_, rfl⟩
    cases l <;> simp <;> omega

theorem room_any {w : World} {b c cap : Nat} {l : List Int} {sh : Bool} {lost : Nat} (h : FeedAt w b c cap l sh lost) (hcap : cap ≤ 1024) :
    Calls Try.prog 21 #[.pointer (some ⟨b, 0, none⟩)] w fun e w' => e = .returned (.int .i64 ((if sh then 0 else cap - l.length : Nat) : Int)) ∧ w = w' := by
  have h1 := h.cell1
  have hf := h.fits
  cases sh with
  | true =>
    go_enter Try.func21, Try.ntmps21
    go_wp2
    go_ret
    exact ⟨rfl, rfl⟩
  | false =>
    go_enter Try.func21, Try.ntmps21
    go_wp2_with (first | (go_at_call 24; refine (cap_any h).mono ?_; rintro e w' ⟨rfl, rfl⟩) | (go_at_call 19; refine (len_any h).mono ?_; rintro e w' ⟨rfl, rfl⟩))
    go_ret
    refine ⟨?_, rfl⟩
    simp
    omega

theorem shut_any {w : World} {b c cap : Nat} {l : List Int} {sh : Bool} {lost : Nat} (h : FeedAt w b c cap l sh lost) :
    Calls Try.prog 23 #[.pointer (some ⟨b, 0, none⟩)] w fun e w' => e = .returned (.tuple #[]) ∧ FeedAt w' b c cap l true lost ∧ Kept [b, c] w w' := by
  have h1 := h.cell1
  have h2 := h.frozen 1
  have hf := h.setShut true
  have hk : Kept [b, c] w (w.setCell ⟨b, 1, none⟩ (.bool true)) := kept_setCell _ _ _ (by simp)
  go_enter Try.func23, Try.ntmps23
  go_wp2
  go_end0
  exact ⟨rfl, hf, hk⟩

theorem same_any {w : World} {a a' : Option Addr} {cap cap' base base' : Nat} {l : List Int} (h : Own w base a cap l) (h' : Own w base' a' cap' l) (hl : l.length ≤ 2000) :
    Calls Try.prog 13 #[.slice a l.length cap, .slice a' l.length cap'] w fun e w' => e = .returned (.bool true) ∧ Below w.heap.size w w' := by
  go_enter Try.func13, Try.ntmps13
  go_wp2
  go_loopw [5] (fun i wr => ∃ k : Nat, k ≤ l.length ∧ i = .int .i64 k ∧ ∃ n, wr = w.drewN n) (fun i _ => l.length - (intOf i).toNat)
  case atStart => exact ⟨0, by omega, rfl, 0, rfl⟩
  case round =>
    obtain ⟨k, hk, rfl, n, rfl⟩ := hrel
    by_cases hlt : k < l.length
    · obtain ⟨g, rfl, hg⟩ := h.read hlt
      obtain ⟨g', rfl, hg'⟩ := h'.read hlt
      generalize l.getD k 0 = x at hg hg'
      go_wp2
      go_quiet (fail)
      go_wp2
      exact ⟨⟨k + 1, by omega, by go_num, _, rfl⟩, by simp [intOf]; omega⟩
    · obtain rfl : k = l.length := by omega
      go_wp2
      go_ret
      exact ⟨rfl, below_drewN (Below.refl _ _) n⟩

theorem FeedAt.drewN {w : World} {b c cap : Nat} {l : List Int} {sh : Bool} {lost : Nat} (h : FeedAt w b c cap l sh lost) (n : Nat) : FeedAt (w.drewN n) b c cap l sh lost := ⟨h.hb, h.hc, h.fits⟩
theorem FeedAt.alloc {w : World} {b c cap : Nat} {l : List Int} {sh : Bool} {lost : Nat} (h : FeedAt w b c cap l sh lost) (o : Obj) : FeedAt (w.alloc o) b c cap l sh lost :=
  h.below ((Below.refl w.heap.size w).alloc (Nat.le_refl _) o) h.lt.1 h.lt.2
theorem calls_symm {f : FuncId} {args : Array Value} {w : World} {v : Value} (h : Calls Try.prog f args w fun e w' => e = .returned v ∧ w = w') : Calls Try.prog f args w fun e w' => e = .returned v ∧ w' = w :=
  h.mono fun _ _ ⟨a, b⟩ => ⟨a, b.symm⟩

set_option maxHeartbeats 400000 in
theorem shows_any {w : World} {b c cap : Nat} {l : List Int} {sh : Bool} {lost : Nat} (h : FeedAt w b c cap l sh lost) (a : Option Addr) (ca : Nat) :
    Calls Try.prog 12 #[.pointer (some ⟨b, 0, none⟩), .agg #[.slice a l.length ca, .int .i64 cap, .int .i64 lost, .bool sh]] w fun e w' => e = .returned (.bool true) ∧ Below w.heap.size w w' := by
  have hA := fun n => (h.alloc (.cells #[.slice a l.length ca, .int .i64 cap, .int .i64 lost, .bool sh] 31)).drewN n
  have L19 := fun n => calls_symm (len_any (hA n))
  have L24 := fun n => calls_symm (cap_any (hA n))
  have L16 := fun n => calls_symm (lost_any (hA n))
  have L25 := fun n => calls_symm (done_any (hA n))
  clear hA
  cases sh with
  | false =>
    simp only [Bool.false_and] at L25
    go_enter Try.func12, Try.ntmps12
    go_wp2
    go_quiet (first | ((go_at_call 19; exact Calls.quiet_of_same (L19 _))) | ((go_at_call 24; exact Calls.quiet_of_same (L24 _))) | ((go_at_call 16; exact Calls.quiet_of_same (L16 _))) | ((go_at_call 25; exact Calls.quiet_of_same (L25 _))))
    go_wp2
    go_ret
    exact ⟨rfl, below_drewN ((Below.refl _ _).alloc (Nat.le_refl _) _) _⟩
  | true =>
    simp only [Bool.true_and] at L25
    cases l with
    | nil =>
      simp only [List.length_nil, decide_true] at *
      go_enter Try.func12, Try.ntmps12
      go_wp2
      go_quiet (first | ((go_at_call 19; exact Calls.quiet_of_same (L19 _))) | ((go_at_call 24; exact Calls.quiet_of_same (L24 _))) | ((go_at_call 16; exact Calls.quiet_of_same (L16 _))) | ((go_at_call 25; exact Calls.quiet_of_same (L25 _))))
      go_wp2
      go_ret
      exact ⟨rfl, below_drewN ((Below.refl _ _).alloc (Nat.le_refl _) _) _⟩
    | cons x r =>
      have e : (x :: r).length = r.length + 1 := rfl
      rw [e] at L19 L24 L16 L25 ⊢
      have e1 : decide (r.length + 1 = 0) = false := by simp
      simp only [e1] at L25
      clear e e1
      have e2 : ((r.length : Int) + 1 == 0) = false := by simp; omega
      go_enter Try.func12, Try.ntmps12
      go_wp2
      go_quiet (first | ((go_at_call 19; exact Calls.quiet_of_same (L19 _))) | ((go_at_call 24; exact Calls.quiet_of_same (L24 _))) | ((go_at_call 16; exact Calls.quiet_of_same (L16 _))) | ((go_at_call 25; exact Calls.quiet_of_same (L25 _))))
      go_wp2
      go_ret
      exact ⟨rfl, below_drewN ((Below.refl _ _).alloc (Nat.le_refl _) _) _⟩

end Go.Proofs.Ytnkaenfmmlahlaa
