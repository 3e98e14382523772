import Derived.Test.YtnkaenfmmlahlaaFeed
import Derived.StillTailTactics
import Derived.Deep.QuietTactic
import Derived.BigQuiet
import Derived.Outline
namespace Go.Proofs.Ytnkaenfmmlahlaa
open Go.Conc Go.RowKit

theorem bytes3 : ∃ i, Try.prog.info? 3 = some i ∧ i.bytes = 8 := by
  have h : (Try.prog.info? 3).map (·.bytes) = some 8 := by kernel_rfl
  obtain ⟨i, hi, hb⟩ := Option.map_eq_some_iff.1 h
  exact ⟨i, hi, hb⟩
theorem mk (n : Nat) (h : n ≤ 1024) (w : World) : (Instr.makeChan 52 (.int .i64 n)).run Try.prog w = .ok (.chan (some w.heap.size)) (w.alloc (.chan n #[] false 0 0 false)) := by
  obtain ⟨i, hi, hb⟩ := bytes3
  have := run_makeChan (P := Try.prog) (w := w) Try.underlying52 hi .i64 n (by omega) (by rw [hb]; omega)
  simpa using this

/-- What New leaves at a number in range. -/
def NewPost (n : Nat) (w : World) (e : Ending) (w' : World) : Prop :=
  e = .returned (.tuple #[.pointer (some ⟨w.heap.size + 1, 0, none⟩), .int .i64 0]) ∧ FeedAt w' (w.heap.size + 1) w.heap.size n [] false 0 ∧ Below w.heap.size w w' ∧ w'.heap.size = w.heap.size + 2

theorem new_ok (n : Nat) (hn : n ≤ 1024) (w : World) : Calls Try.prog 6 #[.int .i64 n] w (NewPost n w) := by
  have hmk := mk n hn
  have hfin : NewPost n w (.returned (.tuple #[.pointer (some ⟨w.heap.size + 1, 0, none⟩), .int .i64 0])) ((w.alloc (.chan n #[] false 0 0 false)).alloc (.cells #[.chan (some w.heap.size), .bool false, .int .i64 0] 54)) := by
    refine ⟨rfl, ⟨?_, ⟨0, 0, ?_⟩, by simp⟩, ((Below.refl _ _).alloc (Nat.le_refl _) _).alloc (by simp) _, by simp⟩
    · have := heap_alloc_new (w.alloc (.chan n #[] false 0 0 false)) (.cells #[.chan (some w.heap.size), .bool false, .int .i64 0] 54)
      simp only [World.size_alloc] at this
      exact this
    · rw [heap_alloc_old _ _ (by simp)]
      exact heap_alloc_new w _
  go_enter Try.func6, Try.ntmps6
  go_wp2
  go_ret2
  exact hfin
theorem new_bad (n : Int) (hn : n < 0 ∨ 1024 < n) (w : World) : Calls Try.prog 6 #[.int .i64 n] w fun e w' => e = .returned (.tuple #[.pointer none, .int .i64 1]) ∧ w = w' := by
  by_cases h : n < 0
  · go_enter Try.func6, Try.ntmps6
    go_wp2
    go_ret2
    exact ⟨rfl, rfl⟩
  · have h' : 1024 < n := by omega
    clear hn
    go_enter Try.func6, Try.ntmps6
    go_wp2
    go_ret2
    exact ⟨rfl, rfl⟩

/-- The page's example. -/
theorem awake_any (w : World) : Calls Try.prog 5 #[] w fun e w' => e = .returned (.bool true) ∧ Below w.heap.size w w' := by
  go_enter Try.func5, Try.ntmps5
  go_wp2_with (go_at_call 6; refine (new_ok 1 (by omega) _).mono ?_; rintro e w1 ⟨rfl, h1, b1, _⟩)
  refine (put_kept h1 5 (by simp)).mono ?_
  rintro e w2 ⟨rfl, h2, k2⟩
  go_wp2_with fail
  refine (put_lost h2 6 (.inr (by simp)) (by omega)).mono ?_
  rintro e w3 ⟨rfl, h3, k3⟩
  go_wp2_with fail
  go_ret
  exact ⟨rfl, b1.trans ((k2.trans k3).below b1.size (by simp))⟩
end Go.Proofs.Ytnkaenfmmlahlaa
