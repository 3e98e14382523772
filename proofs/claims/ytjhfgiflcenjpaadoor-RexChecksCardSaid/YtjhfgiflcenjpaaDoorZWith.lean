import Derived.Test.YtjhfgiflcenjpaaDoorChecked
import Derived.Test.YtjhfgiflcenjpaaDoorZBits
import Derived.WalkKit
import Derived.WalkLawsBesides
import Derived.WalkSpells
import Derived.Outline
import Derived.Below
import Derived.Lib.Hide
import Derived.RegionTactic
namespace Go.Proofs.YtjhfgiflcenjpaaDoor
open Go.RowKit

theorem has_any (p : Nat → Bool) (b : Nat) (hb : b < 256) (w : World) :
    Calls Tryd.prog 71 #[(.agg #[.int .u64 ((wd p 0 : Nat) : Int), .int .u64 ((wd p 1 : Nat) : Int), .int .u64 ((wd p 2 : Nat) : Int), .int .u64 ((wd p 3 : Nat) : Int)]), .int .u8 b] w fun e w' => e = .returned (.bool (p b)) ∧ Below w.heap.size w w' := by
  have hq : b / 64 = 0 ∨ b / 64 = 1 ∨ b / 64 = 2 ∨ b / 64 = 3 := by omega
  rcases hq with h | h | h | h
  · go_enter Tryd.func71, Tryd.ntmps71
    go_wp2
    rw [bits_has p b 0 h]
    go_ret
    exact ⟨rfl, (Below.refl _ _).alloc (Nat.le_refl _) _⟩
  · go_enter Tryd.func71, Tryd.ntmps71
    go_wp2
    rw [bits_has p b 1 h]
    go_ret
    exact ⟨rfl, (Below.refl _ _).alloc (Nat.le_refl _) _⟩
  · go_enter Tryd.func71, Tryd.ntmps71
    go_wp2
    rw [bits_has p b 2 h]
    go_ret
    exact ⟨rfl, (Below.refl _ _).alloc (Nat.le_refl _) _⟩
  · go_enter Tryd.func71, Tryd.ntmps71
    go_wp2
    rw [bits_has p b 3 h]
    go_ret
    exact ⟨rfl, (Below.refl _ _).alloc (Nat.le_refl _) _⟩

theorem with_any (p : Nat → Bool) (b : Nat) (hb : b < 256) (w : World) :
    Calls Tryd.prog 69 #[(.agg #[.int .u64 ((wd p 0 : Nat) : Int), .int .u64 ((wd p 1 : Nat) : Int), .int .u64 ((wd p 2 : Nat) : Int), .int .u64 ((wd p 3 : Nat) : Int)]), .int .u8 b] w fun e w' => e = .returned (.agg #[.int .u64 ((wd (ins p b) 0 : Nat) : Int), .int .u64 ((wd (ins p b) 1 : Nat) : Int), .int .u64 ((wd (ins p b) 2 : Nat) : Int), .int .u64 ((wd (ins p b) 3 : Nat) : Int)]) ∧ Below w.heap.size w w' := by
  have hq : b / 64 = 0 ∨ b / 64 = 1 ∨ b / 64 = 2 ∨ b / 64 = 3 := by omega
  rcases hq with h | h | h | h
  · go_enter Tryd.func69, Tryd.ntmps69
    go_wp2
    rw [bits_ins p b 0 h, ← wd_far p b 1 (by omega), ← wd_far p b 2 (by omega), ← wd_far p b 3 (by omega)]
    exact bodyPost_ret (v := (.agg #[.int .u64 ((wd (ins p b) 0 : Nat) : Int), .int .u64 ((wd (ins p b) 1 : Nat) : Int), .int .u64 ((wd (ins p b) 2 : Nat) : Int), .int .u64 ((wd (ins p b) 3 : Nat) : Int)])) (by simp [results, Tryd.results69, go_sem]) rfl ⟨rfl, ((Below.refl _ _).alloc (Nat.le_refl _) _).alloc (by simp) _⟩
  · go_enter Tryd.func69, Tryd.ntmps69
    go_wp2
    rw [bits_ins p b 1 h, ← wd_far p b 0 (by omega), ← wd_far p b 2 (by omega), ← wd_far p b 3 (by omega)]
    exact bodyPost_ret (v := (.agg #[.int .u64 ((wd (ins p b) 0 : Nat) : Int), .int .u64 ((wd (ins p b) 1 : Nat) : Int), .int .u64 ((wd (ins p b) 2 : Nat) : Int), .int .u64 ((wd (ins p b) 3 : Nat) : Int)])) (by simp [results, Tryd.results69, go_sem]) rfl ⟨rfl, ((Below.refl _ _).alloc (Nat.le_refl _) _).alloc (by simp) _⟩
  · go_enter Tryd.func69, Tryd.ntmps69
    go_wp2
    rw [bits_ins p b 2 h, ← wd_far p b 0 (by omega), ← wd_far p b 1 (by omega), ← wd_far p b 3 (by omega)]
    exact bodyPost_ret (v := (.agg #[.int .u64 ((wd (ins p b) 0 : Nat) : Int), .int .u64 ((wd (ins p b) 1 : Nat) : Int), .int .u64 ((wd (ins p b) 2 : Nat) : Int), .int .u64 ((wd (ins p b) 3 : Nat) : Int)])) (by simp [results, Tryd.results69, go_sem]) rfl ⟨rfl, ((Below.refl _ _).alloc (Nat.le_refl _) _).alloc (by simp) _⟩
  · go_enter Tryd.func69, Tryd.ntmps69
    go_wp2
    rw [bits_ins p b 3 h, ← wd_far p b 0 (by omega), ← wd_far p b 1 (by omega), ← wd_far p b 2 (by omega)]
    exact bodyPost_ret (v := (.agg #[.int .u64 ((wd (ins p b) 0 : Nat) : Int), .int .u64 ((wd (ins p b) 1 : Nat) : Int), .int .u64 ((wd (ins p b) 2 : Nat) : Int), .int .u64 ((wd (ins p b) 3 : Nat) : Int)])) (by simp [results, Tryd.results69, go_sem]) rfl ⟨rfl, ((Below.refl _ _).alloc (Nat.le_refl _) _).alloc (by simp) _⟩
end Go.Proofs.YtjhfgiflcenjpaaDoor
