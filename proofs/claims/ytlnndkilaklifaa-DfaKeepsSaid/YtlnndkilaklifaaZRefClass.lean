import Derived.Test.YtlnndkilaklifaaZClassMath
import Derived.Test.YtlnndkilaklifaaZRefHas
import Derived.BigQuiet
import Derived.Deep.QuietTactic
import Derived.Deep.RegionHeld3
namespace Go.Proofs.Ytlnndkilaklifaa
open Go.RowKit Go.Maps

/-- Do the first i sets hold both or neither? -/
def same (s : Nat → Nat → Bool) (b c : Nat) : Nat → Bool
  | 0 => true
  | i + 1 => same s b c i && (s i b == s i c)
theorem same_iff (s : Nat → Nat → Bool) (b c i : Nat) : same s b c i = true ↔ ∀ j, j < i → s j b = s j c := by
  induction i with
  | zero => simp [same]
  | succ i ih =>
    simp only [same, Bool.and_eq_true, ih, beq_iff_eq]
    constructor
    · rintro ⟨h1, h2⟩ j hj
      by_cases e : j = i
      · subst e; exact h2
      · exact h1 j (by omega)
    · intro h
      exact ⟨fun j hj => h j (by omega), h i (by omega)⟩

set_option maxHeartbeats 4000000 in
set_option maxRecDepth 100000 in
theorem rclass_any (a : Option Addr) (n cap b : Nat) (s : Nat → Nat → Bool) (hn : n ≤ 1000) (hb : b < 256) (w : World) (hS : SetsAt w a n s) :
    Calls Try.prog 13 #[.slice a n cap, .int .i64 b] w fun e w' => e = .returned (.int .i64 ((fst (keyLit s n) b : Nat) : Int)) ∧ Below w.heap.size w w' := by
  obtain ⟨K, hK⟩ : ∃ K, keyLit s n = K := ⟨_, rfl⟩
  rw [hK]
  have hsame : ∀ c, same s b c n = true ↔ K c = K b := fun c => by
    rw [same_iff, ← hK, keyLit_eq]
    exact ⟨fun h i hi => (h i hi).symm, fun h i hi => (h i hi).symm⟩
  have HS := Lib.hid hsame
  clear hK hsame
  go_enter Try.func13, Try.ntmps13
  go_wp2_with fail
  go_loopw [5] (fun c wr => ∃ k : Nat, c = .int .i64 k ∧ k ≤ b ∧ Hid (∀ d, d < k → K d ≠ K b) ∧ Below w.heap.size w wr) (fun c _ => b - (intOf c).toNat)
  case atStart => exact ⟨0, rfl, Nat.zero_le _, (fun d hd => absurd hd (by omega)), Below.refl _ _⟩
  case round =>
    obtain ⟨k, rfl, hk, HD, hbel⟩ := hrel
    by_cases hlt : k < b
    · go_wp2_with fail
      obtain ⟨wo, rfl⟩ : ∃ wo : World, wo = wr := ⟨_, rfl⟩
      go_loopw [6, 7] (fun v i wl => ∃ j : Nat, i = .int .i64 j ∧ j ≤ n ∧ v = .bool (same s b k j) ∧ Below w.heap.size w wl) (fun _ i _ => n - (intOf i).toNat)
      case atStart => exact ⟨0, rfl, Nat.zero_le _, rfl, hbel⟩
      case round =>
        clear hbel
        obtain ⟨j, rfl, hj, rfl, hbel⟩ := hrel
        by_cases hlt2 : j < n
        · obtain ⟨bl, off, rfl, hbl, hc⟩ := hS (by omega)
          obtain ⟨e0, e1, e2, e3⟩ := hc j hlt2
          have HN : Hid (same s b k (j + 1) = (same s b k j && (s j b == s j k))) := rfl
          clear hc
          generalize hsj : s j = sj at e0 e1 e2 e3 HN
          clear hsj
          have c0 := (hbel.cell (p := ⟨bl, off + j * 4, none⟩) hbl).trans e0
          have c1 := (hbel.cell (p := ⟨bl, off + j * 4 + 1, none⟩) hbl).trans e1
          have c2 := (hbel.cell (p := ⟨bl, off + j * 4 + 2, none⟩) hbl).trans e2
          have c3 := (hbel.cell (p := ⟨bl, off + j * 4 + 3, none⟩) hbl).trans e3
          have E := Lib.hid (And.intro e0 (And.intro e1 (And.intro e2 e3)))
          clear e0 e1 e2 e3
          rcases hsm : same s b k j with _ | _
          · have HN2 : Hid (same s b k (j + 1) = false) := by show _ = false; rw [HN.out, hsm]; rfl
            clear hsm HN
            go_wp2_with fail
            go_quiet (fail)
            go_wp2_with fail
            go_roundw
            case rel => exact ⟨j + 1, by go_num, by omega, by rw [HN2.out], by first | exact ⟨hbel.os, hbel.tape, hbel.output, hbel.size, hbel.block⟩ | exact hbel⟩
            case measure => simp [intOf]; omega
          · have HN2 : Hid (same s b k (j + 1) = (sj b == sj k)) := by show _ = _; rw [HN.out, hsm]; rfl
            clear hsm HN
            go_wp2_with fail
            have hh := hbel.drew
            go_region_held3 (fun W' => W'.cell? ⟨bl, off + j * 4, none⟩ = some (.int .u64 ((wd sj 0 : Nat) : Int)) ∧ W'.cell? ⟨bl, off + j * 4 + 1, none⟩ = some (.int .u64 ((wd sj 1 : Nat) : Int)) ∧ W'.cell? ⟨bl, off + j * 4 + 2, none⟩ = some (.int .u64 ((wd sj 2 : Nat) : Int)) ∧ W'.cell? ⟨bl, off + j * 4 + 3, none⟩ = some (.int .u64 ((wd sj 3 : Nat) : Int))) (first | exact ⟨c0, c1, c2, c3⟩ | go_keep)
              (first
                | (go_at_call 39; refine (rhas_any sj _ (by omega) _).mono ?_; rintro e w5 ⟨rfl, b5⟩; have hh5 := hh.trans (b5.mono hh.size); clear hh c0 c1 c2 c3; have hh := hh5; clear hh5 b5; have c0 := (hh.cell (p := ⟨bl, off + j * 4, none⟩) hbl).trans E.out.1; have c1 := (hh.cell (p := ⟨bl, off + j * 4 + 1, none⟩) hbl).trans E.out.2.1; have c2 := (hh.cell (p := ⟨bl, off + j * 4 + 2, none⟩) hbl).trans E.out.2.2.1; have c3 := (hh.cell (p := ⟨bl, off + j * 4 + 3, none⟩) hbl).trans E.out.2.2.2))
            all_goals
              go_wp2_with fail
              go_roundw
              case rel => exact ⟨j + 1, by go_num, by omega, by rw [HN2.out], by first | exact hh | exact hh.drew⟩
              case measure => simp [intOf]; omega
        · obtain rfl : j = n := by omega
          rcases hsm : same s b k j with _ | _
          · have HD2 : Hid (∀ d, d < k + 1 → K d ≠ K b) := by
              intro d hd e
              by_cases h : d = k
              · subst h
                have := (HS.out d).2 e
                rw [hsm] at this; simp at this
              · exact HD.out d (by omega) e
            clear hsm
            go_wp2_with fail
            go_roundw
            case rel => exact ⟨k + 1, by go_num, by omega, HD2, hbel⟩
            case measure => simp [intOf]; omega
          · have HF : Hid (fst K b = k) := fst_eq K b k ((HS.out k).1 hsm) HD.out
            clear hsm
            go_wp2_with fail
            go_ret
            exact ⟨by rw [HF.out]; rfl, hbel⟩
    · obtain rfl : k = b := by omega
      have HF : Hid (fst K k = k) := fst_eq K k k rfl HD.out
      go_wp2_with fail
      go_ret
      exact ⟨by rw [HF.out]; rfl, hbel⟩
end Go.Proofs.Ytlnndkilaklifaa
