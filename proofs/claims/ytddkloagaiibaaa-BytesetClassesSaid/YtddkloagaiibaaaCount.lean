import Derived.Test.YtddkloagaiibaaaClasses
namespace Go.Proofs.Ytddkloagaiibaaa
open Go.RowKit Go.Maps

/-- The greatest of the first k numbers. -/
def top (v : Nat → Nat) : Nat → Nat
  | 0 => 0
  | k + 1 => if top v k < v k then v k else top v k
theorem top_ge (v : Nat → Nat) (k j : Nat) (h : j < k) : v j ≤ top v k := by
  induction k with
  | zero => omega
  | succ k ih =>
    simp only [top]
    by_cases e : j = k
    · subst e; split <;> omega
    · have := ih (by omega); split <;> omega
theorem top_is (v : Nat → Nat) (k : Nat) (h : 0 < k) : ∃ j, j < k ∧ v j = top v k := by
  induction k with
  | zero => omega
  | succ k ih =>
    simp only [top]
    split
    · exact ⟨k, by omega, rfl⟩
    · rcases Nat.eq_zero_or_pos k with h0 | h0
      · subst h0; exact ⟨0, by omega, by simp only [top] at *; omega⟩
      · obtain ⟨j, hj, e⟩ := ih h0; exact ⟨j, by omega, e⟩
theorem top_cls (K : Nat → Lit) : top (cls K) 256 + 1 = nrep K 256 := by
  obtain ⟨b, hb, h1⟩ := cls_top K 256 (by decide)
  obtain ⟨j, hj, h2⟩ := top_is (cls K) 256 (by decide)
  have h3 := top_ge (cls K) 256 b hb
  have h4 := cls_lt K j 256 hj
  omega

set_option maxHeartbeats 1000000 in
set_option maxRecDepth 100000 in
theorem max_any (g : Nat) (v : Nat → Nat) (w : World) (hv : ∀ j, j < 256 → v j ≤ 255) (hc : ∀ j, j < 256 → w.cell? ⟨g, j, none⟩ = some (.int .u8 ((v j : Nat) : Int))) :
    Calls Try.prog 19 #[.slice (some ⟨g, 0, none⟩) 256 256] w fun e w' => e = .returned (.int .u8 ((top v 256 : Nat) : Int)) ∧ w = w' := by
  have c0 := hc 0 (by omega)
  have HC := Lib.hid hc
  have HV := Lib.hid hv
  clear hc hv
  have h0 : Hid (top v 1 = v 0) := by show (if 0 < v 0 then v 0 else 0) = v 0; by_cases h : 0 < v 0 <;> simp [h]; omega
  go_enter Try.func19, Try.ntmps19
  go_wp2_with fail
  go_loop [3, 4] (fun m i => ∃ k : Nat, i = .int .i64 k ∧ 1 ≤ k ∧ k ≤ 256 ∧ m = .int .u8 ((top v k : Nat) : Int)) (fun _ i => 256 - (intOf i).toNat)
  case atStart => exact ⟨1, rfl, by omega, by omega, by rw [h0.out]⟩
  case round =>
    clear c0
    obtain ⟨k, rfl, hk1, hk, rfl⟩ := hrel
    by_cases hlt : k < 256
    · have ck := HC.out k hlt
      have hx := HV.out k hlt
      have hn : Hid (top v (k + 1) = if top v k < v k then v k else top v k) := rfl
      generalize top v k = m at hn ⊢
      rcases Nat.lt_or_ge m (v k) with hm | hm
      · have hn2 : Hid (top v (k + 1) = v k) := by show _ = _; rw [hn.out, if_pos hm]
        generalize v k = x at ck hm hn2 hx
        clear hn
        go_wp2_with fail
        go_round
        case rel => exact ⟨k + 1, by go_num, by omega, by omega, by rw [hn2.out]⟩
        case measure => simp [intOf]; omega
      · have hn2 : Hid (top v (k + 1) = m) := by show _ = _; rw [hn.out, if_neg (by omega)]
        generalize v k = x at ck hm hx
        clear hn
        go_wp2_with fail
        go_round
        case rel => exact ⟨k + 1, by go_num, by omega, by omega, by rw [hn2.out]⟩
        case measure => simp [intOf]; omega
    · obtain rfl : k = 256 := by omega
      go_wp2_with fail
      go_ret
      exact ⟨rfl, rfl⟩

set_option maxRecDepth 100000 in
theorem count_any (cs : Array Value) (v : Nat → Nat) (w : World) (hv : ∀ j, j < 256 → v j ≤ 255) (hc : ∀ j, j < 256 → cs[j]? = some (.int .u8 ((v j : Nat) : Int))) :
    Calls Try.prog 14 #[.agg cs] w fun e w' => e = .returned (.int .i64 ((top v 256 + 1 : Nat) : Int)) ∧ Below w.heap.size w w' := by
  obtain ⟨j, hj, hj2⟩ := top_is v 256 (by decide)
  have htop : top v 256 ≤ 255 := by rw [← hj2]; exact hv j hj
  clear hj hj2
  go_enter Try.func14, Try.ntmps14
  go_wp2_with fail
  refine (max_any w.heap.size v _ hv (fun j hj => by rw [cell_of_row _ w.heap.size j cs _ _ (heap_alloc_new w _), hc j hj])).mono ?_
  rintro e w1 ⟨rfl, rfl⟩
  go_wp2_with fail
  go_ret
  exact ⟨rfl, (Below.refl _ _).alloc (Nat.le_refl _) _⟩
end Go.Proofs.Ytddkloagaiibaaa
