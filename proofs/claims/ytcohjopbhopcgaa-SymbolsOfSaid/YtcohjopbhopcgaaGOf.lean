import Derived.Test.YtcohjopbhopcgaaGAwk
namespace Go.Proofs.Ytcohjopbhopcgaa
open Go.RowKit Go.Maps Go.WideElems Go.ChangeMaps Go.MapKept
set_option linter.unusedVariables false
set_option linter.unusedSimpArgs false

/-- The first k names are added, each. -/
def AllS (l : List ByteArray) (k : Nat) : Prop := ∀ j (h : j < l.length), j < k → adE (adU l j) l[j] = 0
theorem AllS.take {l : List ByteArray} {k : Nat} (h : AllS l k) (hk : k ≤ l.length) : adU l k = l.take k := by
  induction k with
  | zero => simp [adU]
  | succ k ih =>
    have h1 := ih (fun j hj hjk => h j hj (by omega)) (by omega)
    rw [adU_succ (by omega : k < l.length), (adE_zero (h k (by omega) (by omega))).1, h1, List.take_succ_eq_append_getElem (by omega : k < l.length)]
/-- What Of tells. -/
def OfSP (l : List ByteArray) (w : World) (e : Ending) (w' : World) : Prop :=
  Below w.heap.size w w' ∧ ((∃ k, ∃ (h : k < l.length), AllS l k ∧ adE (adU l k) l[k] ≠ 0 ∧ e = .returned (.tuple #[.pointer none, .int .i64 ((k : Nat) : Int), .int .i64 (adE (adU l k) l[k])])) ∨
    (AllS l l.length ∧ ∃ p v, e = .returned (.tuple #[.pointer (some ⟨p, 0, none⟩), .int .i64 ((l.length : Nat) : Int), .int .i64 0]) ∧ TbM w' w.heap.size p v l))

set_option maxHeartbeats 2000000 in
set_option maxRecDepth 100000 in
theorem of16_any (l : List ByteArray) (hl : FewS l) (n c : Nat) (a : Option Addr) (hn : l.length = n) (w : World) (h1 : SsAt w a l) :
    Calls Try.prog 16 #[.slice a n c] w (OfSP l w) := by
  have hn4 : n ≤ 400 := by have := hl.n; omega
  have H := Lib.hid (And.intro h1 (And.intro hn hl))
  clear h1 hn hl
  go_enter Try.func16, Try.ntmps16
  go_wp2_with fail
  refine (new16_any w).mono ?_
  rintro e w1 ⟨rfl, m1, b1⟩
  have H1 := Lib.hid (And.intro m1 b1)
  clear m1 b1
  go_wp2_with fail
  go_loopw [13] (fun x wr => ∃ (k : Nat) (v : Value), x = .int .i64 k ∧ k ≤ n ∧ Hid (AllS l k ∧ TbM wr w.heap.size w.heap.size v (adU l k) ∧ Below w.heap.size w wr)) (fun x _ => n - (intOf x).toNat)
  case atStart => exact ⟨0, _, rfl, Nat.zero_le _, fun j _ h => absurd h (by omega), H1.out.1, H1.out.2⟩
  case round =>
    obtain ⟨k, v, rfl, hk, HR⟩ := hrel
    by_cases hlt : k < n
    · have hkA : k < l.length := by rw [H.out.2.1]; exact hlt
      obtain ⟨g1, o1, rfl, _, q1⟩ := (H.out.1.below HR.out.2.2) (by omega)
      have x1 := q1 k hkA
      have HA := Lib.hid (addS_any HR.out.2.1 (adU_len l k) l[k] (Nat.le_trans (H.out.2.2.s k hkA) (by omega)))
      have HN : Hid ((adE (adU l k) l[k] ≠ 0 → ∀ w', Below w.heap.size w w' → OfSP l w (.returned (.tuple #[.pointer none, .int .i64 ((k : Nat) : Int), .int .i64 (adE (adU l k) l[k])])) w') ∧ (adE (adU l k) l[k] = 0 → AllS l (k + 1)) ∧ adU l (k + 1) = adN (adU l k) l[k]) := by
        refine ⟨fun h w' hb => ⟨hb, Or.inl ⟨k, hkA, HR.out.1, h, rfl⟩⟩, fun h j hj h3 => ?_, adU_succ hkA⟩
        by_cases e : j = k
        · subst e; exact h
        · exact HR.out.1 j hj (by omega)
      have i2 : (k : Int) < (n : Int) := by omega
      clear q1
      generalize l[k] = s at x1 HA HN
      go_wp2_with fail
      refine HA.out.mono ?_
      rintro e w2 ⟨v2, rfl, m2, c2, _⟩
      have b2 := HR.out.2.2.trans (c2.below HR.out.2.1 HR.out.2.2.size)
      rw [← HN.out.2.2] at m2
      have H2 := Lib.hid (And.intro m2 b2)
      clear m2 c2 b2 HA
      by_cases hE : adE (adU l k) s = 0
      · have HZ := Lib.hid (HN.out.2.1 hE)
        rw [hE]
        clear hE HN hkA
        go_wp2_with fail
        go_roundw
        case rel => exact ⟨k + 1, v2, by go_num, by omega, HZ.out, H2.out.1, H2.out.2⟩
        case measure => simp [intOf]; omega
      · have HZ := Lib.hid (HN.out.1 hE _ H2.out.2)
        obtain ⟨x, hx⟩ : ∃ x, adE (adU l k) s = x := ⟨_, rfl⟩
        rw [hx] at hE HZ ⊢
        have i3 : ((x : Int) != 0) = true := by simp [hE]
        clear hE HN hkA hx
        go_wp2_with fail
        go_ret3
        exact HZ.out
    · obtain rfl : k = n := by omega
      have hA : AllS l l.length := by rw [H.out.2.1]; exact HR.out.1
      have hu : adU l k = l := by rw [HR.out.1.take (by rw [H.out.2.1]; exact Nat.le_refl _), ← H.out.2.1, List.take_length]
      have hm : TbM wr w.heap.size w.heap.size v l := by have := HR.out.2.1; rwa [hu] at this
      have HL := Lib.hid (len16_any hm)
      have HZ : Hid (OfSP l w (.returned (.tuple #[.pointer (some ⟨w.heap.size, 0, none⟩), .int .i64 ((l.length : Nat) : Int), .int .i64 0])) wr) := ⟨HR.out.2.2, Or.inr ⟨hA, _, v, rfl, hm⟩⟩
      clear hA hu hm
      go_wp2_with fail
      refine HL.out.mono ?_
      rintro e w2 ⟨rfl, rfl⟩
      go_wp2_with fail
      go_ret3
      exact HZ.out
end Go.Proofs.Ytcohjopbhopcgaa
