import Derived.Test.YtlnndkilaklifaaZNRRun
import Derived.Test.YtlnndkilaklifaaZSClose
namespace Go.Proofs.Ytlnndkilaklifaa
open Go.RowKit
set_option linter.unusedVariables false
set_option linter.unusedSimpArgs false

/-- Marks in memory. -/
def ZAt (w : World) (a : Option Addr) (n : Nat) (z : Nat → Int) : Prop := 0 < n → ∃ g off, a = some ⟨g, off, none⟩ ∧ g < w.heap.size ∧ ∀ j, j < n → w.cell? ⟨g, off + j, none⟩ = some (.int .i64 (z j))
theorem ZAt.below {w w' : World} {a : Option Addr} {n : Nat} {z : Nat → Int} (h : ZAt w a n z) (k : Below w.heap.size w w') : ZAt w' a n z := by
  intro h0
  obtain ⟨g, off, e, hg, hc⟩ := h h0
  have := k.size
  exact ⟨g, off, e, by omega, fun j hj => (k.cell (p := ⟨g, off + j, none⟩) hg).trans (hc j hj)⟩
/-- The mark of a state by a list of marks. -/
def mkOf (n : Nat) (z : Nat → Int) (x : Nat) : Int := if x < n then (if 0 ≤ z x then z x else -1) else -1
theorem Least.step {mk : Nat → Int} {f : Nat → Bool} {k : Nat} {r r' : Int} (h : Least mk (fun x => x < k ∧ f x = true) r) (hr : (r' = r ∧ (f k = false ∨ mk k = -1 ∨ (r ≠ -1 ∧ r ≤ mk k))) ∨ (r' = mk k ∧ f k = true ∧ 0 ≤ mk k ∧ (r = -1 ∨ mk k ≤ r))) : Least mk (fun x => x < k + 1 ∧ f x = true) r' := by
  rcases hr with ⟨rfl, hc⟩ | ⟨rfl, hf, h0, hc⟩
  · rcases h with ⟨h1, h2⟩ | ⟨h1, ⟨y, hy, h2⟩, h3⟩
    · refine Or.inl ⟨h1, fun y hy => ?_⟩
      by_cases e : y = k
      · subst e
        rcases hc with hc | hc | hc
        · rw [hc] at hy; cases hy.2
        · exact hc
        · omega
      · exact h2 y ⟨by omega, hy.2⟩
    · refine Or.inr ⟨h1, ⟨y, ⟨by omega, hy.2⟩, h2⟩, fun x hx => ?_⟩
      by_cases e : x = k
      · subst e
        rcases hc with hc | hc | hc
        · rw [hc] at hx; cases hx.2
        · exact Or.inl hc
        · exact Or.inr hc.2
      · exact h3 x ⟨by omega, hx.2⟩
  · refine Or.inr ⟨h0, ⟨k, ⟨by omega, hf⟩, rfl⟩, fun x hx => ?_⟩
    by_cases e : x = k
    · subst e; exact Or.inr (Int.le_refl _)
    · rcases h with ⟨h1, h2⟩ | ⟨h1, _, h3⟩
      · exact Or.inl (h2 x ⟨by omega, hx.2⟩)
      · rcases h3 x ⟨by omega, hx.2⟩ with h | h
        · exact Or.inl h
        · exact Or.inr (by omega)

set_option maxHeartbeats 2000000 in
set_option maxRecDepth 100000 in
theorem rmark_any (am : Option Addr) (n cm : Nat) (z : Nat → Int) (ai : Option Addr) (N ci : Nat) (f : Nat → Bool) (hn : n ≤ 1000000) (hN : N ≤ 1000000) (w : World) (hz : ZAt w am n z) (hf : BAt w ai N f) :
    Calls Try.prog 16 #[.slice am n cm, .slice ai N ci] w fun e w' => ∃ r, e = .returned (.int .i64 r) ∧ Least (mkOf n z) (fun x => x < N ∧ f x = true) r ∧ w' = w := by
  have H := Lib.hid (And.intro hz hf)
  clear hz hf
  go_enter Try.func16, Try.ntmps16
  go_wp2_with fail
  go_loopw [5, 6] (fun v5 v6 wr => ∃ (k : Nat) (r : Int), v6 = .int .i64 k ∧ k ≤ N ∧ v5 = .int .i64 r ∧ -1 ≤ r ∧ wr = w ∧ Hid (Least (mkOf n z) (fun x => x < k ∧ f x = true) r)) (fun _ v _ => N - (intOf v).toNat)
  case atStart => exact ⟨0, -1, rfl, Nat.zero_le _, rfl, Int.le_refl _, rfl, Or.inl ⟨rfl, fun x hx => by omega⟩⟩
  case round =>
    obtain ⟨k, r, rfl, hk, rfl, hr, rfl, HL⟩ := hrel
    by_cases hkN : k < N
    · by_cases hkn : k < n
      · obtain ⟨g1, o1, rfl, _, q1⟩ := H.out.1 (by omega)
        obtain ⟨g2, o2, rfl, _, q2⟩ := H.out.2 (by omega)
        have d1 := q1 k hkn
        have d2 := q2 k hkN
        have HS : Hid (∀ r', _ → Least (mkOf n z) (fun x => x < k + 1 ∧ f x = true) r') := fun r' => HL.out.step (r' := r')
        have hmk : mkOf n z k = if 0 ≤ z k then z k else -1 := by simp [mkOf, hkn]
        generalize mkOf n z k = y at HS hmk
        generalize z k = zk at d1 hmk
        generalize hfk : f k = b at d2 HS
        have i1 : (k : Int) < (N : Int) := by omega
        have i2 : (k : Int) < (n : Int) := by omega
        clear q1 q2 hfk
        rcases b with _ | _
        · have HZ := Lib.hid (HS.out r (Or.inl ⟨rfl, Or.inl rfl⟩))
          go_wp2_with fail
          go_roundw
          case rel => exact ⟨k + 1, r, by go_num, by omega, rfl, hr, by first | trivial | rfl, HZ⟩
          case measure => simp [intOf]; omega
        · by_cases hz0 : 0 ≤ zk
          · rw [if_pos hz0] at hmk
            subst hmk
            rcases Int.lt_or_le r 0 with hr0 | hr0
            · have HZ := Lib.hid (HS.out y (Or.inr ⟨rfl, rfl, hz0, Or.inl (by omega)⟩))
              go_wp2_with fail
              go_roundw
              case rel => exact ⟨k + 1, y, by go_num, by omega, rfl, by omega, by first | trivial | rfl, HZ⟩
              case measure => simp [intOf]; omega
            · rcases Int.lt_or_le y r with hyr | hyr
              · have HZ := Lib.hid (HS.out y (Or.inr ⟨rfl, rfl, hz0, Or.inr (by omega)⟩))
                go_wp2_with fail
                go_roundw
                case rel => exact ⟨k + 1, y, by go_num, by omega, rfl, by omega, by first | trivial | rfl, HZ⟩
                case measure => simp [intOf]; omega
              · have HZ := Lib.hid (HS.out r (Or.inl ⟨rfl, Or.inr (Or.inr ⟨by omega, hyr⟩)⟩))
                have hyd : decide (y < r) = false := by simp; omega
                have hb1 : decide (r < 0) = false := by simp; omega
                have hb2 : decide (0 ≤ y) = true := by simp; omega
                go_wp2_with fail
                go_roundw
                case rel => exact ⟨k + 1, r, by go_num, by omega, rfl, hr, by first | trivial | rfl, HZ⟩
                case measure => simp [intOf]; omega
          · rw [if_neg hz0] at hmk
            have HZ := Lib.hid (HS.out r (Or.inl ⟨rfl, Or.inr (Or.inl hmk)⟩))
            have hb2 : decide (0 ≤ zk) = false := by simp; omega
            go_wp2_with fail
            go_roundw
            case rel => exact ⟨k + 1, r, by go_num, by omega, rfl, hr, by first | trivial | rfl, HZ⟩
            case measure => simp [intOf]; omega
      · have HZ : Hid (Least (mkOf n z) (fun x => x < N ∧ f x = true) r) := by
          rcases HL.out with ⟨h1, h2⟩ | ⟨h1, ⟨y, hy, h2⟩, h3⟩
          · refine Or.inl ⟨h1, fun x hx => ?_⟩
            by_cases e : x < k
            · exact h2 x ⟨e, hx.2⟩
            · simp [mkOf]; omega
          · refine Or.inr ⟨h1, ⟨y, ⟨by omega, hy.2⟩, h2⟩, fun x hx => ?_⟩
            by_cases e : x < k
            · exact h3 x ⟨e, hx.2⟩
            · exact Or.inl (by simp [mkOf]; omega)
        have i1 : (k : Int) < (N : Int) := by omega
        have i2 : ¬ ((k : Int) < (n : Int)) := by omega
        go_wp2_with fail
        go_ret
        exact ⟨r, rfl, HZ.out, rfl⟩
    · obtain rfl : k = N := by omega
      go_wp2_with fail
      go_ret
      exact ⟨r, rfl, HL.out, rfl⟩
end Go.Proofs.Ytlnndkilaklifaa

namespace Go.Proofs.Ytlnndkilaklifaa
open Go.RowKit
set_option linter.unusedVariables false
set_option linter.unusedSimpArgs false

/-- A truth that tells whether Q. -/
def TruPost (Q : Prop) (w : World) (e : Ending) (w' : World) : Prop := ∃ b : Bool, e = .returned (.bool b) ∧ (b = true ↔ Q) ∧ Below w.heap.size w w'

set_option maxHeartbeats 1000000 in
set_option maxRecDepth 100000 in
theorem rany_any (ai : Option Addr) (N ci : Nat) (f : Nat → Bool) (hN : N ≤ 1000000) (w : World) (hf : BAt w ai N f) :
    Calls Try.prog 38 #[.slice ai N ci] w (TruPost (∃ x, x < N ∧ f x = true) w) := by
  have H := Lib.hid hf
  clear hf
  go_enter Try.func38, Try.ntmps38
  go_wp2_with fail
  go_loopw [3] (fun v wr => ∃ k : Nat, v = .int .i64 k ∧ k ≤ N ∧ wr = w ∧ Hid (∀ x, x < k → f x = false)) (fun v _ => N - (intOf v).toNat)
  case atStart => exact ⟨0, rfl, Nat.zero_le _, rfl, fun x hx => by omega⟩
  case round =>
    obtain ⟨k, rfl, hk, rfl, HL⟩ := hrel
    by_cases hlt : k < N
    · obtain ⟨g, off, rfl, _, q⟩ := H.out (by omega)
      have d0 := q k hlt
      have i1 : (k : Int) < (N : Int) := by omega
      clear q
      rcases hfk : f k with _ | _
      · rw [hfk] at d0
        have HZ : Hid (∀ x, x < k + 1 → f x = false) := fun x hx => by
          by_cases e : x = k
          · rw [e]; exact hfk
          · exact HL.out x (by omega)
        clear hfk
        go_wp2_with fail
        go_roundw
        case rel => exact ⟨k + 1, by go_num, by omega, by first | trivial | rfl, HZ⟩
        case measure => simp [intOf]; omega
      · rw [hfk] at d0
        have HZ : Hid (∃ x, x < N ∧ f x = true) := ⟨k, hlt, hfk⟩
        clear hfk
        go_wp2_with fail
        go_ret
        exact ⟨true, rfl, ⟨fun _ => HZ.out, fun _ => rfl⟩, Below.refl _ _⟩
    · obtain rfl : k = N := by omega
      have HZ : Hid (¬ ∃ x, x < k ∧ f x = true) := fun ⟨x, h1, h2⟩ => by rw [HL.out x h1] at h2; cases h2
      go_wp2_with fail
      go_ret
      exact ⟨false, rfl, ⟨(fun h => by cases h), (fun h => absurd h (by simpa using HZ.out))⟩, Below.refl _ _⟩

set_option maxHeartbeats 1000000 in
set_option maxRecDepth 100000 in
theorem rsame01_any (n n2 c1 c2 : Nat) (a1 a2 : Option Addr) (z1 z2 : Nat → Int) (hn : n ≤ 1000000) (hn2 : n2 ≤ 1000000) (w : World) (h1 : ZAt w a1 n z1) (h2 : ZAt w a2 n2 z2) :
    Calls Try.prog 15 #[.slice a1 n c1, .slice a2 n2 c2] w (TruPost (n = n2 ∧ ∀ x, x < n → z1 x = z2 x) w) := by
  have H := Lib.hid (And.intro h1 h2)
  clear h1 h2
  go_enter Try.func15, Try.ntmps15
  by_cases hnn : n = n2
  · subst hnn
    go_wp2_with fail
    go_loopw [5] (fun v wr => ∃ k : Nat, v = .int .i64 k ∧ k ≤ n ∧ Hid (Below w.heap.size w wr ∧ ∀ x, x < k → z1 x = z2 x)) (fun v _ => n - (intOf v).toNat)
    case atStart => exact ⟨0, rfl, Nat.zero_le _, Below.refl _ _, fun x hx => by omega⟩
    case round =>
      obtain ⟨k, rfl, hk, HL⟩ := hrel
      by_cases hlt : k < n
      · obtain ⟨g1, o1, rfl, _, q1⟩ := (H.out.1.below HL.out.1) (by omega)
        obtain ⟨g2, o2, rfl, _, q2⟩ := (H.out.2.below HL.out.1) (by omega)
        have d1 := q1 k hlt
        have d2 := q2 k hlt
        have i1 : (k : Int) < (n : Int) := by omega
        have HS : Hid (z1 k = z2 k → ∀ x, x < k + 1 → z1 x = z2 x) := fun h x hx => by
          by_cases e : x = k
          · rw [e]; exact h
          · exact HL.out.2 x (by omega)
        have HB := Lib.hid HL.out.1
        have HN : Hid (z1 k ≠ z2 k → ¬ (n = n ∧ ∀ x, x < n → z1 x = z2 x)) := fun h h2 => h (h2.2 k hlt)
        generalize z1 k = x1 at d1 HS HN
        generalize z2 k = x2 at d2 HS HN
        clear q1 q2
        by_cases e : x1 = x2
        · subst e
          have HZ := Lib.hid (HS.out rfl)
          go_wp2_with fail
          go_quiet (fail)
          go_wp2_with fail
          go_roundw
          case rel => exact ⟨k + 1, by go_num, by omega, below_drewN HB.out _, HZ.out⟩
          case measure => simp [intOf]; omega
        · have HZ := Lib.hid (HN.out e)
          go_wp2_with fail
          go_quiet (fail)
          go_wp2_with fail
          go_ret
          exact ⟨false, rfl, ⟨(fun h => by cases h), (fun h => absurd h (by simpa using HZ.out))⟩, below_drewN HB.out _⟩
      · obtain rfl : k = n := by omega
        go_wp2_with fail
        go_ret
        exact ⟨true, rfl, ⟨(fun _ => by first | exact HL.out.2 | exact ⟨rfl, HL.out.2⟩), (fun _ => rfl)⟩, HL.out.1⟩
  · have i1 : ¬ ((n : Int) = (n2 : Int)) := by omega
    go_wp2_with fail
    go_ret
    exact ⟨false, rfl, ⟨(fun h => by cases h), (fun h => absurd h.1 hnn)⟩, Below.refl _ _⟩
end Go.Proofs.Ytlnndkilaklifaa

namespace Go.Proofs.Ytlnndkilaklifaa
open Go.RowKit
set_option linter.unusedVariables false
set_option linter.unusedSimpArgs false

/-- Rows of numbers in memory. -/
def ZsAt (w : World) (a : Option Addr) (n : Nat) (A : Nat → Option Addr) (C len : Nat → Nat) (z : Nat → Nat → Int) : Prop := 0 < n → ∃ g off, a = some ⟨g, off, none⟩ ∧ g < w.heap.size ∧ ∀ i, i < n → w.cell? ⟨g, off + i, none⟩ = some (.slice (A i) (len i) (C i)) ∧ ZAt w (A i) (len i) (z i)
theorem ZsAt.below {w w' : World} {a : Option Addr} {n : Nat} {A : Nat → Option Addr} {C len : Nat → Nat} {z : Nat → Nat → Int} (h : ZsAt w a n A C len z) (k : Below w.heap.size w w') : ZsAt w' a n A C len z := by
  intro h0
  obtain ⟨g, off, e, hg, hc⟩ := h h0
  have := k.size
  exact ⟨g, off, e, by omega, fun j hj => ⟨(k.cell (p := ⟨g, off + j, none⟩) hg).trans (hc j hj).1, (hc j hj).2.below k⟩⟩
def RowsEq (n n2 : Nat) (len1 len2 : Nat → Nat) (z1 z2 : Nat → Nat → Int) : Prop := n = n2 ∧ ∀ i, i < n → len1 i = len2 i ∧ ∀ x, x < len1 i → z1 i x = z2 i x

set_option maxHeartbeats 2000000 in
set_option maxRecDepth 100000 in
theorem rsameRows_any (n n2 c1 c2 : Nat) (a1 a2 : Option Addr) (A1 A2 : Nat → Option Addr) (C1 C2 len1 len2 : Nat → Nat) (z1 z2 : Nat → Nat → Int) (hn : n ≤ 1000000) (hn2 : n2 ≤ 1000000) (hl1 : ∀ i, len1 i ≤ 1000000) (hl2 : ∀ i, len2 i ≤ 1000000) (w : World) (h1 : ZsAt w a1 n A1 C1 len1 z1) (h2 : ZsAt w a2 n2 A2 C2 len2 z2) :
    Calls Try.prog 14 #[.slice a1 n c1, .slice a2 n2 c2] w (TruPost (RowsEq n n2 len1 len2 z1 z2) w) := by
  have H := Lib.hid (And.intro h1 h2)
  clear h1 h2
  go_enter Try.func14, Try.ntmps14
  by_cases hnn : n = n2
  · subst hnn
    go_wp2_with fail
    go_loopw [5, 6] (fun v _ wr => ∃ k : Nat, v = .int .i64 k ∧ k ≤ n ∧ Hid (Below w.heap.size w wr ∧ ∀ i, i < k → len1 i = len2 i ∧ ∀ x, x < len1 i → z1 i x = z2 i x)) (fun v _ _ => n - (intOf v).toNat)
    case atStart => exact ⟨0, rfl, Nat.zero_le _, Below.refl _ _, fun x hx => by omega⟩
    case round =>
      obtain ⟨k, rfl, hk, HL⟩ := hrel
      by_cases hlt : k < n
      · obtain ⟨g1, o1, rfl, _, q1⟩ := (H.out.1.below HL.out.1) (by omega)
        obtain ⟨g2, o2, rfl, _, q2⟩ := (H.out.2.below HL.out.1) (by omega)
        obtain ⟨d1, _⟩ := q1 k hlt
        obtain ⟨d2, _⟩ := q2 k hlt
        have HR1 := Lib.hid (fun (W : World) (hb : Below w.heap.size w W) => (H.out.1.below hb))
        have HR2 := Lib.hid (fun (W : World) (hb : Below w.heap.size w W) => (H.out.2.below hb))
        have HS : Hid (len1 k = len2 k → (∀ x, x < len1 k → z1 k x = z2 k x) → ∀ i, i < k + 1 → len1 i = len2 i ∧ ∀ x, x < len1 i → z1 i x = z2 i x) := fun e h i hi => by
          by_cases e2 : i = k
          · rw [e2]; exact ⟨e, h⟩
          · exact HL.out.2 i (by omega)
        have HN : Hid (¬ (len1 k = len2 k ∧ ∀ x, x < len1 k → z1 k x = z2 k x) → ¬ RowsEq n n len1 len2 z1 z2) := fun h h2 => h (h2.2 k hlt)
        have HC : Hid (∀ (W : World), Below w.heap.size w W → (W.cell? ⟨g1, o1 + k, none⟩ = some (.slice (A1 k) (len1 k) (C1 k)) ∧ ZAt W (A1 k) (len1 k) (z1 k)) ∧ W.cell? ⟨g2, o2 + k, none⟩ = some (.slice (A2 k) (len2 k) (C2 k)) ∧ ZAt W (A2 k) (len2 k) (z2 k)) := fun W hb => by
          obtain ⟨g, o, e, _, q⟩ := (H.out.1.below hb) (by omega)
          obtain ⟨g', o', e', _, q'⟩ := (H.out.2.below hb) (by omega)
          injection e with e
          injection e with e3 e4
          injection e' with e'
          injection e' with e5 e6
          subst e3 e4 e5 e6
          exact ⟨q k hlt, q' k hlt⟩
        have hm1 := hl1 k
        have hm2 := hl2 k
        generalize len1 k = m1 at d1 HS HN HC hm1
        generalize len2 k = m2 at d2 HS HN HC hm2
        generalize A1 k = x1 at d1 HC
        generalize A2 k = x2 at d2 HC
        generalize C1 k = y1 at d1 HC
        generalize C2 k = y2 at d2 HC
        generalize z1 k = u1 at HS HN HC
        generalize z2 k = u2 at HS HN HC
        have HB := Lib.hid HL.out.1
        have i1 : (k : Int) < (n : Int) := by omega
        clear q1 q2 HR1 HR2
        by_cases e : m1 = m2
        · subst e
          go_wp2_with fail
          go_quiet (fail)
          have HB2 := Lib.hid (below_drewN HB.out nq)
          generalize wr.drewN nq = wo at HB2 ⊢
          clear d1 d2 HB
          go_wp2_with fail
          go_loopw [6] (fun v wq => ∃ x : Nat, v = .int .i64 x ∧ x ≤ m1 ∧ Hid (Below w.heap.size w wq ∧ ∀ j, j < x → u1 j = u2 j)) (fun v _ => m1 - (intOf v).toNat)
          case atStart => exact ⟨0, rfl, Nat.zero_le _, HB2.out, fun j hj => by omega⟩
          case round =>
            obtain ⟨x, rfl, hx, HX⟩ := hrel
            obtain ⟨⟨d1, r1⟩, d2, r2⟩ := HC.out wr HX.out.1
            by_cases hxm : x < m1
            · obtain ⟨p1, s1, rfl, _, t1⟩ := r1 (by omega)
              obtain ⟨p2, s2, rfl, _, t2⟩ := r2 (by omega)
              have b1 := t1 x hxm
              have b2 := t2 x hxm
              have HS2 : Hid (u1 x = u2 x → ∀ j, j < x + 1 → u1 j = u2 j) := fun h j hj => by
                by_cases e : j = x
                · rw [e]; exact h
                · exact HX.out.2 j (by omega)
              have HN2 : Hid (u1 x ≠ u2 x → ¬ RowsEq n n len1 len2 z1 z2) := fun h => HN.out (fun h2 => h (h2.2 x hxm))
              have HB3 := Lib.hid HX.out.1
              generalize u1 x = e1 at b1 HS2 HN2
              generalize u2 x = e2 at b2 HS2 HN2
              have i2 : (x : Int) < (m1 : Int) := by omega
              clear t1 t2
              by_cases e : e1 = e2
              · subst e
                have HZ := Lib.hid (HS2.out rfl)
                go_wp2_with fail
                go_quiet (fail)
                go_wp2_with fail
                go_roundw
                case rel => exact ⟨x + 1, by go_num, by omega, below_drewN HB3.out _, HZ.out⟩
                case measure => simp [intOf]; omega
              · have HZ := Lib.hid (HN2.out e)
                go_wp2_with fail
                go_quiet (fail)
                go_wp2_with fail
                go_ret
                exact ⟨false, rfl, ⟨(fun h => by cases h), (fun h => absurd h HZ.out)⟩, below_drewN HB3.out _⟩
            · obtain rfl : x = m1 := by omega
              have HZ := Lib.hid (HS.out trivial HX.out.2)
              have HB3 := Lib.hid HX.out.1
              clear r1 r2
              go_wp2_with fail
              go_roundw
              case rel => exact ⟨k + 1, by go_num, by omega, HB3.out, HZ.out⟩
              case measure => simp [intOf]; omega
        · have HZ := Lib.hid (HN.out (fun h => e h.1))
          have i2 : ¬ ((m1 : Int) = (m2 : Int)) := by omega
          go_wp2_with fail
          go_quiet (fail)
          go_wp2_with fail
          go_ret
          exact ⟨false, rfl, ⟨(fun h => by cases h), (fun h => absurd h HZ.out)⟩, below_drewN HB.out _⟩
      · obtain rfl : k = n := by omega
        have HZ : Hid (RowsEq k k len1 len2 z1 z2) := ⟨rfl, HL.out.2⟩
        go_wp2_with fail
        go_ret
        exact ⟨true, rfl, ⟨(fun _ => HZ.out), (fun _ => rfl)⟩, HL.out.1⟩
  · have i1 : ¬ ((n : Int) = (n2 : Int)) := by omega
    go_wp2_with fail
    go_ret
    exact ⟨false, rfl, ⟨(fun h => by cases h), (fun h => absurd h.1 hnn)⟩, Below.refl _ _⟩
end Go.Proofs.Ytlnndkilaklifaa

namespace Go.Proofs.Ytlnndkilaklifaa
open Go.RowKit
set_option linter.unusedVariables false
set_option linter.unusedSimpArgs false

set_option maxRecDepth 100000 in
theorem ofMark_any (bV : Nat) (a : Option Addr) (n c : Nat) (z : Nat → Int) (hn : n ≤ 9223372036854775807) (w : World) (hS : St w 25 bV #[.slice a n c]) (hz : ZAt w a n z) (x : Nat) (hx : x ≤ 9223372036854775807) :
    Calls Try.prog 35 #[.int .i64 ((x : Nat) : Int), .pointer (some ⟨bV, 0, none⟩)] w fun e w' => e = .returned (.int .i64 (mkOf n z x)) ∧ w' = w := by
  have c0 : w.cell? ⟨bV, 0, none⟩ = some (.slice a n c) := hS.at_ 0
  by_cases hlt : x < n
  · obtain ⟨g, off, rfl, _, q⟩ := hz (by omega)
    have d0 := q x hlt
    have i1 : (x : Int) < (n : Int) := by omega
    have HM : Hid (mkOf n z x = max (z x) (-1)) := by
      show _ = _
      unfold mkOf
      rw [if_pos hlt]
      split <;> omega
    generalize mkOf n z x = r at HM
    generalize z x = y at d0 HM
    clear q
    go_enter Try.func35, Try.ntmps35
    go_wp2_with fail
    go_ret
    exact ⟨by rw [HM.out]; rfl, rfl⟩
  · have i1 : ¬ ((x : Int) < (n : Int)) := by omega
    have HM : Hid (mkOf n z x = -1) := by show _ = _; simp [mkOf, hlt]
    go_enter Try.func35, Try.ntmps35
    go_wp2_with fail
    go_ret
    exact ⟨by rw [HM.out]; rfl, rfl⟩
set_option maxRecDepth 100000 in
theorem oneMark_any (bV : Nat) (S F : Int) (T : Nat) (a : Option Addr) (n c : Nat) (w : World) (hS : St w 24 bV #[.int .i64 S, .slice a n c, .int .i64 F, .int .i64 ((T : Nat) : Int)]) (x : Nat) (hx : x ≤ 9223372036854775807) (hT : T ≤ 9223372036854775807) :
    Calls Try.prog 40 #[.int .i64 ((x : Nat) : Int), .pointer (some ⟨bV, 0, none⟩)] w fun e w' => e = .returned (.int .i64 (if x = T then 0 else -1)) ∧ w' = w := by
  obtain ⟨c0, c1, c2, c3⟩ := hS.cells4
  by_cases e : x = T
  · rw [if_pos e]
    subst e
    go_enter Try.func40, Try.ntmps40
    go_wp2_with fail
    go_ret
    exact ⟨rfl, rfl⟩
  · rw [if_neg e]
    have i1 : ¬ ((x : Int) = (T : Int)) := by omega
    go_enter Try.func40, Try.ntmps40
    go_wp2_with fail
    go_ret
    exact ⟨rfl, rfl⟩
end Go.Proofs.Ytlnndkilaklifaa
