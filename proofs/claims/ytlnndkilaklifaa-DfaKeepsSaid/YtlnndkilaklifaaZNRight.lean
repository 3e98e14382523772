import Derived.Test.YtlnndkilaklifaaZNEdge
namespace Go.Proofs.Ytlnndkilaklifaa
open Go.RowKit
set_option linter.unusedVariables false

def stB (S s : Int) : Bool := decide (0 ≤ s) && decide (s < S)
theorem stB_no {S s : Int} (h : ¬ 0 ≤ s) : stB S s = false := by simp [stB, h]
theorem stB_yes {S s : Int} (h : 0 ≤ s) : stB S s = decide (s < S) := by simp [stB, h]
theorem stB_iff {S s : Int} : stB S s = true ↔ 0 ≤ s ∧ s < S := by simp [stB]
/-- Are the ends of an edge states? -/
def edB (S : Int) (e : Eg) : Bool := stB S e.f && stB S e.t
def riB (S : Int) (L : List Eg) (F T : Int) : Bool := L.all (edB S) && (stB S F && stB S T)
theorem isState_any (S F T : Int) (a : Option Addr) (n c : Nat) (s : Int) (w : World) :
    Calls Try.prog 67 #[.agg #[.int .i64 S, .slice a n c, .int .i64 F, .int .i64 T], .int .i64 s] w fun e w' => e = .returned (.bool (stB S s)) ∧ Below w.heap.size w w' := by
  by_cases h : 0 ≤ s
  · have HZ := Lib.hid (stB_yes (S := S) h)
    go_enter Try.func67, Try.ntmps67
    go_wp2_with fail
    go_ret
    exact ⟨by rw [HZ.out]; rfl, (Below.refl _ _).alloc (Nat.le_refl _) _⟩
  · have HZ := Lib.hid (stB_no (S := S) h)
    go_enter Try.func67, Try.ntmps67
    go_wp2_with fail
    go_ret
    exact ⟨by rw [HZ.out]; rfl, (Below.refl _ _).alloc (Nat.le_refl _) _⟩
theorem isState_is (S F T : Int) (a : Option Addr) (n c : Nat) (s : Int) (b : Bool) (h : stB S s = b) (w : World) :
    Calls Try.prog 67 #[.agg #[.int .i64 S, .slice a n c, .int .i64 F, .int .i64 T], .int .i64 s] w fun e w' => e = .returned (.bool b) ∧ Below w.heap.size w w' := by
  subst h
  exact isState_any S F T a n c s w

theorem nfa_new (w : World) (S F T : Int) (a : Option Addr) (n c : Nat) : St (w.alloc (.cells #[.int .i64 S, .slice a n c, .int .i64 F, .int .i64 T] 24)) 24 w.heap.size #[.int .i64 S, .slice a n c, .int .i64 F, .int .i64 T] := St.new _ _ _

set_option maxHeartbeats 1000000 in
set_option maxRecDepth 100000 in
theorem right_any (S F T : Int) (a : Option Addr) (n c : Nat) (L : List Eg) (w : World) (hL : EdAt w a L) (hn : L.length = n) (hmax : n ≤ maxLen) :
    Calls Try.prog 59 #[.agg #[.int .i64 S, .slice a n c, .int .i64 F, .int .i64 T]] w fun e w' => e = .returned (.bool (riB S L F T)) ∧ Below w.heap.size w w' := by
  unfold maxLen at hmax
  have HL := Lib.hid (And.intro hL hn)
  have HW := Lib.hid (nfa_new w S F T a n c)
  obtain ⟨W0, hW0⟩ : ∃ W0, w.alloc (.cells #[.int .i64 S, .slice a n c, .int .i64 F, .int .i64 T] 24) = W0 := ⟨_, rfl⟩
  have hB0 : Below w.heap.size w W0 := by rw [← hW0]; exact (Below.refl _ _).alloc (Nat.le_refl _) _
  have hs0 : W0.heap.size = w.heap.size + 1 := by rw [← hW0]; simp
  obtain ⟨k0, k1, k2, k3⟩ := (HW.out).cells4
  rw [hW0] at HW k0 k1 k2 k3
  have HB := Lib.hid (And.intro hB0 hs0)
  have HE := Lib.hid hW0
  clear hL hn hB0 hs0 hW0
  go_enter Try.func59, Try.ntmps59
  go_wp2_with fail
  rw [HE.out]
  go_loopw [8] (fun i wr => ∃ k : Nat, i = .int .i64 k ∧ k ≤ n ∧ Hid ((L.take k).all (edB S) = true) ∧ Below W0.heap.size W0 wr) (fun i _ => n - (intOf i).toNat)
  case atStart => exact ⟨0, rfl, Nat.zero_le _, rfl, Below.refl _ _⟩
  case round =>
    obtain ⟨k, rfl, hk, HA, hbel⟩ := hrel
    have hlt0 : w.heap.size < W0.heap.size := by rw [HB.out.2]; omega
    have r0 := (hbel.cell (p := ⟨w.heap.size, 0, none⟩) hlt0).trans k0
    have r1 := (hbel.cell (p := ⟨w.heap.size, 1, none⟩) hlt0).trans k1
    have r2 := (hbel.cell (p := ⟨w.heap.size, 2, none⟩) hlt0).trans k2
    have r3 := (hbel.cell (p := ⟨w.heap.size, 3, none⟩) hlt0).trans k3
    have hsz := hbel.size
    have hltr : w.heap.size < wr.heap.size := by omega
    by_cases hlt : k < n
    · have hkl : k < L.length := by rw [HL.out.2]; exact hlt
      obtain ⟨g, off, rfl, hg, c0, c1, c2, c3, c4, c5, c6⟩ := (HL.out.1.below (HB.out.1.trans (hbel.mono (by rw [HB.out.2]; omega)))).get k hkl
      have HS : Hid (∀ b, edB S L[k] = b → (L.take (k + 1)).all (edB S) = b) := by
        intro b hb
        rw [List.take_succ_eq_append_getElem hkl, List.all_append, HA.out]
        simpa using hb
      have HS2 : Hid (edB S L[k] = false → riB S L F T = false) := by
        intro hb
        have h1 : L.all (edB S) = false := List.all_eq_false.2 ⟨L[k], List.getElem_mem _, by rw [hb]; decide⟩
        simp [riB, h1]
      generalize L[k] = x at c0 c1 c2 c3 c4 c5 c6 HS HS2
      have hN := edge_new wr x
      obtain ⟨b1, hb1⟩ : ∃ b1, stB S x.f = b1 := ⟨_, rfl⟩
      obtain ⟨b2, hb2⟩ : ∃ b2, stB S x.t = b2 := ⟨_, rfl⟩
      have HX : Hid (edB S x = (b1 && b2)) := by show _ = _; unfold edB; rw [hb1, hb2]
      have HP1 := Lib.hid hb1
      have HP2 := Lib.hid hb2
      clear hb1 hb2 hkl
      obtain ⟨W1, hW1⟩ : ∃ W1, wr.alloc (.cells #[.int .i64 x.f, .int .i64 x.t, .int .u64 ((wd x.p 0 : Nat) : Int), .int .u64 ((wd x.p 1 : Nat) : Int), .int .u64 ((wd x.p 2 : Nat) : Int), .int .u64 ((wd x.p 3 : Nat) : Int), .bool x.b] 43) = W1 := ⟨_, rfl⟩
      have hs1 : W1.heap.size = wr.heap.size + 1 := by rw [← hW1]; simp
      have hb1 : Below wr.heap.size wr W1 := by rw [← hW1]; exact (Below.refl _ _).alloc (Nat.le_refl _) _
      rw [hW1] at hN
      obtain ⟨d0, d1, d2, d3, d4, d5, d6⟩ := hN
      have s0 := (hb1.cell (p := ⟨w.heap.size, 0, none⟩) (by show w.heap.size < _; omega)).trans r0
      have s1 := (hb1.cell (p := ⟨w.heap.size, 1, none⟩) (by show w.heap.size < _; omega)).trans r1
      have s2 := (hb1.cell (p := ⟨w.heap.size, 2, none⟩) (by show w.heap.size < _; omega)).trans r2
      have s3 := (hb1.cell (p := ⟨w.heap.size, 3, none⟩) (by show w.heap.size < _; omega)).trans r3
      have HB1 := Lib.hid (And.intro (hbel.trans (hb1.mono hsz)) hs1)
      have HW1 := Lib.hid hW1
      clear hs1 hb1 hW1
      go_wp2_with fail
      rw [HW1.out]
      refine (isState_is S F T _ n c x.f b1 HP1.out _).mono ?_
      rintro e w2 ⟨rfl, v2⟩
      have hv2 := HB1.out.1.trans (v2.mono (by have := HB1.out.2; omega))
      rcases b1 with _ | _
      · have HZ : Hid (riB S L F T = false) := HS2.out (by rw [HX.out]; rfl)
        clear d0 d1 d2 d3 d4 d5 d6 s0 s1 s2 s3 v2
        have HH := Lib.hid (HB.out.1.trans (hv2.mono (by rw [HB.out.2]; omega)))
        clear hv2
        go_wp2_with fail
        go_ret
        exact ⟨by rw [HZ.out]; rfl, HH.out⟩
      · have hsW1 := HB1.out.2
        have hwl : w.heap.size < W1.heap.size := by omega
        have hel : wr.heap.size < W1.heap.size := by omega
        have q0 := (v2.cell (p := ⟨w.heap.size, 0, none⟩) hwl).trans s0
        have q1 := (v2.cell (p := ⟨w.heap.size, 1, none⟩) hwl).trans s1
        have q2 := (v2.cell (p := ⟨w.heap.size, 2, none⟩) hwl).trans s2
        have q3 := (v2.cell (p := ⟨w.heap.size, 3, none⟩) hwl).trans s3
        have e1 := (v2.cell (p := ⟨wr.heap.size, 1, none⟩) hel).trans d1
        clear d0 d1 d2 d3 d4 d5 d6 s0 s1 s2 s3 v2 hwl hel hsW1
        have HH := Lib.hid hv2
        clear hv2
        go_wp2_with fail
        refine (isState_is S F T _ n c x.t b2 HP2.out _).mono ?_
        rintro e w3 ⟨rfl, v3⟩
        have HH3 := Lib.hid (HH.out.trans (v3.mono HH.out.size))
        clear v3 q0 q1 q2 q3 e1
        rcases b2 with _ | _
        · have HZ : Hid (riB S L F T = false) := HS2.out (by rw [HX.out]; rfl)
          go_wp2_with fail
          go_ret
          exact ⟨by rw [HZ.out]; rfl, HB.out.1.trans (HH3.out.mono (by rw [HB.out.2]; omega))⟩
        · have HZ : Hid ((L.take (k + 1)).all (edB S) = true) := HS.out _ (by rw [HX.out]; rfl)
          go_wp2_with fail
          go_roundw
          case rel => exact ⟨k + 1, by go_num, by omega, HZ, HH3.out⟩
          case measure => simp [intOf]; omega
    · obtain rfl : k = n := by omega
      have HZ : Hid (riB S L F T = (stB S F && stB S T)) := by
        show _ = _
        have := HA.out
        rw [List.take_of_length_le (by rw [HL.out.2]; exact Nat.le_refl _)] at this
        simp [riB, this]
      obtain ⟨b1, hb1⟩ : ∃ b1, stB S F = b1 := ⟨_, rfl⟩
      obtain ⟨b2, hb2⟩ : ∃ b2, stB S T = b2 := ⟨_, rfl⟩
      have HP1 := Lib.hid hb1
      have HP2 := Lib.hid hb2
      have HX : Hid (riB S L F T = (b1 && b2)) := by show _ = _; rw [HZ.out, hb1, hb2]
      have HH := Lib.hid hbel
      clear hb1 hb2 HZ hbel
      go_wp2_with fail
      refine (isState_is S F T _ _ c F b1 HP1.out _).mono ?_
      rintro e w2 ⟨rfl, v2⟩
      have HH2 := Lib.hid (HH.out.trans (v2.mono HH.out.size))
      rcases b1 with _ | _
      · clear v2 r0 r1 r2 r3
        go_wp2_with fail
        go_ret
        exact ⟨by rw [HX.out]; rfl, HB.out.1.trans (HH2.out.mono (by rw [HB.out.2]; omega))⟩
      · have q0 := (v2.cell (p := ⟨w.heap.size, 0, none⟩) hltr).trans r0
        have q1 := (v2.cell (p := ⟨w.heap.size, 1, none⟩) hltr).trans r1
        have q2 := (v2.cell (p := ⟨w.heap.size, 2, none⟩) hltr).trans r2
        have q3 := (v2.cell (p := ⟨w.heap.size, 3, none⟩) hltr).trans r3
        clear v2 r0 r1 r2 r3
        go_wp2_with fail
        refine (isState_is S F T _ _ c T b2 HP2.out _).mono ?_
        rintro e w3 ⟨rfl, v3⟩
        have HH3 := Lib.hid (HH2.out.trans (v3.mono HH2.out.size))
        clear v3 q0 q1 q2 q3
        go_wp2_with fail
        go_ret
        exact ⟨by rw [HX.out]; rfl, HB.out.1.trans (HH3.out.mono (by rw [HB.out.2]; omega))⟩


set_option maxHeartbeats 2000000 in
set_option maxRecDepth 100000 in
theorem rright_any (S F T : Int) (a : Option Addr) (n c : Nat) (L : List Eg) (w : World) (hL : EdAt w a L) (hn : L.length = n) (hmax : n ≤ maxLen) :
    Calls Try.prog 10 #[.agg #[.int .i64 S, .slice a n c, .int .i64 F, .int .i64 T]] w fun e w' => e = .returned (.bool (riB S L F T)) ∧ Below w.heap.size w w' := by
  unfold maxLen at hmax
  have HL := Lib.hid (And.intro hL hn)
  have HW := Lib.hid (nfa_new w S F T a n c)
  obtain ⟨W0, hW0⟩ : ∃ W0, w.alloc (.cells #[.int .i64 S, .slice a n c, .int .i64 F, .int .i64 T] 24) = W0 := ⟨_, rfl⟩
  have hB0 : Below w.heap.size w W0 := by rw [← hW0]; exact (Below.refl _ _).alloc (Nat.le_refl _) _
  have hs0 : W0.heap.size = w.heap.size + 1 := by rw [← hW0]; simp
  obtain ⟨k0, k1, k2, k3⟩ := (HW.out).cells4
  rw [hW0] at HW k0 k1 k2 k3
  have HB := Lib.hid (And.intro hB0 hs0)
  have HE := Lib.hid hW0
  obtain ⟨b0, hb0⟩ : ∃ b0, (stB S F && stB S T) = b0 := ⟨_, rfl⟩
  have HB0 := Lib.hid hb0
  have HF : Hid (b0 = (decide (0 ≤ F) && (decide (F < S) && (decide (0 ≤ T) && decide (T < S))))) := by show _ = _; rw [← hb0]; simp [stB, Bool.and_assoc]
  clear hL hn hB0 hs0 hW0 hb0
  go_enter Try.func10, Try.ntmps10
  have hways : ((¬ 0 ≤ F) ∧ b0 = false) ∨ (0 ≤ F ∧ (¬ F < S) ∧ b0 = false) ∨ (0 ≤ F ∧ F < S ∧ (¬ 0 ≤ T) ∧ b0 = false) ∨ (0 ≤ F ∧ F < S ∧ 0 ≤ T ∧ (¬ T < S) ∧ b0 = false) ∨ (0 ≤ F ∧ F < S ∧ 0 ≤ T ∧ T < S ∧ b0 = true) := by
    have := HF.out
    by_cases h1 : 0 ≤ F <;> by_cases h2 : F < S <;> by_cases h3 : 0 ≤ T <;> by_cases h4 : T < S <;> simp [h1, h2, h3, h4] at this ⊢ <;> simp [this]
  rcases hways with ⟨h1, hb⟩ | ⟨h1, h2, hb⟩ | ⟨h1, h2, h3, hb⟩ | ⟨h1, h2, h3, h4, hb⟩ | ⟨h1, h2, h3, h4, hb⟩
  all_goals
    have HBV := Lib.hid hb
    clear hb
    go_wp2_with fail
    rw [HE.out]
    go_loopw [3, 4, 5] (fun v i _ wr => ∃ (k : Nat) (b : Bool), i = .int .i64 k ∧ k ≤ n ∧ v = .bool b ∧ Hid (b = ((L.take k).all (edB S) && b0)) ∧ Below W0.heap.size W0 wr) (fun _ i _ _ => n - (intOf i).toNat)
    case atStart => exact ⟨0, _, rfl, Nat.zero_le _, rfl, by show _ = _; rw [HBV.out]; rfl, Below.refl _ _⟩
    case round =>
      obtain ⟨k, b, rfl, hk, rfl, HA, hbel⟩ := hrel
      have hlt0 : w.heap.size < W0.heap.size := by rw [HB.out.2]; omega
      have r0 := (hbel.cell (p := ⟨w.heap.size, 0, none⟩) hlt0).trans k0
      have r1 := (hbel.cell (p := ⟨w.heap.size, 1, none⟩) hlt0).trans k1
      have hsz := hbel.size
      have hltr : w.heap.size < wr.heap.size := by omega
      by_cases hlt : k < n
      · have hkl : k < L.length := by rw [HL.out.2]; exact hlt
        obtain ⟨g, off, rfl, hg, c0, c1, c2, c3, c4, c5, c6⟩ := (HL.out.1.below (HB.out.1.trans (hbel.mono (by rw [HB.out.2]; omega)))).get k hkl
        have HS : Hid (((L.take (k + 1)).all (edB S) && b0) = (b && edB S L[k])) := by
          show _ = _
          rw [List.take_succ_eq_append_getElem hkl, List.all_append, HA.out]
          simp only [List.all_cons, List.all_nil, Bool.and_true]
          cases (L.take k).all (edB S) <;> cases b0 <;> simp
        generalize L[k] = x at c0 c1 c2 c3 c4 c5 c6 HS
        have HH := Lib.hid (hbel.alloc hsz (.cells #[.int .i64 x.f, .int .i64 x.t, .int .u64 ((wd x.p 0 : Nat) : Int), .int .u64 ((wd x.p 1 : Nat) : Int), .int .u64 ((wd x.p 2 : Nat) : Int), .int .u64 ((wd x.p 3 : Nat) : Int), .bool x.b] 43))
        have hxw : (b = false) ∨ (b = true ∧ ¬ 0 ≤ x.f) ∨ (b = true ∧ 0 ≤ x.f ∧ ¬ x.f < S) ∨ (b = true ∧ 0 ≤ x.f ∧ x.f < S ∧ ¬ 0 ≤ x.t) ∨ (b = true ∧ 0 ≤ x.f ∧ x.f < S ∧ 0 ≤ x.t) := by
          cases b <;> simp <;> omega
        clear hkl hbel
        rcases hxw with rfl | ⟨rfl, x1⟩ | ⟨rfl, x1, x2⟩ | ⟨rfl, x1, x2, x3⟩ | ⟨rfl, x1, x2, x3⟩
        · have HZ : Hid (false = ((L.take (k + 1)).all (edB S) && b0)) := by show _ = _; rw [HS.out]; rfl
          go_wp2_with fail
          go_roundw
          case rel => exact ⟨k + 1, _, by go_num, by omega, rfl, HZ, HH.out⟩
          case measure => simp [intOf]; omega
        · have HZ : Hid (false = ((L.take (k + 1)).all (edB S) && b0)) := by show _ = _; rw [HS.out]; simp [edB, stB, x1]
          go_wp2_with fail
          go_roundw
          case rel => exact ⟨k + 1, _, by go_num, by omega, rfl, HZ, HH.out⟩
          case measure => simp [intOf]; omega
        · have HZ : Hid (false = ((L.take (k + 1)).all (edB S) && b0)) := by show _ = _; rw [HS.out]; simp [edB, stB, x1, x2]
          go_wp2_with fail
          go_roundw
          case rel => exact ⟨k + 1, _, by go_num, by omega, rfl, HZ, HH.out⟩
          case measure => simp [intOf]; omega
        · have HZ : Hid (false = ((L.take (k + 1)).all (edB S) && b0)) := by show _ = _; rw [HS.out]; simp [edB, stB, x1, x2, x3]
          go_wp2_with fail
          go_roundw
          case rel => exact ⟨k + 1, _, by go_num, by omega, rfl, HZ, HH.out⟩
          case measure => simp [intOf]; omega
        · have HZ : Hid (decide (x.t < S) = ((L.take (k + 1)).all (edB S) && b0)) := by show _ = _; rw [HS.out]; simp [edB, stB, x1, x2, x3]
          go_wp2_with fail
          go_roundw
          case rel => exact ⟨k + 1, _, by go_num, by omega, rfl, HZ, HH.out⟩
          case measure => simp [intOf]; omega
      · obtain rfl : k = n := by omega
        have HZ : Hid (b = riB S L F T) := by
          show _ = _
          have := HA.out
          rw [List.take_of_length_le (by rw [HL.out.2]; exact Nat.le_refl _)] at this
          rw [this, HF.out]
          simp [riB, stB, Bool.and_assoc]
        have HH := Lib.hid (HB.out.1.trans (hbel.mono (by rw [HB.out.2]; omega)))
        clear hbel
        go_wp2_with fail
        go_ret
        exact ⟨by rw [← HZ.out]; rfl, HH.out⟩
end Go.Proofs.Ytlnndkilaklifaa
