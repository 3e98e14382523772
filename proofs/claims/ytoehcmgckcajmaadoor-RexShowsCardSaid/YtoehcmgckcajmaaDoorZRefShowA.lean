import Derived.Test.YtoehcmgckcajmaaDoorZPShow2
import Derived.Test.YtoehcmgckcajmaaDoorZRefParts
import Derived.Deep.RegionLaw
import Derived.Deep.AppendLies
import Derived.BigQuiet
import Derived.IntWalk
import Derived.Deep.QuietTactic
namespace Go.Proofs.YtoehcmgckcajmaaDoor
open Go.RowKit
set_option linter.unusedVariables false

/-- The reference shows an expression, wherever it lies. -/
def RShowOk (t : Rx) : Prop := ∀ (g off n cap : Nat) (w : World), RxAt w (some ⟨g, off, none⟩) t.flat → t.flat.length = n → n ≤ 1000 → n ≤ cap ∧ cap ≤ maxLen →
  Calls Tryd.prog 18 #[.slice (some ⟨g, off, none⟩) n cap] w fun e w' => e = .returned (.string (strOf (showT t))) ∧ Below w.heap.size w w'
/-- The operands of an expression, and where they lie. -/
structure Kids (w : World) (g gl m : Nat) (kt : Nat → Rx) (ko kn kc : Nat → Nat) : Prop where
  each : ∀ i, i < m → RShowOk (kt i) ∧ (kt i).flat.length = kn i ∧ kn i ≤ 1000 ∧ kn i ≤ kc i ∧ kc i ≤ maxLen
  rx : ∀ i, i < m → RxAt w (some ⟨g, ko i, none⟩) (kt i).flat
  cell : ∀ i, i < m → w.cell? ⟨gl, i, none⟩ = some (.slice (some ⟨g, ko i, none⟩) (kn i) (kc i))
  glt : gl < w.heap.size
theorem Kids.below {w w' : World} {g gl m : Nat} {kt : Nat → Rx} {ko kn kc : Nat → Nat} (h : Kids w g gl m kt ko kn kc) (k : Below w.heap.size w w') : Kids w' g gl m kt ko kn kc :=
  ⟨h.each, fun i hi => (h.rx i hi).below k, fun i hi => (k.cell (p := ⟨gl, i, none⟩) h.glt).trans (h.cell i hi), by have := k.size; have := h.glt; omega⟩
/-- The last piece of an operand. -/
theorem Kids.last {w : World} {g gl m : Nat} {kt : Nat → Rx} {ko kn kc : Nat → Nat} (h : Kids w g gl m kt ko kn kc) (i : Nat) (hi : i < m) : ∃ q, q + 1 = kn i ∧ w.cell? ⟨g, ko i + q * 5, none⟩ = some (.int .i64 (kt i).top.k) := by
  have h1 := (h.each i hi).2.1
  have hp := (kt i).flat_pos
  obtain ⟨g', off', e, _, c0, _⟩ := (h.rx i hi).get ((kt i).flat.length - 1) (by omega)
  simp at e
  obtain ⟨rfl, rfl⟩ := e
  refine ⟨(kt i).flat.length - 1, by omega, ?_⟩
  rw [c0]
  have h2 := (List.getElem?_eq_some_iff.1 ((kt i).flat_top)).2
  rw [h2]
/-- The operands' texts, and kinds, as rows. -/
def txs (kt : Nat → Rx) (i : Nat) : List Value := (List.range i).map fun j => .string (strOf (showT (kt j)))
def kds (kt : Nat → Rx) (i : Nat) : List Value := (List.range i).map fun j => .int .i64 (kt j).top.k
theorem txs_snoc (kt : Nat → Rx) (i : Nat) : txs kt (i + 1) = txs kt i ++ [.string (strOf (showT (kt i)))] := by simp [txs, List.range_succ]
theorem kds_snoc (kt : Nat → Rx) (i : Nat) : kds kt (i + 1) = kds kt i ++ [.int .i64 (kt i).top.k] := by simp [kds, List.range_succ]
theorem ownsRow_others {w w' : World} {base : Nat} {e e' : TypeId} {size : Nat} {v : Value} {n : Nat} {xs : List Value} (h : w.ownsRow base e' size v n xs) (k : Lib.OthersKept e none w w') (he : e' ≠ e) : w'.ownsRow base e' size v n xs := by
  obtain ⟨h1, h2⟩ := h
  refine ⟨h1, ?_⟩
  rcases h2 with h2 | ⟨g, cap, cur, hv, hg, hh, r⟩
  · exact Or.inl h2
  · exact Or.inr ⟨g, cap, cur, hv, hg, k g _ hh (by simp) (by intro c fz e; simp at e; exact he e.2.1), r⟩

set_option maxHeartbeats 1000000 in
set_option maxRecDepth 100000 in
theorem rshow_leaf (x : Pc) (hx : takesZ x.k = 0) : RShowOk (.leaf x) := by
  intro g off n cap w hL hn hmax hcap
  have hn1 : n = 1 := by rw [← hn]; rfl
  obtain ⟨g', off', e, hg, c0, c1, c2, c3, c4⟩ := hL.get 0 (by simp [Rx.flat])
  simp at e
  obtain ⟨rfl, rfl⟩ := e
  simp only [Rx.flat, List.getElem_cons_zero, Nat.zero_mul, Nat.add_zero] at c0 c1 c2 c3 c4
  have hk : x.k = 0 ∨ x.k = 1 := by have := takesZ_cases x.k; omega
  have s0 := Lib.hid (St.new w 35 #[.int .i64 x.k, .int .u64 ((wd x.p 0 : Nat) : Int), .int .u64 ((wd x.p 1 : Nat) : Int), .int .u64 ((wd x.p 2 : Nat) : Int), .int .u64 ((wd x.p 3 : Nat) : Int)])
  have k0 : Below w.heap.size w (w.alloc (.cells #[.int .i64 x.k, .int .u64 ((wd x.p 0 : Nat) : Int), .int .u64 ((wd x.p 1 : Nat) : Int), .int .u64 ((wd x.p 2 : Nat) : Int), .int .u64 ((wd x.p 3 : Nat) : Int)] 35)) := (Below.refl _ _).alloc (Nat.le_refl _) _
  have HP := Lib.hid (rparts_leaf x hx g off n cap _ (hL.below k0) hn1)
  subst hn1
  clear hL hn hx
  go_enter Tryd.func18, Tryd.ntmps18
  go_wp2_with fail
  refine HP.out.mono ?_
  rintro e w1 ⟨a, c, rfl, -, b1⟩
  have hb1 := k0.trans (b1.mono (by simp))
  have s1 := s0.out.keep b1
  obtain ⟨d0, d1, d2, d3, d4⟩ := st5 s1
  clear HP b1 k0 s0 c0 c1 c2 c3 c4 s1
  go_wp2_with fail
  go_loopw [7] (fun i wr => i = .int .i64 0 ∧ wr = w1) (fun _ _ => 0)
  case atStart => exact ⟨rfl, rfl⟩
  case round =>
    obtain ⟨rfl, rfl⟩ := hrel
    rcases hk with h | h
    · rw [h] at d0
      have HZ : Hid (showT (.leaf x) = [126]) := by show _ = _; simp only [showT, if_neg (by omega : ¬ x.k = 1)]
      clear h
      go_wp2_with fail
      go_ret
      exact ⟨by rw [HZ.out]; rfl, hb1⟩
    · rw [h] at d0
      have HZ : Hid (showT (.leaf x) = setT x.p) := by show _ = _; simp only [showT, if_pos h]
      clear h
      go_wp2_with fail
      refine (rset_any x.p _).mono ?_
      rintro e w2 ⟨rfl, b2⟩
      go_wp2_with fail
      go_ret
      exact ⟨by rw [HZ.out]; rfl, hb1.trans (b2.mono hb1.size)⟩
end Go.Proofs.YtoehcmgckcajmaaDoor
