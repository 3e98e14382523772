import Derived.Test.YtghhjonhmelohaaYTexts
import Derived.Deep.QuietTactic
import Derived.BigQuiet
namespace Go.Proofs.Ytghhjonhmelohaa
open Go.RowKit Go.Maps Go.WideElems Go.ChangeMaps Go.MapKept
set_option linter.unusedVariables false
set_option linter.unusedSimpArgs false

/-- Few tokens, and short ones. -/
def FewP (m : Nat) (A : List Tok) (w : World) (e : Ending) (w' : World) : Prop := ∃ b : Bool, e = .returned (.bool b) ∧ (b = true → m ≤ 60 ∧ ∀ t ∈ A, t.s.size ≤ 60) ∧ Below w.heap.size w w'

set_option maxHeartbeats 2000000 in
set_option maxRecDepth 100000 in
theorem few14_any (m c2 : Nat) (a2 : Option Addr) (A : List Tok) (hA : A.length = m) (w : World) (hT : TkAt w a2 A) :
    Calls Try.prog 7 #[.slice a2 m c2] w (FewP m A w) := by
  have H := Lib.hid (And.intro hT hA)
  clear hT hA
  go_enter Try.func7, Try.ntmps7
  by_cases h5 : 60 < m
  · have i1 : (60 : Int) < (m : Int) := by omega
    go_wp2_with fail
    go_ret
    exact ⟨false, rfl, (fun h => by cases h), Below.refl _ _⟩
  · have i1 : ¬ ((60 : Int) < (m : Int)) := by omega
    go_wp2_with fail
    go_loopw [3] (fun v wr => ∃ k : Nat, v = .int .i64 k ∧ k ≤ m ∧ wr = w ∧ Hid (∀ j (h : j < A.length), j < k → A[j].s.size ≤ 60)) (fun v _ => m - (nV v).toNat)
    case atStart => exact ⟨0, rfl, Nat.zero_le _, rfl, fun j _ hj => absurd hj (by omega)⟩
    case round =>
      obtain ⟨k, rfl, hk, rfl, HX⟩ := hrel
      by_cases hlt : k < m
      · have hkA : k < A.length := by rw [H.out.2]; exact hlt
        obtain ⟨g1, o1, rfl, _, x0, x1, x2⟩ := H.out.1.get k hkA
        have i2 : (k : Int) < (m : Int) := by omega
        have HN : Hid (A[k].s.size ≤ 60 → ∀ j (h : j < A.length), j < k + 1 → A[j].s.size ≤ 60) := fun hz j h hj => by
          by_cases e : j = k
          · subst e; exact hz
          · exact HX.out j h (by omega)
        generalize A[k] = x at x0 x1 x2 HN
        by_cases h6 : 60 < x.s.size
        · have i3 : (60 : Int) < (x.s.size : Int) := by omega
          go_wp2_with fail
          go_ret
          exact ⟨false, rfl, (fun h => by cases h), Below.refl _ _⟩
        · have i3 : ¬ ((60 : Int) < (x.s.size : Int)) := by omega
          have HE := Lib.hid (HN.out (by omega))
          go_wp2_with fail
          go_roundw
          case rel => exact ⟨k + 1, by go_num, by omega, by first | trivial | rfl, HE.out⟩
          case measure => simp [nV]; omega
      · obtain rfl : k = m := by omega
        have HZ : Hid (k ≤ 60 ∧ ∀ t ∈ A, t.s.size ≤ 60) := ⟨by omega, fun t ht => by
          obtain ⟨j, hj, rfl⟩ := List.mem_iff_getElem.1 ht
          exact HX.out j hj (by rw [← H.out.2]; exact hj)⟩
        go_wp2_with fail
        go_ret
        exact ⟨true, rfl, (fun _ => HZ.out), Below.refl _ _⟩

set_option maxHeartbeats 2000000 in
set_option maxRecDepth 100000 in
theorem same14_yes (m c1 c2 : Nat) (a1 a2 : Option Addr) (A : List Tok) (hA : A.length = m) (hm : m ≤ 100000) (w : World) (h1 : TkAt w a1 A) (h2 : TkAt w a2 A) :
    Calls Try.prog 10 #[.slice a1 m c1, .slice a2 m c2] w fun e w' => e = .returned (.bool true) ∧ Below w.heap.size w w' := by
  have H := Lib.hid (And.intro h1 (And.intro h2 hA))
  clear h1 h2 hA
  go_enter Try.func10, Try.ntmps10
  have i0 : ((m : Int) != (m : Int)) = false := by simp
  go_wp2_with fail
  go_loopw [5] (fun v wr => ∃ k : Nat, v = .int .i64 k ∧ k ≤ m ∧ Hid (Below w.heap.size w wr)) (fun v _ => m - (nV v).toNat)
  case atStart => exact ⟨0, rfl, Nat.zero_le _, Below.refl _ _⟩
  case round =>
    obtain ⟨k, rfl, hk, HX⟩ := hrel
    by_cases hlt : k < m
    · have hkA : k < A.length := by rw [H.out.2.2]; exact hlt
      obtain ⟨g1, o1, rfl, _, x0, x1, x2⟩ := (H.out.1.below HX.out).get k hkA
      obtain ⟨g2, o2, rfl, _, y0, y1, y2⟩ := (H.out.2.1.below HX.out).get k hkA
      have i2 : (k : Int) < (m : Int) := by omega
      have HB := Lib.hid HX.out.drew
      generalize A[k] = x at x0 x1 x2 y0 y1 y2
      obtain ⟨r, s, p⟩ := x
      dsimp only at x0 x1 x2 y0 y1 y2
      clear hkA
      go_upto_region 6 with fail
      go_region
      go_wp2_with fail
      go_roundw
      case rel => exact ⟨k + 1, by go_num, by omega, HB.out⟩
      case measure => simp [nV]; omega
    · obtain rfl : k = m := by omega
      go_wp2_with fail
      go_ret
      exact ⟨rfl, HX.out⟩
end Go.Proofs.Ytghhjonhmelohaa
