import Derived.Test.YtfnfliooimkddaaDoorFirst
import Derived.Test.YtfnfliooimkddaaDoorEmpty
import Derived.Test.YtfnfliooimkddaaDoorNot
import Derived.Test.YtfnfliooimkddaaDoorAnd
import Derived.Test.YtfnfliooimkddaaDoorLess
import Derived.Test.YtfnfliooimkddaaDoorOr
import Derived.Test.YtfnfliooimkddaaDoorRefList
import Derived.Test.YtfnfliooimkddaaDoorList
import Derived.Test.YtfnfliooimkddaaDoorPut0
import Derived.Test.YtfnfliooimkddaaDoorPut1
import Derived.Test.YtfnfliooimkddaaDoorPut2
import Derived.Test.YtfnfliooimkddaaDoorPut3
import Derived.Test.YtfnfliooimkddaaDoorAwake
import Derived.Laws.BytesArg
import Derived.IntWalk
import Derived.Deep.RegionWith
import Derived.Deep.DeepCutAuto
namespace Go.Proofs.YtfnfliooimkddaaDoor
open Go.RowKit

/-- A list of bytes as a string. -/
def strOf (l : List Nat) : ByteArray := strOfNums (l.map fun n => ((n : Nat) : Int))
theorem conv_any {W : World} {base : Nat} {a : Option Addr} {n cap : Nat} {l : List Nat} (h : W.ownsRow base 5 1 (.slice a n cap) n (u8s l)) (hn : n = l.length) :
    (convert 26 9 (.slice a n cap)).run Tryd.prog W = .ok (.string (strOf l)) W := by
  rcases Nat.eq_zero_or_pos n with h0 | h0
  · subst h0
    have hl : l = [] := List.length_eq_zero_iff.1 hn.symm
    subst hl
    rcases a with _ | a
    · exact run_convert_bytes_nil W 26 5 Tryd.underlying26 Tryd.underlying5 0 cap 9 Tryd.underlying9
    · have e := h.2
      rcases e with ⟨e, _⟩ | ⟨g, cap', cur, e, _⟩
      · simp at e
      · simp at e
        obtain ⟨rfl, rfl⟩ := e
        exact run_convert_bytes_arg W 26 5 Tryd.underlying26 Tryd.underlying5 g 0 0 cap [] rfl (fun i hi => absurd hi (by omega)) 9 Tryd.underlying9
  · obtain ⟨g, rfl, _, _, hc⟩ := ownsRow_read h h0
    refine run_convert_bytes_arg W 26 5 Tryd.underlying26 Tryd.underlying5 g 0 n cap (l.map fun n => ((n : Nat) : Int)) (by simp [hn]) (fun i hi => ?_) 9 Tryd.underlying9
    rw [Nat.zero_add, (hc i (by omega)).1, u8s_get l i (by omega)]
    simp [List.getElem?_eq_getElem (by omega : i < l.length)]

/-- What every call of the law keeps. -/
structure HeldT (w : World) (p q : Nat → Bool) (base : Nat) (a : Option Addr) (n cap : Nat) (l : List Nat) (W : World) : Prop where
  s0 : St W 24 w.heap.size #[.int .u64 ((wd p 0 : Nat) : Int), .int .u64 ((wd p 1 : Nat) : Int), .int .u64 ((wd p 2 : Nat) : Int), .int .u64 ((wd p 3 : Nat) : Int)]
  s1 : St W 24 (w.heap.size + 1) #[.int .u64 ((wd q 0 : Nat) : Int), .int .u64 ((wd q 1 : Nat) : Int), .int .u64 ((wd q 2 : Nat) : Int), .int .u64 ((wd q 3 : Nat) : Int)]
  own : W.ownsRow base 5 1 (.slice a n cap) n (u8s l)
  below : Below w.heap.size w W
  tab : TabAt W
theorem HeldT.keep {w : World} {p q : Nat → Bool} {base : Nat} {a : Option Addr} {n cap : Nat} {l : List Nat} {W w1 : World} (h : HeldT w p q base a n cap l W) (b : Below W.heap.size W w1) : HeldT w p q base a n cap l w1 :=
  ⟨h.s0.keep b, h.s1.keep b, ownsRow_keep h.own b, h.below.trans (b.mono h.below.size), h.tab.keep b⟩
theorem HeldT.drew {w : World} {p q : Nat → Bool} {base : Nat} {a : Option Addr} {n cap : Nat} {l : List Nat} {W : World} (h : HeldT w p q base a n cap l W) : HeldT w p q base a n cap l W.drew :=
  ⟨h.s0, h.s1, h.own.drew, h.below.drew, h.tab⟩
theorem HeldT.cells {w : World} {p q : Nat → Bool} {base : Nat} {a : Option Addr} {n cap : Nat} {l : List Nat} {W : World} (h : HeldT w p q base a n cap l W) :
    W.cell? ⟨w.heap.size, 0, none⟩ = some (.int .u64 ((wd p 0 : Nat) : Int)) ∧ W.cell? ⟨w.heap.size, 1, none⟩ = some (.int .u64 ((wd p 1 : Nat) : Int)) ∧ W.cell? ⟨w.heap.size, 2, none⟩ = some (.int .u64 ((wd p 2 : Nat) : Int)) ∧ W.cell? ⟨w.heap.size, 3, none⟩ = some (.int .u64 ((wd p 3 : Nat) : Int)) ∧ W.cell? ⟨w.heap.size + 1, 0, none⟩ = some (.int .u64 ((wd q 0 : Nat) : Int)) ∧ W.cell? ⟨w.heap.size + 1, 1, none⟩ = some (.int .u64 ((wd q 1 : Nat) : Int)) ∧ W.cell? ⟨w.heap.size + 1, 2, none⟩ = some (.int .u64 ((wd q 2 : Nat) : Int)) ∧ W.cell? ⟨w.heap.size + 1, 3, none⟩ = some (.int .u64 ((wd q 3 : Nat) : Int)) := by
  obtain ⟨r0, r1, r2, r3, _⟩ := row4 h.s0
  obtain ⟨q0, q1, q2, q3, _⟩ := row4 h.s1
  exact ⟨r0, r1, r2, r3, q0, q1, q2, q3⟩
theorem held_of {w : World} {p q : Nat → Bool} {base : Nat} {a : Option Addr} {n cap : Nat} {l : List Nat} {W : World} {f : Nat} {args : Array Value} {v : Value}
    (h : Calls Tryd.prog f args W fun e w' => e = .returned v ∧ Below W.heap.size W w') (hh : HeldT w p q base a n cap l W) :
    Calls Tryd.prog f args W fun e w' => e = .returned v ∧ HeldT w p q base a n cap l w' ∧ w'.cell? ⟨w.heap.size, 0, none⟩ = some (.int .u64 ((wd p 0 : Nat) : Int)) ∧ w'.cell? ⟨w.heap.size, 1, none⟩ = some (.int .u64 ((wd p 1 : Nat) : Int)) ∧ w'.cell? ⟨w.heap.size, 2, none⟩ = some (.int .u64 ((wd p 2 : Nat) : Int)) ∧ w'.cell? ⟨w.heap.size, 3, none⟩ = some (.int .u64 ((wd p 3 : Nat) : Int)) ∧ w'.cell? ⟨w.heap.size + 1, 0, none⟩ = some (.int .u64 ((wd q 0 : Nat) : Int)) ∧ w'.cell? ⟨w.heap.size + 1, 1, none⟩ = some (.int .u64 ((wd q 1 : Nat) : Int)) ∧ w'.cell? ⟨w.heap.size + 1, 2, none⟩ = some (.int .u64 ((wd q 2 : Nat) : Int)) ∧ w'.cell? ⟨w.heap.size + 1, 3, none⟩ = some (.int .u64 ((wd q 3 : Nat) : Int)) :=
  h.mono fun _ _ ⟨he, hb⟩ => ⟨he, hh.keep hb, (hh.keep hb).cells⟩
theorem held_list {w : World} {p q : Nat → Bool} {base : Nat} {a : Option Addr} {n cap : Nat} {l : List Nat} {W : World} (hh : HeldT w p q base a n cap l W) (hl : lst p 256 = l) (hn : l.length = n) :
    Calls Tryd.prog 6 #[(.agg #[.int .u64 ((wd p 0 : Nat) : Int), .int .u64 ((wd p 1 : Nat) : Int), .int .u64 ((wd p 2 : Nat) : Int), .int .u64 ((wd p 3 : Nat) : Int)])] W fun e w' => ∃ a' cap', e = .returned (.slice a' n cap') ∧ (convert 26 9 (.slice a' n cap')).run Tryd.prog w' = .ok (.string (strOf l)) w' ∧ HeldT w p q base a n cap l w' ∧ w'.cell? ⟨w.heap.size, 0, none⟩ = some (.int .u64 ((wd p 0 : Nat) : Int)) ∧ w'.cell? ⟨w.heap.size, 1, none⟩ = some (.int .u64 ((wd p 1 : Nat) : Int)) ∧ w'.cell? ⟨w.heap.size, 2, none⟩ = some (.int .u64 ((wd p 2 : Nat) : Int)) ∧ w'.cell? ⟨w.heap.size, 3, none⟩ = some (.int .u64 ((wd p 3 : Nat) : Int)) ∧ w'.cell? ⟨w.heap.size + 1, 0, none⟩ = some (.int .u64 ((wd q 0 : Nat) : Int)) ∧ w'.cell? ⟨w.heap.size + 1, 1, none⟩ = some (.int .u64 ((wd q 1 : Nat) : Int)) ∧ w'.cell? ⟨w.heap.size + 1, 2, none⟩ = some (.int .u64 ((wd q 2 : Nat) : Int)) ∧ w'.cell? ⟨w.heap.size + 1, 3, none⟩ = some (.int .u64 ((wd q 3 : Nat) : Int)) := by
  refine (list_any p W).mono ?_
  rintro e w' ⟨a', cap', rfl, ho, hb⟩
  rw [hl, hn] at ho ⊢
  exact ⟨a', cap', rfl, conv_any ho hn.symm, hh.keep hb, (hh.keep hb).cells⟩
theorem empty_yes (p : Nat → Bool) (h : (lst p 256).length = 0) (w : World) : Calls Tryd.prog 8 #[(.agg #[.int .u64 ((wd p 0 : Nat) : Int), .int .u64 ((wd p 1 : Nat) : Int), .int .u64 ((wd p 2 : Nat) : Int), .int .u64 ((wd p 3 : Nat) : Int)])] w fun e w' => e = .returned (.bool true) ∧ Below w.heap.size w w' := by
  have := empty_any p w
  rwa [decide_eq_true h] at this
theorem empty_no (p : Nat → Bool) (h : (lst p 256).length ≠ 0) (w : World) : Calls Tryd.prog 8 #[(.agg #[.int .u64 ((wd p 0 : Nat) : Int), .int .u64 ((wd p 1 : Nat) : Int), .int .u64 ((wd p 2 : Nat) : Int), .int .u64 ((wd p 3 : Nat) : Int)])] w fun e w' => e = .returned (.bool false) ∧ Below w.heap.size w w' := by
  have := empty_any p w
  rwa [decide_eq_false h] at this
theorem len_is (p : Nat → Bool) (n : Nat) (h : (lst p 256).length = n) (w : World) : Calls Tryd.prog 7 #[(.agg #[.int .u64 ((wd p 0 : Nat) : Int), .int .u64 ((wd p 1 : Nat) : Int), .int .u64 ((wd p 2 : Nat) : Int), .int .u64 ((wd p 3 : Nat) : Int)])] w fun e w' => e = .returned (.int .i64 ((n : Nat) : Int)) ∧ Below w.heap.size w w' := by
  have := len_any p w
  rwa [h] at this
theorem first_is (p : Nat → Bool) (v : Int) (h : least p = v) (w : World) (hT : TabAt w) : Calls Tryd.prog 9 #[(.agg #[.int .u64 ((wd p 0 : Nat) : Int), .int .u64 ((wd p 1 : Nat) : Int), .int .u64 ((wd p 2 : Nat) : Int), .int .u64 ((wd p 3 : Nat) : Int)])] w fun e w' => e = .returned (.int .i64 v) ∧ Below w.heap.size w w' := by
  have := first_any p w hT
  rwa [h] at this
theorem put3_none (q : Nat → Bool) (w : World) : Calls Tryd.prog 13 #[.int .i64 3, .agg #[.int .u64 0, .int .u64 0, .int .u64 0, .int .u64 0], (.agg #[.int .u64 ((wd q 0 : Nat) : Int), .int .u64 ((wd q 1 : Nat) : Int), .int .u64 ((wd q 2 : Nat) : Int), .int .u64 ((wd q 3 : Nat) : Int)])] w fun e w' => e = .returned (.agg #[.int .u64 ((wd ((fun _ => true)) 0 : Nat) : Int), .int .u64 ((wd ((fun _ => true)) 1 : Nat) : Int), .int .u64 ((wd ((fun _ => true)) 2 : Nat) : Int), .int .u64 ((wd ((fun _ => true)) 3 : Nat) : Int)]) ∧ Below w.heap.size w w' := by
  have h := put3 (fun _ => false) q w
  simp only [wd_none] at h
  exact h
theorem conv_none (W : World) (a : Option Addr) (cap : Nat) (ha : ∀ x, a = some x → x.spot = none) : (convert 26 9 (.slice a 0 cap)).run Tryd.prog W = .ok (.string (strOf [])) W := by
  rcases a with _ | ⟨b, o, sp⟩
  · exact run_convert_bytes_nil W 26 5 Tryd.underlying26 Tryd.underlying5 0 cap 9 Tryd.underlying9
  · have := ha _ rfl
    simp only at this
    subst this
    exact run_convert_bytes_arg W 26 5 Tryd.underlying26 Tryd.underlying5 b o 0 cap [] rfl (fun i hi => absurd hi (by omega)) 9 Tryd.underlying9
theorem held_list0 {w : World} {p q : Nat → Bool} {base : Nat} {a : Option Addr} {n cap : Nat} {l : List Nat} {W : World} (hh : HeldT w p q base a n cap l W) (hl : (lst p 256).length = 0) :
    Calls Tryd.prog 6 #[(.agg #[.int .u64 ((wd p 0 : Nat) : Int), .int .u64 ((wd p 1 : Nat) : Int), .int .u64 ((wd p 2 : Nat) : Int), .int .u64 ((wd p 3 : Nat) : Int)])] W fun e w' => ∃ a' cap', e = .returned (.slice a' 0 cap') ∧ (∀ V, (convert 26 9 (.slice a' 0 cap')).run Tryd.prog V = .ok (.string (strOf [])) V) ∧ HeldT w p q base a n cap l w' ∧ w'.cell? ⟨w.heap.size, 0, none⟩ = some (.int .u64 ((wd p 0 : Nat) : Int)) ∧ w'.cell? ⟨w.heap.size, 1, none⟩ = some (.int .u64 ((wd p 1 : Nat) : Int)) ∧ w'.cell? ⟨w.heap.size, 2, none⟩ = some (.int .u64 ((wd p 2 : Nat) : Int)) ∧ w'.cell? ⟨w.heap.size, 3, none⟩ = some (.int .u64 ((wd p 3 : Nat) : Int)) ∧ w'.cell? ⟨w.heap.size + 1, 0, none⟩ = some (.int .u64 ((wd q 0 : Nat) : Int)) ∧ w'.cell? ⟨w.heap.size + 1, 1, none⟩ = some (.int .u64 ((wd q 1 : Nat) : Int)) ∧ w'.cell? ⟨w.heap.size + 1, 2, none⟩ = some (.int .u64 ((wd q 2 : Nat) : Int)) ∧ w'.cell? ⟨w.heap.size + 1, 3, none⟩ = some (.int .u64 ((wd q 3 : Nat) : Int)) := by
  refine (list_any p W).mono ?_
  rintro e w' ⟨a', cap', rfl, ho, hb⟩
  rw [hl] at ho ⊢
  refine ⟨a', cap', rfl, fun V => conv_none V a' cap' ?_, hh.keep hb, (hh.keep hb).cells⟩
  rintro x rfl
  rcases ho.2 with ⟨e, _⟩ | ⟨g, cap'', cur, e, _⟩
  · simp at e
  · simp at e; rw [e.1]
end Go.Proofs.YtfnfliooimkddaaDoor
