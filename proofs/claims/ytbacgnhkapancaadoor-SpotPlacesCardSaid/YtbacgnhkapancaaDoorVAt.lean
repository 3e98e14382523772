import Derived.Test.YtbacgnhkapancaaDoorVEnds
import Derived.Test.YtbacgnhkapancaaDoorVOf
namespace Go.Proofs.YtbacgnhkapancaaDoor
open Go.RowKit Go.Maps Go.WideElems Go.ChangeMaps Go.MapKept
set_option linter.unusedVariables false
set_option linter.unusedSimpArgs false

/-- What is told of a place that is asked for. -/
def AtPost (s : ByteArray) (m : Nat) (L C : Int) (w : World) (e : Ending) (w' : World) : Prop :=
  ∃ v k : Int, e = .returned (.tuple #[.int .i64 v, .int .i64 k]) ∧ ((k = 0 ∧ ∃ i : Nat, i ≤ m ∧ v = (i : Int) ∧ ((lnF (bz s) i : Nat) : Int) = L ∧ (i : Int) - ((frF (bz s) i : Nat) : Int) + 1 = C) ∨ (k = 1 ∧ v = 0 ∧ ∀ i : Nat, i ≤ m → ((lnF (bz s) i : Nat) : Int) = L → (i : Int) - ((frF (bz s) i : Nat) : Int) + 1 ≠ C)) ∧ Below w.heap.size w w'

set_option maxHeartbeats 1000000 in
set_option maxRecDepth 100000 in
theorem at13_any (s : ByteArray) (L C : Int) (hC : C ≤ 9223372036854775807) (m : Nat) (hs : s.size = m) (hm : m ≤ 1000000) (w : World) :
    Calls Tryd.prog 9 #[.string s, .agg #[.int .i64 L, .int .i64 C]] w (AtPost s m L C w) := by
  have HS := Lib.hid (And.intro hs hm)
  clear hs
  go_enter Tryd.func9, Tryd.ntmps9
  go_upto_region 1 with fail
  have k0 := al w (.cells #[.int .i64 L, .int .i64 C] 23)
  have s0 := Bl.new w 23 #[.int .i64 L, .int .i64 C]
  have z0 : (w.alloc (.cells #[.int .i64 L, .int .i64 C] 23)).heap.size = w.heap.size + 1 := by simp
  generalize w.alloc (.cells #[.int .i64 L, .int .i64 C] 23) = W0 at k0 s0 z0 ⊢
  have H0 := Lib.hid (And.intro k0 (And.intro s0 z0))
  obtain ⟨c0, c1, _, _⟩ := s0.row2
  clear k0 s0 z0
  have HE := Lib.hid (ends13_any s L m HS.out.1 hm W0)
  go_wp2_with (go_at_call 20; refine HE.out.mono ?_; rintro e w1 ⟨a, b, ok, rfl, hP, kb⟩; refine Hid.out ?_)
  refine Lib.hid ?_
  have HK := Lib.hid kb
  have hx : w.heap.size < W0.heap.size := by have := H0.out.2.2; omega
  have HB2 := Lib.hid (And.intro (H0.out.2.1.below HK.out hx) (H0.out.1.trans (HK.out.mono (by omega))))
  clear hx HE kb c0 c1
  obtain ⟨c0, c1, _, _⟩ := HB2.out.1.row2
  have HF := Lib.hid HB2.out.2
  rcases hP with ⟨rfl, hL⟩ | ⟨rfl, rfl, rfl, hN⟩
  · have HL := Lib.hid hL
    have hab := hL.1
    have hbm := hL.2.1
    clear hL
    by_cases h1 : C < 1
    · go_wp2_with fail
      go_ret2
      exact ⟨0, 1, rfl, Or.inr ⟨rfl, rfl, fun i hi hl he => by have := frF_le (bz s) i; omega⟩, HF.out⟩
    · by_cases h2 : (b : Int) - (a : Int) < C - 1
      · go_wp2_with fail
        go_ret2
        refine ⟨0, 1, rfl, Or.inr ⟨rfl, rfl, fun i hi hl he => ?_⟩, HF.out⟩
        have hi2 := (HL.out.2.2 i hi).1 hl
        have := (HL.out.at_ hi2.1 hi2.2).2
        omega
      · obtain ⟨c, rfl⟩ : ∃ c : Nat, C = (c : Int) := ⟨C.toNat, by omega⟩
        go_wp2_with fail
        go_ret2
        refine ⟨_, 0, rfl, Or.inl ⟨rfl, a + c - 1, by omega, by omega, ?_⟩, HF.out⟩
        have hi2 := HL.out.at_ (i := a + c - 1) (by omega) (by omega)
        exact ⟨hi2.1, by rw [hi2.2]; omega⟩
  · have HN := Lib.hid hN
    clear hN
    go_wp2_with fail
    go_ret2
    exact ⟨0, 1, rfl, Or.inr ⟨rfl, rfl, fun i hi hl _ => HN.out i hi hl⟩, HF.out⟩
end Go.Proofs.YtbacgnhkapancaaDoor
