import Derived.Test.YtbacgnhkapancaaDoorVEnds
import Derived.Test.YtbacgnhkapancaaDoorVShelf
namespace Go.Proofs.YtbacgnhkapancaaDoor
open Go.RowKit Go.Maps Go.WideElems Go.ChangeMaps Go.MapKept
set_option linter.unusedVariables false
set_option linter.unusedSimpArgs false

theorem clone13_any (s : ByteArray) (hs : s.size ≤ 1000000) (w : World) :
    Calls Tryd.prog 21 #[.string s] w fun e w' => e = .returned (.string s) ∧ Below w.heap.size w w' := by
  have HC := Lib.hid (Tryd.stringslite_Clone s w (by omega))
  go_enter Tryd.func21, Tryd.ntmps21
  go_wp2_with (go_at_call 24; refine HC.out.mono ?_; rintro e w1 ⟨rfl, kb⟩; refine Hid.out ?_)
  refine Lib.hid ?_
  have HK := Lib.hid kb
  clear kb
  go_wp2_with fail
  go_ret
  exact ⟨rfl, HK.out⟩

/-- What is told of a line's text. -/
def LinePost (s : ByteArray) (m : Nat) (n : Int) (w : World) (e : Ending) (w' : World) : Prop :=
  ∃ (t : ByteArray) (ok : Bool), e = .returned (.tuple #[.string t, .bool ok]) ∧ ((ok = true ∧ ∃ a b, LnIs (bz s) m n a b ∧ t = s.extract a b) ∨ (ok = false ∧ t = s.extract 0 0 ∧ ∀ i, i ≤ m → ((lnF (bz s) i : Nat) : Int) ≠ n)) ∧ Below w.heap.size w w'

set_option maxHeartbeats 1000000 in
set_option maxRecDepth 100000 in
theorem line13_any (s : ByteArray) (n : Int) (m : Nat) (hs : s.size = m) (hm : m ≤ 1000000) (w : World) :
    Calls Tryd.prog 11 #[.string s, .int .i64 n] w (LinePost s m n w) := by
  have HS := Lib.hid (And.intro hs hm)
  have HE := Lib.hid (ends13_any s n m hs hm w)
  clear hs
  go_enter Tryd.func11, Tryd.ntmps11
  go_wp2_with (go_at_call 20; refine HE.out.mono ?_; rintro e w1 ⟨a, b, ok, rfl, hP, kb⟩; refine Hid.out ?_)
  refine Lib.hid ?_
  have HP : Hid (a ≤ b ∧ b ≤ m ∧ ((ok = true ∧ LnIs (bz s) m n a b) ∨ (ok = false ∧ a = 0 ∧ b = 0 ∧ ∀ i, i ≤ m → ((lnF (bz s) i : Nat) : Int) ≠ n)) ∧ Below w.heap.size w w1) := by
    refine ⟨?_, ?_, hP, kb⟩
    · rcases hP with ⟨_, hL⟩ | ⟨_, h1, h2, _⟩
      · exact hL.1
      · omega
    · rcases hP with ⟨_, hL⟩ | ⟨_, h1, h2, _⟩
      · exact hL.2.1
      · omega
  clear hP kb HE
  have i0 := HP.out.1
  have i1 := HP.out.2.1
  have hss := HS.out.1
  have j0 : ¬ ((b : Int) < (a : Int)) := by omega
  have j1 : (b : Int) ≤ (m : Int) := by omega
  have HZ : Hid ((s.extract a b).size ≤ 1000000) := by show _ ≤ _; rw [ByteArray.size_extract]; omega
  have HC := Lib.hid (clone13_any (s.extract a b) HZ.out w1)
  go_wp2_with (go_at_call 21; refine HC.out.mono ?_; rintro e w2 ⟨rfl, kb⟩; refine Hid.out ?_)
  refine Lib.hid ?_
  have HF := Lib.hid (HP.out.2.2.2.trans (kb.mono HP.out.2.2.2.size))
  clear kb
  go_wp2_with fail
  go_ret2
  refine ⟨_, ok, rfl, ?_, HF.out⟩
  rcases HP.out.2.2.1 with ⟨h1, hL⟩ | ⟨h1, h2, h3, hN⟩
  · exact Or.inl ⟨h1, a, b, hL, rfl⟩
  · exact Or.inr ⟨h1, by rw [h2, h3], hN⟩
end Go.Proofs.YtbacgnhkapancaaDoor
