import Derived.Test.YtlnndkilaklifaaZBase
import Derived.Test.YtlnndkilaklifaaZSt
import Derived.WalkKit
import Derived.ProofKit
import Derived.OpenShut
import Derived.ShutString
import Derived.ChangeOld
import Derived.Below
import Derived.Deep.Slices
import Derived.Deep.Fields
import Derived.ChangeSame
namespace Go.Proofs.Ytlnndkilaklifaa
open Go.ChangeShapes Go.WideShapes Go.ChangeAt Go.RowKit Go.Deep

set_option maxRecDepth 100000

/-- Four cells that are read as an array of words are a set's. -/
theorem open_set {H : Type} {enc : TypeId × Value → H} {w : World} {base fuel : Nat} {spare : Nat → Bool} {held : Bool} {cs : List Value} {x : DataW H × List MemPlace}
    (h : DataW.trod enc Try.prog w base spare held fuel 41 cs = some x) : ∃ p : Nat → Bool, cs = (#[.int .u64 ((wd p 0 : Nat) : Int), .int .u64 ((wd p 1 : Nat) : Int), .int .u64 ((wd p 2 : Nat) : Int), .int .u64 ((wd p 3 : Nat) : Int)]).toList := by
  have h4 : Try.prog.cellsOf 41 = 4 := by kernel_rfl
  have h1 : Try.prog.cellsOf 39 = 1 := by kernel_rfl
  obtain ⟨xs, m, _, _, hl, hxl, hi⟩ := DataW.trod_array Try.underlying41 h
  rw [h4] at hl
  match cs, hl with
  | [c0, c1, c2, c3], _ =>
    match xs, hxl with
    | [y0, y1, y2, y3], _ =>
      have i0 := hi 0 (by omega)
      have i1 := hi 1 (by omega)
      have i2 := hi 2 (by omega)
      have i3 := hi 3 (by omega)
      simp [h1] at i0 i1 i2 i3
      obtain ⟨a0, e0, _, f0⟩ := DataW.trod_int Try.underlying39 i0
      obtain ⟨a1, e1, _, f1⟩ := DataW.trod_int Try.underlying39 i1
      obtain ⟨a2, e2, _, f2⟩ := DataW.trod_int Try.underlying39 i2
      obtain ⟨a3, e3, _, f3⟩ := DataW.trod_int Try.underlying39 i3
      simp at e0 e1 e2 e3
      subst e0 e1 e2 e3
      have b0 := bounds_u64 f0
      have b1 := bounds_u64 f1
      have b2 := bounds_u64 f2
      have b3 := bounds_u64 f3
      obtain ⟨n0, rfl⟩ := Int.eq_ofNat_of_zero_le b0.1
      obtain ⟨n1, rfl⟩ := Int.eq_ofNat_of_zero_le b1.1
      obtain ⟨n2, rfl⟩ := Int.eq_ofNat_of_zero_le b2.1
      obtain ⟨n3, rfl⟩ := Int.eq_ofNat_of_zero_le b3.1
      obtain ⟨p, rfl, rfl, rfl, rfl⟩ := words_set n0 n1 n2 n3 (by omega) (by omega) (by omega) (by omega)
      exact ⟨p, rfl⟩
theorem open_set_val {H : Type} {enc : TypeId × Value → H} {w : World} {base b0 : Nat} {r : Reach} {spare : Nat → Bool} {held : Bool} {v : Value} (hk : Value.okWide Try.prog w r b0 41 v)
    (h : ∃ (fuel : Nat) (x : DataW H × List MemPlace), DataW.trod enc Try.prog w base spare held fuel 41 v.cells.toList = some x) : ∃ p : Nat → Bool, v = (.agg #[.int .u64 ((wd p 0 : Nat) : Int), .int .u64 ((wd p 1 : Nat) : Int), .int .u64 ((wd p 2 : Nat) : Int), .int .u64 ((wd p 3 : Nat) : Int)]) := by
  obtain ⟨xs, rfl⟩ : ∃ xs : Array Value, v = .agg xs := by
    simp only [Value.okWide, Try.underlying41] at hk
    obtain ⟨cs, h1, _⟩ := hk
    exact ⟨cs, h1⟩
  obtain ⟨fuel, x, hf⟩ := h
  obtain ⟨p, hp⟩ := open_set hf
  refine ⟨p, ?_⟩
  simp [Value.cells] at hp
  congr 1
  exact Array.toList_inj.1 (by simpa using hp)
end Go.Proofs.Ytlnndkilaklifaa
