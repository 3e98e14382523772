import Derived.Test.YtjhfgiflcenjpaaDoorCards
import Derived.Test.YtjhfgiflcenjpaaDoorTie
import Derived.Test.YtjhfgiflcenjpaaDoorZBase
import Derived.Test.YtjhfgiflcenjpaaDoorZFirst
import Derived.Test.YtjhfgiflcenjpaaDoorZSt
import Derived.Test.YtjhfgiflcenjpaaDoorZStart
import Derived.WalkKit
import Derived.ProofKit
import Derived.OpenShut
import Derived.ShutString
import Derived.ChangeOld
import Derived.Below
import Derived.Deep.Slices
import Derived.Deep.Fields
import Derived.ChangeSame
import Derived.LaidMore
import Derived.Stop.Joined
import Derived.SevenTiedAt
namespace Go.Proofs.YtjhfgiflcenjpaaDoor
open Go.ChangeShapes Go.WideShapes Go.ChangeAt Go.RowKit Go.Deep

set_option maxRecDepth 100000

/-- Four cells that are read as an array of words are a set's. -/
theorem open_set {H : Type} {enc : TypeId × Value → H} {w : World} {base fuel : Nat} {spare : Nat → Bool} {held : Bool} {cs : List Value} {x : DataW H × List MemPlace}
    (h : DataW.trod enc Tryd.prog w base spare held fuel 33 cs = some x) : ∃ p : Nat → Bool, cs = (#[.int .u64 ((wd p 0 : Nat) : Int), .int .u64 ((wd p 1 : Nat) : Int), .int .u64 ((wd p 2 : Nat) : Int), .int .u64 ((wd p 3 : Nat) : Int)]).toList := by
  have h4 : Tryd.prog.cellsOf 33 = 4 := by kernel_rfl
  have h1 : Tryd.prog.cellsOf 31 = 1 := by kernel_rfl
  obtain ⟨xs, m, _, _, hl, hxl, hi⟩ := DataW.trod_array Tryd.underlying33 h
  rw [h4] at hl
  match cs, hl with
  | [c0, c1, c2, c3], _ =>
    match xs, hxl with
    | [y0, y1, y2, y3], _ =>
      have i0 := hi 0 (by omega)
      have i1 := hi 1 (by omega)
      have i2 := hi 2 (by omega)
      have i3 := hi 3 (by omega)
      simp [h1] at i0 i1 i2 i3
      obtain ⟨a0, e0, _, f0⟩ := DataW.trod_int Tryd.underlying31 i0
      obtain ⟨a1, e1, _, f1⟩ := DataW.trod_int Tryd.underlying31 i1
      obtain ⟨a2, e2, _, f2⟩ := DataW.trod_int Tryd.underlying31 i2
      obtain ⟨a3, e3, _, f3⟩ := DataW.trod_int Tryd.underlying31 i3
      simp at e0 e1 e2 e3
      subst e0 e1 e2 e3
      have b0 := bounds_u64 f0
      have b1 := bounds_u64 f1
      have b2 := bounds_u64 f2
      have b3 := bounds_u64 f3
      obtain ⟨n0, rfl⟩ := Int.eq_ofNat_of_zero_le b0.1
      obtain ⟨n1, rfl⟩ := Int.eq_ofNat_of_zero_le b1.1
      obtain ⟨n2, rfl⟩ := Int.eq_ofNat_of_zero_le b2.1
      obtain ⟨n3, rfl⟩ := Int.eq_ofNat_of_zero_le b3.1
      obtain ⟨p, rfl, rfl, rfl, rfl⟩ := words_set n0 n1 n2 n3 (by omega) (by omega) (by omega) (by omega)
      exact ⟨p, rfl⟩
theorem open_set_val {H : Type} {enc : TypeId × Value → H} {w : World} {base b0 : Nat} {r : Reach} {spare : Nat → Bool} {held : Bool} {v : Value} (hk : Value.okWide Tryd.prog w r b0 33 v)
    (h : ∃ (fuel : Nat) (x : DataW H × List MemPlace), DataW.trod enc Tryd.prog w base spare held fuel 33 v.cells.toList = some x) : ∃ p : Nat → Bool, v = (.agg #[.int .u64 ((wd p 0 : Nat) : Int), .int .u64 ((wd p 1 : Nat) : Int), .int .u64 ((wd p 2 : Nat) : Int), .int .u64 ((wd p 3 : Nat) : Int)]) := by
  obtain ⟨xs, rfl⟩ : ∃ xs : Array Value, v = .agg xs := by
    simp only [Value.okWide, Tryd.underlying33] at hk
    obtain ⟨cs, h1, _⟩ := hk
    exact ⟨cs, h1⟩
  obtain ⟨fuel, x, hf⟩ := h
  obtain ⟨p, hp⟩ := open_set hf
  refine ⟨p, ?_⟩
  simp [Value.cells] at hp
  congr 1
  exact Array.toList_inj.1 (by simpa using hp)
end Go.Proofs.YtjhfgiflcenjpaaDoor

namespace Go.Proofs.YtjhfgiflcenjpaaDoor
open Go.ChangeShapes Go.WideShapes Go.ChangeAt Go.RowKit Go.Deep
set_option linter.unusedVariables false
set_option maxRecDepth 100000

/-- What the rows list. -/
def laid1 : List (String × DataW Unit) := [("math/bits.deBruijn64tab", Rows.laid_math_bits_deBruijn64tab)]
theorem gTab : Tryd.prog.globalNamed "math/bits.deBruijn64tab" = some 0 := by kernel_rfl
theorem tTab : (Tryd.prog.globals[0]?).map (·.type) = some 98 := by kernel_rfl
theorem door_met (os : Os) (args : Array Value) : laidMetH Tryd.prog laid1 ((World.doorLaid Tryd.prog 4000 os).forCall (fun _ _ => 0) ⟨#[], args, []⟩).memory :=
  laidMetH_of_parts3 (fuel := 8) (laidMet_of_run' 8 (by kernel_rfl) (by kernel_rfl)) (by kernel_rfl) (by kernel_rfl)

/-- A row of bytes that reads as a list of numbers holds them. -/
theorem bytes_read {H : Type} {enc : TypeId × Value → H} {w : World} {base fuel : Nat} {spare : Nat → Bool} {held : Bool} {cs : List Value} {x : DataW H × List MemPlace} {ns : List Nat}
    (h : DataW.trod enc Tryd.prog w base spare held fuel 98 cs = some x) (hx : x.1 = .agg (ns.map fun n => .lit (.int .u8 ((n : Nat) : Int)))) (hn : ns.length = 64) (j : Nat) (hj : j < 64) :
    cs[j]? = some (.int .u8 ((ns.getD j 0 : Nat) : Int)) := by
  have h64 : Tryd.prog.cellsOf 98 = 64 := by kernel_rfl
  have h1 : Tryd.prog.cellsOf 5 = 1 := by kernel_rfl
  obtain ⟨xs, m, _, rfl, hl, hxl, hi⟩ := DataW.trod_array Tryd.underlying98 h
  have ij := hi j hj
  rw [h1, h64] at *
  simp only [DataW.agg.injEq] at hx
  have hjc : j < cs.length := by omega
  have hd : (cs.drop (j * 1)).take 1 = [cs[j]] := by
    rw [Nat.mul_one, List.drop_eq_getElem_cons hjc]; rfl
  rw [hd, List.getElem?_eq_getElem (by omega)] at ij
  obtain ⟨a, e0, e1, _⟩ := DataW.trod_int Tryd.underlying5 ij
  have hmap := congrArg (fun l => l[j]?) hx
  simp only [List.getElem?_map, List.getElem?_eq_getElem (show j < xs.length by omega), List.getElem?_eq_getElem (show j < ns.length by omega), Option.map_some, e1] at hmap
  injection hmap with hmap
  injection hmap with hmap
  injection hmap with _ hmap
  simp at e0
  rw [List.getElem?_eq_getElem hjc, e0, hmap]
  simp [List.getElem?_eq_getElem (show j < ns.length by omega)]

theorem of_laid {W : World} (h : laidMetH Tryd.prog laid1 W) : TabAt W ∧ 0 < W.heap.size := by
  rw [MakeChecks.laidMetH_plain _ _ _ (by kernel_rfl)] at h
  obtain ⟨ps, ⟨g0, t0, cs0, f0, p0, q0, hg0, ht0, hv0, hd0, _⟩, _, _⟩ := h
  obtain rfl := Option.some.inj (gTab.symm.trans hg0)
  obtain rfl := Option.some.inj (tTab.symm.trans ht0)
  have hT : TabAt W := by
    intro j hj
    have h1 := bytes_read (ns := Lib.deBruijn64tab) hd0 rfl rfl j hj
    have h2 := World.var?_cell hg0 hv0 j
    rw [h2]
    simpa using h1
  refine ⟨hT, ?_⟩
  have h0 := hT 0 (by decide)
  by_cases hb : 0 < W.heap.size
  · exact hb
  · simp [World.cell?, Array.getElem?_eq_none (by omega : W.heap.size ≤ 0)] at h0

theorem add_mid (b o j : Nat) : (⟨b, o, none⟩ : Addr).add j = ⟨b, o + j, none⟩ := by unfold Addr.add; split <;> simp_all

/-- Five cells that read as a piece are one's. -/
theorem open_piece {H : Type} {enc : TypeId × Value → H} {w : World} {base fuel : Nat} {spare : Nat → Bool} {held : Bool} {cs : List Value} {x : DataW H × List MemPlace} (hlen : cs.length = 5)
    (h : DataW.trod enc Tryd.prog w base spare held fuel 35 cs = some x) : ∃ p : Pc, cs = pcCells p := by
  have c3 : Tryd.prog.cellsOf 3 = 1 := by kernel_rfl
  have c4 : Tryd.prog.cellsOf 33 = 4 := by kernel_rfl
  obtain ⟨ys, n', hn', hy, hl, hyl, hf⟩ := DataW.trod_struct Tryd.underlying35 h
  have f0 := hf 0 _ rfl
  have f1 := hf 1 _ rfl
  match cs, hlen with
  | [v0, v1, v2, v3, v4], _ =>
    simp [c3, c4] at f0 f1
    match ys, hyl with
    | [y0, y1], _ =>
      simp at f0 f1
      obtain ⟨k, e0, _⟩ := DataW.trod_int Tryd.underlying3 f0
      obtain ⟨p, hp⟩ := open_set f1
      simp at e0 hp
      subst e0
      obtain ⟨rfl, rfl, rfl, rfl⟩ := hp
      exact ⟨⟨k, p⟩, rfl⟩

theorem open_pieces {H : Type} {enc : TypeId × Value → H} {w : World} {base fuel : Nat} {spare : Nat → Bool} {held : Bool} {a : Option Addr} {len cap : Nat} {x : DataW H × List MemPlace}
    (h : DataW.trod enc Tryd.prog w base spare held fuel 23 [.slice a len cap] = some x) : ∃ l : List Pc, l.length = len ∧ RxAt w a l ∧ len ≤ cap ∧ cap ≤ maxLen := by
  rcases open_slice Tryd.underlying23 h with ⟨hcs, _⟩ | ⟨ad, l, c, m, n, D, Pl, hcs, hb, hl, hm, hmm, hx, hi⟩
  · simp at hcs
    obtain ⟨rfl, rfl, rfl⟩ := hcs
    exact ⟨[], rfl, fun h => absurd h (by simp), Nat.le_refl _, by unfold maxLen; omega⟩
  · simp at hcs
    obtain ⟨rfl, rfl, rfl⟩ := hcs
    have h5 : Tryd.prog.cellsOf 35 = 5 := by kernel_rfl
    have hp : ∀ i, i < len → ∃ p : Pc, ∀ j, j < 5 → w.cell? (ad.add (i * 5 + j)) = (pcCells p)[j]? := by
      intro i him
      obtain ⟨cs', hc, ht⟩ := hi i (by rw [hmm]; split <;> omega)
      rw [h5] at hc
      obtain ⟨_, hcl, hat⟩ := World.cells?_some hc
      obtain ⟨p, rfl⟩ := open_piece hcl ht
      refine ⟨p, fun j hj => ?_⟩
      rw [← Go.Deep.add_add]
      exact hat j hj
    obtain ⟨b, off, spot⟩ := ad
    have hall : ∃ s : Nat → Pc, ∀ i, i < len → ∀ j, j < 5 → w.cell? ((⟨b, off, spot⟩ : Addr).add (i * 5 + j)) = (pcCells (s i))[j]? :=
      ⟨fun i => if h : i < len then Classical.choose (hp i h) else ⟨0, fun _ => false⟩, fun i h j hj => by
        have := Classical.choose_spec (hp i h) j hj
        simp only [dif_pos h]
        exact this⟩
    obtain ⟨s, hs⟩ := hall
    refine ⟨(List.range len).map s, by simp, ?_, hl, hm⟩
    intro h0
    simp at h0
    have hspot : spot = none := by
      have := hs 0 h0 0 (by omega)
      simpa [Addr.add, pcCells] using World.cell?_spot this
    subst hspot
    have hcell : ∀ i, i < len → ∀ j, j < 5 → w.cell? ⟨b, off + (i * 5 + j), none⟩ = (pcCells (s i))[j]? := fun i hi j hj => by
      have := hs i hi j hj
      rw [add_mid] at this
      exact this
    refine ⟨b, off, rfl, ?_, fun j hj => ?_⟩
    · have := hcell 0 h0 0 (by omega)
      by_cases hb : b < w.heap.size
      · exact hb
      · simp [World.cell?, pcCells, Array.getElem?_eq_none (by omega : w.heap.size ≤ b)] at this
    · simp at hj
      have h1 := hcell (j / 5) (by omega) (j % 5) (by omega)
      rw [show j / 5 * 5 + j % 5 = j by omega] at h1
      rw [h1]
      have h2 := pcs_get ((List.range len).map s) (j / 5) (by simp; omega) (j % 5) (by omega)
      rw [show j / 5 * 5 + j % 5 = j by omega] at h2
      rw [h2]
      simp
end Go.Proofs.YtjhfgiflcenjpaaDoor
