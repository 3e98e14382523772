import Derived.Test.YtjehgdjlncofeaaZSClose
import Derived.Test.YtjehgdjlncofeaaZSFrame
import Derived.Test.YtjehgdjlncofeaaZTRefW
import Derived.Laws.Cover3
namespace Go.Proofs.Ytjehgdjlncofeaa
open Go.ChangeShapes Go.WideShapes Go.ChangeAt Go.RowKit Go.Deep
set_option linter.unusedVariables false
set_option maxRecDepth 100000

theorem take1_drop {α : Type} (l : List α) (k : Nat) (h : k < l.length) : (l.drop k).take 1 = [l[k]] := by rw [List.drop_eq_getElem_cons h]; rfl
/-- Rows of numbers that came in. -/
theorem open_rows9 {H : Type} {enc : TypeId × Value → H} {w : World} {base fuel : Nat} {spare : Nat → Bool} {held : Bool} {a : Option Addr} {len cap : Nat} {x : DataW H × List MemPlace}
    (h : DataW.trod enc Try.prog w base spare held fuel 23 [.slice a len cap] = some x) :
    (∃ (A : Nat → Option Addr) (Cp ln : Nat → Nat) (z : Nat → Nat → Int), ZsAt w a len A Cp ln z ∧ ∀ i, i < len → ln i ≤ maxLen) ∧ len ≤ cap ∧ cap ≤ maxLen := by
  rcases open_slice Try.underlying23 h with ⟨hcs, _⟩ | ⟨ad, l, c, m, n, D, Pl, hcs, hb, hl, hm, hmm, hx, hi⟩
  · simp at hcs
    obtain ⟨rfl, rfl, rfl⟩ := hcs
    exact ⟨⟨fun _ => none, fun _ => 0, fun _ => 0, fun _ _ => 0, fun h => absurd h (by omega), fun i h => absurd h (by omega)⟩, Nat.le_refl _, by unfold maxLen; omega⟩
  · simp at hcs
    obtain ⟨rfl, rfl, rfl⟩ := hcs
    have h1 : Try.prog.cellsOf 24 = 1 := by kernel_rfl
    have hp : ∀ i, i < len → ∃ p : Option Addr × Nat × Nat × (Nat → Int), w.cell? (ad.add i) = some (.slice p.1 p.2.1 p.2.2.1) ∧ ZAt w p.1 p.2.1 p.2.2.2 ∧ p.2.1 ≤ maxLen := by
      intro i him
      obtain ⟨cs', hc, ht⟩ := hi i (by rw [hmm]; split <;> omega)
      rw [h1] at hc
      obtain ⟨_, hcl, hat⟩ := World.cells?_some hc
      have hsl : ∃ a' n' c', cs' = [.slice a' n' c'] := by
        rcases open_slice Try.underlying24 ht with ⟨hcs, _⟩ | ⟨ad', l', c', m', n', D', Pl', hcs, _⟩
        · exact ⟨_, _, _, hcs⟩
        · exact ⟨_, _, _, hcs⟩
      obtain ⟨a', n', c', rfl⟩ := hsl
      obtain ⟨⟨g, hg⟩, h4, h5⟩ := open_ints9 ht
      have h2 := hat 0 (by omega)
      rw [Go.Deep.add_add] at h2
      exact ⟨(a', n', c', g), by simpa using h2, hg, by show n' ≤ maxLen; omega⟩
    obtain ⟨b, off, spot⟩ := ad
    obtain ⟨G, hs⟩ : ∃ G : Nat → Option Addr × Nat × Nat × (Nat → Int), ∀ i, i < len → w.cell? ((⟨b, off, spot⟩ : Addr).add i) = some (.slice (G i).1 (G i).2.1 (G i).2.2.1) ∧ ZAt w (G i).1 (G i).2.1 (G i).2.2.2 ∧ (G i).2.1 ≤ maxLen :=
      ⟨fun i => if h : i < len then Classical.choose (hp i h) else (none, 0, 0, fun _ => 0), fun i h => by
        have := Classical.choose_spec (hp i h)
        simp only [dif_pos h]
        exact this⟩
    refine ⟨⟨fun i => (G i).1, fun i => (G i).2.2.1, fun i => (G i).2.1, fun i => (G i).2.2.2, fun h0 => ?_, fun i hi => (hs i hi).2.2⟩, hl, hm⟩
    have hspot : spot = none := by
      have := (hs 0 h0).1
      simpa [Addr.add] using World.cell?_spot this
    subst hspot
    refine ⟨b, off, rfl, ?_, fun j hj => ⟨?_, (hs j hj).2.1⟩⟩
    · have := (hs 0 h0).1
      by_cases hb : b < w.heap.size
      · exact hb
      · rw [add_mid9] at this
        simp [World.cell?, Array.getElem?_eq_none (by omega : w.heap.size ≤ b)] at this
    · have := (hs j hj).1
      rwa [add_mid9] at this

/-- An automaton that came in. -/
theorem open_dfa {H : Type} {enc : TypeId × Value → H} {w : World} {base fuel : Nat} {spare : Nat → Bool} {held : Bool} {xs : Array Value} {x : DataW H × List MemPlace} (hlen : xs.size = 258)
    (h : DataW.trod enc Try.prog w base spare held fuel 26 xs.toList = some x) : ∃ D : Dd, D.cD = xs ∧ DM w D ∧ D.n ≤ maxLen ∧ D.m ≤ maxLen ∧ ∀ i, i < D.n → D.len i ≤ maxLen := by
  have c3 : Try.prog.cellsOf 22 = 256 := by kernel_rfl
  have c4 : Try.prog.cellsOf 23 = 1 := by kernel_rfl
  have c5 : Try.prog.cellsOf 24 = 1 := by kernel_rfl
  have c6 : Try.prog.cellsOf 5 = 1 := by kernel_rfl
  obtain ⟨ys, n', hn', hy, hl, hyl, hf⟩ := DataW.trod_struct Try.underlying26 h
  have f0 : DataW.trod enc Try.prog w base spare held n' 22 ((xs.toList.drop 0).take (Try.prog.cellsOf 22)) = ys[0]? := hf 0 _ rfl
  have f1 : DataW.trod enc Try.prog w base spare held n' 23 ((xs.toList.drop 256).take (Try.prog.cellsOf 23)) = ys[1]? := hf 1 _ rfl
  have f2 : DataW.trod enc Try.prog w base spare held n' 24 ((xs.toList.drop 257).take (Try.prog.cellsOf 24)) = ys[2]? := hf 2 _ rfl
  rw [c3] at f0
  rw [c4] at f1
  rw [c5] at f2
  have hyl3 : ys.length = 3 := hyl
  have g0 : ys[0]? = some ys[0] := List.getElem?_eq_getElem _
  have g1 : ys[1]? = some ys[1] := List.getElem?_eq_getElem _
  have g2 : ys[2]? = some ys[2] := List.getElem?_eq_getElem _
  rw [g0] at f0
  rw [g1] at f1
  rw [g2] at f2
  have hsz : xs.toList.length = 258 := by simpa using hlen
  have e1 : ∃ v, xs[256]? = some v ∧ (xs.toList.drop 256).take 1 = [v] := ⟨xs[256], by simp, by
    rw [take1_drop _ _ (by omega)]; simp⟩
  have e2 : ∃ v, xs[257]? = some v ∧ (xs.toList.drop 257).take 1 = [v] := ⟨xs[257], by simp, by
    rw [take1_drop _ _ (by omega)]; simp⟩
  obtain ⟨v1, hv1, q1⟩ := e1
  obtain ⟨v2, hv2, q2⟩ := e2
  rw [q1] at f1
  rw [q2] at f2
  have hs1 : ∃ a' n' c', v1 = .slice a' n' c' := by
    rcases open_slice Try.underlying23 f1 with ⟨hcs, _⟩ | ⟨ad', l', c', m', n', D', Pl', hcs, _⟩
    · simp at hcs; exact ⟨_, _, _, hcs⟩
    · simp at hcs; exact ⟨_, _, _, hcs⟩
  have hs2 : ∃ a' n' c', v2 = .slice a' n' c' := by
    rcases open_slice Try.underlying24 f2 with ⟨hcs, _⟩ | ⟨ad', l', c', m', n', D', Pl', hcs, _⟩
    · simp at hcs; exact ⟨_, _, _, hcs⟩
    · simp at hcs; exact ⟨_, _, _, hcs⟩
  obtain ⟨aN, nN, cN, rfl⟩ := hs1
  obtain ⟨aM, nM, cM, rfl⟩ := hs2
  obtain ⟨⟨A, Cp, ln, z, hz, hln⟩, hnc, hcm⟩ := open_rows9 f1
  obtain ⟨⟨g, hg⟩, hmc, hcm2⟩ := open_ints9 f2
  obtain ⟨us, mu, _, _, _, hul, hu⟩ := DataW.trod_array Try.underlying22 f0
  have hK : ∀ j, j < 256 → ∃ k : Nat, xs[j]? = some (.int .u8 ((k : Nat) : Int)) ∧ k < 256 := by
    intro j hj
    have h1 := hu j hj
    rw [c6, List.getElem?_eq_getElem (by omega)] at h1
    have h2 : (((xs.toList.drop 0).take 256).drop (j * 1)).take 1 = [xs[j]] := by
      rw [List.drop_zero, Nat.mul_one, take1_drop _ _ (by simp; omega)]
      simp
    rw [h2] at h1
    obtain ⟨k, e, _, hwf⟩ := DataW.trod_int Try.underlying5 h1
    have e' : xs[j] = .int .u8 k := by simpa using e
    have hk : 0 ≤ k ∧ k < 256 := by
      simp [Lit.wf] at hwf
      have a1 : IntKind.u8.min = 0 := by decide
      have a2 : IntKind.u8.max = 255 := by decide
      rw [a1, a2] at hwf
      omega
    refine ⟨k.toNat, ?_, by omega⟩
    rw [Array.getElem?_eq_getElem (by omega), e', show ((k.toNat : Nat) : Int) = k by omega]
  obtain ⟨K, hK2⟩ : ∃ K : Nat → Nat, ∀ j, j < 256 → xs[j]? = some (.int .u8 ((K j : Nat) : Int)) ∧ K j < 256 :=
    ⟨fun j => if h : j < 256 then Classical.choose (hK j h) else 0, fun j h => by
      have := Classical.choose_spec (hK j h)
      simp only [dif_pos h]
      exact this⟩
  refine ⟨⟨xs, K, aN, nN, cN, A, Cp, ln, z, aM, nM, cM, g⟩, rfl, ⟨hlen, ?_, fun j hj => (hK2 j hj).1, fun j hj => (hK2 j hj).2, hv1, hv2, hz, hg⟩, by show nN ≤ maxLen; omega, by show nM ≤ maxLen; omega, hln⟩
  intro v hv
  obtain ⟨j, hj, rfl⟩ := List.getElem_of_mem hv
  have hj' : j < 258 := by simpa [hlen] using hj
  by_cases h1 : j < 256
  · have := (hK2 j h1).1
    rw [Array.getElem?_eq_getElem (by omega)] at this
    simp only [Array.getElem_toList]
    rw [Option.some.inj this]
    rfl
  · by_cases h2 : j = 256
    · subst h2
      rw [Array.getElem?_eq_getElem (by omega)] at hv1
      simp only [Array.getElem_toList]
      rw [Option.some.inj hv1]
      rfl
    · obtain rfl : j = 257 := by omega
      rw [Array.getElem?_eq_getElem (by omega)] at hv2
      simp only [Array.getElem_toList]
      rw [Option.some.inj hv2]
      rfl
theorem open_dfa_val {H : Type} {enc : TypeId × Value → H} {w : World} {base b0 : Nat} {r : Reach} {spare : Nat → Bool} {held : Bool} {v : Value} (hk : Value.okWide Try.prog w r b0 26 v)
    (h : ∃ (fuel : Nat) (x : DataW H × List MemPlace), DataW.trod enc Try.prog w base spare held fuel 26 v.cells.toList = some x) :
    ∃ D : Dd, v = .agg D.cD ∧ DM w D ∧ D.n ≤ maxLen ∧ D.m ≤ maxLen ∧ ∀ i, i < D.n → D.len i ≤ maxLen := by
  obtain ⟨xs, rfl, hsz⟩ : ∃ xs : Array Value, v = .agg xs ∧ xs.size = Try.prog.cellsOf 26 := by
    simp only [Value.okWide, Try.underlying26] at hk
    obtain ⟨cs, h1, h2, _⟩ := hk
    exact ⟨cs, h1, h2⟩
  rw [show Try.prog.cellsOf 26 = 258 by kernel_rfl] at hsz
  obtain ⟨fuel, x, hf⟩ := h
  have hcs : (Value.agg xs).cells.toList = xs.toList := rfl
  rw [hcs] at hf
  obtain ⟨D, rfl, h1⟩ := open_dfa hsz hf
  exact ⟨D, rfl, h1⟩
end Go.Proofs.Ytjehgdjlncofeaa

namespace Go.Proofs.Ytjehgdjlncofeaa
open Go.RowKit Go.Maps Go.WideElems Go.ChangeMaps Go.MapKept
set_option linter.unusedVariables false
set_option linter.unusedSimpArgs false

/-- Where a byte, and where a text leads. -/
def stepF (D : Dd) (st : Int) (b : Nat) : Int := if 0 ≤ st ∧ st < (D.n : Int) then D.nx st.toNat (D.K b) else -1
def runF (D : Dd) (st : Int) (z : Nat → Nat) : Nat → Int
  | 0 => st
  | k + 1 => stepF D (runF D st z k) (z k)
def markF (D : Dd) (st : Int) : Int := if 0 ≤ st ∧ st < (D.n : Int) then D.q st.toNat else -1
theorem runF_dead (D : Dd) (st : Int) (z : Nat → Nat) {k : Nat} (h : runF D st z k = -1) : ∀ m, k ≤ m → runF D st z m = -1 := by
  intro m hm
  induction m with
  | zero => rw [show k = 0 by omega] at h; exact h
  | succ m ih =>
    by_cases e : k = m + 1
    · rw [← e]; exact h
    · show stepF D (runF D st z m) (z m) = -1
      rw [ih (by omega)]
      unfold stepF
      rw [if_neg (by omega)]

set_option maxHeartbeats 1000000 in
set_option maxRecDepth 100000 in
theorem dstep_any (D : Dd) (C : Nat) (hR : DR D C) (st : Int) (b : Nat) (hb : b < 256) (w : World) (hD : DM w D) :
    Calls Try.prog 30 #[.agg D.cD, .int .i64 st, .int .u8 ((b : Nat) : Int)] w fun e w' => e = .returned (.int .i64 (stepF D st b)) ∧ Below w.heap.size w w' := by
  have HB := Lib.hid (And.intro (DBx.new hD) (And.intro (al w (.cells D.cD 26)) hR))
  have hn2 := hR.n2
  have hC6 := (hR.c256 hD.kl).2
  clear hD hR
  go_enter Try.func30, Try.ntmps30
  go_upto_region 1 with fail
  generalize w.alloc (.cells D.cD 26) = W0 at HB ⊢
  obtain ⟨b0, hb0⟩ : ∃ b0, w.heap.size = b0 := ⟨_, rfl⟩
  have Hb0 := Lib.hid hb0
  rw [hb0] at HB
  rw [hb0]
  clear hb0
  have k0 := HB.out.1.f0 b hb
  have hkl := HB.out.1.dm.kl b hb
  have hkc := HB.out.2.2.c.1 b hb
  have i0 : (b : Int) < 256 := by omega
  have HEx := Lib.hid (exists_any D st W0 HB.out.1.dm)
  obtain ⟨kb, hkb⟩ : ∃ kb, D.K b = kb := ⟨_, rfl⟩
  have Hkb := Lib.hid hkb
  rw [hkb] at k0 hkl hkc
  clear hkb
  go_wp2_with (refine wpList_load_any9 (by rfl) 26 _ rfl ⟨b0, 0, none⟩ rfl D.cD _ HB.out.1.st.part Try.underlying26 rfl HB.out.1.dm.info ?_)
  refine HEx.out.mono ?_
  rintro e w2 ⟨rfl, b2⟩
  have HBx := Lib.hid (HB.out.1.keep b2)
  have HF : Hid (Below w.heap.size w w2) := by
    rw [Hb0.out]
    exact HB.out.2.1.trans (b2.mono (by have := HB.out.2.1.size; have := Hb0.out; omega))
  clear b2 HEx k0
  by_cases hs : 0 ≤ st ∧ st < (D.n : Int)
  · obtain ⟨s, rfl⟩ : ∃ s : Nat, st = (s : Int) := ⟨st.toNat, by omega⟩
    have hsn : s < D.n := by omega
    have HZ : Hid (decide (0 ≤ ((s : Nat) : Int) ∧ ((s : Nat) : Int) < (D.n : Int)) = true) := by show _ = _; simp; omega
    have HV : Hid (stepF D ((s : Nat) : Int) b = D.nx s kb) := by
      show _ = _
      unfold stepF
      rw [if_pos hs, Hkb.out]
      rfl
    have f1 := HBx.out.f1
    obtain ⟨gN, oN, eN, hgN, cN, zN⟩ := HBx.out.dm.row s hsn
    rw [HB.out.2.2.len s hsn] at cN zN
    rw [eN] at f1
    obtain ⟨gA, oA, eA, _, cA0⟩ := zN (by omega)
    have cA := cA0 kb hkc
    rw [eA] at cN
    have i1 : (kb : Int) < (C : Int) := by omega
    have i2 : (s : Int) < (D.n : Int) := by omega
    have i3 : ¬ ((C : Int) ≤ (kb : Int)) := by omega
    rw [HZ.out]
    have HeN := Lib.hid eN
    have HeA := Lib.hid eA
    clear eN eA cA0 zN hs hgN
    generalize D.nx s kb = r at cA HV
    go_wp2_with fail
    go_ret
    exact ⟨by rw [HV.out]; first | rfl | simp, HF.out⟩
  · have HZ : Hid (decide (0 ≤ st ∧ st < (D.n : Int)) = false) := by show _ = _; simp; omega
    have HV : Hid (stepF D st b = -1) := by
      show _ = _
      unfold stepF
      rw [if_neg hs]
    rw [HZ.out]
    clear hs
    go_wp2_with fail
    go_ret
    exact ⟨by rw [HV.out]; first | rfl | simp, HF.out⟩

set_option maxHeartbeats 1000000 in
set_option maxRecDepth 100000 in
theorem dmark_any (D : Dd) (C : Nat) (hR : DR D C) (st : Int) (w : World) (hD : DM w D) :
    Calls Try.prog 34 #[.agg D.cD, .int .i64 st] w fun e w' => e = .returned (.int .i64 (markF D st)) ∧ Below w.heap.size w w' := by
  have HB := Lib.hid (And.intro (DBx.new hD) (And.intro (al w (.cells D.cD 26)) hR))
  have hn2 := hR.n2
  have hmn := hR.m
  clear hD hR
  go_enter Try.func34, Try.ntmps34
  go_upto_region 1 with fail
  generalize w.alloc (.cells D.cD 26) = W0 at HB ⊢
  obtain ⟨b0, hb0⟩ : ∃ b0, w.heap.size = b0 := ⟨_, rfl⟩
  have Hb0 := Lib.hid hb0
  rw [hb0] at HB
  rw [hb0]
  clear hb0
  have HEx := Lib.hid (exists_any D st W0 HB.out.1.dm)
  go_wp2_with (refine wpList_load_any9 (by rfl) 26 _ rfl ⟨b0, 0, none⟩ rfl D.cD _ HB.out.1.st.part Try.underlying26 rfl HB.out.1.dm.info ?_)
  refine HEx.out.mono ?_
  rintro e w2 ⟨rfl, b2⟩
  have HBx := Lib.hid (HB.out.1.keep b2)
  have HF : Hid (Below w.heap.size w w2) := by
    rw [Hb0.out]
    exact HB.out.2.1.trans (b2.mono (by have := HB.out.2.1.size; have := Hb0.out; omega))
  clear b2 HEx
  by_cases hs : 0 ≤ st ∧ st < (D.n : Int)
  · obtain ⟨s, rfl⟩ : ∃ s : Nat, st = (s : Int) := ⟨st.toNat, by omega⟩
    have hsn : s < D.n := by omega
    have HZ : Hid (decide (0 ≤ ((s : Nat) : Int) ∧ ((s : Nat) : Int) < (D.n : Int)) = true) := by show _ = _; simp; omega
    have HV : Hid (markF D ((s : Nat) : Int) = D.q s) := by
      show _ = _
      unfold markF
      rw [if_pos hs]
      rfl
    have f2 := HBx.out.f2
    obtain ⟨gM, oM, eM, _, cM0⟩ := HBx.out.dm.rM (by omega)
    have cM := cM0 s (by omega)
    rw [eM, hmn] at f2
    have i2 : (s : Int) < (D.n : Int) := by omega
    have i3 : ¬ ((D.n : Int) ≤ (s : Int)) := by omega
    rw [HZ.out]
    have HeM := Lib.hid eM
    clear eM cM0 hs hmn
    generalize D.q s = r at cM HV
    go_wp2_with fail
    go_ret
    exact ⟨by rw [HV.out]; first | rfl | simp, HF.out⟩
  · have HZ : Hid (decide (0 ≤ st ∧ st < (D.n : Int)) = false) := by show _ = _; simp; omega
    have HV : Hid (markF D st = -1) := by
      show _ = _
      unfold markF
      rw [if_neg hs]
    rw [HZ.out]
    clear hs hmn
    go_wp2_with fail
    go_ret
    exact ⟨by rw [HV.out]; first | rfl | simp, HF.out⟩


end Go.Proofs.Ytjehgdjlncofeaa

namespace Go.Proofs.Ytjehgdjlncofeaa
open Go.RowKit Go.Maps Go.WideElems Go.ChangeMaps Go.MapKept
set_option linter.unusedVariables false
set_option linter.unusedSimpArgs false

/-- An automaton's cells. -/
def dfC (K : Nat → Nat) (vN vK : Value) : Array Value := (((List.range 256).map fun j => Value.int .u8 ((K j : Nat) : Int)) ++ [vN, vK]).toArray
theorem dfC_size (K : Nat → Nat) (vN vK : Value) : (dfC K vN vK).size = 258 := by simp [dfC]
theorem dfC_cl (K : Nat → Nat) (vN vK : Value) (j : Nat) (hj : j < 256) : (dfC K vN vK)[j]? = some (.int .u8 ((K j : Nat) : Int)) := by
  simp [dfC, List.getElem?_append, hj]
theorem dfC_n (K : Nat → Nat) (vN vK : Value) : (dfC K vN vK)[256]? = some vN := by simp [dfC, List.getElem?_append]
theorem dfC_k (K : Nat → Nat) (vN vK : Value) : (dfC K vN vK)[257]? = some vK := by simp [dfC, List.getElem?_append]
theorem dfC_one (K : Nat → Nat) (a b : Option Addr) (n c m d : Nat) : ∀ v ∈ (dfC K (.slice a n c) (.slice b m d)).toList, v.oneCell' = true := by
  intro v hv
  simp [dfC] at hv
  rcases hv with ⟨j, _, rfl⟩ | rfl | rfl <;> rfl
theorem dfC_ext (K : Nat → Nat) (vN vK : Value) (cs : Array Value) (hs : cs.size = 258) (h1 : ∀ j, j < 256 → cs[j]? = some (.int .u8 ((K j : Nat) : Int))) (h2 : cs[256]? = some vN) (h3 : cs[257]? = some vK) : cs = dfC K vN vK := by
  apply Array.ext_getElem?
  intro i
  by_cases a : i < 256
  · rw [h1 i a, dfC_cl K vN vK i a]
  · by_cases b : i = 256
    · subst b; rw [h2, dfC_n]
    · by_cases c : i = 257
      · subst c; rw [h3, dfC_k]
      · rw [Array.getElem?_eq_none (by omega), Array.getElem?_eq_none (by rw [dfC_size]; omega)]
theorem dfC_setN (K : Nat → Nat) (vN vK v : Value) : (dfC K vN vK).setIfInBounds 256 v = dfC K v vK := by
  refine dfC_ext K v vK _ (by rw [Array.size_setIfInBounds, dfC_size]) (fun j hj => ?_) ?_ ?_
  · rw [Array.getElem?_setIfInBounds_ne (by omega), dfC_cl K vN vK j hj]
  · rw [Array.getElem?_setIfInBounds_self_of_lt (by rw [dfC_size]; omega)]
  · rw [Array.getElem?_setIfInBounds_ne (by omega), dfC_k]
theorem dfC_setK (K : Nat → Nat) (vN vK v : Value) : (dfC K vN vK).setIfInBounds 257 v = dfC K vN v := by
  refine dfC_ext K vN v _ (by rw [Array.size_setIfInBounds, dfC_size]) (fun j hj => ?_) ?_ ?_
  · rw [Array.getElem?_setIfInBounds_ne (by omega), dfC_cl K vN vK j hj]
  · rw [Array.getElem?_setIfInBounds_ne (by omega), dfC_n]
  · rw [Array.getElem?_setIfInBounds_self_of_lt (by rw [dfC_size]; omega)]
section
variable {W0 : World} {b4 C : Nat} {K : Nat → Nat} {vN : Value} {R : List (List Int)} {ws : Nat → Value} {vK : Value} {ms : List Int} {w : World}
end
end Go.Proofs.Ytjehgdjlncofeaa

namespace Go.Proofs.Ytjehgdjlncofeaa
open Go.RowKit Go.Maps Go.WideElems Go.ChangeMaps Go.MapKept
set_option linter.unusedVariables false
set_option linter.unusedSimpArgs false

theorem alloc_sz10 (w : World) (o : Obj) : (w.alloc o).heap.size = w.heap.size + 1 := by simp
theorem zDfa_cls10 : ∀ j, j < 256 → (zC 26)[j]? = some (.int .u8 0) := by
  have h : (List.range 256).all (fun j => match (zC 26)[j]? with | some (.int .u8 0) => true | _ => false) = true := by kernel_rfl
  intro j hj
  have h1 := List.all_eq_true.1 h j (by simpa using hj)
  split at h1
  · rename_i e; rw [e]
  · cases h1


def SmPost (D : Dd) (w : World) (e : Ending) (w' : World) : Prop := ∃ b : Bool, e = .returned (.bool b) ∧ (b = true → D.n ≤ 20 ∧ D.m ≤ 30 ∧ ∀ i, i < D.n → D.len i ≤ 256) ∧ Below w.heap.size w w'
set_option maxHeartbeats 1000000 in
set_option maxRecDepth 100000 in
theorem small_any (D : Dd) (hn : D.n ≤ 9223372036854775807) (hm : D.m ≤ 9223372036854775807) (hl : ∀ i, i < D.n → D.len i ≤ 9223372036854775807) (w : World) (hD : DM w D) :
    Calls Try.prog 8 #[.agg D.cD] w (SmPost D w) := by
  have HB := Lib.hid (And.intro (DBx.new hD) (And.intro (al w (.cells D.cD 26)) hl))
  clear hD hl
  go_enter Try.func8, Try.ntmps8
  go_upto_region 1 with fail
  generalize w.alloc (.cells D.cD 26) = W0 at HB ⊢
  obtain ⟨b0, hb0⟩ : ∃ b0, w.heap.size = b0 := ⟨_, rfl⟩
  have Hb0 := Lib.hid hb0
  rw [hb0] at HB
  rw [hb0]
  clear hb0
  have f1 := HB.out.1.f1
  have f2 := HB.out.1.f2
  have HF : Hid (Below w.heap.size w W0) := by rw [Hb0.out]; exact HB.out.2.1
  by_cases h1 : 20 < D.n
  · have i1 : (20 : Int) < (D.n : Int) := by omega
    go_wp2_with fail
    go_ret
    exact ⟨false, rfl, (fun h => by cases h), HF.out⟩
  by_cases h2 : 30 < D.m
  · have i1 : ¬ ((20 : Int) < (D.n : Int)) := by omega
    have i2 : (30 : Int) < (D.m : Int) := by omega
    go_wp2_with fail
    go_ret
    exact ⟨false, rfl, (fun h => by cases h), HF.out⟩
  have i1 : ¬ ((20 : Int) < (D.n : Int)) := by omega
  have i2 : ¬ ((30 : Int) < (D.m : Int)) := by omega
  go_wp2_with fail
  clear f1 f2
  go_loopw [3] (fun v wr => ∃ (i : Nat), v = .int .i64 i ∧ i ≤ D.n ∧ wr = W0 ∧ Hid (∀ j, j < i → D.len j ≤ 256)) (fun v _ => D.n - (intOf v).toNat)
  case atStart => exact ⟨0, rfl, by omega, rfl, fun j hj => by omega⟩
  case round =>
    obtain ⟨i, rfl, hi, rfl, HX⟩ := hrel
    have f1 := HB.out.1.f1
    by_cases hlt : i < D.n
    · obtain ⟨gN, oN, eN, hgN, cN, _⟩ := HB.out.1.dm.row i hlt
      rw [eN] at f1
      have i3 : (i : Int) < (D.n : Int) := by omega
      have hb := HB.out.2.2 i hlt
      have HS : Hid (D.len i ≤ 256 → ∀ j, j < i + 1 → D.len j ≤ 256) := fun h j hj => by
        by_cases e : j = i
        · subst e; exact h
        · exact HX.out j (by omega)
      have HeN := Lib.hid eN
      clear eN
      generalize D.len i = ln at cN hb HS
      by_cases h3 : 256 < ln
      · have i4 : (256 : Int) < (ln : Int) := by omega
        go_wp2_with fail
        go_ret
        exact ⟨false, rfl, (fun h => by cases h), HF.out⟩
      · have i4 : ¬ ((256 : Int) < (ln : Int)) := by omega
        have HZ := Lib.hid (HS.out (by omega))
        go_wp2_with fail
        go_roundw
        case rel => exact ⟨i + 1, by go_num, by omega, by first | trivial | rfl, HZ⟩
        case measure => simp [intOf]; omega
    · obtain rfl : i = D.n := by omega
      have i3 : ¬ ((D.n : Int) < (D.n : Int)) := by omega
      have hn9 : D.n ≤ 20 ∧ D.m ≤ 30 := by omega
      have HZ : Hid (D.n ≤ 20 ∧ D.m ≤ 30 ∧ ∀ j, j < D.n → D.len j ≤ 256) := ⟨hn9.1, hn9.2, HX.out⟩
      go_wp2_with fail
      go_ret
      exact ⟨true, rfl, (fun _ => HZ.out), HF.out⟩
end Go.Proofs.Ytjehgdjlncofeaa

namespace Go.Proofs.Ytjehgdjlncofeaa
open Go.RowKit Go.Maps Go.WideElems Go.ChangeMaps Go.MapKept
set_option linter.unusedVariables false
set_option linter.unusedSimpArgs false





end Go.Proofs.Ytjehgdjlncofeaa

namespace Go.Proofs.Ytjehgdjlncofeaa
open Go.RowKit Go.Maps Go.WideElems Go.ChangeMaps Go.MapKept
set_option linter.unusedVariables false
set_option linter.unusedSimpArgs false

theorem drew_sz9 (w : World) : w.drew.heap.size = w.heap.size := rfl
theorem exec_bld10 {P : Program} {ρ : Operand → Value} {o : Oper} (w : World) (t : TypeId) (parts : Array (Nat × Operand)) (ho : o.op = .build t parts) (ps : Array (Nat × Value)) (hp : (parts.map fun (i, x) => (i, ρ x)) = ps) (v : Value) (hb : (Instr.build t ps).run P w = .ok v w) :
    (execOp ρ o).run P w = .ok (.value v) w := by
  unfold execOp
  simp only [ho, hp, Sem.run_bind, hb, Result.andThen_ok, Sem.run_pure]
theorem step_alloc9 {P : Program} {ops : Array Oper} {o : Oper} {a : Act} {w : World} {K : Act → World → Prop} {Q : Exit → Act → World → Prop} {E : Prop} (hgd : o.guard = none) (t : TypeId) (ho : o.op = .alloc t) (cs : Array Value) (hz : (zeroValue t).run P w = .ok (.agg cs) w)
    (h : K (a.put o.dst (.pointer (some ⟨w.heap.size, 0, none⟩))) (w.alloc (.cells cs t))) : if Region.wanted o (yielded ops a.tmps) = true then Oper.wp P o a w K Q else E := by
  have hw : Region.wanted o (yielded ops a.tmps) = true := by simp [Region.wanted, hgd]
  rw [if_pos hw]
  unfold Oper.wp execOp
  simp only [ho, Instr.alloc, Sem.run_bind, hz, Result.andThen_ok, newVar, newRow, newObj, Value.cells]
  exact h
theorem step_store9 {P : Program} {ops : Array Oper} {o : Oper} {a : Act} {w : World} {K : Act → World → Prop} {Q : Exit → Act → World → Prop} {E : Prop} (hgd : o.guard = none) (ty : TypeId) (x v : Operand) (ho : o.op = .store ty x v) (g t : Nat) (old cs : Array Value) (hx : a.eval x = .pointer (some ⟨g, 0, none⟩)) (hv : a.eval v = .agg cs)
    (hst : w.heap[g]? = some (.cells old t (0, 0))) (hsz : old.size = cs.size) (hi : (P.info? ty).map (·.size) = some cs.size) (h1 : ∀ u ∈ cs.toList, u.oneCell' = true) (h : K (a.put o.dst undef) (w.setRow g cs)) : if Region.wanted o (yielded ops a.tmps) = true then Oper.wp P o a w K Q else E := by
  have hrun : (storeVar ty ⟨g, 0, none⟩ (.agg cs)).run P w = .ok () (w.setRow g cs) := by
    have hs : (sizeOf ty).run P w = .ok cs.size w := by
      cases hq : P.info? ty with
      | none => simp [hq] at hi
      | some inf =>
        have : inf.size = cs.size := by simpa [hq] using hi
        simp [sizeOf, typeInfo, hq, this]
    have := run_storeCells_at (P := P) g 0 t cs.toList 0 old w hst (by simp [hsz]) h1
    unfold storeVar
    simp only [Sem.run_bind, hs, Result.andThen_ok]
    rw [if_neg (show ¬ ((Value.agg cs).cells.size ≠ cs.size) from fun h => h rfl)]
    show (storeCells ⟨g, 0, none⟩ cs.toList).run P w = _
    rw [this]
    congr 2
    have hd : List.drop cs.size old.toList = [] := List.drop_of_length_le (by simp [hsz])
    simp [hd]
  have hw : Region.wanted o (yielded ops a.tmps) = true := by simp [Region.wanted, hgd]
  rw [if_pos hw]
  unfold Oper.wp execOp
  simp only [ho, hx, hv, Instr.storeAt, Instr.sureAddr, Sem.run_bind, Sem.run_pure, Result.andThen_ok, hrun]
  exact h

end Go.Proofs.Ytjehgdjlncofeaa
