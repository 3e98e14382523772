import Derived.Test.YtldpmcgkbdejjaaZSClose
import Derived.Test.YtldpmcgkbdejjaaZSFrame
import Derived.Test.YtldpmcgkbdejjaaZTRefW
import Derived.Laws.Cover3
namespace Go.Proofs.Ytldpmcgkbdejjaa
open Go.ChangeShapes Go.WideShapes Go.ChangeAt Go.RowKit Go.Deep
set_option linter.unusedVariables false
set_option maxRecDepth 100000

theorem take1_drop {α : Type} (l : List α) (k : Nat) (h : k < l.length) : (l.drop k).take 1 = [l[k]] := by rw [List.drop_eq_getElem_cons h]; rfl
/-- Rows of numbers that came in. -/
theorem open_rows9 {H : Type} {enc : TypeId × Value → H} {w : World} {base fuel : Nat} {spare : Nat → Bool} {held : Bool} {a : Option Addr} {len cap : Nat} {x : DataW H × List MemPlace}
    (h : DataW.trod enc Try.prog w base spare held fuel 23 [.slice a len cap] = some x) :
    (∃ (A : Nat → Option Addr) (Cp ln : Nat → Nat) (z : Nat → Nat → Int), ZsAt w a len A Cp ln z ∧ ∀ i, i < len → ln i ≤ maxLen) ∧ len ≤ cap ∧ cap ≤ maxLen := by
  rcases open_slice Try.underlying23 h with ⟨hcs, _⟩ | ⟨ad, l, c, m, n, D, Pl, hcs, hb, hl, hm, hmm, hx, hi⟩
  · simp at hcs
    obtain ⟨rfl, rfl, rfl⟩ := hcs
    exact ⟨⟨fun _ => none, fun _ => 0, fun _ => 0, fun _ _ => 0, fun h => absurd h (by omega), fun i h => absurd h (by omega)⟩, Nat.le_refl _, by unfold maxLen; omega⟩
  · simp at hcs
    obtain ⟨rfl, rfl, rfl⟩ := hcs
    have h1 : Try.prog.cellsOf 24 = 1 := by kernel_rfl
    have hp : ∀ i, i < len → ∃ p : Option Addr × Nat × Nat × (Nat → Int), w.cell? (ad.add i) = some (.slice p.1 p.2.1 p.2.2.1) ∧ ZAt w p.1 p.2.1 p.2.2.2 ∧ p.2.1 ≤ maxLen := by
      intro i him
      obtain ⟨cs', hc, ht⟩ := hi i (by rw [hmm]; split <;> omega)
      rw [h1] at hc
      obtain ⟨_, hcl, hat⟩ := World.cells?_some hc
      have hsl : ∃ a' n' c', cs' = [.slice a' n' c'] := by
        rcases open_slice Try.underlying24 ht with ⟨hcs, _⟩ | ⟨ad', l', c', m', n', D', Pl', hcs, _⟩
        · exact ⟨_, _, _, hcs⟩
        · exact ⟨_, _, _, hcs⟩
      obtain ⟨a', n', c', rfl⟩ := hsl
      obtain ⟨⟨g, hg⟩, h4, h5⟩ := open_ints9 ht
      have h2 := hat 0 (by omega)
      rw [Go.Deep.add_add] at h2
      exact ⟨(a', n', c', g), by simpa using h2, hg, by show n' ≤ maxLen; omega⟩
    obtain ⟨b, off, spot⟩ := ad
    obtain ⟨G, hs⟩ : ∃ G : Nat → Option Addr × Nat × Nat × (Nat → Int), ∀ i, i < len → w.cell? ((⟨b, off, spot⟩ : Addr).add i) = some (.slice (G i).1 (G i).2.1 (G i).2.2.1) ∧ ZAt w (G i).1 (G i).2.1 (G i).2.2.2 ∧ (G i).2.1 ≤ maxLen :=
      ⟨fun i => if h : i < len then Classical.choose (hp i h) else (none, 0, 0, fun _ => 0), fun i h => by
        have := Classical.choose_spec (hp i h)
        simp only [dif_pos h]
        exact this⟩
    refine ⟨⟨fun i => (G i).1, fun i => (G i).2.2.1, fun i => (G i).2.1, fun i => (G i).2.2.2, fun h0 => ?_, fun i hi => (hs i hi).2.2⟩, hl, hm⟩
    have hspot : spot = none := by
      have := (hs 0 h0).1
      simpa [Addr.add] using World.cell?_spot this
    subst hspot
    refine ⟨b, off, rfl, ?_, fun j hj => ⟨?_, (hs j hj).2.1⟩⟩
    · have := (hs 0 h0).1
      by_cases hb : b < w.heap.size
      · exact hb
      · rw [add_mid9] at this
        simp [World.cell?, Array.getElem?_eq_none (by omega : w.heap.size ≤ b)] at this
    · have := (hs j hj).1
      rwa [add_mid9] at this

/-- An automaton that came in. -/
theorem open_dfa {H : Type} {enc : TypeId × Value → H} {w : World} {base fuel : Nat} {spare : Nat → Bool} {held : Bool} {xs : Array Value} {x : DataW H × List MemPlace} (hlen : xs.size = 258)
    (h : DataW.trod enc Try.prog w base spare held fuel 26 xs.toList = some x) : ∃ D : Dd, D.cD = xs ∧ DM w D ∧ D.n ≤ maxLen ∧ D.m ≤ maxLen ∧ ∀ i, i < D.n → D.len i ≤ maxLen := by
  have c3 : Try.prog.cellsOf 22 = 256 := by kernel_rfl
  have c4 : Try.prog.cellsOf 23 = 1 := by kernel_rfl
  have c5 : Try.prog.cellsOf 24 = 1 := by kernel_rfl
  have c6 : Try.prog.cellsOf 5 = 1 := by kernel_rfl
  obtain ⟨ys, n', hn', hy, hl, hyl, hf⟩ := DataW.trod_struct Try.underlying26 h
  have f0 : DataW.trod enc Try.prog w base spare held n' 22 ((xs.toList.drop 0).take (Try.prog.cellsOf 22)) = ys[0]? := hf 0 _ rfl
  have f1 : DataW.trod enc Try.prog w base spare held n' 23 ((xs.toList.drop 256).take (Try.prog.cellsOf 23)) = ys[1]? := hf 1 _ rfl
  have f2 : DataW.trod enc Try.prog w base spare held n' 24 ((xs.toList.drop 257).take (Try.prog.cellsOf 24)) = ys[2]? := hf 2 _ rfl
  rw [c3] at f0
  rw [c4] at f1
  rw [c5] at f2
  have hyl3 : ys.length = 3 := hyl
  have g0 : ys[0]? = some ys[0] := List.getElem?_eq_getElem _
  have g1 : ys[1]? = some ys[1] := List.getElem?_eq_getElem _
  have g2 : ys[2]? = some ys[2] := List.getElem?_eq_getElem _
  rw [g0] at f0
  rw [g1] at f1
  rw [g2] at f2
  have hsz : xs.toList.length = 258 := by simpa using hlen
  have e1 : ∃ v, xs[256]? = some v ∧ (xs.toList.drop 256).take 1 = [v] := ⟨xs[256], by simp, by
    rw [take1_drop _ _ (by omega)]; simp⟩
  have e2 : ∃ v, xs[257]? = some v ∧ (xs.toList.drop 257).take 1 = [v] := ⟨xs[257], by simp, by
    rw [take1_drop _ _ (by omega)]; simp⟩
  obtain ⟨v1, hv1, q1⟩ := e1
  obtain ⟨v2, hv2, q2⟩ := e2
  rw [q1] at f1
  rw [q2] at f2
  have hs1 : ∃ a' n' c', v1 = .slice a' n' c' := by
    rcases open_slice Try.underlying23 f1 with ⟨hcs, _⟩ | ⟨ad', l', c', m', n', D', Pl', hcs, _⟩
    · simp at hcs; exact ⟨_, _, _, hcs⟩
    · simp at hcs; exact ⟨_, _, _, hcs⟩
  have hs2 : ∃ a' n' c', v2 = .slice a' n' c' := by
    rcases open_slice Try.underlying24 f2 with ⟨hcs, _⟩ | ⟨ad', l', c', m', n', D', Pl', hcs, _⟩
    · simp at hcs; exact ⟨_, _, _, hcs⟩
    · simp at hcs; exact ⟨_, _, _, hcs⟩
  obtain ⟨aN, nN, cN, rfl⟩ := hs1
  obtain ⟨aM, nM, cM, rfl⟩ := hs2
  obtain ⟨⟨A, Cp, ln, z, hz, hln⟩, hnc, hcm⟩ := open_rows9 f1
  obtain ⟨⟨g, hg⟩, hmc, hcm2⟩ := open_ints9 f2
  obtain ⟨us, mu, _, _, _, hul, hu⟩ := DataW.trod_array Try.underlying22 f0
  have hK : ∀ j, j < 256 → ∃ k : Nat, xs[j]? = some (.int .u8 ((k : Nat) : Int)) ∧ k < 256 := by
    intro j hj
    have h1 := hu j hj
    rw [c6, List.getElem?_eq_getElem (by omega)] at h1
    have h2 : (((xs.toList.drop 0).take 256).drop (j * 1)).take 1 = [xs[j]] := by
      rw [List.drop_zero, Nat.mul_one, take1_drop _ _ (by simp; omega)]
      simp
    rw [h2] at h1
    obtain ⟨k, e, _, hwf⟩ := DataW.trod_int Try.underlying5 h1
    have e' : xs[j] = .int .u8 k := by simpa using e
    have hk : 0 ≤ k ∧ k < 256 := by
      simp [Lit.wf] at hwf
      have a1 : IntKind.u8.min = 0 := by decide
      have a2 : IntKind.u8.max = 255 := by decide
      rw [a1, a2] at hwf
      omega
    refine ⟨k.toNat, ?_, by omega⟩
    rw [Array.getElem?_eq_getElem (by omega), e', show ((k.toNat : Nat) : Int) = k by omega]
  obtain ⟨K, hK2⟩ : ∃ K : Nat → Nat, ∀ j, j < 256 → xs[j]? = some (.int .u8 ((K j : Nat) : Int)) ∧ K j < 256 :=
    ⟨fun j => if h : j < 256 then Classical.choose (hK j h) else 0, fun j h => by
      have := Classical.choose_spec (hK j h)
      simp only [dif_pos h]
      exact this⟩
  refine ⟨⟨xs, K, aN, nN, cN, A, Cp, ln, z, aM, nM, cM, g⟩, rfl, ⟨hlen, ?_, fun j hj => (hK2 j hj).1, fun j hj => (hK2 j hj).2, hv1, hv2, hz, hg⟩, by show nN ≤ maxLen; omega, by show nM ≤ maxLen; omega, hln⟩
  intro v hv
  obtain ⟨j, hj, rfl⟩ := List.getElem_of_mem hv
  have hj' : j < 258 := by simpa [hlen] using hj
  by_cases h1 : j < 256
  · have := (hK2 j h1).1
    rw [Array.getElem?_eq_getElem (by omega)] at this
    simp only [Array.getElem_toList]
    rw [Option.some.inj this]
    rfl
  · by_cases h2 : j = 256
    · subst h2
      rw [Array.getElem?_eq_getElem (by omega)] at hv1
      simp only [Array.getElem_toList]
      rw [Option.some.inj hv1]
      rfl
    · obtain rfl : j = 257 := by omega
      rw [Array.getElem?_eq_getElem (by omega)] at hv2
      simp only [Array.getElem_toList]
      rw [Option.some.inj hv2]
      rfl
theorem open_dfa_val {H : Type} {enc : TypeId × Value → H} {w : World} {base b0 : Nat} {r : Reach} {spare : Nat → Bool} {held : Bool} {v : Value} (hk : Value.okWide Try.prog w r b0 26 v)
    (h : ∃ (fuel : Nat) (x : DataW H × List MemPlace), DataW.trod enc Try.prog w base spare held fuel 26 v.cells.toList = some x) :
    ∃ D : Dd, v = .agg D.cD ∧ DM w D ∧ D.n ≤ maxLen ∧ D.m ≤ maxLen ∧ ∀ i, i < D.n → D.len i ≤ maxLen := by
  obtain ⟨xs, rfl, hsz⟩ : ∃ xs : Array Value, v = .agg xs ∧ xs.size = Try.prog.cellsOf 26 := by
    simp only [Value.okWide, Try.underlying26] at hk
    obtain ⟨cs, h1, h2, _⟩ := hk
    exact ⟨cs, h1, h2⟩
  rw [show Try.prog.cellsOf 26 = 258 by kernel_rfl] at hsz
  obtain ⟨fuel, x, hf⟩ := h
  have hcs : (Value.agg xs).cells.toList = xs.toList := rfl
  rw [hcs] at hf
  obtain ⟨D, rfl, h1⟩ := open_dfa hsz hf
  exact ⟨D, rfl, h1⟩
end Go.Proofs.Ytldpmcgkbdejjaa

namespace Go.Proofs.Ytldpmcgkbdejjaa
open Go.RowKit Go.Maps Go.WideElems Go.ChangeMaps Go.MapKept
set_option linter.unusedVariables false
set_option linter.unusedSimpArgs false

/-- Where a byte, and where a text leads. -/
def stepF (D : Dd) (st : Int) (b : Nat) : Int := if 0 ≤ st ∧ st < (D.n : Int) then D.nx st.toNat (D.K b) else -1
def runF (D : Dd) (st : Int) (z : Nat → Nat) : Nat → Int
  | 0 => st
  | k + 1 => stepF D (runF D st z k) (z k)
def markF (D : Dd) (st : Int) : Int := if 0 ≤ st ∧ st < (D.n : Int) then D.q st.toNat else -1
theorem runF_dead (D : Dd) (st : Int) (z : Nat → Nat) {k : Nat} (h : runF D st z k = -1) : ∀ m, k ≤ m → runF D st z m = -1 := by
  intro m hm
  induction m with
  | zero => rw [show k = 0 by omega] at h; exact h
  | succ m ih =>
    by_cases e : k = m + 1
    · rw [← e]; exact h
    · show stepF D (runF D st z m) (z m) = -1
      rw [ih (by omega)]
      unfold stepF
      rw [if_neg (by omega)]

set_option maxHeartbeats 1000000 in
set_option maxRecDepth 100000 in
theorem dstep_any (D : Dd) (C : Nat) (hR : DR D C) (st : Int) (b : Nat) (hb : b < 256) (w : World) (hD : DM w D) :
    Calls Try.prog 48 #[.agg D.cD, .int .i64 st, .int .u8 ((b : Nat) : Int)] w fun e w' => e = .returned (.int .i64 (stepF D st b)) ∧ Below w.heap.size w w' := by
  have HB := Lib.hid (And.intro (DBx.new hD) (And.intro (al w (.cells D.cD 26)) hR))
  have hn2 := hR.n2
  have hC6 := (hR.c256 hD.kl).2
  clear hD hR
  go_enter Try.func48, Try.ntmps48
  go_upto_region 1 with fail
  generalize w.alloc (.cells D.cD 26) = W0 at HB ⊢
  obtain ⟨b0, hb0⟩ : ∃ b0, w.heap.size = b0 := ⟨_, rfl⟩
  have Hb0 := Lib.hid hb0
  rw [hb0] at HB
  rw [hb0]
  clear hb0
  have k0 := HB.out.1.f0 b hb
  have hkl := HB.out.1.dm.kl b hb
  have hkc := HB.out.2.2.c.1 b hb
  have i0 : (b : Int) < 256 := by omega
  have HEx := Lib.hid (exists_any D st W0 HB.out.1.dm)
  obtain ⟨kb, hkb⟩ : ∃ kb, D.K b = kb := ⟨_, rfl⟩
  have Hkb := Lib.hid hkb
  rw [hkb] at k0 hkl hkc
  clear hkb
  go_wp2_with (refine wpList_load_any9 (by rfl) 26 _ rfl ⟨b0, 0, none⟩ rfl D.cD _ HB.out.1.st.part Try.underlying26 rfl HB.out.1.dm.info ?_)
  refine HEx.out.mono ?_
  rintro e w2 ⟨rfl, b2⟩
  have HBx := Lib.hid (HB.out.1.keep b2)
  have HF : Hid (Below w.heap.size w w2) := by
    rw [Hb0.out]
    exact HB.out.2.1.trans (b2.mono (by have := HB.out.2.1.size; have := Hb0.out; omega))
  clear b2 HEx k0
  by_cases hs : 0 ≤ st ∧ st < (D.n : Int)
  · obtain ⟨s, rfl⟩ : ∃ s : Nat, st = (s : Int) := ⟨st.toNat, by omega⟩
    have hsn : s < D.n := by omega
    have HZ : Hid (decide (0 ≤ ((s : Nat) : Int) ∧ ((s : Nat) : Int) < (D.n : Int)) = true) := by show _ = _; simp; omega
    have HV : Hid (stepF D ((s : Nat) : Int) b = D.nx s kb) := by
      show _ = _
      unfold stepF
      rw [if_pos hs, Hkb.out]
      rfl
    have f1 := HBx.out.f1
    obtain ⟨gN, oN, eN, hgN, cN, zN⟩ := HBx.out.dm.row s hsn
    rw [HB.out.2.2.len s hsn] at cN zN
    rw [eN] at f1
    obtain ⟨gA, oA, eA, _, cA0⟩ := zN (by omega)
    have cA := cA0 kb hkc
    rw [eA] at cN
    have i1 : (kb : Int) < (C : Int) := by omega
    have i2 : (s : Int) < (D.n : Int) := by omega
    have i3 : ¬ ((C : Int) ≤ (kb : Int)) := by omega
    rw [HZ.out]
    have HeN := Lib.hid eN
    have HeA := Lib.hid eA
    clear eN eA cA0 zN hs hgN
    generalize D.nx s kb = r at cA HV
    go_wp2_with fail
    go_ret
    exact ⟨by rw [HV.out]; first | rfl | simp, HF.out⟩
  · have HZ : Hid (decide (0 ≤ st ∧ st < (D.n : Int)) = false) := by show _ = _; simp; omega
    have HV : Hid (stepF D st b = -1) := by
      show _ = _
      unfold stepF
      rw [if_neg hs]
    rw [HZ.out]
    clear hs
    go_wp2_with fail
    go_ret
    exact ⟨by rw [HV.out]; first | rfl | simp, HF.out⟩

set_option maxHeartbeats 1000000 in
set_option maxRecDepth 100000 in
theorem dmark_any (D : Dd) (C : Nat) (hR : DR D C) (st : Int) (w : World) (hD : DM w D) :
    Calls Try.prog 45 #[.agg D.cD, .int .i64 st] w fun e w' => e = .returned (.int .i64 (markF D st)) ∧ Below w.heap.size w w' := by
  have HB := Lib.hid (And.intro (DBx.new hD) (And.intro (al w (.cells D.cD 26)) hR))
  have hn2 := hR.n2
  have hmn := hR.m
  clear hD hR
  go_enter Try.func45, Try.ntmps45
  go_upto_region 1 with fail
  generalize w.alloc (.cells D.cD 26) = W0 at HB ⊢
  obtain ⟨b0, hb0⟩ : ∃ b0, w.heap.size = b0 := ⟨_, rfl⟩
  have Hb0 := Lib.hid hb0
  rw [hb0] at HB
  rw [hb0]
  clear hb0
  have HEx := Lib.hid (exists_any D st W0 HB.out.1.dm)
  go_wp2_with (refine wpList_load_any9 (by rfl) 26 _ rfl ⟨b0, 0, none⟩ rfl D.cD _ HB.out.1.st.part Try.underlying26 rfl HB.out.1.dm.info ?_)
  refine HEx.out.mono ?_
  rintro e w2 ⟨rfl, b2⟩
  have HBx := Lib.hid (HB.out.1.keep b2)
  have HF : Hid (Below w.heap.size w w2) := by
    rw [Hb0.out]
    exact HB.out.2.1.trans (b2.mono (by have := HB.out.2.1.size; have := Hb0.out; omega))
  clear b2 HEx
  by_cases hs : 0 ≤ st ∧ st < (D.n : Int)
  · obtain ⟨s, rfl⟩ : ∃ s : Nat, st = (s : Int) := ⟨st.toNat, by omega⟩
    have hsn : s < D.n := by omega
    have HZ : Hid (decide (0 ≤ ((s : Nat) : Int) ∧ ((s : Nat) : Int) < (D.n : Int)) = true) := by show _ = _; simp; omega
    have HV : Hid (markF D ((s : Nat) : Int) = D.q s) := by
      show _ = _
      unfold markF
      rw [if_pos hs]
      rfl
    have f2 := HBx.out.f2
    obtain ⟨gM, oM, eM, _, cM0⟩ := HBx.out.dm.rM (by omega)
    have cM := cM0 s (by omega)
    rw [eM, hmn] at f2
    have i2 : (s : Int) < (D.n : Int) := by omega
    have i3 : ¬ ((D.n : Int) ≤ (s : Int)) := by omega
    rw [HZ.out]
    have HeM := Lib.hid eM
    clear eM cM0 hs hmn
    generalize D.q s = r at cM HV
    go_wp2_with fail
    go_ret
    exact ⟨by rw [HV.out]; first | rfl | simp, HF.out⟩
  · have HZ : Hid (decide (0 ≤ st ∧ st < (D.n : Int)) = false) := by show _ = _; simp; omega
    have HV : Hid (markF D st = -1) := by
      show _ = _
      unfold markF
      rw [if_neg hs]
    rw [HZ.out]
    clear hs hmn
    go_wp2_with fail
    go_ret
    exact ⟨by rw [HV.out]; first | rfl | simp, HF.out⟩

set_option maxHeartbeats 2000000 in
set_option maxRecDepth 100000 in
theorem drun_any (D : Dd) (C : Nat) (hR : DR D C) (st : Int) (s : ByteArray) (m : Nat) (hs : s.size = m) (hm : m ≤ 1000000) (w : World) (hD : DM w D) :
    Calls Try.prog 46 #[.agg D.cD, .int .i64 st, .string s] w fun e w' => e = .returned (.int .i64 (runF D st (zof s) m)) ∧ Below w.heap.size w w' := by
  have HB := Lib.hid (And.intro (DBx.new hD) (And.intro (al w (.cells D.cD 26)) hR))
  have hss := hs
  have HS := Lib.hid hs
  clear hD hR hs
  go_enter Try.func46, Try.ntmps46
  go_upto_region 1 with fail
  generalize w.alloc (.cells D.cD 26) = W0 at HB ⊢
  obtain ⟨b0, hb0⟩ : ∃ b0, w.heap.size = b0 := ⟨_, rfl⟩
  have Hb0 := Lib.hid hb0
  rw [hb0] at HB
  rw [hb0]
  clear hb0
  go_wp2_with fail
  go_loopw [1, 7, 10] (fun v1 _ v wr => ∃ (k : Nat), v = .int .i64 k ∧ k ≤ m ∧ v1 = .int .i64 (runF D st (zof s) k) ∧ Hid (Below W0.heap.size W0 wr)) (fun _ _ v _ => m - (intOf v).toNat)
  case atStart => exact ⟨0, rfl, by omega, rfl, Below.refl _ _⟩
  case round =>
    obtain ⟨k, rfl, hk, rfl, HX⟩ := hrel
    have HFw : Hid (∀ W', Below W0.heap.size W0 W' → Below w.heap.size w W') := fun W' h => by
      rw [Hb0.out]
      exact HB.out.2.1.trans (h.mono (by have := HB.out.2.1.size; have := Hb0.out; omega))
    have HDd : Hid (runF D st (zof s) k = -1 → runF D st (zof s) m = -1) := fun h => runF_dead D st _ h m hk
    by_cases hlt : k < m
    · have hks : k < s.size := by rw [hss]; exact hlt
      obtain ⟨bt, hbe⟩ : ∃ bt, (s[k]'hks).toNat = bt := ⟨_, rfl⟩
      have hbz := zof_at s k hks
      rw [hbe] at hbz
      have hbt : bt < 256 := by rw [hbz]; exact zof_lt s k
      have HSt : Hid (runF D st (zof s) (k + 1) = stepF D (runF D st (zof s) k) bt) := by show stepF D (runF D st (zof s) k) (zof s k) = _; rw [← hbz]
      have HDs : Hid (runF D st (zof s) (k + 1) = -1 → runF D st (zof s) m = -1) := fun h => runF_dead D st _ h m (by omega)
      have i1 : (k : Int) < (m : Int) := by omega
      generalize runF D st (zof s) k = a at HSt HDd ⊢
      have HSo : Hid (∀ W', Below W0.heap.size W0 W' → Below W0.heap.size W0 W' ∧ DBx W' b0 D) := fun W' h => ⟨h, HB.out.1.keep h⟩
      clear hbz
      go_upto_region 4 with fail
      refine wp_region_held_drew (S := fun W' => Below W0.heap.size W0 W' ∧ DBx W' b0 D) (by kernel_rfl) (HSo.out _ HX.out.drew) (fun hHeld => ?_)
      (refine wpAnyH_take (i := 0) (oi := ?_) (v := .agg D.cD) ?_ (by kernel_rfl) (by kernel_rfl) (by kernel_rfl) ?_ (Or.inl ⟨?_, ?_⟩) (by assumption) ?_; rotate_left; (focus ((simp only [List.getElem?_toArray, List.getElem?_cons_zero]); first | done | rfl)); (focus (exact fun _ _ _ h => h)); (focus rfl); (focus (intro wz hSw; exact exec_load_any9 (o := _) (ρ := _) wz 26 (.tmp 3) rfl ⟨b0, 0, none⟩ rfl D.cD _ (DBx.st (And.right hSw)).part Try.underlying26 rfl (DBx.dm (And.right hSw)).info)); try simp only [Act.put, List.setIfInBounds_toArray, List.set_cons_zero, List.set_cons_succ])
      (refine wpAnyH_take (i := 1) (oi := ?_) (v := ?_) ?_ (by kernel_rfl) (by kernel_rfl) (by kernel_rfl) ?_ (Or.inl ⟨?_, ?_⟩) (by assumption) ?_; rotate_left 2; (focus ((simp only [List.getElem?_toArray, List.getElem?_cons_succ, List.getElem?_cons_zero]); first | done | rfl)); (focus (exact fun _ _ _ h => h)); (focus rfl); (focus (intro wz hSw; (try dsimp only at hSw); go_simp; first | done | with_reducible rfl)); try simp only [Act.put, List.setIfInBounds_toArray, List.set_cons_zero, List.set_cons_succ])
      (refine wpAnyH_take (i := 2) (oi := ?_) (v := ?_) ?_ (by kernel_rfl) (by kernel_rfl) (by kernel_rfl) ?_ (Or.inl ⟨?_, ?_⟩) (by assumption) ?_; rotate_left 2; (focus ((simp only [List.getElem?_toArray, List.getElem?_cons_succ, List.getElem?_cons_zero]); first | done | rfl)); (focus (exact fun _ _ _ h => h)); (focus rfl); (focus (intro wz hSw; (try dsimp only at hSw); go_simp; first | done | with_reducible rfl)); try simp only [Act.put, List.setIfInBounds_toArray, List.set_cons_zero, List.set_cons_succ])
      (refine wpAnyH_take (i := 3) (oi := ?_) (v := ?_) ?_ (by kernel_rfl) (by kernel_rfl) (by kernel_rfl) ?_ (Or.inl ⟨?_, ?_⟩) (by assumption) ?_; rotate_left 2; (focus ((simp only [List.getElem?_toArray, List.getElem?_cons_succ, List.getElem?_cons_zero]); first | done | rfl)); (focus (exact fun _ _ _ h => h)); (focus rfl); (focus (intro wz hSw; (try dsimp only at hSw); go_simp; first | done | with_reducible rfl)); try simp only [Act.put, List.setIfInBounds_toArray, List.set_cons_zero, List.set_cons_succ])
      (refine wpAnyH_take (i := 4) (oi := ?_) (v := ?_) ?_ (by kernel_rfl) (by kernel_rfl) (by kernel_rfl) ?_ (Or.inl ⟨?_, ?_⟩) (by assumption) ?_; rotate_left 2; (focus ((simp only [List.getElem?_toArray, List.getElem?_cons_succ, List.getElem?_cons_zero]); first | done | rfl)); (focus (exact fun _ _ _ h => h)); (focus rfl); (focus (intro wz hSw; (try dsimp only at hSw); go_simp; first | done | with_reducible rfl)); try simp only [Act.put, List.setIfInBounds_toArray, List.set_cons_zero, List.set_cons_succ])
      refine wpAnyH_ready (rs := [5]) (by kernel_rfl) (by simp) ?_
      refine AllReadyH.cons (o := ?_) ?_ (fun K hK => ?_) ?_
      rotate_left
      (focus ((simp only [List.getElem?_toArray, List.getElem?_cons_succ, List.getElem?_cons_zero]); first | done | rfl))
      · skip
        go_simp
        go_at_call 48
        refine (dstep_any D C HB.out.2.2 a bt hbt _ hHeld.2.dm).mono ?_
        rintro e wj ⟨rfl, vj⟩
        have hbn : Below W0.heap.size W0 wj := hHeld.1.trans (vj.mono hHeld.1.size)
        clear vj
        try go_wp2_with fail
        refine hK.out _ _ (HSo.out _ hbn) (fun hHeld => ?_)
        clear hK K
        try simp only [Act.put, List.setIfInBounds_toArray, List.set_cons_zero, List.set_cons_succ]
        (refine wpAnyH_take (i := 6) (oi := ?_) (v := ?_) ?_ (by kernel_rfl) (by kernel_rfl) (by kernel_rfl) ?_ (Or.inl ⟨?_, ?_⟩) (by assumption) ?_; rotate_left 2; (focus ((simp only [List.getElem?_toArray, List.getElem?_cons_succ, List.getElem?_cons_zero]); first | done | rfl)); (focus (exact fun _ _ _ h => h)); (focus rfl); (focus (intro wz hSw; (try dsimp only at hSw); go_simp; first | done | with_reducible rfl)); try simp only [Act.put, List.setIfInBounds_toArray, List.set_cons_zero, List.set_cons_succ])
        refine wpAnyH_done (by kernel_rfl) ?_ _
        have HBn := Lib.hid hbn
        clear hHeld hbn
        rw [← HSt.out]
        have HF := Lib.hid (HFw.out _ HBn.out)
        by_cases hd : runF D st (zof s) (k + 1) = -1
        · have HV := Lib.hid (HDs.out hd)
          rw [hd]
          go_wp2_with fail
          go_ret
          exact ⟨by rw [HV.out]; first | rfl | simp, HF.out⟩
        · have HR2 : Hid (runF D st (zof s) (k + 1) = runF D st (zof s) (k + 1)) := rfl
          obtain ⟨r, hr⟩ : ∃ r, runF D st (zof s) (k + 1) = r := ⟨_, rfl⟩
          have Hr := Lib.hid hr
          rw [hr] at hd
          rw [hr]
          clear hr HR2 HSt
          go_wp2_with fail
          go_roundw
          case rel => exact ⟨k + 1, by go_num, by omega, by rw [Hr.out], HBn⟩
          case measure => simp [intOf]; omega
      exact AllReadyH.nil
    · obtain rfl : k = m := by omega
      have HF := Lib.hid (HFw.out wr HX.out)
      clear HDd
      go_wp2_with fail
      go_ret
      exact ⟨rfl, HF.out⟩

set_option maxHeartbeats 2000000 in
set_option maxRecDepth 100000 in
theorem dhas_any (D : Dd) (C : Nat) (hR : DR D C) (s : ByteArray) (m : Nat) (hs : s.size = m) (hm : m ≤ 1000000) (w : World) (hD : DM w D) :
    Calls Try.prog 31 #[.agg D.cD, .string s] w fun e w' => e = .returned (.int .i64 (markF D (runF D 0 (zof s) m))) ∧ Below w.heap.size w w' := by
  have HB := Lib.hid (And.intro (DBx.new hD) (And.intro (al w (.cells D.cD 26)) (And.intro hR hs)))
  clear hD hR hs
  go_enter Try.func31, Try.ntmps31
  go_upto_region 1 with fail
  generalize w.alloc (.cells D.cD 26) = W0 at HB ⊢
  obtain ⟨b0, hb0⟩ : ∃ b0, w.heap.size = b0 := ⟨_, rfl⟩
  have Hb0 := Lib.hid hb0
  rw [hb0] at HB
  rw [hb0]
  clear hb0
  have HFw : Hid (∀ W', Below W0.heap.size W0 W' → Below w.heap.size w W') := fun W' h => by
    rw [Hb0.out]
    exact HB.out.2.1.trans (h.mono (by have := HB.out.2.1.size; have := Hb0.out; omega))
  have HSo : Hid (∀ W', Below W0.heap.size W0 W' → Below W0.heap.size W0 W' ∧ DBx W' b0 D) := fun W' h => ⟨h, HB.out.1.keep h⟩
  refine wp_region_held_drew (S := fun W' => Below W0.heap.size W0 W' ∧ DBx W' b0 D) (by kernel_rfl) (HSo.out _ (Below.refl _ _).drew) (fun hHeld => ?_)
  (refine wpAnyH_take (i := 0) (oi := ?_) (v := .agg D.cD) ?_ (by kernel_rfl) (by kernel_rfl) (by kernel_rfl) ?_ (Or.inl ⟨?_, ?_⟩) (by assumption) ?_; rotate_left; (focus ((simp only [List.getElem?_toArray, List.getElem?_cons_zero]); first | done | rfl)); (focus (exact fun _ _ _ h => h)); (focus rfl); (focus (intro wz hSw; exact exec_load_any9 (o := _) (ρ := _) wz 26 (.tmp 2) rfl ⟨b0, 0, none⟩ rfl D.cD _ (DBx.st (And.right hSw)).part Try.underlying26 rfl (DBx.dm (And.right hSw)).info)); try simp only [Act.put, List.setIfInBounds_toArray, List.set_cons_zero, List.set_cons_succ])
  (refine wpAnyH_take (i := 1) (oi := ?_) (v := .agg D.cD) ?_ (by kernel_rfl) (by kernel_rfl) (by kernel_rfl) ?_ (Or.inl ⟨?_, ?_⟩) (by assumption) ?_; rotate_left; (focus ((simp only [List.getElem?_toArray, List.getElem?_cons_succ, List.getElem?_cons_zero]); first | done | rfl)); (focus (exact fun _ _ _ h => h)); (focus rfl); (focus (intro wz hSw; exact exec_load_any9 (o := _) (ρ := _) wz 26 (.tmp 2) rfl ⟨b0, 0, none⟩ rfl D.cD _ (DBx.st (And.right hSw)).part Try.underlying26 rfl (DBx.dm (And.right hSw)).info)); try simp only [Act.put, List.setIfInBounds_toArray, List.set_cons_zero, List.set_cons_succ])
  (refine wpAnyH_take (i := 2) (oi := ?_) (v := ?_) ?_ (by kernel_rfl) (by kernel_rfl) (by kernel_rfl) ?_ (Or.inl ⟨?_, ?_⟩) (by assumption) ?_; rotate_left 2; (focus ((simp only [List.getElem?_toArray, List.getElem?_cons_succ, List.getElem?_cons_zero]); first | done | rfl)); (focus (exact fun _ _ _ h => h)); (focus rfl); (focus (intro wz hSw; (try dsimp only at hSw); go_simp; first | done | with_reducible rfl)); try simp only [Act.put, List.setIfInBounds_toArray, List.set_cons_zero, List.set_cons_succ])
  refine wpAnyH_ready (rs := [3]) (by kernel_rfl) (by simp) ?_
  refine AllReadyH.cons (o := ?_) ?_ (fun K hK => ?_) ?_
  rotate_left
  (focus ((simp only [List.getElem?_toArray, List.getElem?_cons_succ, List.getElem?_cons_zero]); first | done | rfl))
  · skip
    go_simp
    go_at_call 46
    refine (drun_any D C HB.out.2.2.1 0 s m HB.out.2.2.2 hm _ hHeld.2.dm).mono ?_
    rintro e wj ⟨rfl, vj⟩
    have hbn : Below W0.heap.size W0 wj := hHeld.1.trans (vj.mono hHeld.1.size)
    clear vj
    try go_wp2_with fail
    refine hK.out _ _ (HSo.out _ hbn) (fun hHeld => ?_)
    clear hK K
    try simp only [Act.put, List.setIfInBounds_toArray, List.set_cons_zero, List.set_cons_succ]
    clear hbn
    refine wpAnyH_ready (rs := [4]) (by kernel_rfl) (by simp) ?_
    refine AllReadyH.cons (o := ?_) ?_ (fun K hK => ?_) ?_
    rotate_left
    (focus ((simp only [List.getElem?_toArray, List.getElem?_cons_succ, List.getElem?_cons_zero]); first | done | rfl))
    · skip
      go_simp
      go_at_call 45
      refine (dmark_any D C HB.out.2.2.1 (runF D 0 (zof s) m) _ hHeld.2.dm).mono ?_
      rintro e wk ⟨rfl, vk⟩
      have hbn : Below W0.heap.size W0 wk := hHeld.1.trans (vk.mono hHeld.1.size)
      clear vk
      try go_wp2_with fail
      refine hK.out _ _ (HSo.out _ hbn) (fun hHeld => ?_)
      clear hK K
      try simp only [Act.put, List.setIfInBounds_toArray, List.set_cons_zero, List.set_cons_succ]
      (refine wpAnyH_take (i := 5) (oi := ?_) (v := ?_) ?_ (by kernel_rfl) (by kernel_rfl) (by kernel_rfl) ?_ (Or.inl ⟨?_, ?_⟩) (by assumption) ?_; rotate_left 2; (focus ((simp only [List.getElem?_toArray, List.getElem?_cons_succ, List.getElem?_cons_zero]); first | done | rfl)); (focus (exact fun _ _ _ h => h)); (focus rfl); (focus (intro wz hSw; (try dsimp only at hSw); go_simp; first | done | with_reducible rfl)); try simp only [Act.put, List.setIfInBounds_toArray, List.set_cons_zero, List.set_cons_succ])
      refine wpAnyH_done (by kernel_rfl) ?_ _
      have HF := Lib.hid (HFw.out _ hbn)
      clear hHeld hbn
      go_wp2_with fail
      go_ret
      exact ⟨rfl, HF.out⟩
    exact AllReadyH.nil
  exact AllReadyH.nil
end Go.Proofs.Ytldpmcgkbdejjaa

namespace Go.Proofs.Ytldpmcgkbdejjaa
open Go.RowKit Go.Maps Go.WideElems Go.ChangeMaps Go.MapKept
set_option linter.unusedVariables false
set_option linter.unusedSimpArgs false

/-- An automaton's cells. -/
def dfC (K : Nat → Nat) (vN vK : Value) : Array Value := (((List.range 256).map fun j => Value.int .u8 ((K j : Nat) : Int)) ++ [vN, vK]).toArray
theorem dfC_size (K : Nat → Nat) (vN vK : Value) : (dfC K vN vK).size = 258 := by simp [dfC]
theorem dfC_cl (K : Nat → Nat) (vN vK : Value) (j : Nat) (hj : j < 256) : (dfC K vN vK)[j]? = some (.int .u8 ((K j : Nat) : Int)) := by
  simp [dfC, List.getElem?_append, hj]
theorem dfC_n (K : Nat → Nat) (vN vK : Value) : (dfC K vN vK)[256]? = some vN := by simp [dfC, List.getElem?_append]
theorem dfC_k (K : Nat → Nat) (vN vK : Value) : (dfC K vN vK)[257]? = some vK := by simp [dfC, List.getElem?_append]
theorem dfC_one (K : Nat → Nat) (a b : Option Addr) (n c m d : Nat) : ∀ v ∈ (dfC K (.slice a n c) (.slice b m d)).toList, v.oneCell' = true := by
  intro v hv
  simp [dfC] at hv
  rcases hv with ⟨j, _, rfl⟩ | rfl | rfl <;> rfl
theorem dfC_ext (K : Nat → Nat) (vN vK : Value) (cs : Array Value) (hs : cs.size = 258) (h1 : ∀ j, j < 256 → cs[j]? = some (.int .u8 ((K j : Nat) : Int))) (h2 : cs[256]? = some vN) (h3 : cs[257]? = some vK) : cs = dfC K vN vK := by
  apply Array.ext_getElem?
  intro i
  by_cases a : i < 256
  · rw [h1 i a, dfC_cl K vN vK i a]
  · by_cases b : i = 256
    · subst b; rw [h2, dfC_n]
    · by_cases c : i = 257
      · subst c; rw [h3, dfC_k]
      · rw [Array.getElem?_eq_none (by omega), Array.getElem?_eq_none (by rw [dfC_size]; omega)]
theorem dfC_setN (K : Nat → Nat) (vN vK v : Value) : (dfC K vN vK).setIfInBounds 256 v = dfC K v vK := by
  refine dfC_ext K v vK _ (by rw [Array.size_setIfInBounds, dfC_size]) (fun j hj => ?_) ?_ ?_
  · rw [Array.getElem?_setIfInBounds_ne (by omega), dfC_cl K vN vK j hj]
  · rw [Array.getElem?_setIfInBounds_self_of_lt (by rw [dfC_size]; omega)]
  · rw [Array.getElem?_setIfInBounds_ne (by omega), dfC_k]
theorem dfC_setK (K : Nat → Nat) (vN vK v : Value) : (dfC K vN vK).setIfInBounds 257 v = dfC K vN v := by
  refine dfC_ext K vN v _ (by rw [Array.size_setIfInBounds, dfC_size]) (fun j hj => ?_) ?_ ?_
  · rw [Array.getElem?_setIfInBounds_ne (by omega), dfC_cl K vN vK j hj]
  · rw [Array.getElem?_setIfInBounds_ne (by omega), dfC_n]
  · rw [Array.getElem?_setIfInBounds_self_of_lt (by rw [dfC_size]; omega)]
theorem dfa_built1 (K : Nat → Nat) (W : World) : (Instr.build 26 #[(0, .agg (clsOf K))]).run Try.prog W = .ok (.agg (dfC K (.slice none 0 0) (.slice none 0 0))) W := by
  have e : Try.prog.built 26 [(0, .agg (clsOf K))] = Instr.fill (fun i => #[(0, 256), (256, 1), (257, 1)][i]?) (zC 26) [(0, .agg (clsOf K))] := by kernel_rfl
  have hz := zDfa_size
  have hs := clsOf_size K
  obtain ⟨p1, p2⟩ := putAt_get (zC 26) (clsOf K) 0 (by rw [hz]; omega)
  rw [fill_put _ _ 0 0 256 (.agg (clsOf K)) [] (by rfl) hs (by rw [hz]; omega)] at e
  obtain ⟨d1, d2⟩ := zDfa_tail
  have e2 : putAt (zC 26) (clsOf K) 0 = dfC K (.slice none 0 0) (.slice none 0 0) := dfC_ext _ _ _ _ (by rw [p1, hz]) (fun j hj => by rw [p2, if_pos ⟨by omega, by omega⟩]; exact clsOf_at K j hj) (by rw [p2, if_neg (by omega), d1]) (by rw [p2, if_neg (by omega), d2])
  have e3 : (Value.agg (clsOf K)).cells = clsOf K := rfl
  rw [e3, e2] at e
  exact run_build W _ _ _ e
theorem dfa_built2 (K : Nat → Nat) (a : Option Addr) (n c : Nat) (W : World) : (Instr.build 26 #[(0, .agg (clsOf K)), (2, .slice a n c)]).run Try.prog W = .ok (.agg (dfC K (.slice none 0 0) (.slice a n c))) W := by
  have e : Try.prog.built 26 [(0, .agg (clsOf K)), (2, .slice a n c)] = Instr.fill (fun i => #[(0, 256), (256, 1), (257, 1)][i]?) (zC 26) [(0, .agg (clsOf K)), (2, .slice a n c)] := by kernel_rfl
  have hz := zDfa_size
  have hs := clsOf_size K
  obtain ⟨p1, p2⟩ := putAt_get (zC 26) (clsOf K) 0 (by rw [hz]; omega)
  rw [fill_put _ _ 0 0 256 (.agg (clsOf K)) _ (by rfl) hs (by rw [hz]; omega)] at e
  obtain ⟨d1, d2⟩ := zDfa_tail
  have e2 : putAt (zC 26) (clsOf K) 0 = dfC K (.slice none 0 0) (.slice none 0 0) := dfC_ext _ _ _ _ (by rw [p1, hz]) (fun j hj => by rw [p2, if_pos ⟨by omega, by omega⟩]; exact clsOf_at K j hj) (by rw [p2, if_neg (by omega), d1]) (by rw [p2, if_neg (by omega), d2])
  have e3 : (Value.agg (clsOf K)).cells = clsOf K := rfl
  rw [e3, e2] at e
  have hd := dfC_size K (.slice none 0 0) (.slice none 0 0)
  obtain ⟨q1, q2⟩ := putAt_get (dfC K (.slice none 0 0) (.slice none 0 0)) #[.slice a n c] 257 (by rw [hd]; simp)
  rw [fill_put _ _ 2 257 1 (.slice a n c) [] (by rfl) (by rfl) (by rw [hd]; omega)] at e
  have e4 : putAt (dfC K (.slice none 0 0) (.slice none 0 0)) #[.slice a n c] 257 = dfC K (.slice none 0 0) (.slice a n c) := by
    simp only [List.size_toArray, List.length_cons, List.length_nil] at q2
    refine dfC_ext _ _ _ _ (by rw [q1, hd]) (fun j hj => by rw [q2, if_neg (by omega), dfC_cl _ _ _ j hj]) (by rw [q2, if_neg (by omega), dfC_n]) (by rw [q2, if_pos (by omega)]; rfl)
  have e5 : (Value.slice a n c).cells = #[.slice a n c] := rfl
  rw [e5, e4] at e
  exact run_build W _ _ _ e
/-- An automaton under way: its variable, its rows, its marks. -/
structure TrA (W0 : World) (b4 : Nat) (K : Nat → Nat) (C : Nat) (vN : Value) (R : List (List Int)) (ws : Nat → Value) (vK : Value) (ms : List Int) (w : World) : Prop where
  bel : Below W0.heap.size W0 w
  st : St w 26 b4 (dfC K vN vK)
  next : GridOw w W0.heap.size 24 3 1 vN R.length ws (fun _ => C) (fun j => ints (R.getD j []))
  mks : w.ownsRow W0.heap.size 3 1 vK ms.length (ints ms)
  sep : ∀ i, i < R.length → ∀ b, (ws i).ownBlock = some b → vK.ownBlock ≠ some b
  lo : W0.heap.size ≤ b4
section
variable {W0 : World} {b4 C : Nat} {K : Nat → Nat} {vN : Value} {R : List (List Int)} {ws : Nat → Value} {vK : Value} {ms : List Int} {w : World}
theorem TrA.keep {w1 : World} (h : TrA W0 b4 K C vN R ws vK ms w) (k : Below w.heap.size w w1) : TrA W0 b4 K C vN R ws vK ms w1 :=
  ⟨h.bel.trans (k.mono h.bel.size), h.st.keep k, h.next.keep k, ownsRow_keep h.mks k, h.sep, h.lo⟩
theorem TrA.f1 (h : TrA W0 b4 K C vN R ws vK ms w) : w.cell? ⟨b4, 256, none⟩ = some vN := by rw [h.st.at_, dfC_n]
theorem own_setk {w : World} {B t n b4 i : Nat} {cs : Array Value} {v u : Value} {xs : List Value} (h : w.ownsRow B t 1 v n xs) (hs : St w 26 b4 cs) (ht : t ≠ 26) : (w.setCell ⟨b4, i, none⟩ u).ownsRow B t 1 v n xs :=
  own_kept (ts := []) (bs := [b4]) h ((Kept.refl _ _ _).setCell _ _ (Or.inl (by simp))) (by simp) (fun b e hm => own_ne h hs ht b e (List.mem_singleton.1 hm))
theorem TrA.addRow {w' : World} {vN' u : Value} {row : List Int} {q : Nat} (h : TrA W0 b4 K C vN R ws vK ms w) (hu : w.ownsRow W0.heap.size 3 1 u C (ints row)) (hs : ∀ i, i < R.length → ∀ b, (ws i).ownBlock = some b → u.ownBlock ≠ some b) (hs2 : ∀ b, u.ownBlock = some b → vK.ownBlock ≠ some b) (hq : R.length = q)
    (ho : w'.ownsRow W0.heap.size 24 1 vN' (q + 1) ((List.range q).map ws ++ [u])) (hg : w.grownBy w' vN.ownBlock) : TrA W0 b4 K C vN' (R ++ [row]) (fun j => if j = q then u else ws j) vK ms (w'.setCell ⟨b4, 256, none⟩ vN') := by
  subst hq
  have hst : St w' 26 b4 (dfC K vN vK) := h.st.grown_own h.next.own (by decide) hg
  have h1 : GridOw w W0.heap.size 24 3 1 vN R.length ws (fun _ => C) (fun j => ints ((R ++ [row]).getD j [])) := h.next.congr (fun i hi => ⟨rfl, by simp [List.getD_eq_getElem?_getD, List.getElem?_append_left hi]⟩)
  have h2 := h1.pushRow (v' := vN') (u := u) (w' := w') (by decide) (by simpa [List.getD_eq_getElem?_getD] using hu) hs ho hg
  have hm : w'.ownsRow W0.heap.size 3 1 vK ms.length (ints ms) := own_grown h.mks hg (fun b e e2 => own_kinds h.mks h.next.own (by decide) b e e2.symm)
  refine ⟨(below_grown_own h.bel h.next.own h.bel.size hg).setCell (p := ⟨b4, 256, none⟩) h.lo _, ?_, ?_, own_setk hm hst (by decide), ?_, h.lo⟩
  · have := hst.set 256 vN'
    rwa [dfC_setN] at this
  · rw [List.length_append]
    exact ⟨own_setk h2.own hst (by decide), fun i hi => own_setk (h2.row i hi) hst (by decide), h2.sep⟩
  · intro i hi b e
    by_cases e1 : i = R.length
    · rw [if_pos e1] at e
      exact hs2 b e
    · rw [if_neg e1] at e
      exact h.sep i (by simp at hi; omega) b e
end
/-- An automaton is the answer. -/
def DfP (D : Dd) (C n' : Nat) (nx' : Nat → Nat → Int) (q' : Nat → Int) (w : World) (e : Ending) (w' : World) : Prop :=
  ∃ D' : Dd, e = .returned (.agg D'.cD) ∧ DM w' D' ∧ D'.K = D.K ∧ D'.n = n' ∧ D'.m = n' ∧ (∀ i, i < n' → D'.len i = C) ∧ (∀ i, i < n' → ∀ c, c < C → D'.nx i c = nx' i c) ∧ (∀ i, i < n' → D'.q i = q' i) ∧ Below w.heap.size w w' ∧ w'.ownsRow w.heap.size 3 1 (.slice D'.aM n' D'.cM) n' (ints ((List.range n').map q'))
theorem TrA.dfp {W0 : World} {b4 C : Nat} {D : Dd} {vN : Value} {R : List (List Int)} {ws : Nat → Value} {vK : Value} {ms : List Int} {w wr w' : World} {n' : Nat} {nx' : Nat → Nat → Int} {q' : Nat → Int} (hk : ∀ j, j < 256 → D.K j < 256) (h : TrA W0 b4 D.K C vN R ws vK ms wr) (hR : R.length = n') (hrl : ∀ r ∈ R, r.length = C) (hms : ms = (List.range n').map q')
    (hnx : ∀ i, i < n' → ∀ c, c < C → (R.getD i []).getD c 0 = nx' i c) (hw : w.heap.size ≤ W0.heap.size) (hb : Below wr.heap.size wr w' ∨ (∃ b cs old, St wr 26 b old ∧ w' = wr.setRow b cs)) (hB : Below w.heap.size w w') : DfP D C n' nx' q' w (.returned (.agg (dfC D.K vN vK))) w' := by
  obtain ⟨aN, cN, rfl⟩ := ownsRow_slice h.next.own
  obtain ⟨aK, cK, rfl⟩ := ownsRow_slice h.mks
  have hml : ms.length = n' := by rw [hms]; simp
  have keepo : ∀ {B t n : Nat} {v : Value} {xs : List Value}, t ≠ 26 → wr.ownsRow B t 1 v n xs → w'.ownsRow B t 1 v n xs := fun {B t n v xs} ht ho => by
    rcases hb with hb | ⟨b, cs, old, hs, rfl⟩
    · exact ownsRow_keep ho hb
    · exact own_kept (ts := []) (bs := [b]) ho (kept_setRow9 wr b cs) (by simp) (fun g e hm => own_ne ho hs ht g e (List.mem_singleton.1 hm))
  have hn2 : GridOw w' W0.heap.size 24 3 1 (.slice aN R.length cN) R.length ws (fun _ => C) (fun j => ints (R.getD j [])) := ⟨keepo (by decide) h.next.own, fun i hi => keepo (by decide) (h.next.row i hi), h.next.sep⟩
  have hm2 := keepo (by decide) h.mks
  refine ⟨⟨dfC D.K (.slice aN R.length cN) (.slice aK ms.length cK), D.K, aN, R.length, cN, fun i => slA (ws i), fun i => slC (ws i), fun _ => C, fun i x => (R.getD i []).getD x 0, aK, ms.length, cK, fun i => ms.getD i 0⟩, rfl,
    ⟨dfC_size _ _ _, dfC_one _ _ _ _ _ _ _, fun j hj => dfC_cl _ _ _ j hj, hk, dfC_n _ _ _, dfC_k _ _ _, hn2.zs rfl hrl, own_zat hm2 rfl⟩, rfl, hR, hml, fun i hi => rfl, hnx, fun i hi => ?_, hB, ?_⟩
  · show ms.getD i 0 = _
    rw [hms]
    simp [List.getD_eq_getElem?_getD, hi]
  · show w'.ownsRow _ _ _ (.slice aK n' cK) n' _
    rw [← hms, ← hml]
    exact ownsRow_base hm2 hw
end Go.Proofs.Ytldpmcgkbdejjaa

namespace Go.Proofs.Ytldpmcgkbdejjaa
open Go.RowKit Go.Maps Go.WideElems Go.ChangeMaps Go.MapKept
set_option linter.unusedVariables false
set_option linter.unusedSimpArgs false

theorem alloc_sz10 (w : World) (o : Obj) : (w.alloc o).heap.size = w.heap.size + 1 := by simp
theorem zDfa_cls10 : ∀ j, j < 256 → (zC 26)[j]? = some (.int .u8 0) := by
  have h : (List.range 256).all (fun j => match (zC 26)[j]? with | some (.int .u8 0) => true | _ => false) = true := by kernel_rfl
  intro j hj
  have h1 := List.all_eq_true.1 h j (by simpa using hj)
  split at h1
  · rename_i e; rw [e]
  · cases h1


def SmPost (D : Dd) (w : World) (e : Ending) (w' : World) : Prop := ∃ b : Bool, e = .returned (.bool b) ∧ (b = true → D.n ≤ 20 ∧ D.m ≤ 30 ∧ ∀ i, i < D.n → D.len i ≤ 256) ∧ Below w.heap.size w w'
set_option maxHeartbeats 1000000 in
set_option maxRecDepth 100000 in
theorem small_any (D : Dd) (hn : D.n ≤ 9223372036854775807) (hm : D.m ≤ 9223372036854775807) (hl : ∀ i, i < D.n → D.len i ≤ 9223372036854775807) (w : World) (hD : DM w D) :
    Calls Try.prog 6 #[.agg D.cD] w (SmPost D w) := by
  have HB := Lib.hid (And.intro (DBx.new hD) (And.intro (al w (.cells D.cD 26)) hl))
  clear hD hl
  go_enter Try.func6, Try.ntmps6
  go_upto_region 1 with fail
  generalize w.alloc (.cells D.cD 26) = W0 at HB ⊢
  obtain ⟨b0, hb0⟩ : ∃ b0, w.heap.size = b0 := ⟨_, rfl⟩
  have Hb0 := Lib.hid hb0
  rw [hb0] at HB
  rw [hb0]
  clear hb0
  have f1 := HB.out.1.f1
  have f2 := HB.out.1.f2
  have HF : Hid (Below w.heap.size w W0) := by rw [Hb0.out]; exact HB.out.2.1
  by_cases h1 : 20 < D.n
  · have i1 : (20 : Int) < (D.n : Int) := by omega
    go_wp2_with fail
    go_ret
    exact ⟨false, rfl, (fun h => by cases h), HF.out⟩
  by_cases h2 : 30 < D.m
  · have i1 : ¬ ((20 : Int) < (D.n : Int)) := by omega
    have i2 : (30 : Int) < (D.m : Int) := by omega
    go_wp2_with fail
    go_ret
    exact ⟨false, rfl, (fun h => by cases h), HF.out⟩
  have i1 : ¬ ((20 : Int) < (D.n : Int)) := by omega
  have i2 : ¬ ((30 : Int) < (D.m : Int)) := by omega
  go_wp2_with fail
  clear f1 f2
  go_loopw [3] (fun v wr => ∃ (i : Nat), v = .int .i64 i ∧ i ≤ D.n ∧ wr = W0 ∧ Hid (∀ j, j < i → D.len j ≤ 256)) (fun v _ => D.n - (intOf v).toNat)
  case atStart => exact ⟨0, rfl, by omega, rfl, fun j hj => by omega⟩
  case round =>
    obtain ⟨i, rfl, hi, rfl, HX⟩ := hrel
    have f1 := HB.out.1.f1
    by_cases hlt : i < D.n
    · obtain ⟨gN, oN, eN, hgN, cN, _⟩ := HB.out.1.dm.row i hlt
      rw [eN] at f1
      have i3 : (i : Int) < (D.n : Int) := by omega
      have hb := HB.out.2.2 i hlt
      have HS : Hid (D.len i ≤ 256 → ∀ j, j < i + 1 → D.len j ≤ 256) := fun h j hj => by
        by_cases e : j = i
        · subst e; exact h
        · exact HX.out j (by omega)
      have HeN := Lib.hid eN
      clear eN
      generalize D.len i = ln at cN hb HS
      by_cases h3 : 256 < ln
      · have i4 : (256 : Int) < (ln : Int) := by omega
        go_wp2_with fail
        go_ret
        exact ⟨false, rfl, (fun h => by cases h), HF.out⟩
      · have i4 : ¬ ((256 : Int) < (ln : Int)) := by omega
        have HZ := Lib.hid (HS.out (by omega))
        go_wp2_with fail
        go_roundw
        case rel => exact ⟨i + 1, by go_num, by omega, by first | trivial | rfl, HZ⟩
        case measure => simp [intOf]; omega
    · obtain rfl : i = D.n := by omega
      have i3 : ¬ ((D.n : Int) < (D.n : Int)) := by omega
      have hn9 : D.n ≤ 20 ∧ D.m ≤ 30 := by omega
      have HZ : Hid (D.n ≤ 20 ∧ D.m ≤ 30 ∧ ∀ j, j < D.n → D.len j ≤ 256) := ⟨hn9.1, hn9.2, HX.out⟩
      go_wp2_with fail
      go_ret
      exact ⟨true, rfl, (fun _ => HZ.out), HF.out⟩
end Go.Proofs.Ytldpmcgkbdejjaa

namespace Go.Proofs.Ytldpmcgkbdejjaa
open Go.RowKit Go.Maps Go.WideElems Go.ChangeMaps Go.MapKept
set_option linter.unusedVariables false
set_option linter.unusedSimpArgs false

/-- A list of numbers in memory. -/
def LAt (w : World) (a : Option Addr) (l : List Nat) : Prop := ZAt w a l.length (fun i => ((l.getD i 0 : Nat) : Int))
theorem LAt.below {w w' : World} {a : Option Addr} {l : List Nat} (h : LAt w a l) (k : Below w.heap.size w w') : LAt w' a l := ZAt.below h k
theorem own_lat {w : World} {B n c : Nat} {a : Option Addr} {l : List Nat} (h : w.ownsRow B 3 1 (.slice a n c) n (nums64 l)) (hl : l.length = n) : LAt w a l := by
  have e : nums64 l = ints (l.map fun x => ((x : Nat) : Int)) := by simp [nums64, ints]
  rw [e] at h
  have h2 := own_zat h (by simpa using hl)
  unfold LAt
  rw [hl]
  intro h0
  obtain ⟨g, off, e1, e2, hc⟩ := h2 h0
  refine ⟨g, off, e1, e2, fun j hj => ?_⟩
  rw [hc j hj]
  have : j < l.length := by omega
  simp [List.getD_eq_getElem?_getD, this]

set_option maxHeartbeats 1000000 in
set_option maxRecDepth 100000 in
theorem flags_any (n : Nat) (l : List Nat) (a : Option Addr) (q c : Nat) (hq : l.length = q) (hq2 : q ≤ 1000000) (hn : n ≤ 1000000) (hl : ∀ x ∈ l, x < n) (w : World) (hL : LAt w a l) :
    Calls Try.prog 62 #[.int .i64 ((n : Nat) : Int), .slice a q c] w (BlPost n (fun x => x ∈ l) w) := by
  have hmk := make_bl n (by omega)
  have HL := Lib.hid (And.intro hL (And.intro hq hl))
  have HO := Lib.hid (OB.made w n (by unfold maxLen; omega))
  clear hL hq hl
  go_enter Try.func62, Try.ntmps62
  go_wp2_with fail
  obtain ⟨g, hg⟩ : ∃ g, w.heap.size = g := ⟨_, rfl⟩
  have HO2 : Hid (∀ W1, (w.alloc (.cells (madeCells #[.bool false] n) 4)) = W1 → OB w g n (fun _ => false) W1) := fun W1 h => by rw [← h, ← hg]; exact HO.out
  rw [hg]
  generalize hW1 : w.alloc (.cells (madeCells #[.bool false] n) 4) = W1
  have HO := Lib.hid (HO2.out W1 hW1)
  have HOl := Lib.hid (fun (wr : World) (h : OB w g n (fun _ => false) wr) => h)
  have HLW := Lib.hid (fun (wr : World) (hb : Below w.heap.size w wr) => HL.out.1.below hb)
  clear HO2 hg hW1
  go_loopw [7, 12] (fun _ v wr => ∃ (k : Nat) (f : Nat → Bool), v = .int .i64 k ∧ k ≤ q ∧ Hid (OB w g n f wr ∧ ∀ x, f x = true ↔ x ∈ l.take k)) (fun _ v _ => q - (intOf v).toNat)
  case atStart => exact ⟨0, _, rfl, by omega, ⟨HO.out, fun x => by simp⟩⟩
  case round =>
    clear HO
    obtain ⟨k, f, rfl, hk, HX⟩ := hrel
    by_cases hlt : k < q
    · have hkl : k < l.length := by rw [HL.out.2.1]; exact hlt
      obtain ⟨gL, oL, rfl, _, c0⟩ := HLW.out wr HX.out.1.bel (by omega)
      have c1 := c0 k hkl
      have hx : l.getD k 0 = l[k] := by simp [List.getD_eq_getElem?_getD, hkl]
      have hxn := HL.out.2.2 l[k] (List.getElem_mem hkl)
      dsimp only at c1
      rw [hx] at c1
      have HS : Hid (∀ x, (if x = l[k] then true else f x) = true ↔ x ∈ l.take (k + 1)) := fun x => by
        rw [List.take_succ_eq_append_getElem hkl, List.mem_append, List.mem_singleton]
        by_cases e : x = l[k]
        · rw [if_pos e]; simp [e]
        · rw [if_neg e, HX.out.2]; simp [e]
      clear c0 hx
      generalize l[k] = t at c1 hxn HS
      obtain ⟨y0, y1⟩ := HX.out.1.cell t hxn
      have HA := Lib.hid (HX.out.1.put t hxn true)
      have i1 : (k : Int) < (q : Int) := by omega
      have i2 : (t : Int) < (n : Int) := by omega
      go_wp2_with fail
      go_roundw
      case rel => exact ⟨k + 1, _, by go_num, by omega, ⟨HA.out, HS.out⟩⟩
      case measure => simp [intOf]; omega
    · obtain rfl : k = q := by omega
      have HZ : Hid (BlPost n (fun x => x ∈ l) w (.returned (.slice (some ⟨g, 0, none⟩) n n)) wr) :=
        ⟨f, _, _, rfl, HX.out.1.own, fun x _ => by rw [HX.out.2, List.take_of_length_le (by rw [HL.out.2.1]; exact Nat.le_refl _)], HX.out.1.bel⟩
      go_wp2_with fail
      go_ret
      exact HZ.out

def ClonePost (q : Nat) (z : Nat → Int) (w : World) (e : Ending) (w' : World) : Prop :=
  ∃ (a : Option Addr) (c : Nat), e = .returned (.slice a q c) ∧ w'.ownsRow w.heap.size 3 1 (.slice a q c) q (ints ((List.range q).map z)) ∧ Below w.heap.size w w'
theorem zs_news {w : World} {q : Nat} {z : Nat → Int} {g o : Nat} (hc : ∀ j, j < q → w.cell? ⟨g, o + j, none⟩ = some (.int .i64 (z j))) : ∀ j u, (ints ((List.range q).map z))[j]? = some u → w.cell? ((⟨g, o, none⟩ : Addr).add j) = some u := by
  intro j u hj
  have hl : j < q := by
    have := (List.getElem?_eq_some_iff.1 hj).1
    simpa [ints] using this
  have e : (⟨g, o, none⟩ : Addr).add j = ⟨g, o + j, none⟩ := by unfold Addr.add; split <;> simp_all
  rw [e, hc j hl]
  simp [ints, hl] at hj
  rw [hj]

theorem run_nil9 (a : Option Addr) (n c : Nat) (W : World) : (binOp .eql 24 (.slice a n c) (.slice none 0 0)).run Try.prog W = .ok (.bool a.isNone) W := by
  have h := run_equal_slice_nil W 24 3 a n c Try.underlying24
  unfold binOp
  simp only [Sem.run_bind, h, Result.andThen_ok, Sem.run_pure]
set_option maxHeartbeats 1000000 in
set_option maxRecDepth 100000 in
theorem clone_any (q c : Nat) (a : Option Addr) (z : Nat → Int) (hq : q ≤ 1000000) (w : World) (hz : ZAt w a q z) (ha : a = none → q = 0 ∧ c = 0) (hs : ∀ ad, a = some ad → ad.spot = none) :
    Calls Try.prog 42 #[.slice a q c] w (ClonePost q z w) := by
  have HZ := Lib.hid hz
  obtain ⟨iI, hI, hI0, hI1, hI2⟩ := info_parts Try.info_int9
  clear hz
  go_enter Try.func42, Try.ntmps42
  rcases a with _ | ⟨g, o, sp⟩
  · obtain ⟨rfl, rfl⟩ := ha rfl
    have he : (binOp .eql 24 (.slice none 0 0) (.slice none 0 0)).run Try.prog w = .ok (.bool true) w := run_nil9 none 0 0 w
    have HF : Hid (ClonePost 0 z w (.returned (.slice none 0 0)) w) := ⟨none, 0, rfl, World.ownsRow_nil _ _ _ _, Below.refl _ _⟩
    go_wp2_with fail
    go_ret
    exact HF.out
  · obtain rfl : sp = none := hs _ rfl
    have he : (binOp .eql 24 (.slice (some ⟨g, o, none⟩) q c) (.slice none 0 0)).run Try.prog w = .ok (.bool false) w := run_nil9 _ q c w
    have HN : Hid (∀ W, Below w.heap.size w W → ∀ j u, (ints ((List.range q).map z))[j]? = some u → W.cell? ((⟨g, o, none⟩ : Addr).add j) = some u) := fun W hb => by
      rcases Nat.eq_zero_or_pos q with h0 | h0
      · subst h0
        intro j u hj
        simp [ints] at hj
      · obtain ⟨g', o', e, _, hc⟩ := (HZ.out.below hb) h0
        injection e with e
        injection e with e1 e2
        subst e1 e2
        exact zs_news hc
    have hown := own_lit w w.heap.size 3 1 #[] 0 rfl (Nat.le_refl _) (by decide)
    go_wp2_with (at_builtin; refine wpList_append_own_at _ rfl _ _ 24 rfl w.heap.size 3 iI (.int .i64 0) 1 8 Try.underlying24 hI hI0 hI1 hI2 rfl (by decide) _ _ _ rfl hown ⟨g, o, none⟩ q c (ints ((List.range q).map z)) rfl (by simp [ints]) (HN.out _ (al w _)) ?d2 ?d3 ?d4 ?d5 ?_)
    case d2 =>
      intro u hu
      simp [ints] at hu
      obtain ⟨x, _, rfl⟩ := hu
      rfl
    case d3 => unfold maxLen; omega
    case d4 => omega
    any_goals (first | (simp; done) | skip)
    intro v5 w5 hown5 hgrow5 _ hat5
    try rw [Nat.zero_add] at hown5
    try rw [Array.toList_empty, List.nil_append] at hown5
    obtain ⟨a5, c5, rfl⟩ := ownsRow_slice hown5
    have HF : Hid (ClonePost q z w (.returned (.slice a5 q c5)) w5) := ⟨a5, c5, rfl, hown5, below_grown_own (al w (.cells #[] 3)) hown (by simp) hgrow5⟩
    clear hown5 hgrow5 hat5
    go_wp2_with fail
    go_ret
    exact HF.out
def rowsF (len : Nat → Nat) (nx : Nat → Nat → Int) (i : Nat) : List Int := (List.range (len i)).map (nx i)
def WkPost (rows : Nat → List Int) (l0 : List Nat) (n : Nat) (w : World) (e : Ending) (w' : World) : Prop :=
  ∃ (l : List Nat) (i : Nat) (a : Option Addr) (c : Nat), e = .returned (.slice a i c) ∧ w'.ownsRow w.heap.size 3 1 (.slice a i c) i (nums64 l) ∧ l = wkN rows l0 i ∧ l.length = i ∧ i ≤ n ∧ (∀ x ∈ l, x < n) ∧ Below w.heap.size w w'
theorem rows_part (nx : Nat → Nat → Int) (x c : Nat) (m : List Nat) : addR m ((List.range (c + 1)).map (nx x)) = addT (addR m ((List.range c).map (nx x))) (nx x c) := by
  rw [List.range_succ, List.map_append, List.map_singleton, addR_snoc]

set_option maxHeartbeats 4000000 in
set_option maxRecDepth 100000 in
theorem walk_any (n cL : Nat) (aL : Option Addr) (A : Nat → Option Addr) (Cp len : Nat → Nat) (nx : Nat → Nat → Int) (l0 : List Nat) (aF : Option Addr) (q cF : Nat) (hn : n ≤ 100000) (hlen : ∀ i, i < n → len i ≤ 100000) (hnx : ∀ i c, i < n → c < len i → -1 ≤ nx i c ∧ nx i c < (n : Int))
    (hq : l0.length = q) (hnd : l0.Nodup) (hl0 : ∀ x ∈ l0, x < n) (w : World) (hR : ZsAt w aL n A Cp len nx) (hF : LAt w aF l0) (ha : aF = none → q = 0 ∧ cF = 0) (hs : ∀ ad, aF = some ad → ad.spot = none) :
    Calls Try.prog 63 #[.slice aL n cL, .slice aF q cF] w (WkPost (rowsF len nx) l0 n w) := by
  have hqn : q ≤ n := by rw [← hq]; exact nodup_below hnd hl0
  have HX := Lib.hid (And.intro hlen (And.intro hnx (And.intro hq (And.intro hnd (And.intro hl0 (And.intro hR hF))))))
  have HCl := Lib.hid (clone_any q cF aF (fun i => ((l0.getD i 0 : Nat) : Int)) (by omega) w (by rw [← hq]; exact hF) ha hs)
  obtain ⟨iI, hI, hI0, hI1, hI2⟩ := info_parts Try.info_int9
  clear hlen hnx hq hnd hl0 hR hF ha hs
  go_enter Try.func63, Try.ntmps63
  go_wp2_with fail
  refine HCl.out.mono ?_
  rintro e w1 ⟨a1, c1, rfl, hown, b1⟩
  have hmap : ints ((List.range q).map (fun i => ((l0.getD i 0 : Nat) : Int))) = nums64 l0 := by
    apply List.ext_getElem?
    intro j
    have hq := HX.out.2.2.1
    by_cases h : j < q
    · have h2 : j < l0.length := by omega
      simp [ints, nums64, h, h2, List.getD_eq_getElem?_getD]
    · have h2 : ¬ j < l0.length := by omega
      simp [ints, nums64, h, h2]
  rw [hmap] at hown
  have HO1 := Lib.hid (And.intro hown b1)
  have HFl := Lib.hid (flags_any n l0 a1 q c1 HX.out.2.2.1 (by omega) (by omega) HX.out.2.2.2.2.1 w1 (own_lat hown HX.out.2.2.1))
  clear hown b1 hmap HCl
  go_wp2_with fail
  refine HFl.out.mono ?_
  rintro e w2 ⟨f, a2, c2, rfl, hown2, hf, b2⟩
  have hc2 : ∃ g, (Value.slice a2 n c2) = .slice (some ⟨g, 0, none⟩) n c2 ∨ n = 0 := by
    rcases Nat.eq_zero_or_pos n with h | h
    · exact ⟨0, Or.inr h⟩
    · obtain ⟨g, e, _⟩ := ownsRow_read hown2 h
      exact ⟨g, Or.inl (by rw [e])⟩
  have hb2 : bls f n = bls (fun x => decide (x ∈ l0)) n := bls_congr fun j hj => by rw [Bool.eq_iff_iff, hf j hj, decide_eq_true_iff]
  rw [hb2] at hown2
  have HO2 : Hid (w2.ownsRow w.heap.size 3 1 (.slice a1 q c1) q (nums64 l0) ∧ w2.ownsRow w.heap.size 4 1 (.slice a2 n c2) n (bls (fun x => decide (x ∈ l0)) n) ∧ Below w.heap.size w w2) := ⟨ownsRow_keep HO1.out.1 b2, ownsRow_base hown2 HO1.out.2.size, HO1.out.2.trans (b2.mono HO1.out.2.size)⟩
  clear hown2 hf b2 hb2 HFl HO1
  go_wp2_with fail
  go_loopw [5, 7, 9, 30] (fun v5 v7 _ _ wr => ∃ (i p : Nat) (l : List Nat) (a : Option Addr) (c : Nat), v7 = .int .i64 i ∧ i ≤ p ∧ p ≤ n ∧ v5 = .slice a p c ∧ Hid (l = wkN (rowsF len nx) l0 i ∧ l.length = p ∧ l.Nodup ∧ (∀ x ∈ l, x < n) ∧ wr.ownsRow w.heap.size 3 1 (.slice a p c) p (nums64 l) ∧ wr.ownsRow w.heap.size 4 1 (.slice a2 n c2) n (bls (fun x => decide (x ∈ l)) n) ∧ Below w.heap.size w wr)) (fun _ v _ _ _ => n - (intOf v).toNat)
  case atStart => exact ⟨0, q, l0, a1, c1, rfl, by omega, hqn, rfl, ⟨rfl, HX.out.2.2.1, HX.out.2.2.2.1, HX.out.2.2.2.2.1, HO2.out.1, HO2.out.2.1, HO2.out.2.2⟩⟩
  case round =>
    clear HO2
    obtain ⟨i, p, l, a, c, rfl, hip, hpn, rfl, HL⟩ := hrel
    by_cases hlt : i < p
    · have hi2 : i < l.length := by rw [HL.out.2.1]; exact hlt
      obtain ⟨gM, rfl, _, _, cM⟩ := ownsRow_read HL.out.2.2.2.2.1 (by omega)
      have d0 := (cM i (by omega)).1
      rw [nums64_get l i hi2] at d0
      have hxn := HL.out.2.2.2.1 l[i] (List.getElem_mem hi2)
      have HGet : Hid (wkN (rowsF len nx) l0 (i + 1) = addR l (rowsF len nx l[i])) := by
        show wkS _ (wkN _ _ i) i = _
        rw [← HL.out.1]
        unfold wkS
        rw [if_pos hi2]
        simp [List.getD_eq_getElem?_getD, hi2]
      clear cM
      generalize l[i] = x at d0 hxn HGet
      obtain ⟨g2, hg2⟩ := hc2
      obtain rfl : a2 = some ⟨g2, 0, none⟩ := by
        rcases hg2 with h | h
        · injection h
        · omega
      clear hg2
      have hlx := HX.out.1 x hxn
      obtain ⟨gL, oL, eL, _, cL0⟩ := (HX.out.2.2.2.2.2.1.below HL.out.2.2.2.2.2.2) (by omega)
      obtain ⟨d1, zx⟩ := cL0 x hxn
      have HZx : Hid (ZAt w (A x) (len x) (nx x)) := by
        obtain ⟨_, _, _, _, cLw⟩ := HX.out.2.2.2.2.2.1 (by omega)
        exact (cLw x hxn).2
      have hbx := Lib.hid (fun c hc => HX.out.2.1 x c hxn hc)
      have HeL := Lib.hid eL
      rw [eL]
      have i1 : (i : Int) < (p : Int) := by omega
      have i2 : (x : Int) < (n : Int) := by omega
      clear cL0 zx eL
      obtain ⟨m, hm⟩ : ∃ m, len x = m := ⟨_, rfl⟩
      have Hm := Lib.hid hm
      rw [hm] at d1 hlx HZx
      generalize A x = ax at d1 HZx
      generalize Cp x = cx at d1
      clear hm
      go_wp2_with fail
      obtain ⟨W9, rfl⟩ : ∃ W9, W9 = wr := ⟨wr, rfl⟩
      clear d0 d1
      go_loopw [5, 9, 30] (fun v5 _ v30 wq => ∃ (k p2 : Nat) (l2 : List Nat) (a : Option Addr) (c : Nat), v30 = .int .i64 k ∧ k ≤ m ∧ p ≤ p2 ∧ p2 ≤ n ∧ v5 = .slice a p2 c ∧ Hid (l2 = addR l ((List.range k).map (nx x)) ∧ l2.length = p2 ∧ l2.Nodup ∧ (∀ x ∈ l2, x < n) ∧ wq.ownsRow w.heap.size 3 1 (.slice a p2 c) p2 (nums64 l2) ∧ wq.ownsRow w.heap.size 4 1 (.slice (some ⟨g2, 0, none⟩) n c2) n (bls (fun x => decide (x ∈ l2)) n) ∧ Below w.heap.size w wq)) (fun _ _ v _ => m - (intOf v).toNat)
      case atStart => exact ⟨0, p, l, _, c, rfl, by omega, by omega, hpn, rfl, ⟨rfl, HL.out.2.1, HL.out.2.2.1, HL.out.2.2.2.1, HL.out.2.2.2.2.1, HL.out.2.2.2.2.2.1, HL.out.2.2.2.2.2.2⟩⟩
      case round =>
        obtain ⟨k, p2, l2, a, c, rfl, hk, hpp, hp2, rfl, HK⟩ := hrel
        by_cases hlk : k < m
        · obtain ⟨gA, oA, eA, _, cA0⟩ := (HZx.out.below HK.out.2.2.2.2.2.2) (by omega)
          have cA := cA0 k hlk
          have hb := hbx.out k (by rw [Hm.out]; exact hlk)
          have HS := Lib.hid (rows_part nx x k l)
          rw [eA]
          have HeA := Lib.hid eA
          have i3 : (k : Int) < (m : Int) := by omega
          clear cA0 eA
          generalize nx x k = t at cA hb HS
          by_cases ht : t = -1
          · subst ht
            have HZ : Hid (l2 = addR l ((List.range (k + 1)).map (nx x))) := by
              show _ = _
              rw [HS.out, ← HK.out.1]
              unfold addT
              rw [if_neg (by omega)]
            go_wp2_with fail
            go_roundw
            case rel => exact ⟨k + 1, p2, l2, a, c, by go_num, by omega, by omega, by omega, rfl, ⟨HZ.out, HK.out.2⟩⟩
            case measure => simp [intOf]; omega
          · obtain ⟨u, rfl⟩ : ∃ u : Nat, t = (u : Int) := ⟨t.toNat, by omega⟩
            have hu : u < n := by omega
            have i4 : (u : Int) < (n : Int) := by omega
            have ht2 : ((u : Int) != (-1 : Int)) = true := by first | (simp; done) | (simp; omega)
            obtain ⟨gS, eS, hgS, _, cS⟩ := ownsRow_read HK.out.2.2.2.2.2.1 (by omega)
            obtain rfl : gS = g2 := by
              injection eS with eS
              injection eS with eS _
              exact eS.symm
            have y0 := (cS u (by omega)).1
            have y1 := (cS u (by omega)).2
            have y2 : (bls (fun x => decide (x ∈ l2)) n)[u]? = some (.bool (decide (u ∈ l2))) := by simp [bls, hu]
            rw [y2] at y0
            clear cS y2 eS ht
            by_cases hin : u ∈ l2
            · have hd : decide (u ∈ l2) = true := by simp [hin]
              rw [hd] at y0
              have HZ : Hid (l2 = addR l ((List.range (k + 1)).map (nx x))) := by
                show _ = _
                rw [HS.out, ← HK.out.1]
                unfold addT
                rw [if_neg (by simp [hin])]
              clear hd hin
              go_wp2_with fail
              go_roundw
              case rel => exact ⟨k + 1, p2, l2, a, c, by go_num, by omega, by omega, by omega, rfl, ⟨HZ.out, HK.out.2⟩⟩
              case measure => simp [intOf]; omega
            · have hd : decide (u ∈ l2) = false := by simp [hin]
              rw [hd] at y0
              have HZ : Hid (l2 ++ [u] = addR l ((List.range (k + 1)).map (nx x))) := by
                show _ = _
                rw [HS.out, ← HK.out.1]
                unfold addT
                rw [if_pos ⟨by omega, by simpa using hin⟩]
                simp
              have HN : Hid ((l2 ++ [u]).Nodup ∧ ∀ x ∈ l2 ++ [u], x < n) := by
                refine ⟨?_, fun y hy => ?_⟩
                · rw [List.nodup_append]
                  exact ⟨HK.out.2.2.1, by simp, fun a ha b hb2 e => by
                    rw [List.mem_singleton.1 hb2] at e
                    rw [e] at ha
                    exact hin ha⟩
                · rcases List.mem_append.1 hy with h | h
                  · exact HK.out.2.2.2.1 y h
                  · rw [List.mem_singleton.1 h]; exact hu
              have hpn3 : p2 + 1 ≤ n := by
                have := nodup_below HN.out.1 HN.out.2
                simp [HK.out.2.1] at this
                exact this
              have HT : Hid ((wr.setCell ⟨gS, u, none⟩ (.bool true)).ownsRow w.heap.size 3 1 (.slice a p2 c) p2 (nums64 l2) ∧ (wr.setCell ⟨gS, u, none⟩ (.bool true)).ownsRow w.heap.size 4 1 (.slice (some ⟨gS, 0, none⟩) n c2) n (bls (fun x => decide (x ∈ l2 ++ [u])) n) ∧ Below w.heap.size w (wr.setCell ⟨gS, u, none⟩ (.bool true))) := by
                have h1 := HK.out.2.2.2.2.1
                have h2 := HK.out.2.2.2.2.2.1
                refine ⟨own_kept (ts := []) (bs := [gS]) h1 ((Kept.refl _ _ _).setCell _ _ (Or.inl (by simp))) (by simp) (fun b e hm => own_kinds h1 h2 (by decide) b e (by simp [List.mem_singleton.1 hm, Value.ownBlock])), ?_, HK.out.2.2.2.2.2.2.setCell (p := ⟨gS, u, none⟩) hgS _⟩
                have h3 := own_put h2 u hu (.bool true)
                rw [bls_setv] at h3
                have e : bls (fun x => decide (x ∈ l2 ++ [u])) n = bls (fun i => if i = u then true else decide (i ∈ l2)) n := bls_congr fun j hj => by
                  by_cases e : j = u
                  · simp [e]
                  · simp [e]
                rw [e]
                exact h3
              clear hd hin
              go_upto_region 11 with fail
              generalize wr.setCell ⟨gS, u, none⟩ (.bool true) = W5 at HT ⊢
              have hO := HT.out.1
              clear y0 y1
              go_wp2_with (at_builtin; refine wpList_append_own_at _ rfl _ _ 24 rfl w.heap.size 3 iI (.int .i64 0) 1 8 Try.underlying24 hI hI0 hI1 hI2 rfl (by decide) _ _ _ rfl (hO.alloc _) ⟨W5.heap.size, 0, none⟩ 1 1 [.int .i64 ((u : Nat) : Int)] rfl rfl (cell_one_new _ _ _) ?d2 ?d3 ?d4 ?d5 ?_)
              case d2 => first | (intro u hu; simp at hu; subst hu; rfl) | rfl
              case d3 => unfold maxLen; omega
              case d4 => omega
              case d5 => have := HT.out.2.2.size; simp at this ⊢; omega
              intro v5 w5 hown5 hgrow5 _ hat5
              obtain ⟨a5, c5, rfl⟩ := ownsRow_slice hown5
              have kk := al W5 (.cells #[.int .i64 ((u : Nat) : Int)] 3)
              have hs2 := HT.out.2.2.size
              have h2 := ownsRow_keep HT.out.2.1 kk
              have HY : Hid (w5.ownsRow w.heap.size 3 1 (.slice a5 (p2 + 1) c5) (p2 + 1) (nums64 (l2 ++ [u])) ∧ w5.ownsRow w.heap.size 4 1 (.slice (some ⟨gS, 0, none⟩) n c2) n (bls (fun x => decide (x ∈ l2 ++ [u])) n) ∧ Below w.heap.size w w5) := by
                refine ⟨by rw [nums64_snoc]; exact hown5, own_grown h2 hgrow5 (fun b e e2 => own_kinds h2 (hO.alloc _) (by decide) b e e2.symm), below_grown_own (HT.out.2.2.trans (kk.mono hs2)) (hO.alloc _) (Nat.le_trans hs2 kk.size) hgrow5⟩
              clear hown5 hgrow5 hat5 hO kk h2
              go_wp2_with fail
              go_roundw
              case rel => exact ⟨k + 1, p2 + 1, l2 ++ [u], a5, c5, by go_num, by omega, by omega, by omega, rfl, ⟨HZ.out, by rw [List.length_append, HK.out.2.1]; rfl, HN.out.1, HN.out.2, HY.out.1, HY.out.2.1, HY.out.2.2⟩⟩
              case measure => simp [intOf]; omega
        · obtain rfl : k = m := by omega
          have HZ : Hid (l2 = wkN (rowsF len nx) l0 (i + 1)) := by
            show _ = _
            rw [HGet.out, HK.out.1]
            unfold rowsF
            rw [Hm.out]
          go_wp2_with fail
          go_roundw
          case rel => exact ⟨i + 1, p2, l2, a, c, by go_num, by omega, hp2, rfl, ⟨HZ.out, HK.out.2⟩⟩
          case measure => simp [intOf]; omega
    · obtain rfl : i = p := by omega
      have HF : Hid (WkPost (rowsF len nx) l0 n w (.returned (.slice a i c)) wr) := ⟨l, i, a, c, rfl, HL.out.2.2.2.2.1, HL.out.1, HL.out.2.1, hpn, HL.out.2.2.2.1, HL.out.2.2.2.2.2.2⟩
      go_wp2_with fail
      go_ret
      exact HF.out
end Go.Proofs.Ytldpmcgkbdejjaa

namespace Go.Proofs.Ytldpmcgkbdejjaa
open Go.RowKit Go.Maps Go.WideElems Go.ChangeMaps Go.MapKept
set_option linter.unusedVariables false
set_option linter.unusedSimpArgs false

theorem drew_sz9 (w : World) : w.drew.heap.size = w.heap.size := rfl
theorem alloc_sz9 (w : World) (o : Obj) : (w.alloc o).heap.size = w.heap.size + 1 := by simp
theorem exec_bld10 {P : Program} {ρ : Operand → Value} {o : Oper} (w : World) (t : TypeId) (parts : Array (Nat × Operand)) (ho : o.op = .build t parts) (ps : Array (Nat × Value)) (hp : (parts.map fun (i, x) => (i, ρ x)) = ps) (v : Value) (hb : (Instr.build t ps).run P w = .ok v w) :
    (execOp ρ o).run P w = .ok (.value v) w := by
  unfold execOp
  simp only [ho, hp, Sem.run_bind, hb, Result.andThen_ok, Sem.run_pure]
theorem step_alloc9 {P : Program} {ops : Array Oper} {o : Oper} {a : Act} {w : World} {K : Act → World → Prop} {Q : Exit → Act → World → Prop} {E : Prop} (hgd : o.guard = none) (t : TypeId) (ho : o.op = .alloc t) (cs : Array Value) (hz : (zeroValue t).run P w = .ok (.agg cs) w)
    (h : K (a.put o.dst (.pointer (some ⟨w.heap.size, 0, none⟩))) (w.alloc (.cells cs t))) : if Region.wanted o (yielded ops a.tmps) = true then Oper.wp P o a w K Q else E := by
  have hw : Region.wanted o (yielded ops a.tmps) = true := by simp [Region.wanted, hgd]
  rw [if_pos hw]
  unfold Oper.wp execOp
  simp only [ho, Instr.alloc, Sem.run_bind, hz, Result.andThen_ok, newVar, newRow, newObj, Value.cells]
  exact h
theorem step_store9 {P : Program} {ops : Array Oper} {o : Oper} {a : Act} {w : World} {K : Act → World → Prop} {Q : Exit → Act → World → Prop} {E : Prop} (hgd : o.guard = none) (ty : TypeId) (x v : Operand) (ho : o.op = .store ty x v) (g t : Nat) (old cs : Array Value) (hx : a.eval x = .pointer (some ⟨g, 0, none⟩)) (hv : a.eval v = .agg cs)
    (hst : w.heap[g]? = some (.cells old t (0, 0))) (hsz : old.size = cs.size) (hi : (P.info? ty).map (·.size) = some cs.size) (h1 : ∀ u ∈ cs.toList, u.oneCell' = true) (h : K (a.put o.dst undef) (w.setRow g cs)) : if Region.wanted o (yielded ops a.tmps) = true then Oper.wp P o a w K Q else E := by
  have hrun : (storeVar ty ⟨g, 0, none⟩ (.agg cs)).run P w = .ok () (w.setRow g cs) := by
    have hs : (sizeOf ty).run P w = .ok cs.size w := by
      cases hq : P.info? ty with
      | none => simp [hq] at hi
      | some inf =>
        have : inf.size = cs.size := by simpa [hq] using hi
        simp [sizeOf, typeInfo, hq, this]
    have := run_storeCells_at (P := P) g 0 t cs.toList 0 old w hst (by simp [hsz]) h1
    unfold storeVar
    simp only [Sem.run_bind, hs, Result.andThen_ok]
    rw [if_neg (show ¬ ((Value.agg cs).cells.size ≠ cs.size) from fun h => h rfl)]
    show (storeCells ⟨g, 0, none⟩ cs.toList).run P w = _
    rw [this]
    congr 2
    have hd : List.drop cs.size old.toList = [] := List.drop_of_length_le (by simp [hsz])
    simp [hd]
  have hw : Region.wanted o (yielded ops a.tmps) = true := by simp [Region.wanted, hgd]
  rw [if_pos hw]
  unfold Oper.wp execOp
  simp only [ho, hx, hv, Instr.storeAt, Instr.sureAddr, Sem.run_bind, Sem.run_pure, Result.andThen_ok, hrun]
  exact h
open Classical in
/-- What is left of a row. -/
noncomputable def trF (D : Dd) (i c : Nat) : Int := if 0 ≤ D.nx i c ∧ ¬ Alv D (D.nx i c).toNat then -1 else D.nx i c
theorem TrA.start {V0 V : World} {K : Nat → Nat} {C m c b4 : Nat} {a : Option Addr} {ms : List Int} {ws : Nat → Value} (hm : V.ownsRow V0.heap.size 3 1 (.slice a m c) m (ints ms)) (hl : ms.length = m) (hb : Below V0.heap.size V0 V) (hst : St V 26 b4 (zC 26)) (hlo : V0.heap.size ≤ b4) :
    TrA V0 b4 K C (.slice none 0 0) [] ws (.slice a m c) ms (V.setRow b4 (dfC K (.slice none 0 0) (.slice a m c))) := by
  refine ⟨below_setRow9 hb hlo _, hst.setRow, ⟨World.ownsRow_nil _ _ _ _, fun i hi => absurd hi (by simp), fun i j hi => absurd hi (by simp)⟩, ?_, fun i hi => absurd hi (by simp), hlo⟩
  rw [hl]
  exact own_kept (ts := []) (bs := [b4]) hm (kept_setRow9 _ _ _) (by simp) (fun g e h => own_ne hm hst (by decide) g e (List.mem_singleton.1 h))

end Go.Proofs.Ytldpmcgkbdejjaa
