import Derived.Test.YtkdhdlokilgccaaZDBase
import Derived.Test.YtkdhdlokilgccaaZDLan
import Derived.Test.YtkdhdlokilgccaaZDSt
import Derived.Test.YtkdhdlokilgccaaZDStar
import Derived.StillTailTactics
import Derived.BigQuiet
import Derived.Deep.QuietTactic
import Derived.WalkSmall
import Derived.Deep.RegionWith
import Derived.Deep.OwnRows
namespace Go.Proofs.Ytkdhdlokilgccaa
open Go.RowKit
set_option linter.unusedVariables false

def orF (f h : Nat → Bool) : Nat → Bool := fun j => f j || h j
/-- Are two rows of truths alike, up to n? -/
def sameF (f h : Nat → Bool) : Nat → Bool
  | 0 => true
  | n + 1 => sameF f h n && (f n == h n)
/-- Any number of times. -/
def againF (E : (Nat → Bool) → Nat → Bool) (n : Nat) : Nat → (Nat → Bool) → Nat → Bool
  | 0, f => f
  | k + 1, f => if sameF (orF f (E f)) f n = true then orF f (E f) else againF E n k (orF f (E f))
/-- What a call gives: a row of truths. -/
def EndPost (n : Nat) (h : Nat → Bool) (w : World) (e : Ending) (w' : World) : Prop := ∃ a c, e = .returned (.slice a n c) ∧ BAt w' a n h ∧ Below w.heap.size w w'

set_option maxHeartbeats 1000000 in
set_option maxRecDepth 100000 in
theorem ragain_any (E : (Nat → Bool) → Nat → Bool) (vr : Value) (s : ByteArray) (N : Nat) (hs : s.size = N) (hN : N ≤ 99998) (w : World)
    (hE : ∀ f a c W, Below w.heap.size w W → BAt W a (N + 1) f → Calls Try.prog 40 #[vr, .string s, .slice a (N + 1) c] W (EndPost (N + 1) (E f) W))
    (f0 : Nat → Bool) (a0 : Option Addr) (c0 : Nat) (h0 : BAt w a0 (N + 1) f0) :
    Calls Try.prog 65 #[vr, .string s, .slice a0 (N + 1) c0] w (EndPost (N + 1) (againF E (N + 1) (N + 1) f0) w) := by
  have HE := Lib.hid hE
  have H0 := Lib.hid h0
  have HS := Lib.hid hs
  obtain ⟨R, hR⟩ : ∃ R, againF E (N + 1) (N + 1) f0 = R := ⟨_, rfl⟩
  rw [hR]
  have HR := Lib.hid hR
  clear hE h0 hR
  go_enter Try.func65, Try.ntmps65
  go_wp2_with fail
  go_loopw [2, 7] (fun v i wr => ∃ (q : Nat) (f : Nat → Bool) (a : Option Addr) (c : Nat), i = .int .i64 q ∧ q ≤ N + 1 ∧ v = .slice a (N + 1) c ∧ Hid (BAt wr a (N + 1) f) ∧ Hid (againF E (N + 1) (N + 1 - q) f = R) ∧ Below w.heap.size w wr) (fun _ i _ => N + 2 - (intOf i).toNat)
  case atStart => exact ⟨0, f0, a0, c0, rfl, Nat.zero_le _, rfl, H0.out, by show _ = _; rw [Nat.sub_zero]; exact HR.out, Below.refl _ _⟩
  case round =>
    obtain ⟨q, f, a, c, rfl, hq, rfl, HB, HG, hbel⟩ := hrel
    by_cases hlt : q ≤ N
    · have hsz := hbel.size
      go_wp2_with fail
      refine (HE.out f a c wr hbel HB.out).mono ?_
      rintro e w5 ⟨a5, c5, rfl, h5, b5⟩
      have hf5 := HB.out.below b5
      have hb5 := hbel.trans (b5.mono hsz)
      go_wp2_with fail
      refine (ror_any f (E f) a a5 (N + 1) c c5 w5 hf5 h5 (by omega)).mono ?_
      rintro e w6 ⟨a6, c6, rfl, hO6, b6⟩
      have hb6 := hb5.trans (b6.mono hb5.size)
      have hs6 := hb6.size
      have HST : Hid (againF E (N + 1) (N + 1 - q) f = if sameF (orF f (E f)) f (N + 1) = true then orF f (E f) else againF E (N + 1) (N - q) (orF f (E f))) := by
        show _ = _
        rw [show N + 1 - q = (N - q) + 1 by omega]; rfl
      have h6 : BAt w6 a6 (N + 1) (orF f (E f)) := bls_at hO6
      obtain ⟨g, hg⟩ : ∃ g, orF f (E f) = g := ⟨_, rfl⟩
      rw [hg] at HST h6
      have H6 := Lib.hid h6
      have HF6 := Lib.hid (hf5.below b6)
      have HB6 := Lib.hid hb6
      clear hO6 h6 hf5 hg h5 b5 b6 hb5 HB hbel hb6
      go_wp2_with fail
      go_loopw [9, 10] (fun v i wx => ∃ j : Nat, i = .int .i64 j ∧ j ≤ N + 1 ∧ v = .bool (sameF g f j) ∧ Hid (Below w6.heap.size w6 wx)) (fun _ i _ => N + 1 - (intOf i).toNat)
      case atStart => exact ⟨0, rfl, Nat.zero_le _, rfl, Below.refl _ _⟩
      case round =>
        obtain ⟨j, rfl, hj, rfl, HX⟩ := hrel
        by_cases hjn : j < N + 1
        · obtain ⟨g1, o1, rfl, hg1, hc1⟩ := (H6.out.below HX.out) (by omega)
          obtain ⟨g2, o2, rfl, hg2, hc2⟩ := (HF6.out.below HX.out) (by omega)
          have d1 := hc1 j hjn
          have d2 := hc2 j hjn
          have HSS : Hid (sameF g f (j + 1) = (sameF g f j && (g j == f j))) := Lib.hid rfl
          obtain ⟨b, hb⟩ : ∃ b, sameF g f j = b := ⟨_, rfl⟩
          rw [hb] at HSS ⊢
          obtain ⟨x, hx⟩ : ∃ x, g j = x := ⟨_, rfl⟩
          obtain ⟨y, hy⟩ : ∃ y, f j = y := ⟨_, rfl⟩
          rw [hx] at d1 HSS
          rw [hy] at d2 HSS
          clear hc1 hc2 hb hx hy
          go_wp2_with fail
          rcases b with _ | _
          · go_quiet (fail)
            go_wp2_with fail
            go_roundw
            case rel => exact ⟨j + 1, by go_num, by omega, by rw [HSS.out]; simp, below_drewN HX.out _⟩
            case measure => simp [intOf]; omega
          · go_quiet (fail)
            go_wp2_with fail
            go_roundw
            case rel => exact ⟨j + 1, by go_num, by omega, by rw [HSS.out]; simp, below_drewN HX.out _⟩
            case measure => simp [intOf]; omega
        · obtain rfl : j = N + 1 := by omega
          have hbX := HB6.out.trans (HX.out.mono hs6)
          obtain ⟨b, hb⟩ : ∃ b, sameF g f (N + 1) = b := ⟨_, rfl⟩
          rw [hb] at HST ⊢
          clear hb
          rcases b with _ | _
          · have HZ : Hid (againF E (N + 1) (N - q) g = R) := by show _ = _; rw [← HG.out, HST.out]; simp
            have HBX := Lib.hid hbX
            clear hbX
            go_wp2_with fail
            go_roundw
            case rel => exact ⟨q + 1, g, a6, c6, by go_num, by omega, rfl, H6.out.below HX.out, by show _ = _; rw [show N + 1 - (q + 1) = N - q by omega]; exact HZ.out, HBX.out⟩
            case measure => simp [intOf]; omega
          · have HZ : Hid (g = R) := by show _ = _; rw [← HG.out, HST.out]; simp
            have HBX := Lib.hid hbX
            clear hbX
            go_wp2_with fail
            go_ret
            exact ⟨a6, c6, rfl, by rw [← HZ.out]; exact H6.out.below HX.out, HBX.out⟩
    · obtain rfl : q = N + 1 := by omega
      have HZ : Hid (f = R) := by
        show _ = _
        have := HG.out
        rw [Nat.sub_self] at this
        exact this
      go_wp2_with fail
      go_ret
      exact ⟨a, c, rfl, by rw [← HZ.out]; exact HB.out, hbel⟩
end Go.Proofs.Ytkdhdlokilgccaa

namespace Go.Proofs.Ytkdhdlokilgccaa
open Go.RowKit
set_option linter.unusedVariables false

/-- At which places do texts of an expression end that begin at some? -/
def endF (s : ByteArray) (N : Nat) : Rx → (Nat → Bool) → Nat → Bool
  | .leaf x => fun f => if x.k = 1 then fun j => match j with | 0 => false | i + 1 => f i && x.p (s.get! i).toNat else f
  | .un x a => fun f => if x.k = 6 then orF f (endF s N a f) else if x.k = 4 then againF (endF s N a) (N + 1) (N + 1) f else againF (endF s N a) (N + 1) (N + 1) (endF s N a f)
  | .bin x a b => fun f => if x.k = 2 then endF s N b (endF s N a f) else orF (endF s N a f) (endF s N b f)
def EndsOk (t : Rx) : Prop := ∀ (s : ByteArray) (N : Nat), s.size = N → N ≤ 99998 → ∀ (g off n cap : Nat) (w : World) (f : Nat → Bool) (a : Option Addr) (c : Nat), RxAt w (some ⟨g, off, none⟩) t.flat → t.flat.length = n → n ≤ 1000000 → n ≤ cap ∧ cap ≤ maxLen → BAt w a (N + 1) f →
  Calls Try.prog 40 #[.slice (some ⟨g, off, none⟩) n cap, .string s, .slice a (N + 1) c] w (EndPost (N + 1) (endF s N t f) w)
theorem make_bools (N : Nat) (hN : N ≤ 99998) (W : World) : (Instr.makeSlice 47 (.int .i64 ((N : Int) + 1)) (.int .i64 ((N : Int) + 1))).run Try.prog W = .ok (.slice (some ⟨W.heap.size, 0, none⟩) (N + 1) (N + 1)) (W.alloc (.cells (madeCells #[.bool false] (N + 1)) 4)) := by
  have := run_make_row' (P := Try.prog) 47 4 (.bool false) 1 Try.underlying47 Try.info_bool rfl .i64 .i64 (N + 1) (by omega) (by omega) W
  simpa using this

set_option maxHeartbeats 2000000 in
set_option maxRecDepth 100000 in
theorem ends_opt (x : Pc) (s : Rx) (hk : x.k = 6) (hw : ((Rx.un x s)).wf) (ih : EndsOk s) : EndsOk (.un x s) := by
  intro s0 N hs hN g off n cap w f a c hL hn hmax hcap hF
  obtain ⟨m, hm⟩ : ∃ m, n - 1 = m := ⟨_, rfl⟩
  have hpos := (Rx.un x s).flat_pos
  have hn1 : n = m + 1 := by omega
  obtain ⟨g', off', e, hg, d0, -⟩ := hL.get m (by omega)
  simp at e
  obtain ⟨rfl, rfl⟩ := e
  have hx0 : (Rx.un x s).flat[m]'(by omega) = x := by
    have h1 := (Rx.un x s).flat_top
    rw [hn, hm, List.getElem?_eq_getElem (by omega)] at h1
    exact Option.some.inj h1
  rw [hx0] at d0
  have hB : Below w.heap.size w (w.alloc (.cells (madeCells #[.bool false] (N + 1)) 4)) := (Below.refl _ _).alloc (Nat.le_refl _) _
  have HC := Lib.hid (rparts_cap (.un x s) hw g off n cap _ (hL.below hB) hn hmax hcap)
  have HB := Lib.hid hB
  have HF := Lib.hid hF
  have HK := Lib.hid hk
  have HS := Lib.hid hs
  have hmk := make_bools N hN
  have hsz := hB.size
  have en : (n : Int) - 1 = (m : Int) := by omega
  have hmn : m < n := by omega
  have hcc : n ≤ 9223372036854775807 := by have := hcap.1; have := hcap.2; unfold maxLen at this; omega
  have hsl : s.flat.length ≤ 1000000 := by have : (Rx.un x s).flat.length = s.flat.length + 1 := by simp [Rx.flat]
                                           omega
  clear hL hn hcap hB hx0 hw hn1 hm hpos hk hs hF
  go_enter Try.func40, Try.ntmps40
  go_wp2_with fail
  refine HC.out.mono ?_
  rintro e w5 ⟨aL, cL, rfl, hPt, b5⟩
  have hB5 := HB.out.trans (b5.mono hsz)
  have hs5 := hB5.size
  have e0 := (hB5.cell (p := ⟨g, off + m * 5, none⟩) hg).trans d0
  have HF5 := Lib.hid (HF.out.below hB5)
  have hk := HK.out
  have k0 : (x.k == 0) = false := by simp; omega
  have k1 : (x.k == 1) = false := by simp; omega
  have k2 : (x.k == 2) = false := by simp; omega
  have k3 : (x.k == 3) = false := by simp; omega
  have k6 : (x.k == 6) = true := by simp [hk]
  obtain ⟨b, g1, o1, c1, rfl, hc1, hR1, _, hbl, hm1, hm1'⟩ := hPt 0 (by show 0 < 1; decide)
  obtain ⟨n1, hn1⟩ : ∃ n1, s.flat.length = n1 := ⟨_, rfl⟩
  have t1 : w5.cell? ⟨b, 0, none⟩ = some (.slice (some ⟨g1, o1, none⟩) n1 c1) := by rw [← hn1]; exact hc1
  have HI := Lib.hid (fun (W : World) (bw : Below w5.heap.size w5 W) (f : Nat → Bool) (a : Option Addr) (c : Nat) (hf : BAt W a (N + 1) f) => ih s0 N HS.out hN g1 o1 n1 c1 W f a c (hR1.below bw) hn1 (by omega) ⟨by rw [← hn1]; exact hm1, hm1'⟩ hf)
  rw [show (Rx.un x s).kids.length = 1 from rfl]
  have HE : Hid (endF s0 N (.un x s) f = orF f (endF s0 N s f)) := by show (if x.k = 6 then _ else _ : (Nat → Bool)) = _; rw [if_pos hk]
  clear hPt hc1 hR1 hn1 hm1 hm1' hk
  go_wp2_with fail
  refine (HI.out w5 (Below.refl _ _) f a c HF5.out).mono ?_
  rintro e w6 ⟨a6, c6, rfl, h6, b6⟩
  have hb6 := hB5.trans (b6.mono hs5)
  have HF6 := Lib.hid (HF5.out.below b6)
  go_wp2_with fail
  refine (ror_any f (endF s0 N s f) a a6 (N + 1) c c6 w6 HF6.out h6 (by omega)).mono ?_
  rintro e w7 ⟨a7, c7, rfl, h7, b7⟩
  go_wp2_with fail
  go_ret
  exact ⟨a7, c7, rfl, by rw [HE.out]; exact bls_at h7, hb6.trans (b7.mono hb6.size)⟩

set_option maxHeartbeats 2000000 in
set_option maxRecDepth 100000 in
theorem ends_star (x : Pc) (s : Rx) (hk : x.k = 4) (hw : ((Rx.un x s)).wf) (ih : EndsOk s) : EndsOk (.un x s) := by
  intro s0 N hs hN g off n cap w f a c hL hn hmax hcap hF
  obtain ⟨m, hm⟩ : ∃ m, n - 1 = m := ⟨_, rfl⟩
  have hpos := (Rx.un x s).flat_pos
  have hn1 : n = m + 1 := by omega
  obtain ⟨g', off', e, hg, d0, -⟩ := hL.get m (by omega)
  simp at e
  obtain ⟨rfl, rfl⟩ := e
  have hx0 : (Rx.un x s).flat[m]'(by omega) = x := by
    have h1 := (Rx.un x s).flat_top
    rw [hn, hm, List.getElem?_eq_getElem (by omega)] at h1
    exact Option.some.inj h1
  rw [hx0] at d0
  have hB : Below w.heap.size w (w.alloc (.cells (madeCells #[.bool false] (N + 1)) 4)) := (Below.refl _ _).alloc (Nat.le_refl _) _
  have HC := Lib.hid (rparts_cap (.un x s) hw g off n cap _ (hL.below hB) hn hmax hcap)
  have HB := Lib.hid hB
  have HF := Lib.hid hF
  have HK := Lib.hid hk
  have HS := Lib.hid hs
  have hmk := make_bools N hN
  have hsz := hB.size
  have en : (n : Int) - 1 = (m : Int) := by omega
  have hmn : m < n := by omega
  have hcc : n ≤ 9223372036854775807 := by have := hcap.1; have := hcap.2; unfold maxLen at this; omega
  have hsl : s.flat.length ≤ 1000000 := by have : (Rx.un x s).flat.length = s.flat.length + 1 := by simp [Rx.flat]
                                           omega
  clear hL hn hcap hB hx0 hw hn1 hm hpos hk hs hF
  go_enter Try.func40, Try.ntmps40
  go_wp2_with fail
  refine HC.out.mono ?_
  rintro e w5 ⟨aL, cL, rfl, hPt, b5⟩
  have hB5 := HB.out.trans (b5.mono hsz)
  have hs5 := hB5.size
  have e0 := (hB5.cell (p := ⟨g, off + m * 5, none⟩) hg).trans d0
  have HF5 := Lib.hid (HF.out.below hB5)
  have hk := HK.out
  have k0 : (x.k == 0) = false := by simp; omega
  have k1 : (x.k == 1) = false := by simp; omega
  have k2 : (x.k == 2) = false := by simp; omega
  have k3 : (x.k == 3) = false := by simp; omega
  have k6 : (x.k == 6) = false := by simp; omega
  have k4 : (x.k == 4) = true := by simp [hk]
  obtain ⟨b, g1, o1, c1, rfl, hc1, hR1, _, hbl, hm1, hm1'⟩ := hPt 0 (by show 0 < 1; decide)
  obtain ⟨n1, hn1⟩ : ∃ n1, s.flat.length = n1 := ⟨_, rfl⟩
  have t1 : w5.cell? ⟨b, 0, none⟩ = some (.slice (some ⟨g1, o1, none⟩) n1 c1) := by rw [← hn1]; exact hc1
  have HI := Lib.hid (fun (W : World) (bw : Below w5.heap.size w5 W) (f : Nat → Bool) (a : Option Addr) (c : Nat) (hf : BAt W a (N + 1) f) => ih s0 N HS.out hN g1 o1 n1 c1 W f a c (hR1.below bw) hn1 (by omega) ⟨by rw [← hn1]; exact hm1, hm1'⟩ hf)
  rw [show (Rx.un x s).kids.length = 1 from rfl]
  have HE : Hid (endF s0 N (.un x s) f = againF (endF s0 N s) (N + 1) (N + 1) f) := by show (if x.k = 6 then _ else if x.k = 4 then _ else _ : (Nat → Bool)) = _; rw [if_neg (by omega), if_pos hk]
  clear hPt hc1 hR1 hn1 hm1 hm1' hk
  go_wp2_with fail
  refine (ragain_any (endF s0 N s) _ s0 N HS.out hN w5 (fun f a c W bw hf => HI.out W bw f a c hf) f a c HF5.out).mono ?_
  rintro e w6 ⟨a6, c6, rfl, h6, b6⟩
  go_wp2_with fail
  go_ret
  exact ⟨a6, c6, rfl, by rw [HE.out]; exact h6, hB5.trans (b6.mono hs5)⟩
end Go.Proofs.Ytkdhdlokilgccaa

namespace Go.Proofs.Ytkdhdlokilgccaa
open Go.RowKit Go.Maps Go.WideElems Go.ChangeMaps Go.MapKept
set_option linter.unusedVariables false

/-- The blocks that are a pile's. -/
def pileBlks (b : Nat) (vA vI : Value) : List Nat := b :: (vA.ownBlock.toList ++ vI.ownBlock.toList)
theorem mem_pileBlks {b : Nat} {vA vI : Value} {g : Nat} : g ∈ pileBlks b vA vI ↔ g = b ∨ vA.ownBlock = some g ∨ vI.ownBlock = some g := by
  simp [pileBlks]
/-- What a call on a pile leaves. -/
structure PFr (B b : Nat) (w : World) (vA vI : Value) (w' : World) (vA' vI' : Value) : Prop where
  below : Below B w w'
  kept : Kept [] (pileBlks b vA vI) w w'
  sub : ∀ g, g ∈ pileBlks b vA' vI' → g ∈ pileBlks b vA vI ∨ w.heap.size ≤ g
theorem PFr.refl (B b : Nat) (w : World) (vA vI : Value) : PFr B b w vA vI w vA vI := ⟨Below.refl _ _, Kept.refl _ _ _, fun _ h => Or.inl h⟩
def AddPost (w : World) (B b : Nat) (l : List Nat) (vA vI : Value) (n : Nat) (e : Ending) (w' : World) : Prop :=
  ∃ (l' : List Nat) (m' : Nat) (vA' vI' : Value), e = .returned (.tuple #[]) ∧ PileAt w' B b l' m' vA' vI' ∧ (∀ i, i ∈ l' ↔ i ∈ l ∨ i = n) ∧ PFr B b w vA vI w' vA' vI'
theorem own_put {w : World} {base e g n c : Nat} {xs : List Value} (h : w.ownsRow base e 1 (.slice (some ⟨g, 0, none⟩) n c) n xs) (j : Nat) (hj : j < n) (u : Value) : (w.setCell ⟨g, j, none⟩ u).ownsRow base e 1 (.slice (some ⟨g, 0, none⟩) n c) n (xs.set j u) := by
  refine ⟨by rw [List.length_set]; exact h.1, ?_⟩
  rcases h.2 with ⟨h1, _⟩ | ⟨g', cap, cur, h1, h2, h3, h4, h5, h6, h7⟩
  · cases h1
  · injection h1 with e1 _ e3
    injection e1 with e1
    injection e1 with e1
    subst e1 e3
    refine Or.inr ⟨g, c, cur.setIfInBounds j u, rfl, h2, heap_setCell_same w g j cur e u h3, h4, h5, by simpa using h6, ?_⟩
    rw [Array.toList_setIfInBounds, ← h7]
    rw [List.take_set]
theorem bls_set (f : Nat → Bool) (m n : Nat) : (bls f m).set n (.bool true) = bls (fun j => f j || j == n) m := by
  apply List.ext_getElem?
  intro i
  rw [List.getElem?_set]
  by_cases hi : i < m
  · by_cases e : n = i
    · subst e
      simp [bls, hi]
    · have e' : (i == n) = false := by simp; omega
      simp only [bls, if_neg e, List.getElem?_map, List.getElem?_range hi, Option.map_some, e', Bool.or_false]
  · by_cases e : n = i
    · subst e
      simp [bls, hi]
    · simp [bls, e, List.getElem?_eq_none (by simp; omega : (List.range m).length ≤ i)]
theorem bls_more (f : Nat → Bool) (m k : Nat) (h : ∀ j, m ≤ j → f j = false) : bls f m ++ List.replicate k (.bool false) = bls f (m + k) := by
  induction k with
  | zero => simp
  | succ k ih => rw [List.replicate_succ', ← List.append_assoc, ih, ← Nat.add_assoc, bls_succ, h (m + k) (by omega)]
theorem nodup_below {l : List Nat} (h : l.Nodup) {m : Nat} (hm : ∀ n ∈ l, n < m) : l.length ≤ m := by
  have := h.length_le_of_subset (l₂ := List.range m) (fun x hx => by simpa using hm x hx)
  simpa using this
theorem bls_congr {f g : Nat → Bool} {m : Nat} (h : ∀ j, j < m → f j = g j) : bls f m = bls g m := by
  unfold bls
  exact List.map_congr_left (fun j hj => by rw [h j (by simpa using hj)])

set_option maxHeartbeats 1500000 in
set_option maxRecDepth 100000 in
theorem pile_add (w : World) (B b : Nat) (l : List Nat) (m : Nat) (vA vI : Value) (h : PileAt w B b l m vA vI) (hB : B ≤ w.heap.size) (n : Nat) (hn : n < 1000000) :
    Calls Try.prog 58 #[.pointer (some ⟨b, 0, none⟩), .int .i64 n] w (AddPost w B b l vA vI n) := by
  by_cases hmem : n ∈ l
  · have hhas := pile_has w B b l m vA vI h n (by omega)
    have HH := Lib.hid h
    rw [decide_eq_true hmem] at hhas
    have HM := Lib.hid hmem
    have HA := Lib.hid hhas
    clear h hmem hhas
    go_enter Try.func58, Try.ntmps58
    go_wp2_with fail
    refine HA.out.mono ?_
    rintro e w' ⟨rfl, rfl⟩
    go_wp2_with fail
    refine bodyPost_ret (results_none rfl _ _ _) rfl ?_
    exact ⟨l, m, vA, vI, rfl, HH.out, fun i => ⟨Or.inl, fun h => h.elim id (fun e => by rw [e]; exact HM.out)⟩, PFr.refl _ _ _ _ _⟩
  · have hhas := pile_has w B b l m vA vI h n (by omega)
    rw [decide_eq_false hmem] at hhas
    have HM := Lib.hid hmem
    have HA := Lib.hid hhas
    obtain ⟨iA, hiA, hzA0, hzA1, hzA2⟩ := info_parts Try.info_int
    obtain ⟨iB, hiB, hzB0, hzB1, hzB2⟩ := info_parts Try.info_bool
    obtain ⟨aI, cI, rfl⟩ := ownsRow_slice h.tin
    obtain ⟨k0, k1⟩ := row2 h.st
    have hbig := h.big
    have hcI : m ≤ cI ∧ cI ≤ maxLen := by
      rcases h.tin.2 with ⟨h1, h2⟩ | ⟨g, cap, cu, h1, _, _, h2, h3, _⟩
      · injection h1 with _ e1 e2
        exact ⟨by omega, by rw [e2]; unfold maxLen; omega⟩
      · injection h1 with _ _ h4
        subst h4
        exact ⟨h2, h3⟩
    obtain ⟨p, hp⟩ : ∃ p, l.length = p := ⟨_, rfl⟩
    have hpm : p ≤ 1000000 := by have := nodup_below h.nd h.lt; omega
    have HH := Lib.hid h
    have HP := Lib.hid hp
    have hbB : B ≤ b := h.base
    have hbl := h.st.lt
    have f1 := h.st.thaw 1
    clear h hmem hhas hp
    go_enter Try.func58, Try.ntmps58
    go_wp2_with fail
    refine HA.out.mono ?_
    rintro e w' ⟨rfl, rfl⟩
    by_cases hlt : n < m
    · have i1 : ¬ ((m : Int) ≤ (n : Int)) := by omega
      obtain ⟨gI, rfl, -, hgI, -⟩ := ownsRow_read HH.out.tin (by omega)
      have hS7 := HH.out.st
      have hO7 := HH.out.tin
      have hA7 := HH.out.all
      rw [HP.out] at hA7
      have hb7 : Below B w w := Below.refl _ _
      have hk7 : Kept [] (pileBlks b vA (.slice (some ⟨gI, 0, none⟩) m cI)) w w := Kept.refl _ _ _
      have hsub7 : ∀ g, g ∈ pileBlks b vA (.slice (some ⟨gI, 0, none⟩) m cI) → g ∈ pileBlks b vA (.slice (some ⟨gI, 0, none⟩) m cI) ∨ w.heap.size ≤ g := fun _ h => Or.inl h
      have hnm : n < m := hlt
      have hmb : m ≤ 1000000 := by omega
      have d0 : w.cell? ⟨gI, n, none⟩ = some (.bool false) := by
        obtain ⟨g', e1, _, _, hcell⟩ := ownsRow_read hO7 (by omega)
        injection e1 with e1
        injection e1 with e1
        rw [e1, (hcell n (by omega)).1]
        have := HM.out
        simp [bls, hnm, this]
      have d1 : w.frozen? ⟨gI, n, none⟩ = false := by
        obtain ⟨g', e1, _, _, hcell⟩ := ownsRow_read hO7 (by omega)
        injection e1 with e1
        injection e1 with e1
        rw [e1]
        exact (hcell n (by omega)).2
      have nb : ¬ gI = b := own_ne hO7 hS7 (by decide) gI rfl
      obtain ⟨k0, k1⟩ := row2 hS7
      have hS8 := hS7.far (p := ⟨gI, n, none⟩) (fun e => nb e.symm) (.bool true)
      have hO8 := own_put hO7 n hnm (.bool true)
      rw [bls_set] at hO8
      have hA8 : (w.setCell ⟨gI, n, none⟩ (.bool true)).ownsRow B 3 1 vA p (nums64 l) := own_kept (ts := []) (bs := [gI]) hA7 ((Kept.refl _ _ _).setCell _ _ (Or.inl (by simp))) (by simp) (fun g hg => by
        have := own_ne_own hA7 hO7 (by decide) g hg
        simp [Value.ownBlock] at this
        simp
        exact fun e => this e.symm)
      have hgB : B ≤ gI := own_above hO7 gI rfl
      have hb8 := hb7.setCell (p := ⟨gI, n, none⟩) hgB (.bool true)
      have hk8 := hk7.setCell ⟨gI, n, none⟩ (.bool true) (by
        rcases hsub7 gI (mem_pileBlks.2 (Or.inr (Or.inr rfl))) with h | h
        · exact Or.inl h
        · exact Or.inr (Or.inl h))
      have hW8 : w.heap.size ≤ (w.setCell ⟨gI, n, none⟩ (.bool true)).heap.size := by simp [World.setCell]
      have i2 : (n : Int) < ((m : Nat) : Int) := by omega
      have i3 : (0 : Int) ≤ (n : Int) := by omega
      have HX8 := Lib.hid (And.intro hS8 (And.intro hO8 (And.intro hA8 (And.intro hb8 (And.intro hk8 hsub7)))))
      clear hS7 hO7 hA7 hb7 hk7 hsub7 hS8 hO8 hA8 hb8 hk8
      go_upto_region 4 with (fail)
      clear d0 d1 k0 k1
      obtain ⟨hS8, hO8, hA8, hb8, hk8, hsub7⟩ := HX8.out
      clear HX8
      generalize w.setCell ⟨gI, n, none⟩ (.bool true) = W8 at hS8 hO8 hA8 hb8 hk8 hW8 ⊢
      obtain ⟨k0, k1⟩ := row2 hS8
      have f0 := hS8.thaw 0
      have hS9 := hS8.alloc (.cells #[.int .i64 ((n : Nat) : Int)] 3)
      have k09 := (row2 hS9).1
      have hb9 := hb8.alloc (by omega) (.cells #[.int .i64 ((n : Nat) : Int)] 3)
      have hA9 := hA8.alloc (.cells #[.int .i64 ((n : Nat) : Int)] 3)
      have hO9 := hO8.alloc (.cells #[.int .i64 ((n : Nat) : Int)] 3)
      have hk9 := hk8.alloc (.cells #[.int .i64 ((n : Nat) : Int)] 3)
      have hB9 : B ≤ (W8.alloc (.cells #[.int .i64 ((n : Nat) : Int)] 3)).heap.size := by simp; omega
      have hw9 : w.heap.size ≤ (W8.alloc (.cells #[.int .i64 ((n : Nat) : Int)] 3)).heap.size := hb9.size
      have HX9 := Lib.hid (And.intro hS9 (And.intro hO9 (And.intro hb9 (And.intro hk9 hsub7))))
      have hS9h := Lib.hid hS9
      clear hS8 hO8 hA8 hb8 hk8 hsub7 hS9 hO9 hb9 hk9
      go_wp2_with (at_builtin; refine wpList_append_lies _ rfl _ _ _ rfl B 3 iA (.int .i64 0) 1 8 Try.underlying61 hiA hzA0 hzA1 hzA2 rfl (by decide) vA p (nums64 l) rfl hA9 ⟨W8.heap.size, 0, none⟩ 1 1 [.int .i64 ((n : Nat) : Int)] rfl rfl (World.news_of_block (cs := #[.int .i64 ((n : Nat) : Int)]) (by first | exact heap_alloc_new _ _ | exact St.new _ _ _)) (by intro u hu; simp at hu; rcases hu with rfl; rfl) (by omega) (by unfold maxLen; omega) (by omega) hB9 _ rfl ?_; intro gA cA wA hownA hgrowA hatA hltA; have hSA : St wA 84 b #[vA, .slice (some ⟨gI, 0, none⟩) m cI] := (hS9h.out.grown_own hA9 (by decide) hgrowA); have fA0 := hSA.thaw 0; have cA0 := (row2 hSA).1)
      all_goals
        go_end0
        obtain ⟨hS9, hO9, hb9, hk9, hsub9⟩ := HX9.out
        have hP1 : (l ++ [n]).length = p + 1 := by rw [List.length_append, HP.out]; rfl
        have hO10 := own_set (own_grown_own hO9 hA9 (by decide) hgrowA) hSA (by decide) 0 (.slice (some ⟨gA, 0, none⟩) (p + 1) cA)
        have e10 : bls (fun j => decide (j ∈ l) || j == n) m = bls (fun j => decide (j ∈ l ++ [n])) m := bls_congr (fun j _ => by
          by_cases h1 : j ∈ l <;> by_cases h2 : j = n <;> simp [h1, h2])
        rw [e10] at hO10
        have hA10 := own_set hownA hSA (by decide) 0 (.slice (some ⟨gA, 0, none⟩) (p + 1) cA)
        have e11 : nums64 l ++ [.int .i64 ((n : Nat) : Int)] = nums64 (l ++ [n]) := by simp [nums64]
        rw [e11] at hA10
        refine ⟨l ++ [n], m, .slice (some ⟨gA, 0, none⟩) (p + 1) cA, .slice (some ⟨gI, 0, none⟩) m cI, rfl, ⟨hSA.set 0 _, by rw [hP1]; exact hA10, hO10, fun i hi => ?_, hmb, ?_, hbB⟩, fun i => by simp, ⟨(below_grown_own hb9 hA9 hB9 hgrowA).setCell (p := ⟨b, 0, none⟩) hbB _, (hk9.grown hgrowA (fun g e => Or.inl (mem_pileBlks.2 (Or.inr (Or.inl e))))).setCell _ _ (Or.inl (mem_pileBlks.2 (Or.inl rfl))), fun g hg => ?_⟩⟩
        · rcases List.mem_append.1 hi with h | h
          · have := HH.out.lt i h; omega
          · rw [List.mem_singleton.1 h]; exact hnm
        · exact List.nodup_append.2 ⟨HH.out.nd, by simp, fun a ha c hc e => HM.out (by rw [← List.mem_singleton.1 hc, ← e]; exact ha)⟩
        · rcases mem_pileBlks.1 hg with h | h | h
          · exact Or.inl (mem_pileBlks.2 (Or.inl h))
          · have h1 : gA = g := by simpa [Value.ownBlock] using h
            rcases hatA with h2 | h2
            · exact Or.inl (mem_pileBlks.2 (Or.inr (Or.inl (by rw [h2, h1]))))
            · exact Or.inr (by omega)
          · exact hsub9 g (mem_pileBlks.2 (Or.inr (Or.inr h)))
    · have i1 : (m : Int) ≤ (n : Int) := by omega
      obtain ⟨q, hq⟩ : ∃ q, n + 1 - m = q := ⟨_, rfl⟩
      have hq1 : (n : Int) + 1 - (m : Int) = ((q : Nat) : Int) := by omega
      have hq2 : 0 < q := by omega
      have hq3 : m + q ≤ n + 1 := by omega
      have hq4 : n + 1 ≤ m + q := by omega
      have e1 : IntKind.i64.wrap ((n : Int) + 1) = (n : Int) + 1 := IntWalk.i64_in _ (by omega)
      have e2 : IntKind.i64.wrap ((q : Nat) : Int) = ((q : Nat) : Int) := IntWalk.i64_in _ (by omega)
      clear hq
      go_wp2_with fail
      have hO1 : w.drew.ownsRow B 4 1 (.slice aI m cI) m (bls (fun j => decide (j ∈ l)) m) := HH.out.tin.drew
      have hS1 : St w.drew 84 b #[vA, .slice aI m cI] := HH.out.st
      go_region_law (refine step_append_zeros w.drew (by rfl) _ _ _ _ (by rfl) B 4 .i64 iB (.bool false) 1 Try.underlying47 Try.underlying3 hiB hzB0 hzB1 hzB2 (by rfl) (by rfl) _ m _ (by rfl) hO1 q (by rfl) hq2 (by unfold maxLen; omega) (by omega) (by omega) hB ?_
                     intro gI cap6 w6 hown6 hgrow6 hat6 hlt6
                     have hS6 : St w6 84 b #[vA, .slice aI m cI] := hS1.grown_own hO1 (by decide) hgrow6
                     have f6 := hS6.thaw 1
                     have c6 : w6.cell? ⟨b, 1, none⟩ = some (.slice aI m cI) := (by rw [hS6.cell]; rfl))
      all_goals
        have hA6 : w6.ownsRow B 3 1 vA p (nums64 l) := by
          have := own_grown_own HH.out.all.drew hO1 (by decide) hgrow6
          rwa [HP.out] at this
        have hS7 : St (w6.setCell ⟨b, 1, none⟩ (.slice (some ⟨gI, 0, none⟩) (m + q) cap6)) 84 b #[vA, .slice (some ⟨gI, 0, none⟩) (m + q) cap6] := hS6.set 1 _
        have hO7 := own_set hown6 hS6 (by decide) 1 (.slice (some ⟨gI, 0, none⟩) (m + q) cap6)
        have hA7 := own_set hA6 hS6 (by decide) 1 (.slice (some ⟨gI, 0, none⟩) (m + q) cap6)
        have hf : ∀ j, m ≤ j → decide (j ∈ l) = false := fun j hj => decide_eq_false (fun h => by have := HH.out.lt j h; omega)
        rw [bls_more _ _ _ hf] at hO7
        have hb7 : Below B w (w6.setCell ⟨b, 1, none⟩ (.slice (some ⟨gI, 0, none⟩) (m + q) cap6)) := (below_grown_own (Below.refl _ _).drew hO1 hB hgrow6).setCell (p := ⟨b, 1, none⟩) hbB _
        have hk7 : Kept [] (pileBlks b vA (.slice aI m cI)) w (w6.setCell ⟨b, 1, none⟩ (.slice (some ⟨gI, 0, none⟩) (m + q) cap6)) := ((Kept.refl _ _ _).drew.grown hgrow6 (fun g e => Or.inl (mem_pileBlks.2 (Or.inr (Or.inr e))))).setCell _ _ (Or.inl (mem_pileBlks.2 (Or.inl rfl)))
        have hsub7 : ∀ g, g ∈ pileBlks b vA (.slice (some ⟨gI, 0, none⟩) (m + q) cap6) → g ∈ pileBlks b vA (.slice aI m cI) ∨ w.heap.size ≤ g := fun g hg => by
          rcases mem_pileBlks.1 hg with h | h | h
          · exact Or.inl (mem_pileBlks.2 (Or.inl h))
          · exact Or.inl (mem_pileBlks.2 (Or.inr (Or.inl h)))
          · injection h with h
            rcases hat6 with h2 | h2
            · exact Or.inl (mem_pileBlks.2 (Or.inr (Or.inr (by rw [h2]; exact congrArg some h))))
            · have h3 : gI = w.heap.size := h2
              exact Or.inr (by have : gI = g := h; omega)
        have hnm : n < m + q := by omega
        have hmb : m + q ≤ 1000000 := by omega
        clear hA6 hown6 hgrow6 hat6 hlt6 c6 f6 hS6
        generalize w6.setCell ⟨b, 1, none⟩ (.slice (some ⟨gI, 0, none⟩) (m + q) cap6) = W7 at hS7 hO7 hA7 hb7 hk7 ⊢
        have hW7 : w.heap.size ≤ W7.heap.size := hb7.size
        have hmm : m ≤ m + q := by omega
        generalize m + q = m1 at hS7 hO7 hsub7 hnm hmb hq3 hq4 hmm ⊢
        have d0 : W7.cell? ⟨gI, n, none⟩ = some (.bool false) := by
          obtain ⟨g', e1, _, _, hcell⟩ := ownsRow_read hO7 (by omega)
          injection e1 with e1
          injection e1 with e1
          rw [e1, (hcell n (by omega)).1]
          have := HM.out
          simp [bls, hnm, this]
        have d1 : W7.frozen? ⟨gI, n, none⟩ = false := by
          obtain ⟨g', e1, _, _, hcell⟩ := ownsRow_read hO7 (by omega)
          injection e1 with e1
          injection e1 with e1
          rw [e1]
          exact (hcell n (by omega)).2
        have nb : ¬ gI = b := own_ne hO7 hS7 (by decide) gI rfl
        obtain ⟨k0, k1⟩ := row2 hS7
        have hS8 := hS7.far (p := ⟨gI, n, none⟩) (fun e => nb e.symm) (.bool true)
        have hO8 := own_put hO7 n hnm (.bool true)
        rw [bls_set] at hO8
        have hA8 : (W7.setCell ⟨gI, n, none⟩ (.bool true)).ownsRow B 3 1 vA p (nums64 l) := own_kept (ts := []) (bs := [gI]) hA7 ((Kept.refl _ _ _).setCell _ _ (Or.inl (by simp))) (by simp) (fun g hg => by
          have := own_ne_own hA7 hO7 (by decide) g hg
          simp [Value.ownBlock] at this
          simp
          exact fun e => this e.symm)
        have hgB : B ≤ gI := own_above hO7 gI rfl
        have hb8 := hb7.setCell (p := ⟨gI, n, none⟩) hgB (.bool true)
        have hk8 := hk7.setCell ⟨gI, n, none⟩ (.bool true) (by
          rcases hsub7 gI (mem_pileBlks.2 (Or.inr (Or.inr rfl))) with h | h
          · exact Or.inl h
          · exact Or.inr (Or.inl h))
        have hW8 : W7.heap.size ≤ (W7.setCell ⟨gI, n, none⟩ (.bool true)).heap.size := by simp [World.setCell]
        have i2 : (n : Int) < ((m1 : Nat) : Int) := by omega
        have i3 : (0 : Int) ≤ (n : Int) := by omega
        have HX8 := Lib.hid (And.intro hS8 (And.intro hO8 (And.intro hA8 (And.intro hb8 (And.intro hk8 hsub7)))))
        clear hS7 hO7 hA7 hb7 hk7 hsub7 hS8 hO8 hA8 hb8 hk8
        go_upto_region 4 with (fail)
        clear d0 d1 k0 k1
        obtain ⟨hS8, hO8, hA8, hb8, hk8, hsub7⟩ := HX8.out
        clear HX8
        generalize W7.setCell ⟨gI, n, none⟩ (.bool true) = W8 at hS8 hO8 hA8 hb8 hk8 hW8 ⊢
        obtain ⟨k0, k1⟩ := row2 hS8
        have f0 := hS8.thaw 0
        have hS9 := hS8.alloc (.cells #[.int .i64 ((n : Nat) : Int)] 3)
        have k09 := (row2 hS9).1
        have hb9 := hb8.alloc (by omega) (.cells #[.int .i64 ((n : Nat) : Int)] 3)
        have hA9 := hA8.alloc (.cells #[.int .i64 ((n : Nat) : Int)] 3)
        have hO9 := hO8.alloc (.cells #[.int .i64 ((n : Nat) : Int)] 3)
        have hk9 := hk8.alloc (.cells #[.int .i64 ((n : Nat) : Int)] 3)
        have hB9 : B ≤ (W8.alloc (.cells #[.int .i64 ((n : Nat) : Int)] 3)).heap.size := by simp; omega
        have hw9 : w.heap.size ≤ (W8.alloc (.cells #[.int .i64 ((n : Nat) : Int)] 3)).heap.size := hb9.size
        have HX9 := Lib.hid (And.intro hS9 (And.intro hO9 (And.intro hb9 (And.intro hk9 hsub7))))
        have hS9h := Lib.hid hS9
        clear hS8 hO8 hA8 hb8 hk8 hsub7 hS9 hO9 hb9 hk9
        go_wp2_with (at_builtin; refine wpList_append_lies _ rfl _ _ _ rfl B 3 iA (.int .i64 0) 1 8 Try.underlying61 hiA hzA0 hzA1 hzA2 rfl (by decide) vA p (nums64 l) rfl hA9 ⟨W8.heap.size, 0, none⟩ 1 1 [.int .i64 ((n : Nat) : Int)] rfl rfl (World.news_of_block (cs := #[.int .i64 ((n : Nat) : Int)]) (by first | exact heap_alloc_new _ _ | exact St.new _ _ _)) (by intro u hu; simp at hu; rcases hu with rfl; rfl) (by omega) (by unfold maxLen; omega) (by omega) hB9 _ rfl ?_; intro gA cA wA hownA hgrowA hatA hltA; have hSA : St wA 84 b #[vA, .slice (some ⟨gI, 0, none⟩) m1 cap6] := (hS9h.out.grown_own hA9 (by decide) hgrowA); have fA0 := hSA.thaw 0; have cA0 := (row2 hSA).1)
        all_goals
          go_end0
          obtain ⟨hS9, hO9, hb9, hk9, hsub9⟩ := HX9.out
          have hP1 : (l ++ [n]).length = p + 1 := by rw [List.length_append, HP.out]; rfl
          have hO10 := own_set (own_grown_own hO9 hA9 (by decide) hgrowA) hSA (by decide) 0 (.slice (some ⟨gA, 0, none⟩) (p + 1) cA)
          have e10 : bls (fun j => decide (j ∈ l) || j == n) m1 = bls (fun j => decide (j ∈ l ++ [n])) m1 := bls_congr (fun j _ => by
            by_cases h1 : j ∈ l <;> by_cases h2 : j = n <;> simp [h1, h2])
          rw [e10] at hO10
          have hA10 := own_set hownA hSA (by decide) 0 (.slice (some ⟨gA, 0, none⟩) (p + 1) cA)
          have e11 : nums64 l ++ [.int .i64 ((n : Nat) : Int)] = nums64 (l ++ [n]) := by simp [nums64]
          rw [e11] at hA10
          refine ⟨l ++ [n], m1, .slice (some ⟨gA, 0, none⟩) (p + 1) cA, .slice (some ⟨gI, 0, none⟩) m1 cap6, rfl, ⟨hSA.set 0 _, by rw [hP1]; exact hA10, hO10, fun i hi => ?_, hmb, ?_, hbB⟩, fun i => by simp, ⟨(below_grown_own hb9 hA9 hB9 hgrowA).setCell (p := ⟨b, 0, none⟩) hbB _, (hk9.grown hgrowA (fun g e => Or.inl (mem_pileBlks.2 (Or.inr (Or.inl e))))).setCell _ _ (Or.inl (mem_pileBlks.2 (Or.inl rfl))), fun g hg => ?_⟩⟩
          · rcases List.mem_append.1 hi with h | h
            · have := HH.out.lt i h; omega
            · rw [List.mem_singleton.1 h]; exact hnm
          · exact List.nodup_append.2 ⟨HH.out.nd, by simp, fun a ha c hc e => HM.out (by rw [← List.mem_singleton.1 hc, ← e]; exact ha)⟩
          · rcases mem_pileBlks.1 hg with h | h | h
            · exact Or.inl (mem_pileBlks.2 (Or.inl h))
            · have h1 : gA = g := by simpa [Value.ownBlock] using h
              rcases hatA with h2 | h2
              · exact Or.inl (mem_pileBlks.2 (Or.inr (Or.inl (by rw [h2, h1]))))
              · exact Or.inr (by omega)
            · exact hsub9 g (mem_pileBlks.2 (Or.inr (Or.inr h)))
end Go.Proofs.Ytkdhdlokilgccaa
