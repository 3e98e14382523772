import Derived.Test.YtkdhdlokilgccaaZDAdd
import Derived.Test.YtkdhdlokilgccaaZDBase
import Derived.Test.YtkdhdlokilgccaaZDMath
import Derived.Test.YtkdhdlokilgccaaZDNumE
import Derived.Deep.RegionWith
import Derived.Deep.OwnRows
import Derived.Deep.RegionHeld3
import Derived.StillTailTactics
namespace Go.Proofs.Ytkdhdlokilgccaa
open Go.RowKit
set_option linter.unusedVariables false


set_option maxHeartbeats 2000000 in
set_option maxRecDepth 100000 in
theorem ends_cat (x : Pc) (s t : Rx) (hk : x.k = 2) (hw : ((Rx.bin x s t)).wf) (ih : EndsOk s) (jh : EndsOk t) : EndsOk (.bin x s t) := by
  intro s0 N hs hN g off n cap w f a c hL hn hmax hcap hF
  obtain ⟨m, hm⟩ : ∃ m, n - 1 = m := ⟨_, rfl⟩
  have hpos := (Rx.bin x s t).flat_pos
  have hn1 : n = m + 1 := by omega
  obtain ⟨g', off', e, hg, d0, -⟩ := hL.get m (by omega)
  simp at e
  obtain ⟨rfl, rfl⟩ := e
  have hx0 : (Rx.bin x s t).flat[m]'(by omega) = x := by
    have h1 := (Rx.bin x s t).flat_top
    rw [hn, hm, List.getElem?_eq_getElem (by omega)] at h1
    exact Option.some.inj h1
  rw [hx0] at d0
  have hB : Below w.heap.size w (w.alloc (.cells (madeCells #[.bool false] (N + 1)) 4)) := (Below.refl _ _).alloc (Nat.le_refl _) _
  have HC := Lib.hid (rparts_cap (.bin x s t) hw g off n cap _ (hL.below hB) hn hmax hcap)
  have HB := Lib.hid hB
  have HF := Lib.hid hF
  have HK := Lib.hid hk
  have HS := Lib.hid hs
  have hmk := make_bools N hN
  have hsz := hB.size
  have en : (n : Int) - 1 = (m : Int) := by omega
  have hmn : m < n := by omega
  have hcc : n ≤ 9223372036854775807 := by have := hcap.1; have := hcap.2; unfold maxLen at this; omega
  have hsl : s.flat.length ≤ 1000000 ∧ t.flat.length ≤ 1000000 := by
    have : (Rx.bin x s t).flat.length = s.flat.length + t.flat.length + 1 := by simp [Rx.flat]; omega
    omega
  clear hL hn hcap hB hx0 hw hn1 hm hpos hk hs hF
  go_enter Try.func40, Try.ntmps40
  go_wp2_with fail
  refine HC.out.mono ?_
  rintro e w5 ⟨aL, cL, rfl, hPt, b5⟩
  have hB5 := HB.out.trans (b5.mono hsz)
  have hs5 := hB5.size
  have e0 := (hB5.cell (p := ⟨g, off + m * 5, none⟩) hg).trans d0
  have HF5 := Lib.hid (HF.out.below hB5)
  have hk := HK.out
  have k0 : (x.k == 0) = false := by simp; omega
  have k1 : (x.k == 1) = false := by simp; omega
  have k2 : (x.k == 2) = true := by simp [hk]
  obtain ⟨b, g1, o1, c1, rfl, hc1, hR1, _, hbl, hm1, hm1'⟩ := hPt 0 (by show 0 < 2; decide)
  obtain ⟨b', g2, o2, c2, hbb, hc2, hR2, _, _, hm2, hm2'⟩ := hPt 1 (by show 1 < 2; decide)
  simp at hbb
  subst hbb
  obtain ⟨n1, hn1⟩ : ∃ n1, s.flat.length = n1 := ⟨_, rfl⟩
  obtain ⟨n2, hn2⟩ : ∃ n2, t.flat.length = n2 := ⟨_, rfl⟩
  have t1 : w5.cell? ⟨b, 0, none⟩ = some (.slice (some ⟨g1, o1, none⟩) n1 c1) := by rw [← hn1]; exact hc1
  have t2 : w5.cell? ⟨b, 1, none⟩ = some (.slice (some ⟨g2, o2, none⟩) n2 c2) := by rw [← hn2]; exact hc2
  have HI := Lib.hid (fun (W : World) (bw : Below w5.heap.size w5 W) (f : Nat → Bool) (a : Option Addr) (c : Nat) (hf : BAt W a (N + 1) f) => ih s0 N HS.out hN g1 o1 n1 c1 W f a c (hR1.below bw) hn1 (by omega) ⟨by rw [← hn1]; exact hm1, hm1'⟩ hf)
  have HJ := Lib.hid (fun (W : World) (bw : Below w5.heap.size w5 W) (f : Nat → Bool) (a : Option Addr) (c : Nat) (hf : BAt W a (N + 1) f) => jh s0 N HS.out hN g2 o2 n2 c2 W f a c (hR2.below bw) hn2 (by omega) ⟨by rw [← hn2]; exact hm2, hm2'⟩ hf)
  rw [show (Rx.bin x s t).kids.length = 2 from rfl]
  have HE : Hid (endF s0 N (.bin x s t) f = endF s0 N t (endF s0 N s f)) := by show (if x.k = 2 then _ else _ : (Nat → Bool)) = _; rw [if_pos hk]
  clear hPt hc1 hR1 hn1 hm1 hm1' hc2 hR2 hn2 hm2 hm2' hk
  have tok1 : True := trivial
  have tok2 : True := trivial
  go_wp2_with fail
  go_region_with (first
    | (have _t := tok1; go_at_call 40; refine (HI.out w5.drew (Below.refl _ _).drew f a c HF5.out).mono ?_; rintro e w6 ⟨a6, c6, rfl, h6, b6'⟩; have b6 : Below w5.heap.size w5 w6 := ⟨b6'.os, b6'.tape, b6'.output, b6'.size, b6'.block⟩; have t6 := (b6.cell (p := ⟨b, 1, none⟩) hbl).trans t2; clear _t tok1)
    | (have _u := tok2; go_at_call 40; refine (HJ.out w6 b6 (endF s0 N s f) a6 c6 h6).mono ?_; rintro e w7 ⟨a7, c7, rfl, h7, b7⟩; clear _u tok2))
  all_goals
    go_wp2_with fail
    go_ret
    exact ⟨a7, c7, rfl, by rw [HE.out]; exact h7, (hB5.trans (b6.mono hs5)).trans (b7.mono (Nat.le_trans hs5 b6.size))⟩
end Go.Proofs.Ytkdhdlokilgccaa

namespace Go.Proofs.Ytkdhdlokilgccaa
open Go.RowKit
set_option linter.unusedVariables false


set_option maxHeartbeats 2000000 in
set_option maxRecDepth 100000 in
theorem ends_alt (x : Pc) (s t : Rx) (hk : x.k = 3) (hw : ((Rx.bin x s t)).wf) (ih : EndsOk s) (jh : EndsOk t) : EndsOk (.bin x s t) := by
  intro s0 N hs hN g off n cap w f a c hL hn hmax hcap hF
  obtain ⟨m, hm⟩ : ∃ m, n - 1 = m := ⟨_, rfl⟩
  have hpos := (Rx.bin x s t).flat_pos
  have hn1 : n = m + 1 := by omega
  obtain ⟨g', off', e, hg, d0, -⟩ := hL.get m (by omega)
  simp at e
  obtain ⟨rfl, rfl⟩ := e
  have hx0 : (Rx.bin x s t).flat[m]'(by omega) = x := by
    have h1 := (Rx.bin x s t).flat_top
    rw [hn, hm, List.getElem?_eq_getElem (by omega)] at h1
    exact Option.some.inj h1
  rw [hx0] at d0
  have hB : Below w.heap.size w (w.alloc (.cells (madeCells #[.bool false] (N + 1)) 4)) := (Below.refl _ _).alloc (Nat.le_refl _) _
  have HC := Lib.hid (rparts_cap (.bin x s t) hw g off n cap _ (hL.below hB) hn hmax hcap)
  have HB := Lib.hid hB
  have HF := Lib.hid hF
  have HK := Lib.hid hk
  have HS := Lib.hid hs
  have hmk := make_bools N hN
  have hsz := hB.size
  have en : (n : Int) - 1 = (m : Int) := by omega
  have hmn : m < n := by omega
  have hcc : n ≤ 9223372036854775807 := by have := hcap.1; have := hcap.2; unfold maxLen at this; omega
  have hsl : s.flat.length ≤ 1000000 ∧ t.flat.length ≤ 1000000 := by
    have : (Rx.bin x s t).flat.length = s.flat.length + t.flat.length + 1 := by simp [Rx.flat]; omega
    omega
  clear hL hn hcap hB hx0 hw hn1 hm hpos hk hs hF
  go_enter Try.func40, Try.ntmps40
  go_wp2_with fail
  refine HC.out.mono ?_
  rintro e w5 ⟨aL, cL, rfl, hPt, b5⟩
  have hB5 := HB.out.trans (b5.mono hsz)
  have hs5 := hB5.size
  have e0 := (hB5.cell (p := ⟨g, off + m * 5, none⟩) hg).trans d0
  have HF5 := Lib.hid (HF.out.below hB5)
  have hk := HK.out
  have k0 : (x.k == 0) = false := by simp; omega
  have k1 : (x.k == 1) = false := by simp; omega
  have k2 : (x.k == 2) = false := by simp; omega
  have k3 : (x.k == 3) = true := by simp [hk]
  obtain ⟨b, g1, o1, c1, rfl, hc1, hR1, _, hbl, hm1, hm1'⟩ := hPt 0 (by show 0 < 2; decide)
  obtain ⟨b', g2, o2, c2, hbb, hc2, hR2, _, _, hm2, hm2'⟩ := hPt 1 (by show 1 < 2; decide)
  simp at hbb
  subst hbb
  obtain ⟨n1, hn1⟩ : ∃ n1, s.flat.length = n1 := ⟨_, rfl⟩
  obtain ⟨n2, hn2⟩ : ∃ n2, t.flat.length = n2 := ⟨_, rfl⟩
  have t1 : w5.cell? ⟨b, 0, none⟩ = some (.slice (some ⟨g1, o1, none⟩) n1 c1) := by rw [← hn1]; exact hc1
  have t2 : w5.cell? ⟨b, 1, none⟩ = some (.slice (some ⟨g2, o2, none⟩) n2 c2) := by rw [← hn2]; exact hc2
  have HI := Lib.hid (fun (W : World) (bw : Below w5.heap.size w5 W) (f : Nat → Bool) (a : Option Addr) (c : Nat) (hf : BAt W a (N + 1) f) => ih s0 N HS.out hN g1 o1 n1 c1 W f a c (hR1.below bw) hn1 (by omega) ⟨by rw [← hn1]; exact hm1, hm1'⟩ hf)
  have HJ := Lib.hid (fun (W : World) (bw : Below w5.heap.size w5 W) (f : Nat → Bool) (a : Option Addr) (c : Nat) (hf : BAt W a (N + 1) f) => jh s0 N HS.out hN g2 o2 n2 c2 W f a c (hR2.below bw) hn2 (by omega) ⟨by rw [← hn2]; exact hm2, hm2'⟩ hf)
  rw [show (Rx.bin x s t).kids.length = 2 from rfl]
  have HE : Hid (endF s0 N (.bin x s t) f = orF (endF s0 N s f) (endF s0 N t f)) := by show (if x.k = 2 then _ else _ : (Nat → Bool)) = _; rw [if_neg (by omega)]
  clear hPt hc1 hR1 hn1 hm1 hm1' hc2 hR2 hn2 hm2 hm2' hk
  have tok1 : True := trivial
  have tok2 : True := trivial
  go_wp2_with fail
  go_region_with (first
    | (have _t := tok1; go_at_call 40; refine (HI.out w5.drew (Below.refl _ _).drew f a c HF5.out).mono ?_; rintro e w6 ⟨a6, c6, rfl, h6, b6'⟩; have b6 : Below w5.heap.size w5 w6 := ⟨b6'.os, b6'.tape, b6'.output, b6'.size, b6'.block⟩; have t6 := (b6.cell (p := ⟨b, 1, none⟩) hbl).trans t2; have HF6 := Lib.hid (HF5.out.below b6); clear _t tok1)
    | (have _u := tok2; go_at_call 40; refine (HJ.out w6 b6 f a c HF6.out).mono ?_; rintro e w7 ⟨a7, c7, rfl, h7, b7⟩; have h67 := h6.below b7; clear _u tok2)
    | (go_at_call 64; refine (ror_any (endF s0 N s f) (endF s0 N t f) a6 a7 (N + 1) c6 c7 w7 h67 h7 (by omega)).mono ?_; rintro e w8 ⟨a8, c8, rfl, h8, b8⟩))
  all_goals
    go_wp2_with fail
    go_ret
    exact ⟨a8, c8, rfl, by rw [HE.out]; exact bls_at h8, ((hB5.trans (b6.mono hs5)).trans (b7.mono (Nat.le_trans hs5 b6.size))).trans (b8.mono (Nat.le_trans hs5 (Nat.le_trans b6.size b7.size)))⟩
end Go.Proofs.Ytkdhdlokilgccaa

namespace Go.Proofs.Ytkdhdlokilgccaa
open Go.RowKit
set_option linter.unusedVariables false


set_option maxHeartbeats 2000000 in
set_option maxRecDepth 100000 in
theorem ends_plus (x : Pc) (s : Rx) (hk : x.k = 5) (hw : ((Rx.un x s)).wf) (ih : EndsOk s) : EndsOk (.un x s) := by
  intro s0 N hs hN g off n cap w f a c hL hn hmax hcap hF
  obtain ⟨m, hm⟩ : ∃ m, n - 1 = m := ⟨_, rfl⟩
  have hpos := (Rx.un x s).flat_pos
  have hn1 : n = m + 1 := by omega
  obtain ⟨g', off', e, hg, d0, -⟩ := hL.get m (by omega)
  simp at e
  obtain ⟨rfl, rfl⟩ := e
  have hx0 : (Rx.un x s).flat[m]'(by omega) = x := by
    have h1 := (Rx.un x s).flat_top
    rw [hn, hm, List.getElem?_eq_getElem (by omega)] at h1
    exact Option.some.inj h1
  rw [hx0] at d0
  have hB : Below w.heap.size w (w.alloc (.cells (madeCells #[.bool false] (N + 1)) 4)) := (Below.refl _ _).alloc (Nat.le_refl _) _
  have HC := Lib.hid (rparts_cap (.un x s) hw g off n cap _ (hL.below hB) hn hmax hcap)
  have HB := Lib.hid hB
  have HF := Lib.hid hF
  have HK := Lib.hid hk
  have HS := Lib.hid hs
  have hmk := make_bools N hN
  have hsz := hB.size
  have en : (n : Int) - 1 = (m : Int) := by omega
  have hmn : m < n := by omega
  have hcc : n ≤ 9223372036854775807 := by have := hcap.1; have := hcap.2; unfold maxLen at this; omega
  have hsl : s.flat.length ≤ 1000000 := by have : (Rx.un x s).flat.length = s.flat.length + 1 := by simp [Rx.flat]
                                           omega
  clear hL hn hcap hB hx0 hw hn1 hm hpos hk hs hF
  go_enter Try.func40, Try.ntmps40
  go_wp2_with fail
  refine HC.out.mono ?_
  rintro e w5 ⟨aL, cL, rfl, hPt, b5⟩
  have hB5 := HB.out.trans (b5.mono hsz)
  have hs5 := hB5.size
  have e0 := (hB5.cell (p := ⟨g, off + m * 5, none⟩) hg).trans d0
  have HF5 := Lib.hid (HF.out.below hB5)
  have hk := HK.out
  have k0 : (x.k == 0) = false := by simp; omega
  have k1 : (x.k == 1) = false := by simp; omega
  have k2 : (x.k == 2) = false := by simp; omega
  have k3 : (x.k == 3) = false := by simp; omega
  have k6 : (x.k == 6) = false := by simp; omega
  have k4 : (x.k == 4) = false := by simp; omega
  obtain ⟨b, g1, o1, c1, rfl, hc1, hR1, _, hbl, hm1, hm1'⟩ := hPt 0 (by show 0 < 1; decide)
  obtain ⟨n1, hn1⟩ : ∃ n1, s.flat.length = n1 := ⟨_, rfl⟩
  have t1 : w5.cell? ⟨b, 0, none⟩ = some (.slice (some ⟨g1, o1, none⟩) n1 c1) := by rw [← hn1]; exact hc1
  have HI := Lib.hid (fun (W : World) (bw : Below w5.heap.size w5 W) (f : Nat → Bool) (a : Option Addr) (c : Nat) (hf : BAt W a (N + 1) f) => ih s0 N HS.out hN g1 o1 n1 c1 W f a c (hR1.below bw) hn1 (by omega) ⟨by rw [← hn1]; exact hm1, hm1'⟩ hf)
  rw [show (Rx.un x s).kids.length = 1 from rfl]
  have HE : Hid (endF s0 N (.un x s) f = againF (endF s0 N s) (N + 1) (N + 1) (endF s0 N s f)) := by show (if x.k = 6 then _ else if x.k = 4 then _ else _ : (Nat → Bool)) = _; rw [if_neg (by omega), if_neg (by omega)]
  clear hPt hc1 hR1 hn1 hm1 hm1' hk
  go_wp2_with fail
  go_region_with (first
    | (go_at_call 40; refine (HI.out w5.drew (Below.refl _ _).drew f a c HF5.out).mono ?_; rintro e w6 ⟨a6, c6, rfl, h6, b6'⟩; have b6 : Below w5.heap.size w5 w6 := ⟨b6'.os, b6'.tape, b6'.output, b6'.size, b6'.block⟩; have t6 := (b6.cell (p := ⟨b, 0, none⟩) hbl).trans t1)
    | (go_at_call 65; refine (ragain_any (endF s0 N s) _ s0 N HS.out hN w6 (fun f a c W bw hf => HI.out W (b6.trans (bw.mono b6.size)) f a c hf) (endF s0 N s f) a6 c6 h6).mono ?_; rintro e w7 ⟨a7, c7, rfl, h7, b7⟩))
  all_goals
    go_wp2_with fail
    go_ret
    exact ⟨a7, c7, rfl, by rw [HE.out]; exact h7, (hB5.trans (b6.mono hs5)).trans (b7.mono (Nat.le_trans hs5 b6.size))⟩
end Go.Proofs.Ytkdhdlokilgccaa

namespace Go.Proofs.Ytkdhdlokilgccaa
open Go.RowKit
set_option linter.unusedVariables false

set_option maxHeartbeats 1000000 in
set_option maxRecDepth 100000 in
theorem ends_none (x : Pc) (hk : x.k = 0) (hw : (Rx.leaf x).wf) : EndsOk (.leaf x) := by
  intro s0 N hs hN g off n cap w f a c hL hn hmax hcap hF
  obtain rfl : n = 1 := by rw [← hn]; rfl
  obtain ⟨g', off', e, hg, d0, -⟩ := hL.get 0 (by simp [Rx.flat])
  simp at e
  obtain ⟨rfl, rfl⟩ := e
  have hx0 : (Rx.leaf x).flat[0]'(by simp [Rx.flat]) = x := rfl
  rw [hx0] at d0
  simp only [Nat.zero_mul, Nat.add_zero] at d0
  have hB : Below w.heap.size w (w.alloc (.cells (madeCells #[.bool false] (N + 1)) 4)) := (Below.refl _ _).alloc (Nat.le_refl _) _
  have HC := Lib.hid (rparts_cap (.leaf x) hw g off 1 cap _ (hL.below hB) hn hmax hcap)
  have HB := Lib.hid hB
  have HF := Lib.hid hF
  have HK := Lib.hid hk
  have hmk := make_bools N hN
  have hsz := hB.size
  clear hL hn hcap hB hx0 hw hk hs hF
  go_enter Try.func40, Try.ntmps40
  go_wp2_with fail
  refine HC.out.mono ?_
  rintro e w5 ⟨aL, cL, rfl, hPt, b5⟩
  have hB5 := HB.out.trans (b5.mono hsz)
  have e0 := (hB5.cell (p := ⟨g, off, none⟩) hg).trans d0
  have hk := HK.out
  have k0 : (x.k == 0) = true := by simp [hk]
  have HE : Hid (endF s0 N (.leaf x) f = f) := by show (if x.k = 1 then _ else _ : (Nat → Bool)) = _; rw [if_neg (by omega)]
  clear hPt hk
  go_wp2_with fail
  go_ret
  exact ⟨a, c, rfl, by rw [HE.out]; exact HF.out.below hB5, hB5⟩
end Go.Proofs.Ytkdhdlokilgccaa

namespace Go.Proofs.Ytkdhdlokilgccaa
open Go.RowKit
set_option linter.unusedVariables false

/-- What has been written of the row after k rounds. -/
def oneG (f : Nat → Bool) (p : Nat → Bool) (s : ByteArray) (k : Nat) : Nat → Bool := fun j => match j with | 0 => false | i + 1 => decide (i < k) && (f i && p (s.get! i).toNat)
def oneRow (f : Nat → Bool) (p : Nat → Bool) (s : ByteArray) (k n : Nat) : Array Value := (bls (oneG f p s k) n).toArray
theorem oneRow_size (f p : Nat → Bool) (s : ByteArray) (k n : Nat) : (oneRow f p s k n).size = n := by simp [oneRow, bls]
theorem oneRow_get (f p : Nat → Bool) (s : ByteArray) (k n j : Nat) (h : j < n) : (oneRow f p s k n)[j]? = some (.bool (oneG f p s k j)) := by simp [oneRow, bls, h]
theorem oneRow_start (f p : Nat → Bool) (s : ByteArray) (n : Nat) : madeCells #[.bool false] n = oneRow f p s 0 n := by
  apply Array.ext
  · rw [size_madeCells, oneRow_size]
  · intro j h1 h2
    rw [oneRow_size] at h2
    have e := oneRow_get f p s 0 n j h2
    rw [Array.getElem?_eq_getElem (by rw [oneRow_size]; exact h2)] at e
    rw [Option.some.inj e]
    have h0 : oneG f p s 0 j = false := by cases j <;> simp [oneG]
    rw [h0]
    simp [madeCells, Nat.mod_one]
theorem oneRow_set (f p : Nat → Bool) (s : ByteArray) (k n : Nat) (h : k + 1 < n) : (oneRow f p s k n).setIfInBounds (k + 1) (.bool (f k && p (s.get! k).toNat)) = oneRow f p s (k + 1) n := by
  apply Array.ext
  · simp [oneRow_size]
  · intro j h1 h2
    rw [oneRow_size] at h2
    have e := oneRow_get f p s (k + 1) n j h2
    rw [Array.getElem?_eq_getElem (by rw [oneRow_size]; exact h2)] at e
    rw [Option.some.inj e]
    by_cases hj : j = k + 1
    · subst hj
      rw [Array.getElem_setIfInBounds_self]
      simp [oneG]
    · rw [Array.getElem_setIfInBounds_ne (by simpa [oneRow_size] using h2) (Ne.symm hj)]
      have e2 := oneRow_get f p s k n j h2
      rw [Array.getElem?_eq_getElem (by rw [oneRow_size]; exact h2)] at e2
      rw [Option.some.inj e2]
      congr 1
      match j, hj with
      | 0, _ => rfl
      | i + 1, hj =>
        show (decide (i < k) && _) = (decide (i < k + 1) && _)
        rw [show decide (i < k) = decide (i < k + 1) from by simp; omega]

set_option maxHeartbeats 1500000 in
set_option maxRecDepth 100000 in
theorem ends_one (x : Pc) (hk : x.k = 1) (hw : (Rx.leaf x).wf) : EndsOk (.leaf x) := by
  intro s0 N hs hN g off n cap w f a c hL hn hmax hcap hF
  obtain rfl : n = 1 := by rw [← hn]; rfl
  obtain ⟨g', off', e, hg, d0, d1, d2, d3, d4⟩ := hL.get 0 (by simp [Rx.flat])
  simp at e
  obtain ⟨rfl, rfl⟩ := e
  have hx0 : (Rx.leaf x).flat[0]'(by simp [Rx.flat]) = x := rfl
  rw [hx0] at d0 d1 d2 d3 d4
  simp only [Nat.zero_mul, Nat.add_zero] at d0 d1 d2 d3 d4
  have hB : Below w.heap.size w (w.alloc (.cells (madeCells #[.bool false] (N + 1)) 4)) := (Below.refl _ _).alloc (Nat.le_refl _) _
  have hM := St.new w 4 (madeCells #[.bool false] (N + 1))
  rw [oneRow_start f x.p s0 (N + 1)] at hM
  have HC := Lib.hid (rparts_cap (.leaf x) hw g off 1 cap _ (hL.below hB) hn hmax hcap)
  have HM : Hid (St (w.alloc (.cells (madeCells #[.bool false] (N + 1)) 4)) 4 w.heap.size (oneRow f x.p s0 0 (N + 1))) := by
    show St _ _ _ _
    rw [oneRow_start f x.p s0 (N + 1)]; exact hM
  have HB := Lib.hid hB
  have HF := Lib.hid hF
  have HK := Lib.hid hk
  have HS := Lib.hid hs
  have hmk := make_bools N hN
  have hsz := hB.size
  clear hL hn hcap hB hx0 hw hk hs hF hM
  go_enter Try.func40, Try.ntmps40
  go_wp2_with fail
  refine HC.out.mono ?_
  rintro e w5 ⟨aL, cL, rfl, hPt, b5⟩
  have hB5 := HB.out.trans (b5.mono hsz)
  have e0 := (hB5.cell (p := ⟨g, off, none⟩) hg).trans d0
  have hk := HK.out
  have k0 : (x.k == 0) = false := by simp; omega
  have k1 : (x.k == 1) = true := by simp [hk]
  have HE : Hid (∀ j, j < N + 1 → endF s0 N (.leaf x) f j = oneG f x.p s0 N j) := Lib.hid fun j hj => by
    show (if x.k = 1 then _ else _ : (Nat → Bool)) j = _
    rw [if_pos hk]
    match j, hj with
    | 0, _ => rfl
    | i + 1, hj =>
      show (f i && x.p (s0.get! i).toNat) = (decide (i < N) && _)
      rw [decide_eq_true (by omega)]; rfl
  have HM5 := Lib.hid (HM.out.keep b5)
  clear hPt hk
  go_wp2_with fail
  go_loopw [9] (fun i wr => ∃ k : Nat, i = .int .i64 k ∧ k ≤ N ∧ Hid (St wr 4 w.heap.size (oneRow f x.p s0 k (N + 1))) ∧ Below w.heap.size w wr) (fun i _ => N - (intOf i).toNat)
  case atStart => exact ⟨0, rfl, Nat.zero_le _, HM5.out, hB5⟩
  case round =>
    obtain ⟨k, rfl, hkN, HMk, hbel⟩ := hrel
    by_cases hlt : k < N
    · obtain ⟨gf, of_, rfl, hgf, hcf⟩ := HF.out (by omega)
      have df0 := hcf k (by omega)
      have hss := HS.out
      obtain ⟨fk, hfk⟩ : ∃ b, f k = b := ⟨_, rfl⟩
      rw [hfk] at df0
      have df := (hbel.cell (p := ⟨gf, of_ + k, none⟩) hgf).trans df0
      have p1 := (hbel.cell (p := ⟨g, off + 1, none⟩) hg).trans d1
      have p2 := (hbel.cell (p := ⟨g, off + 2, none⟩) hg).trans d2
      have p3 := (hbel.cell (p := ⟨g, off + 3, none⟩) hg).trans d3
      have p4 := (hbel.cell (p := ⟨g, off + 4, none⟩) hg).trans d4
      have hwk : IntKind.i64.wrap ((k : Int) + 1) = (k : Int) + 1 := IntWalk.i64_in _ (by omega)
      have hks : k < s0.size := by rw [hss]; exact hlt
      have hget : s0.get! k = s0[k]'hks := getElem!_pos s0.data k hks
      obtain ⟨bt, hbe⟩ : ∃ bt, (s0[k]'hks).toNat = bt := ⟨_, rfl⟩
      have hbt : bt < 256 := by rw [← hbe]; exact UInt8.toNat_lt _
      have hnx := oneRow_set f x.p s0 k (N + 1) (by omega)
      rw [hget, hbe] at hnx
      have HNX := Lib.hid hnx
      have hwb : IntKind.i64.wrap ((bt : Nat) : Int) = ((bt : Nat) : Int) := IntWalk.i64_in _ (by omega)
      have ff := HMk.out.thaw (k + 1)
      have cf : wr.cell? ⟨w.heap.size, k + 1, none⟩ = some (.bool (oneG f x.p s0 k (k + 1))) := by rw [HMk.out.cell, oneRow_get _ _ _ _ _ _ (by omega)]
      clear hnx hget
      have i1 : (k : Int) < (N : Int) + 1 := by omega
      have i2 : (k : Int) + 1 < (N : Int) + 1 := by omega
      have i3 : (k : Int) < (N : Int) := by omega
      have i4 : k < N := hlt
      have i5 : (0 : Int) ≤ (k : Int) + 1 := by omega
      have hw0 : IntKind.i64.wrap 0 = 0 := rfl
      clear hcf
      go_wp2_with fail
      rcases fk with _ | _
      · skip
        refine wp_region_held_drew (S := fun W' => Below w.heap.size w W' ∧ W'.cell? ⟨gf, of_ + k, none⟩ = some (.bool false) ∧ W'.cell? ⟨g, off + 1, none⟩ = some (.int .u64 ((wd x.p 0 : Nat) : Int)) ∧ W'.cell? ⟨g, off + 2, none⟩ = some (.int .u64 ((wd x.p 1 : Nat) : Int)) ∧ W'.cell? ⟨g, off + 3, none⟩ = some (.int .u64 ((wd x.p 2 : Nat) : Int)) ∧ W'.cell? ⟨g, off + 4, none⟩ = some (.int .u64 ((wd x.p 3 : Nat) : Int))) (by kernel_rfl) ⟨hbel.drew, df, p1, p2, p3, p4⟩ (fun hHeld => ?_)
        (refine wpAnyH_take (i := 0) (oi := ?_) (v := ?_) ?_ (by kernel_rfl) (by kernel_rfl) (by kernel_rfl) ?_ (Or.inl ⟨?_, ?_⟩) (by assumption) ?_; rotate_left 2; (focus ((simp only [List.getElem?_toArray, List.getElem?_cons_zero]); first | done | rfl)); (focus (exact fun _ _ _ h => h)); (focus rfl); (focus (intro wz hSw; (try dsimp only at hSw); go_simp; first | done | with_reducible rfl)); try simp only [Act.put, List.setIfInBounds_toArray, List.set_cons_zero, List.set_cons_succ])
        (refine wpAnyH_take (i := 1) (oi := ?_) (v := ?_) ?_ (by kernel_rfl) (by kernel_rfl) (by kernel_rfl) ?_ (Or.inl ⟨?_, ?_⟩) (by assumption) ?_; rotate_left 2; (focus ((simp only [List.getElem?_toArray, List.getElem?_cons_succ, List.getElem?_cons_zero]); first | done | rfl)); (focus (exact fun _ _ _ h => h)); (focus rfl); (focus (intro wz hSw; (try dsimp only at hSw); go_simp; first | done | with_reducible rfl)); try simp only [Act.put, List.setIfInBounds_toArray, List.set_cons_zero, List.set_cons_succ])
        (refine wpAnyH_take (i := 2) (oi := ?_) (v := ?_) ?_ (by kernel_rfl) (by kernel_rfl) (by kernel_rfl) ?_ (Or.inl ⟨?_, ?_⟩) (by assumption) ?_; rotate_left 2; (focus ((simp only [List.getElem?_toArray, List.getElem?_cons_succ, List.getElem?_cons_zero]); first | done | rfl)); (focus (exact fun _ _ _ h => h)); (focus rfl); (focus (intro wz hSw; (try dsimp only at hSw); go_simp; first | done | with_reducible rfl)); try simp only [Act.put, List.setIfInBounds_toArray, List.set_cons_zero, List.set_cons_succ])
        (refine wpAnyH_take (i := 3) (oi := ?_) (v := ?_) ?_ (by kernel_rfl) (by kernel_rfl) (by kernel_rfl) ?_ (Or.inl ⟨?_, ?_⟩) (by assumption) ?_; rotate_left 2; (focus ((simp only [List.getElem?_toArray, List.getElem?_cons_succ, List.getElem?_cons_zero]); first | done | rfl)); (focus (exact fun _ _ _ h => h)); (focus rfl); (focus (intro wz hSw; (try dsimp only at hSw); go_simp; first | done | with_reducible rfl)); try simp only [Act.put, List.setIfInBounds_toArray, List.set_cons_zero, List.set_cons_succ])
        (refine wpAnyH_take (i := 4) (oi := ?_) (v := ?_) ?_ (by kernel_rfl) (by kernel_rfl) (by kernel_rfl) ?_ (Or.inl ⟨?_, ?_⟩) (by assumption) ?_; rotate_left 2; (focus ((simp only [List.getElem?_toArray, List.getElem?_cons_succ, List.getElem?_cons_zero]); first | done | rfl)); (focus (exact fun _ _ _ h => h)); (focus rfl); (focus (intro wz hSw; (try dsimp only at hSw); go_simp; first | done | with_reducible rfl)); try simp only [Act.put, List.setIfInBounds_toArray, List.set_cons_zero, List.set_cons_succ])
        (refine wpAnyH_take (i := 5) (oi := ?_) (v := ?_) ?_ (by kernel_rfl) (by kernel_rfl) (by kernel_rfl) ?_ (Or.inl ⟨?_, ?_⟩) (by assumption) ?_; rotate_left 2; (focus ((simp only [List.getElem?_toArray, List.getElem?_cons_succ, List.getElem?_cons_zero]); first | done | rfl)); (focus (exact fun _ _ _ h => h)); (focus rfl); (focus (intro wz hSw; (try dsimp only at hSw); go_simp; first | done | with_reducible rfl)); try simp only [Act.put, List.setIfInBounds_toArray, List.set_cons_zero, List.set_cons_succ])
        (refine wpAnyH_take (i := 6) (oi := ?_) (v := ?_) ?_ (by kernel_rfl) (by kernel_rfl) (by kernel_rfl) ?_ (Or.inl ⟨?_, ?_⟩) (by assumption) ?_; rotate_left 2; (focus ((simp only [List.getElem?_toArray, List.getElem?_cons_succ, List.getElem?_cons_zero]); first | done | rfl)); (focus (exact fun _ _ _ h => h)); (focus rfl); (focus (intro wz hSw; (try dsimp only at hSw); go_simp; first | done | with_reducible rfl)); try simp only [Act.put, List.setIfInBounds_toArray, List.set_cons_zero, List.set_cons_succ])
        (refine wpAnyH_take (i := 7) (oi := ?_) (v := ?_) ?_ (by kernel_rfl) (by kernel_rfl) (by kernel_rfl) ?_ (Or.inl ⟨?_, ?_⟩) (by assumption) ?_; rotate_left 2; (focus ((simp only [List.getElem?_toArray, List.getElem?_cons_succ, List.getElem?_cons_zero]); first | done | rfl)); (focus (exact fun _ _ _ h => h)); (focus rfl); (focus (intro wz hSw; (try dsimp only at hSw); go_simp; first | done | with_reducible rfl)); try simp only [Act.put, List.setIfInBounds_toArray, List.set_cons_zero, List.set_cons_succ])
        (refine wpAnyH_take (i := 8) (oi := ?_) (v := undef) ?_ (by kernel_rfl) (by kernel_rfl) (by kernel_rfl) ?_ (Or.inr ⟨?_, rfl⟩) (by assumption) ?_; rotate_left; (focus ((simp only [List.getElem?_toArray, List.getElem?_cons_succ, List.getElem?_cons_zero]); first | done | rfl)); (focus (exact fun _ _ _ h => h)); (focus rfl); try simp only [Act.put, List.setIfInBounds_toArray, List.set_cons_zero, List.set_cons_succ])
        (refine wpAnyH_take (i := 9) (oi := ?_) (v := undef) ?_ (by kernel_rfl) (by kernel_rfl) (by kernel_rfl) ?_ (Or.inr ⟨?_, rfl⟩) (by assumption) ?_; rotate_left; (focus ((simp only [List.getElem?_toArray, List.getElem?_cons_succ, List.getElem?_cons_zero]); first | done | rfl)); (focus (exact fun _ _ _ h => h)); (focus rfl); try simp only [Act.put, List.setIfInBounds_toArray, List.set_cons_zero, List.set_cons_succ])
        (refine wpAnyH_take (i := 10) (oi := ?_) (v := undef) ?_ (by kernel_rfl) (by kernel_rfl) (by kernel_rfl) ?_ (Or.inr ⟨?_, rfl⟩) (by assumption) ?_; rotate_left; (focus ((simp only [List.getElem?_toArray, List.getElem?_cons_succ, List.getElem?_cons_zero]); first | done | rfl)); (focus (exact fun _ _ _ h => h)); (focus rfl); try simp only [Act.put, List.setIfInBounds_toArray, List.set_cons_zero, List.set_cons_succ])
        (refine wpAnyH_take (i := 11) (oi := ?_) (v := undef) ?_ (by kernel_rfl) (by kernel_rfl) (by kernel_rfl) ?_ (Or.inr ⟨?_, rfl⟩) (by assumption) ?_; rotate_left; (focus ((simp only [List.getElem?_toArray, List.getElem?_cons_succ, List.getElem?_cons_zero]); first | done | rfl)); (focus (exact fun _ _ _ h => h)); (focus rfl); try simp only [Act.put, List.setIfInBounds_toArray, List.set_cons_zero, List.set_cons_succ])
        (refine wpAnyH_take (i := 12) (oi := ?_) (v := undef) ?_ (by kernel_rfl) (by kernel_rfl) (by kernel_rfl) ?_ (Or.inr ⟨?_, rfl⟩) (by assumption) ?_; rotate_left; (focus ((simp only [List.getElem?_toArray, List.getElem?_cons_succ, List.getElem?_cons_zero]); first | done | rfl)); (focus (exact fun _ _ _ h => h)); (focus rfl); try simp only [Act.put, List.setIfInBounds_toArray, List.set_cons_zero, List.set_cons_succ])
        (refine wpAnyH_take (i := 13) (oi := ?_) (v := undef) ?_ (by kernel_rfl) (by kernel_rfl) (by kernel_rfl) ?_ (Or.inr ⟨?_, rfl⟩) (by assumption) ?_; rotate_left; (focus ((simp only [List.getElem?_toArray, List.getElem?_cons_succ, List.getElem?_cons_zero]); first | done | rfl)); (focus (exact fun _ _ _ h => h)); (focus rfl); try simp only [Act.put, List.setIfInBounds_toArray, List.set_cons_zero, List.set_cons_succ])
        (refine wpAnyH_take (i := 14) (oi := ?_) (v := undef) ?_ (by kernel_rfl) (by kernel_rfl) (by kernel_rfl) ?_ (Or.inr ⟨?_, rfl⟩) (by assumption) ?_; rotate_left; (focus ((simp only [List.getElem?_toArray, List.getElem?_cons_succ, List.getElem?_cons_zero]); first | done | rfl)); (focus (exact fun _ _ _ h => h)); (focus rfl); try simp only [Act.put, List.setIfInBounds_toArray, List.set_cons_zero, List.set_cons_succ])
        (refine wpAnyH_take (i := 15) (oi := ?_) (v := undef) ?_ (by kernel_rfl) (by kernel_rfl) (by kernel_rfl) ?_ (Or.inr ⟨?_, rfl⟩) (by assumption) ?_; rotate_left; (focus ((simp only [List.getElem?_toArray, List.getElem?_cons_succ, List.getElem?_cons_zero]); first | done | rfl)); (focus (exact fun _ _ _ h => h)); (focus rfl); try simp only [Act.put, List.setIfInBounds_toArray, List.set_cons_zero, List.set_cons_succ])
        (refine wpAnyH_take (i := 16) (oi := ?_) (v := undef) ?_ (by kernel_rfl) (by kernel_rfl) (by kernel_rfl) ?_ (Or.inr ⟨?_, rfl⟩) (by assumption) ?_; rotate_left; (focus ((simp only [List.getElem?_toArray, List.getElem?_cons_succ, List.getElem?_cons_zero]); first | done | rfl)); (focus (exact fun _ _ _ h => h)); (focus rfl); try simp only [Act.put, List.setIfInBounds_toArray, List.set_cons_zero, List.set_cons_succ])
        (refine wpAnyH_take (i := 17) (oi := ?_) (v := undef) ?_ (by kernel_rfl) (by kernel_rfl) (by kernel_rfl) ?_ (Or.inr ⟨?_, rfl⟩) (by assumption) ?_; rotate_left; (focus ((simp only [List.getElem?_toArray, List.getElem?_cons_succ, List.getElem?_cons_zero]); first | done | rfl)); (focus (exact fun _ _ _ h => h)); (focus rfl); try simp only [Act.put, List.setIfInBounds_toArray, List.set_cons_zero, List.set_cons_succ])
        (refine wpAnyH_take (i := 18) (oi := ?_) (v := undef) ?_ (by kernel_rfl) (by kernel_rfl) (by kernel_rfl) ?_ (Or.inr ⟨?_, rfl⟩) (by assumption) ?_; rotate_left; (focus ((simp only [List.getElem?_toArray, List.getElem?_cons_succ, List.getElem?_cons_zero]); first | done | rfl)); (focus (exact fun _ _ _ h => h)); (focus rfl); try simp only [Act.put, List.setIfInBounds_toArray, List.set_cons_zero, List.set_cons_succ])
        refine wpAnyH_ready (rs := [19]) (by kernel_rfl) (by simp) ?_
        refine AllReadyH.cons (o := ?_) ?_ (fun K hK => ?_) ?_
        rotate_left
        (focus ((simp only [List.getElem?_toArray, List.getElem?_cons_succ, List.getElem?_cons_zero]); first | done | rfl))
        · skip
          go_simp
          refine hK.out _ _ hHeld (fun hHeld => ?_)
          clear hK K
          try simp only [Act.put, List.setIfInBounds_toArray, List.set_cons_zero, List.set_cons_succ]
          have hM6 := HMk.out
          have hB6 := hbel
          (refine wpAnyH_take (i := 20) (oi := ?_) (v := ?_) ?_ (by kernel_rfl) (by kernel_rfl) (by kernel_rfl) ?_ (Or.inl ⟨?_, ?_⟩) (by assumption) ?_; rotate_left 2; (focus ((simp only [List.getElem?_toArray, List.getElem?_cons_succ, List.getElem?_cons_zero]); first | done | rfl)); (focus (exact fun _ _ _ h => h)); (focus rfl); (focus (intro wz hSw; (try dsimp only at hSw); go_simp; first | done | with_reducible rfl)); try simp only [Act.put, List.setIfInBounds_toArray, List.set_cons_zero, List.set_cons_succ])
          (refine wpAnyH_take (i := 21) (oi := ?_) (v := ?_) ?_ (by kernel_rfl) (by kernel_rfl) (by kernel_rfl) ?_ (Or.inl ⟨?_, ?_⟩) (by assumption) ?_; rotate_left 2; (focus ((simp only [List.getElem?_toArray, List.getElem?_cons_succ, List.getElem?_cons_zero]); first | done | rfl)); (focus (exact fun _ _ _ h => h)); (focus rfl); (focus (intro wz hSw; (try dsimp only at hSw); go_simp; first | done | with_reducible rfl)); try simp only [Act.put, List.setIfInBounds_toArray, List.set_cons_zero, List.set_cons_succ])
          refine wpAnyH_ready (rs := [22]) (by kernel_rfl) (by simp) ?_
          refine AllReadyH.cons (o := ?_) ?_ (fun K hK => ?_) ?_
          rotate_left
          (focus ((simp only [List.getElem?_toArray, List.getElem?_cons_succ, List.getElem?_cons_zero]); first | done | rfl))
          · skip
            go_simp
            have hS8 := (hM6.set (k + 1) (.bool (false))).drew
            have hB8 := (hB6.setCell (p := ⟨w.heap.size, k + 1, none⟩) (Nat.le_refl _) (.bool (false))).drew
            have df8 := (hB8.cell (p := ⟨gf, of_ + k, none⟩) hgf).trans df0
            have p18 := (hB8.cell (p := ⟨g, off + 1, none⟩) hg).trans d1
            have p28 := (hB8.cell (p := ⟨g, off + 2, none⟩) hg).trans d2
            have p38 := (hB8.cell (p := ⟨g, off + 3, none⟩) hg).trans d3
            have p48 := (hB8.cell (p := ⟨g, off + 4, none⟩) hg).trans d4
            refine hK.out _ _ ⟨hB8, df8, p18, p28, p38, p48⟩ (fun hHeld => ?_)
            clear hK K
            try simp only [Act.put, List.setIfInBounds_toArray, List.set_cons_zero, List.set_cons_succ]
            refine wpAnyH_done (by kernel_rfl) ?_ _
            have HS8 : Hid (St (wr.setCell ⟨w.heap.size, k + 1, none⟩ (.bool (false))).drew 4 w.heap.size (oneRow f x.p s0 (k + 1) (N + 1))) := by show St _ _ _ _; rw [← HNX.out, hfk]; exact hS8
            have HB8 := Lib.hid hB8
            clear hS8 hB8 df8 p18 p28 p38 p48 hM6 hB6
            go_wp2_with fail
            go_roundw
            case rel => exact ⟨k + 1, by go_num, by omega, HS8, HB8.out⟩
            case measure => simp [intOf]; omega
          exact AllReadyH.nil
        exact AllReadyH.nil
      · skip
        refine wp_region_held_drew (S := fun W' => Below w.heap.size w W' ∧ W'.cell? ⟨gf, of_ + k, none⟩ = some (.bool true) ∧ W'.cell? ⟨g, off + 1, none⟩ = some (.int .u64 ((wd x.p 0 : Nat) : Int)) ∧ W'.cell? ⟨g, off + 2, none⟩ = some (.int .u64 ((wd x.p 1 : Nat) : Int)) ∧ W'.cell? ⟨g, off + 3, none⟩ = some (.int .u64 ((wd x.p 2 : Nat) : Int)) ∧ W'.cell? ⟨g, off + 4, none⟩ = some (.int .u64 ((wd x.p 3 : Nat) : Int))) (by kernel_rfl) ⟨hbel.drew, df, p1, p2, p3, p4⟩ (fun hHeld => ?_)
        (refine wpAnyH_take (i := 0) (oi := ?_) (v := ?_) ?_ (by kernel_rfl) (by kernel_rfl) (by kernel_rfl) ?_ (Or.inl ⟨?_, ?_⟩) (by assumption) ?_; rotate_left 2; (focus ((simp only [List.getElem?_toArray, List.getElem?_cons_zero]); first | done | rfl)); (focus (exact fun _ _ _ h => h)); (focus rfl); (focus (intro wz hSw; (try dsimp only at hSw); go_simp; first | done | with_reducible rfl)); try simp only [Act.put, List.setIfInBounds_toArray, List.set_cons_zero, List.set_cons_succ])
        (refine wpAnyH_take (i := 1) (oi := ?_) (v := ?_) ?_ (by kernel_rfl) (by kernel_rfl) (by kernel_rfl) ?_ (Or.inl ⟨?_, ?_⟩) (by assumption) ?_; rotate_left 2; (focus ((simp only [List.getElem?_toArray, List.getElem?_cons_succ, List.getElem?_cons_zero]); first | done | rfl)); (focus (exact fun _ _ _ h => h)); (focus rfl); (focus (intro wz hSw; (try dsimp only at hSw); go_simp; first | done | with_reducible rfl)); try simp only [Act.put, List.setIfInBounds_toArray, List.set_cons_zero, List.set_cons_succ])
        (refine wpAnyH_take (i := 2) (oi := ?_) (v := ?_) ?_ (by kernel_rfl) (by kernel_rfl) (by kernel_rfl) ?_ (Or.inl ⟨?_, ?_⟩) (by assumption) ?_; rotate_left 2; (focus ((simp only [List.getElem?_toArray, List.getElem?_cons_succ, List.getElem?_cons_zero]); first | done | rfl)); (focus (exact fun _ _ _ h => h)); (focus rfl); (focus (intro wz hSw; (try dsimp only at hSw); go_simp; first | done | with_reducible rfl)); try simp only [Act.put, List.setIfInBounds_toArray, List.set_cons_zero, List.set_cons_succ])
        (refine wpAnyH_take (i := 3) (oi := ?_) (v := ?_) ?_ (by kernel_rfl) (by kernel_rfl) (by kernel_rfl) ?_ (Or.inl ⟨?_, ?_⟩) (by assumption) ?_; rotate_left 2; (focus ((simp only [List.getElem?_toArray, List.getElem?_cons_succ, List.getElem?_cons_zero]); first | done | rfl)); (focus (exact fun _ _ _ h => h)); (focus rfl); (focus (intro wz hSw; (try dsimp only at hSw); go_simp; first | done | with_reducible rfl)); try simp only [Act.put, List.setIfInBounds_toArray, List.set_cons_zero, List.set_cons_succ])
        (refine wpAnyH_take (i := 4) (oi := ?_) (v := ?_) ?_ (by kernel_rfl) (by kernel_rfl) (by kernel_rfl) ?_ (Or.inl ⟨?_, ?_⟩) (by assumption) ?_; rotate_left 2; (focus ((simp only [List.getElem?_toArray, List.getElem?_cons_succ, List.getElem?_cons_zero]); first | done | rfl)); (focus (exact fun _ _ _ h => h)); (focus rfl); (focus (intro wz hSw; (try dsimp only at hSw); go_simp; first | done | with_reducible rfl)); try simp only [Act.put, List.setIfInBounds_toArray, List.set_cons_zero, List.set_cons_succ])
        (refine wpAnyH_take (i := 5) (oi := ?_) (v := ?_) ?_ (by kernel_rfl) (by kernel_rfl) (by kernel_rfl) ?_ (Or.inl ⟨?_, ?_⟩) (by assumption) ?_; rotate_left 2; (focus ((simp only [List.getElem?_toArray, List.getElem?_cons_succ, List.getElem?_cons_zero]); first | done | rfl)); (focus (exact fun _ _ _ h => h)); (focus rfl); (focus (intro wz hSw; (try dsimp only at hSw); go_simp; first | done | with_reducible rfl)); try simp only [Act.put, List.setIfInBounds_toArray, List.set_cons_zero, List.set_cons_succ])
        (refine wpAnyH_take (i := 6) (oi := ?_) (v := ?_) ?_ (by kernel_rfl) (by kernel_rfl) (by kernel_rfl) ?_ (Or.inl ⟨?_, ?_⟩) (by assumption) ?_; rotate_left 2; (focus ((simp only [List.getElem?_toArray, List.getElem?_cons_succ, List.getElem?_cons_zero]); first | done | rfl)); (focus (exact fun _ _ _ h => h)); (focus rfl); (focus (intro wz hSw; (try dsimp only at hSw); go_simp; first | done | with_reducible rfl)); try simp only [Act.put, List.setIfInBounds_toArray, List.set_cons_zero, List.set_cons_succ])
        (refine wpAnyH_take (i := 7) (oi := ?_) (v := ?_) ?_ (by kernel_rfl) (by kernel_rfl) (by kernel_rfl) ?_ (Or.inl ⟨?_, ?_⟩) (by assumption) ?_; rotate_left 2; (focus ((simp only [List.getElem?_toArray, List.getElem?_cons_succ, List.getElem?_cons_zero]); first | done | rfl)); (focus (exact fun _ _ _ h => h)); (focus rfl); (focus (intro wz hSw; (try dsimp only at hSw); go_simp; first | done | with_reducible rfl)); try simp only [Act.put, List.setIfInBounds_toArray, List.set_cons_zero, List.set_cons_succ])
        (refine wpAnyH_take (i := 8) (oi := ?_) (v := ?_) ?_ (by kernel_rfl) (by kernel_rfl) (by kernel_rfl) ?_ (Or.inl ⟨?_, ?_⟩) (by assumption) ?_; rotate_left 2; (focus ((simp only [List.getElem?_toArray, List.getElem?_cons_succ, List.getElem?_cons_zero]); first | done | rfl)); (focus (exact fun _ _ _ h => h)); (focus rfl); (focus (intro wz hSw; (try dsimp only at hSw); go_simp; first | done | with_reducible rfl)); try simp only [Act.put, List.setIfInBounds_toArray, List.set_cons_zero, List.set_cons_succ])
        (refine wpAnyH_take (i := 9) (oi := ?_) (v := ?_) ?_ (by kernel_rfl) (by kernel_rfl) (by kernel_rfl) ?_ (Or.inl ⟨?_, ?_⟩) (by assumption) ?_; rotate_left 2; (focus ((simp only [List.getElem?_toArray, List.getElem?_cons_succ, List.getElem?_cons_zero]); first | done | rfl)); (focus (exact fun _ _ _ h => h)); (focus rfl); (focus (intro wz hSw; (try dsimp only at hSw); go_simp; first | done | with_reducible rfl)); try simp only [Act.put, List.setIfInBounds_toArray, List.set_cons_zero, List.set_cons_succ])
        (refine wpAnyH_take (i := 10) (oi := ?_) (v := ?_) ?_ (by kernel_rfl) (by kernel_rfl) (by kernel_rfl) ?_ (Or.inl ⟨?_, ?_⟩) (by assumption) ?_; rotate_left 2; (focus ((simp only [List.getElem?_toArray, List.getElem?_cons_succ, List.getElem?_cons_zero]); first | done | rfl)); (focus (exact fun _ _ _ h => h)); (focus rfl); (focus (intro wz hSw; (try dsimp only at hSw); go_simp; first | done | with_reducible rfl)); try simp only [Act.put, List.setIfInBounds_toArray, List.set_cons_zero, List.set_cons_succ])
        (refine wpAnyH_take (i := 11) (oi := ?_) (v := ?_) ?_ (by kernel_rfl) (by kernel_rfl) (by kernel_rfl) ?_ (Or.inl ⟨?_, ?_⟩) (by assumption) ?_; rotate_left 2; (focus ((simp only [List.getElem?_toArray, List.getElem?_cons_succ, List.getElem?_cons_zero]); first | done | rfl)); (focus (exact fun _ _ _ h => h)); (focus rfl); (focus (intro wz hSw; (try dsimp only at hSw); go_simp; first | done | with_reducible rfl)); try simp only [Act.put, List.setIfInBounds_toArray, List.set_cons_zero, List.set_cons_succ])
        (refine wpAnyH_take (i := 12) (oi := ?_) (v := ?_) ?_ (by kernel_rfl) (by kernel_rfl) (by kernel_rfl) ?_ (Or.inl ⟨?_, ?_⟩) (by assumption) ?_; rotate_left 2; (focus ((simp only [List.getElem?_toArray, List.getElem?_cons_succ, List.getElem?_cons_zero]); first | done | rfl)); (focus (exact fun _ _ _ h => h)); (focus rfl); (focus (intro wz hSw; (try dsimp only at hSw); go_simp; first | done | with_reducible rfl)); try simp only [Act.put, List.setIfInBounds_toArray, List.set_cons_zero, List.set_cons_succ])
        (refine wpAnyH_take (i := 13) (oi := ?_) (v := ?_) ?_ (by kernel_rfl) (by kernel_rfl) (by kernel_rfl) ?_ (Or.inl ⟨?_, ?_⟩) (by assumption) ?_; rotate_left 2; (focus ((simp only [List.getElem?_toArray, List.getElem?_cons_succ, List.getElem?_cons_zero]); first | done | rfl)); (focus (exact fun _ _ _ h => h)); (focus rfl); (focus (intro wz hSw; (try dsimp only at hSw); go_simp; first | done | with_reducible rfl)); try simp only [Act.put, List.setIfInBounds_toArray, List.set_cons_zero, List.set_cons_succ])
        (refine wpAnyH_take (i := 14) (oi := ?_) (v := ?_) ?_ (by kernel_rfl) (by kernel_rfl) (by kernel_rfl) ?_ (Or.inl ⟨?_, ?_⟩) (by assumption) ?_; rotate_left 2; (focus ((simp only [List.getElem?_toArray, List.getElem?_cons_succ, List.getElem?_cons_zero]); first | done | rfl)); (focus (exact fun _ _ _ h => h)); (focus rfl); (focus (intro wz hSw; (try dsimp only at hSw); go_simp; first | done | with_reducible rfl)); try simp only [Act.put, List.setIfInBounds_toArray, List.set_cons_zero, List.set_cons_succ])
        (refine wpAnyH_take (i := 15) (oi := ?_) (v := ?_) ?_ (by kernel_rfl) (by kernel_rfl) (by kernel_rfl) ?_ (Or.inl ⟨?_, ?_⟩) (by assumption) ?_; rotate_left 2; (focus ((simp only [List.getElem?_toArray, List.getElem?_cons_succ, List.getElem?_cons_zero]); first | done | rfl)); (focus (exact fun _ _ _ h => h)); (focus rfl); (focus (intro wz hSw; (try dsimp only at hSw); go_simp; first | done | with_reducible rfl)); try simp only [Act.put, List.setIfInBounds_toArray, List.set_cons_zero, List.set_cons_succ])
        (refine wpAnyH_take (i := 16) (oi := ?_) (v := ?_) ?_ (by kernel_rfl) (by kernel_rfl) (by kernel_rfl) ?_ (Or.inl ⟨?_, ?_⟩) (by assumption) ?_; rotate_left 2; (focus ((simp only [List.getElem?_toArray, List.getElem?_cons_succ, List.getElem?_cons_zero]); first | done | rfl)); (focus (exact fun _ _ _ h => h)); (focus rfl); (focus (intro wz hSw; (try dsimp only at hSw); go_simp; first | done | with_reducible rfl)); try simp only [Act.put, List.setIfInBounds_toArray, List.set_cons_zero, List.set_cons_succ])
        (refine wpAnyH_take (i := 17) (oi := ?_) (v := ?_) ?_ (by kernel_rfl) (by kernel_rfl) (by kernel_rfl) ?_ (Or.inl ⟨?_, ?_⟩) (by assumption) ?_; rotate_left 2; (focus ((simp only [List.getElem?_toArray, List.getElem?_cons_succ, List.getElem?_cons_zero]); first | done | rfl)); (focus (exact fun _ _ _ h => h)); (focus rfl); (focus (intro wz hSw; (try dsimp only at hSw); go_simp; first | done | with_reducible rfl)); try simp only [Act.put, List.setIfInBounds_toArray, List.set_cons_zero, List.set_cons_succ])
        (refine wpAnyH_take (i := 18) (oi := ?_) (v := ?_) ?_ (by kernel_rfl) (by kernel_rfl) (by kernel_rfl) ?_ (Or.inl ⟨?_, ?_⟩) (by assumption) ?_; rotate_left 2; (focus ((simp only [List.getElem?_toArray, List.getElem?_cons_succ, List.getElem?_cons_zero]); first | done | rfl)); (focus (exact fun _ _ _ h => h)); (focus rfl); (focus (intro wz hSw; (try dsimp only at hSw); go_simp; first | done | with_reducible rfl)); try simp only [Act.put, List.setIfInBounds_toArray, List.set_cons_zero, List.set_cons_succ])
        refine wpAnyH_ready (rs := [19]) (by kernel_rfl) (by simp) ?_
        refine AllReadyH.cons (o := ?_) ?_ (fun K hK => ?_) ?_
        rotate_left
        (focus ((simp only [List.getElem?_toArray, List.getElem?_cons_succ, List.getElem?_cons_zero]); first | done | rfl))
        · skip
          go_simp
          go_at_call 13
          refine (rhas_any x.p bt hbt _).mono ?_
          rintro e w6 ⟨rfl, b6'⟩
          have b6 : Below wr.heap.size wr w6 := ⟨b6'.os, b6'.tape, b6'.output, b6'.size, b6'.block⟩
          have hM6 := HMk.out.keep b6
          have hB6 := hbel.trans (b6.mono hbel.size)
          have f6 := hM6.thaw (k + 1)
          have c6 : w6.cell? ⟨w.heap.size, k + 1, none⟩ = some (.bool (oneG f x.p s0 k (k + 1))) := by rw [hM6.cell, oneRow_get _ _ _ _ _ _ (by omega)]
          have df6 := (hB6.cell (p := ⟨gf, of_ + k, none⟩) hgf).trans df0
          have p16 := (hB6.cell (p := ⟨g, off + 1, none⟩) hg).trans d1
          have p26 := (hB6.cell (p := ⟨g, off + 2, none⟩) hg).trans d2
          have p36 := (hB6.cell (p := ⟨g, off + 3, none⟩) hg).trans d3
          have p46 := (hB6.cell (p := ⟨g, off + 4, none⟩) hg).trans d4
          try go_wp2_with fail
          refine hK.out _ _ ⟨hB6, df6, p16, p26, p36, p46⟩ (fun hHeld => ?_)
          clear hK K
          try simp only [Act.put, List.setIfInBounds_toArray, List.set_cons_zero, List.set_cons_succ]
          (refine wpAnyH_take (i := 20) (oi := ?_) (v := ?_) ?_ (by kernel_rfl) (by kernel_rfl) (by kernel_rfl) ?_ (Or.inl ⟨?_, ?_⟩) (by assumption) ?_; rotate_left 2; (focus ((simp only [List.getElem?_toArray, List.getElem?_cons_succ, List.getElem?_cons_zero]); first | done | rfl)); (focus (exact fun _ _ _ h => h)); (focus rfl); (focus (intro wz hSw; (try dsimp only at hSw); go_simp; first | done | with_reducible rfl)); try simp only [Act.put, List.setIfInBounds_toArray, List.set_cons_zero, List.set_cons_succ])
          (refine wpAnyH_take (i := 21) (oi := ?_) (v := ?_) ?_ (by kernel_rfl) (by kernel_rfl) (by kernel_rfl) ?_ (Or.inl ⟨?_, ?_⟩) (by assumption) ?_; rotate_left 2; (focus ((simp only [List.getElem?_toArray, List.getElem?_cons_succ, List.getElem?_cons_zero]); first | done | rfl)); (focus (exact fun _ _ _ h => h)); (focus rfl); (focus (intro wz hSw; (try dsimp only at hSw); go_simp; first | done | with_reducible rfl)); try simp only [Act.put, List.setIfInBounds_toArray, List.set_cons_zero, List.set_cons_succ])
          refine wpAnyH_ready (rs := [22]) (by kernel_rfl) (by simp) ?_
          refine AllReadyH.cons (o := ?_) ?_ (fun K hK => ?_) ?_
          rotate_left
          (focus ((simp only [List.getElem?_toArray, List.getElem?_cons_succ, List.getElem?_cons_zero]); first | done | rfl))
          · skip
            go_simp
            have hS8 := hM6.set (k + 1) (.bool (x.p bt))
            have hB8 := hB6.setCell (p := ⟨w.heap.size, k + 1, none⟩) (Nat.le_refl _) (.bool (x.p bt))
            have df8 := (hB8.cell (p := ⟨gf, of_ + k, none⟩) hgf).trans df0
            have p18 := (hB8.cell (p := ⟨g, off + 1, none⟩) hg).trans d1
            have p28 := (hB8.cell (p := ⟨g, off + 2, none⟩) hg).trans d2
            have p38 := (hB8.cell (p := ⟨g, off + 3, none⟩) hg).trans d3
            have p48 := (hB8.cell (p := ⟨g, off + 4, none⟩) hg).trans d4
            refine hK.out _ _ ⟨hB8, df8, p18, p28, p38, p48⟩ (fun hHeld => ?_)
            clear hK K
            try simp only [Act.put, List.setIfInBounds_toArray, List.set_cons_zero, List.set_cons_succ]
            refine wpAnyH_done (by kernel_rfl) ?_ _
            have HS8 : Hid (St (w6.setCell ⟨w.heap.size, k + 1, none⟩ (.bool (x.p bt))) 4 w.heap.size (oneRow f x.p s0 (k + 1) (N + 1))) := by show St _ _ _ _; rw [← HNX.out, hfk]; exact hS8
            have HB8 := Lib.hid hB8
            clear hS8 hB8 df8 p18 p28 p38 p48 hM6 hB6 f6 c6
            go_wp2_with fail
            go_roundw
            case rel => exact ⟨k + 1, by go_num, by omega, HS8, HB8.out⟩
            case measure => simp [intOf]; omega
          exact AllReadyH.nil
        exact AllReadyH.nil
    · obtain rfl : k = N := by omega
      have hss := HS.out
      go_wp2_with fail
      go_ret
      refine ⟨_, _, rfl, ?_, hbel⟩
      intro _
      refine ⟨w.heap.size, 0, rfl, HMk.out.lt, fun j hj => ?_⟩
      rw [Nat.zero_add, HMk.out.cell, oneRow_get _ _ _ _ _ _ hj, HE.out j hj]
end Go.Proofs.Ytkdhdlokilgccaa
