import Derived.Test.YtlnndkilaklifaaZConv
import Derived.OwnWalk
import Derived.RegionTactic
import Derived.BigRegion
namespace Go.Proofs.Ytlnndkilaklifaa
open Go.RowKit

/-- What is known of a slice of sets that came in. -/
def SetsAt (w : World) (a : Option Addr) (n : Nat) (s : Nat → Nat → Bool) : Prop :=
  0 < n → ∃ b off, a = some ⟨b, off, none⟩ ∧ b < w.heap.size ∧ ∀ i, i < n → w.cell? ⟨b, off + i * 4, none⟩ = some (.int .u64 ((wd (s i) 0 : Nat) : Int)) ∧ w.cell? ⟨b, off + i * 4 + 1, none⟩ = some (.int .u64 ((wd (s i) 1 : Nat) : Int)) ∧
    w.cell? ⟨b, off + i * 4 + 2, none⟩ = some (.int .u64 ((wd (s i) 2 : Nat) : Int)) ∧ w.cell? ⟨b, off + i * 4 + 3, none⟩ = some (.int .u64 ((wd (s i) 3 : Nat) : Int))
theorem SetsAt.keep {w w' : World} {a : Option Addr} {n : Nat} {s : Nat → Nat → Bool} (h : SetsAt w a n s) (k : Below w.heap.size w w') : SetsAt w' a n s := by
  intro h0
  obtain ⟨b, off, e, hb, hc⟩ := h h0
  refine ⟨b, off, e, Nat.lt_of_lt_of_le hb k.size, fun i hi => ?_⟩
  obtain ⟨h0, h1, h2, h3⟩ := hc i hi
  exact ⟨(k.cell (p := ⟨b, _, none⟩) hb).trans h0, (k.cell (p := ⟨b, _, none⟩) hb).trans h1, (k.cell (p := ⟨b, _, none⟩) hb).trans h2, (k.cell (p := ⟨b, _, none⟩) hb).trans h3⟩

theorem bits_or8 (f : Nat → Bool) (k : Nat) : bits .or .u8 ((by8 f (k / 8) : Nat) : Int) ((2 : Int) ^ (k % 8) % 256) = ((by8 (ins f k) (k / 8) : Nat) : Int) := by
  have hr : k % 8 < 8 := Nat.mod_lt _ (by decide)
  have h1 : 2 ^ (k % 8) < 2 ^ 8 := Nat.pow_lt_pow_right (by decide) hr
  have e : ((2 : Int) ^ (k % 8)) % 256 = ((2 ^ (k % 8) : Nat) : Int) := by
    have h2 : ((2 : Int) ^ (k % 8)) = ((2 ^ (k % 8) : Nat) : Int) := by simp
    rw [h2]
    generalize 2 ^ (k % 8) = x at h1
    omega
  rw [e, u8_or_nat _ _ (by8_lt _ _) h1, by8_one f k _ rfl]

/-- The row while k sets are done. -/
def rowL (f : Nat → Bool) (m : Nat) : List Nat := (List.range m).map (by8 f)
theorem rowL_length (f : Nat → Bool) (m : Nat) : (rowL f m).length = m := by simp [rowL]
theorem rowL_zero (m : Nat) : u8s (rowL (fun _ => false) m) = List.replicate m (.int .u8 0) := by
  refine List.ext_getElem (by simp [u8s, rowL]) fun i h1 h2 => ?_
  simp [u8s, rowL, by8_none]
theorem rowL_set (f : Nat → Bool) (m k : Nat) : (u8s (rowL f m)).set (k / 8) (.int .u8 ((by8 (ins f k) (k / 8) : Nat) : Int)) = u8s (rowL (ins f k) m) := by
  refine List.ext_getElem (by simp [u8s, rowL]) fun i h1 h2 => ?_
  simp only [u8s, rowL, List.map_map, List.getElem_set, List.getElem_map, List.getElem_range, Function.comp]
  by_cases e : k / 8 = i
  · subst e; simp
  · rw [if_neg e, by8_far f k i e]

/-- After k rounds. -/
structure HoldAt (w : World) (B g m : Nat) (f : Nat → Bool) (wr : World) : Prop where
  own : wr.ownsRow B 5 1 (.slice (some ⟨g, 0, none⟩) m m) m (u8s (rowL f m))
  below : Below w.heap.size w wr
theorem HoldAt.drew {w wr : World} {B g m : Nat} {f : Nat → Bool} (h : HoldAt w B g m f wr) : HoldAt w B g m f wr.drew := ⟨h.own, h.below.drew⟩
theorem Try.made0 (m : Nat) : (madeCells #[.int .u8 0] m).toList = List.replicate m (.int .u8 0) := by
  refine List.ext_getElem (by simp [madeCells]) fun i h1 h2 => ?_
  simp [madeCells, Nat.mod_one]

set_option maxHeartbeats 1000000 in
set_option maxRecDepth 100000 in
theorem holders_any (a : Option Addr) (n cap b : Nat) (s : Nat → Nat → Bool) (hn : n ≤ 1000) (hb : b < 256) (w : World) (hS : SetsAt w a n s) :
    Calls Try.prog 78 #[.slice a n cap, .int .u8 b] w fun e w' => e = .returned (.string (strOf (keyL (fun i => s i b) n))) ∧ Below w.heap.size w w' := by
  obtain ⟨i0, hi, hz0, hz1, hz2⟩ := info_parts Try.info_u8
  obtain ⟨m, hm, hm2⟩ : ∃ m, (n + 7) / 8 = m ∧ m ≤ 126 := ⟨_, rfl, by omega⟩
  have HM := Lib.hid hm
  clear hm
  go_enter Try.func78, Try.ntmps78
  go_wp2_with (at_make; refine wpList_make_full _ rfl _ _ 91 rfl w.heap.size 5 i0 (.int .u8 0) 1 Try.underlying91 hi hz0 hz1 .i64 .i64 _ _ m rfl rfl ?c1 ?c2 ?c3 ?c4 ?c5 ?_)
  case c1 => have := HM.out; omega
  case c2 => have := HM.out; omega
  case c3 => rw [hz2]; omega
  case c4 => unfold maxLen; omega
  case c5 => omega
  intro w1 hown hgrow
  rw [Try.made0, ← rowL_zero m] at hown
  have hb1 : Below w.heap.size w w1 := ⟨hgrow.os, hgrow.tape, hgrow.output, hgrow.size, fun k hk => hgrow.block k hk (by simp)⟩
  have R0 : HoldAt w w.heap.size w.heap.size m (fun _ => false) w1 := ⟨hown, hb1⟩
  obtain ⟨g, hg, hg2⟩ : ∃ g, w.heap.size = g ∧ w.heap.size ≤ g := ⟨_, rfl, by omega⟩
  obtain ⟨B, hB, hB2⟩ : ∃ B, w.heap.size = B ∧ w.heap.size ≤ B := ⟨_, rfl, by omega⟩
  have hBg : B ≤ g := by omega
  have R0' : HoldAt w B g m (fun _ => false) w1 := by rw [← hg, ← hB]; exact R0
  rw [hg]
  clear hown hgrow hb1 R0 hg hB
  go_wp2_with fail
  go_loopw [15] (fun i wr => ∃ k : Nat, i = .int .i64 k ∧ k ≤ n ∧ HoldAt w B g m (upTo (fun i => s i b) k) wr) (fun i _ => n - (intOf i).toNat)
  case atStart => exact ⟨0, rfl, Nat.zero_le _, by rw [upTo_zero]; exact R0'⟩
  case round =>
    clear R0'
    obtain ⟨k, rfl, hk, R⟩ := hrel
    have hsz := R.below.size
    by_cases hlt : k < n
    · obtain ⟨bl, off, rfl, hbl, hc⟩ := hS (by omega)
      obtain ⟨e0, e1, e2, e3⟩ := hc k hlt
      have t0 := (R.below.cell (p := ⟨bl, off + k * 4, none⟩) hbl).trans e0
      have t1 := (R.below.cell (p := ⟨bl, off + k * 4 + 1, none⟩) hbl).trans e1
      have t2 := (R.below.cell (p := ⟨bl, off + k * 4 + 2, none⟩) hbl).trans e2
      have t3 := (R.below.cell (p := ⟨bl, off + k * 4 + 3, none⟩) hbl).trans e3
      clear hc e0 e1 e2 e3
      generalize hsk : s k = sk at t0 t1 t2 t3
      have HK := Lib.hid hsk
      clear hsk
      go_wp2_with fail
      refine (has_any sk b hb _).mono ?_
      rintro e w3 ⟨rfl, b3⟩
      have b3' : Below wr.heap.size wr w3 := ((Below.refl _ wr).alloc (Nat.le_refl _) _).trans (b3.mono (by simp))
      have hown3 := ownsRow_keep R.own b3'
      have hb3 := R.below.trans (b3'.mono hsz)
      have hs3 := b3'.size
      clear R b3 b3' t0 t1 t2 t3
      rcases hp : sk b with _ | _
      · have HN : Hid (upTo (fun i => s i b) (k + 1) = upTo (fun i => s i b) k) := upTo_no _ _ (by show s k b = false; rw [HK.out]; exact hp)
        clear hp
        go_wp2_with fail
        go_roundw
        case rel => exact ⟨k + 1, by go_num, by omega, by rw [HN.out]; exact ⟨hown3, hb3⟩⟩
        case measure => simp [intOf]; omega
      · have HN : Hid (upTo (fun i => s i b) (k + 1) = ins (upTo (fun i => s i b) k) k) := upTo_yes _ _ (by show s k b = true; rw [HK.out]; exact hp)
        clear hp
        have hkm : k / 8 < m := by have := HM.out; omega
        generalize upTo (fun i => s i b) k = f at hown3 HN
        have hcell := hown3.cellAt (k / 8) (by omega)
        have hfz := hown3.frozenAt (k / 8)
        rw [u8s_get _ _ (by rw [rowL_length]; exact hkm)] at hcell
        have hget : (rowL f m).getD (k / 8) 0 = by8 f (k / 8) := by simp [rowL, hkm]
        rw [hget] at hcell
        obtain ⟨ho4, hg4⟩ := hown3.stored (k / 8) (.int .u8 ((by8 (ins f k) (k / 8) : Nat) : Int))
        rw [rowL_set] at ho4
        have hB4 : Below w.heap.size w3 (w3.setCell ⟨g, k / 8, none⟩ (.int .u8 ((by8 (ins f k) (k / 8) : Nat) : Int))) := (Below.refl _ w3).setCell hg2 _
        have R4 : HoldAt w B g m (ins f k) (w3.setCell ⟨g, k / 8, none⟩ (.int .u8 ((by8 (ins f k) (k / 8) : Nat) : Int))) := ⟨ho4, hb3.trans hB4⟩
        have HR4 := Lib.hid R4
        have hbt := Lib.hid (bits_or8 f k)
        clear R4 hB4 ho4 hg4 hown3 hb3 hget
        go_wp2_with fail
        go_region
        go_wp2_with fail
        rw [hbt.out]
        go_roundw
        case rel => exact ⟨k + 1, by go_num, by omega, by rw [HN.out]; first | exact HR4.out | exact HR4.out.drew⟩
        case measure => simp [intOf]; omega
    · obtain rfl : k = n := by omega
      have hown := R.own
      have hcv := conv_any hown (by rw [rowL_length])
      have HKy : Hid (rowL (upTo (fun i => s i b) k) m = keyL (fun i => s i b) k) := by show rowL _ m = keyL _ k; unfold rowL keyL; rw [HM.out]
      have hbel := R.below
      clear hown R
      go_wp2_with fail
      go_ret
      exact ⟨by rw [HKy.out]; rfl, hbel⟩
end Go.Proofs.Ytlnndkilaklifaa
