import Derived.Test.YtbacgnhkapancaaDoorVAwk
import Derived.Test.YtbacgnhkapancaaDoorVRLines
import Derived.Test.YtbacgnhkapancaaDoorVLine
import Derived.Test.YtbacgnhkapancaaDoorVWide
namespace Go.Proofs.YtbacgnhkapancaaDoor
open Go.RowKit Go.Maps Go.WideElems Go.ChangeMaps Go.MapKept
set_option linter.unusedVariables false
set_option linter.unusedSimpArgs false

theorem nil_txt (s : ByteArray) : s.extract 0 0 = ⟨#[]⟩ := by
  have h : (s.extract 0 0).data = #[] := by simp
  generalize s.extract 0 0 = t at h
  obtain ⟨d⟩ := t
  simp at h
  rw [h]
/-- The lines of a text in memory. -/
def LsAt (w : World) (g : Nat) (s : ByteArray) (m N : Nat) : Prop := ∀ q, q < N → ∃ a b : Nat, LnIs (bz s) m ((q : Int) + 1) a b ∧ w.cell? ⟨g, q, none⟩ = some (.string (s.extract a b))
/-- The widest of the first k lines. -/
def WdK (z : Nat → Nat) (m k w : Nat) : Prop := (∀ (q a b : Nat), q < k → LnIs z m ((q : Int) + 1) a b → b - a ≤ w) ∧ (w = 0 ∨ ∃ n a b, LnIs z m n a b ∧ w = b - a)
theorem WdK.done {z : Nat → Nat} {m w : Nat} (h : WdK z m (lnF z m) w) : Wd z m w := by
  refine ⟨fun n a b hl => ?_, h.2⟩
  have e := (hl.2.2 a (by have := hl.1; have := hl.2.1; omega)).2 ⟨Nat.le_refl _, hl.1⟩
  have h1 := (lnF_le z a).1
  have h2 := ln_mono z (show a ≤ m by have := hl.1; have := hl.2.1; omega)
  exact h.1 (lnF z a - 1) a b (by omega) (by rw [show (((lnF z a - 1 : Nat)) : Int) + 1 = n by omega]; exact hl)
theorem WdK.step {z : Nat → Nat} {m k w a b : Nat} (h : WdK z m k w) (hl : LnIs z m ((k : Int) + 1) a b) : WdK z m (k + 1) (max w (b - a)) := by
  refine ⟨fun q c d hq hc => ?_, ?_⟩
  · by_cases e : q < k
    · have := h.1 q c d e hc; omega
    · obtain rfl : q = k := by omega
      obtain ⟨rfl, rfl⟩ := hc.uniq hl
      omega
  · by_cases e : w ≤ b - a
    · exact Or.inr ⟨_, _, _, hl, by omega⟩
    · rw [Nat.max_eq_left (by omega)]; exact h.2

set_option maxHeartbeats 2000000 in
set_option maxRecDepth 100000 in
theorem spotLines_law (s : ByteArray) (n : Int) (hn0 : -9223372036854775808 ≤ n) (hn1 : n ≤ 9223372036854775807) (hs9 : s.size ≤ 9223372036854775807) (w : World) :
    Calls Tryd.prog 4 #[.string s, .int .i64 n] w fun e w' => e = .returned (.bool true) ∧ Below w.heap.size w w' := by
  obtain ⟨m, hs⟩ : ∃ m, s.size = m := ⟨_, rfl⟩
  have HS := Lib.hid hs
  go_enter Tryd.func4, Tryd.ntmps4
  have HA := Lib.hid (awake13_any w)
  go_wp2_with (go_at_call 6; refine HA.out.mono ?_; rintro e W1 ⟨rfl, kb⟩; refine Hid.out ?_)
  refine Lib.hid ?_
  have H1 := Lib.hid kb
  clear kb HA
  by_cases hm : 300 < m
  · have i0 : (300 : Int) < (m : Int) := by omega
    go_wp2_with fail
    go_ret
    exact ⟨rfl, H1.out⟩
  · have i0 : ¬ ((300 : Int) < (m : Int)) := by omega
    have HR := Lib.hid (rlines13_any s m HS.out (by omega) W1)
    go_wp2_with (go_at_call 10; refine HR.out.mono ?_; rintro e W2 ⟨a0, c0, xs, rfl, hO, hlen, hLs, kb⟩; refine Hid.out ?_)
    refine Lib.hid ?_
    have hN := lnF_le (bz s) m
    obtain ⟨g, rfl, hg, hgl, hcell⟩ := ownsRow_read hO (by omega)
    have H2 : Hid (Below w.heap.size w W2 ∧ LsAt W2 g s m (lnF (bz s) m) ∧ g < W2.heap.size) := by
      refine ⟨H1.out.trans (kb.mono H1.out.size), fun q hq => ?_, hgl⟩
      obtain ⟨a, b, h1, h2⟩ := hLs q (by omega)
      have h3 := (hcell q (by omega)).1
      exact ⟨a, b, h1, by first | exact h3.trans h2 | (simp at h3; exact h3.trans h2)⟩
    clear kb HR hO hlen hLs hcell hg hgl
    generalize hNN : lnF (bz s) m = N at hN H2 ⊢
    have HNN := Lib.hid hNN
    clear hNN
    go_wp2_with fail
    have hW0 : Hid (WdK (bz s) m 0 0) := ⟨fun q a b h => by omega, Or.inl rfl⟩
    go_loopw [6, 7] (fun v6 v7 wr => ∃ (k wd : Nat), k ≤ N ∧ wd ≤ m ∧ v6 = .int .i64 (wd : Int) ∧ v7 = .int .i64 (k : Int) ∧ Hid (WdK (bz s) m k wd ∧ wr = W2)) (fun _ v _ => N - (nV v).toNat)
    case atStart => exact ⟨0, 0, Nat.zero_le _, Nat.zero_le _, rfl, rfl, hW0.out, rfl⟩
    case round =>
      obtain ⟨k, wd, hk, hwd, rfl, rfl, HX⟩ := hrel
      by_cases hlt : k < N
      · have i1 : (k : Int) < (N : Int) := by omega
        obtain ⟨a, b, hl, hc⟩ := H2.out.2.1 k hlt
        have hsz : (s.extract a b).size = b - a := by rw [ByteArray.size_extract]; have := hl.2.1; have := HS.out; omega
        have hba : b - a ≤ m := by have := hl.2.1; omega
        have HL := Lib.hid hl
        clear hl
        generalize s.extract a b = t at hc hsz
        obtain ⟨wx, HWx⟩ : ∃ wx, Hid (wx = wr) := ⟨wr, rfl⟩
        have hc' : wr.cell? ⟨g, k, none⟩ = some (.string t) := by rw [HX.out.2]; exact hc
        clear hc
        obtain ⟨ℓ, hℓ⟩ : ∃ ℓ, b - a = ℓ := ⟨_, rfl⟩
        rw [hℓ] at hsz hba
        have Hℓ := Lib.hid hℓ
        clear hℓ
        go_wp2_with fail
        go_roundw
        case rel => exact ⟨k + 1, max wd ℓ, by omega, by omega, by congr 1; first | omega | (split <;> omega), by go_num, by rw [← Hℓ.out]; exact HX.out.1.step HL.out, HX.out.2⟩
        case measure => simp [nV]; omega
      · obtain rfl : k = N := by omega
        have HW : Hid (Wd (bz s) m wd) := WdK.done (by rw [HNN.out]; exact HX.out.1)
        have HLn : Hid (Calls Tryd.prog 11 #[.string s, .int .i64 n] wr (LinePost s m n wr)) := line13_any s n m HS.out (by omega) wr
        go_wp2_with (go_at_call 11; refine HLn.out.mono ?_; rintro e W3 ⟨t, ok, rfl, hP, kb⟩; refine Hid.out ?_)
        refine Lib.hid ?_
        have H3 : Hid (Below w.heap.size w W3) := by
          rw [HX.out.2] at kb
          exact H2.out.1.trans (kb.mono H2.out.1.size)
        have HV : Hid ((n < 1 ∨ (k : Int) < n) → ok = false ∧ t = ⟨#[]⟩) := fun h => by
          rcases hP with ⟨_, a, b, hl, _⟩ | ⟨h1, h2, _⟩
          · exfalso
            have e := (hl.2.2 a (by have := hl.1; have := hl.2.1; omega)).2 ⟨Nat.le_refl _, hl.1⟩
            have h1 := (lnF_le (bz s) a).1
            have h2 := ln_mono (bz s) (show a ≤ m by have := hl.1; have := hl.2.1; omega)
            have h3 := HNN.out
            omega
          · exact ⟨h1, by rw [h2, nil_txt]⟩
        have HU : Hid (1 ≤ n → n ≤ (k : Int) → ok = true ∧ W3.cell? ⟨g, (n - 1).toNat, none⟩ = some (.string t)) := fun h1 h2 => by
          obtain ⟨a, b, hl, hc⟩ := H2.out.2.1 (n - 1).toNat (by omega)
          rw [show (((n - 1).toNat : Nat) : Int) + 1 = n by omega] at hl
          rcases hP with ⟨h3, a', b', hl', ht⟩ | ⟨_, _, h4⟩
          · obtain ⟨rfl, rfl⟩ := hl.uniq hl'
            refine ⟨h3, ?_⟩
            rw [ht, ← hc, ← HX.out.2]
            exact kb.cell (p := ⟨g, (n - 1).toNat, none⟩) (by rw [HX.out.2]; exact H2.out.2.2)
          · have e := (hl.2.2 a (by have := hl.1; have := hl.2.1; omega)).2 ⟨Nat.le_refl _, hl.1⟩
            exact absurd e (h4 a (by have := hl.1; have := hl.2.1; omega))
        clear hP kb HLn HX hn0 hwd
        go_upto_region 12 with fail
        go_cut [44] (fun v wx => v = .bool (decide (n < 1 ∨ (k : Int) < n)) ∧ wx = W3)
        case first =>
          by_cases h1 : n < 1
          · go_wp2_with fail
            go_meet
            exact ⟨by simp [h1], rfl⟩
          · by_cases h2 : (k : Int) < n
            · go_wp2_with fail
              go_meet
              exact ⟨by simp [h2], rfl⟩
            · go_wp2_with fail
              go_meet
              exact ⟨by simp; omega, rfl⟩
        case rest =>
          obtain ⟨rfl, rfl⟩ := hcut
          go_upto_if 44 with (fail)
          go_cut [9] (fun v wx => v = .bool true ∧ wx = wc)
          case first =>
            by_cases h : n < 1 ∨ (k : Int) < n
            · obtain ⟨rfl, rfl⟩ := HV.out h
              have h9 : decide (n < 1 ∨ (k : Int) < n) = true := by simp [h]
              rw [h9]
              go_wp2_with fail
              go_meet
              exact ⟨by first | rfl | simp, rfl⟩
            · obtain ⟨rfl, hc⟩ := HU.out (by omega) (by omega)
              have h9 : decide (n < 1 ∨ (k : Int) < n) = false := by simp [h]
              rw [h9]
              obtain ⟨q, rfl⟩ : ∃ q : Nat, n = (q : Int) + 1 := ⟨(n - 1).toNat, by omega⟩
              rw [show ((q : Int) + 1 - 1).toNat = q by omega] at hc
              have i1 : (q : Int) < (k : Int) := by omega
              have e1 : (t.toList == t.toList) = true := by simp
              go_wp2_with fail
              go_meet
              exact ⟨by first | rfl | simp, rfl⟩
          case rest =>
            obtain ⟨rfl, rfl⟩ := hcut
            clear HV HU
            obtain ⟨V, hV⟩ : ∃ V, V = wc := ⟨_, rfl⟩
            rw [← hV] at H3 ⊢
            clear hV
            go_wp2_with fail
            go_loopw [10] (fun v10 wr => ∃ j : Nat, j ≤ m ∧ v10 = .int .i64 (j : Int) ∧ Hid ((∀ i, i < j → bz s i = 32) ∧ wr = V)) (fun v _ => m - (nV v).toNat)
            case atStart => exact ⟨0, Nat.zero_le _, rfl, fun i h => by omega, rfl⟩
            case round =>
              obtain ⟨j, hj, rfl, HJ⟩ := hrel
              have Hend : Hid (InD (bz s) m j → Calls Tryd.prog 12 #[.string s] V (fun e w' => e = .returned (.int .i64 (k : Int)) ∧ Below V.heap.size V w') ∧ (∀ W, Calls Tryd.prog 13 #[.string s] W (fun e w' => e = .returned (.int .i64 (wd : Int)) ∧ Below W.heap.size W w')) ∧ (∀ W, Calls Tryd.prog 14 #[.string s] W (fun e w' => e = .returned (.int .i64 (j : Int)) ∧ Below W.heap.size W w'))) := fun hI => by
                refine ⟨?_, fun W => ?_, fun W => ?_⟩
                · have := lines13_any s m HS.out (by omega) V
                  rw [HNN.out] at this
                  exact this
                · refine (wide13_any s m HS.out (by omega) W).mono ?_
                  rintro e w' ⟨v, rfl, h1, h2⟩
                  rw [h1.uniq HW.out]
                  exact ⟨rfl, h2⟩
                · refine (indent13_any s m HS.out (by omega) W).mono ?_
                  rintro e w' ⟨v, rfl, h1, h2⟩
                  rw [h1.uniq hI]
                  exact ⟨rfl, h2⟩
              by_cases hlt : j < m
              · have i1 : (j : Int) < (m : Int) := by omega
                have hks : j < s.size := by omega
                have hbz := bz_at s j hks
                obtain ⟨bt, hbe⟩ : ∃ bt, (s[j]'hks).toNat = bt := ⟨_, rfl⟩
                rw [hbe] at hbz
                have Hbz := Lib.hid hbz
                clear hbz
                by_cases hz : bt = 32
                · have HZ : Hid (bz s j = 32) := by rw [← Hbz.out]; exact hz
                  subst hz
                  clear Hend
                  go_wp2_with fail
                  go_roundw
                  case rel => exact ⟨j + 1, by omega, by go_num, fun i hi => by
                    by_cases e : i < j
                    · exact HJ.out.1 i e
                    · rw [show i = j by omega]; exact HZ.out, HJ.out.2⟩
                  case measure => simp [nV]; omega
                · have hz' : ¬ ((bt : Int) = 32) := by omega
                  have HI : Hid (InD (bz s) m j) := ⟨hj, HJ.out.1, fun _ => by rw [← Hbz.out]; exact hz⟩
                  obtain ⟨C1, C2, C3⟩ := Hend.out HI.out
                  have HC1' := Lib.hid C1
                  have HC2 := Lib.hid C2
                  have HC3 := Lib.hid C3
                  have hwr := HJ.out.2
                  subst hwr
                  clear C1 C2 C3 Hend
                  go_wp2_with (go_at_call 12; refine HC1'.out.mono ?_; rintro e W4 ⟨rfl, b4⟩; refine Hid.out ?_)
                  refine Lib.hid ?_
                  have H4 := Lib.hid (H3.out.trans (b4.mono H3.out.size))
                  clear b4
                  have g1 : ((k : Int) == (k : Int)) = true := by simp
                  go_wp2_with (go_at_call 13; refine (HC2.out _).mono ?_; rintro e W5 ⟨rfl, b5⟩; refine Hid.out ?_)
                  refine Lib.hid ?_
                  have H5 := Lib.hid (H4.out.trans (b5.mono H4.out.size))
                  clear b5
                  have g2 : ((wd : Int) == (wd : Int)) = true := by simp
                  go_wp2_with (go_at_call 14; refine (HC3.out _).mono ?_; rintro e W6 ⟨rfl, b6⟩; refine Hid.out ?_)
                  refine Lib.hid ?_
                  have H6 := Lib.hid (H5.out.trans (b6.mono H5.out.size))
                  clear b6
                  have g3 : ((j : Int) == (j : Int)) = true := by simp
                  go_wp2_with fail
                  go_ret
                  exact ⟨rfl, H6.out⟩
              · have i1 : ¬ ((j : Int) < (m : Int)) := by omega
                have HI : Hid (InD (bz s) m j) := ⟨hj, HJ.out.1, fun h => absurd h hlt⟩
                obtain ⟨C1, C2, C3⟩ := Hend.out HI.out
                have HC1' := Lib.hid C1
                have HC2 := Lib.hid C2
                have HC3 := Lib.hid C3
                have hwr := HJ.out.2
                subst hwr
                clear C1 C2 C3 Hend
                go_wp2_with (go_at_call 12; refine HC1'.out.mono ?_; rintro e W4 ⟨rfl, b4⟩; refine Hid.out ?_)
                refine Lib.hid ?_
                have H4 := Lib.hid (H3.out.trans (b4.mono H3.out.size))
                clear b4
                have g1 : ((k : Int) == (k : Int)) = true := by simp
                go_wp2_with (go_at_call 13; refine (HC2.out _).mono ?_; rintro e W5 ⟨rfl, b5⟩; refine Hid.out ?_)
                refine Lib.hid ?_
                have H5 := Lib.hid (H4.out.trans (b5.mono H4.out.size))
                clear b5
                have g2 : ((wd : Int) == (wd : Int)) = true := by simp
                go_wp2_with (go_at_call 14; refine (HC3.out _).mono ?_; rintro e W6 ⟨rfl, b6⟩; refine Hid.out ?_)
                refine Lib.hid ?_
                have H6 := Lib.hid (H5.out.trans (b6.mono H5.out.size))
                clear b6
                have g3 : ((j : Int) == (j : Int)) = true := by simp
                go_wp2_with fail
                go_ret
                exact ⟨rfl, H6.out⟩
end Go.Proofs.YtbacgnhkapancaaDoor
