import Derived.Test.YtcohjopbhopcgaaGMath
import Derived.RegionTactic
import Derived.Deep.Cut
import Derived.Deep.QuietTactic
namespace Go.Proofs.Ytcohjopbhopcgaa
open Go.RowKit Go.Maps Go.WideElems Go.ChangeMaps Go.MapKept
set_option linter.unusedVariables false
set_option linter.unusedSimpArgs false

theorem belowG (w : World) {w1 : World} (h : Below w.heap.size w w1) (n : Nat) : Below w.heap.size w (w1.drewN n) := h.trans ⟨rfl, rfl, rfl, Nat.le_refl _, fun _ _ => rfl⟩
def SameSP (l ts : List ByteArray) (w : World) (e : Ending) (w' : World) : Prop := e = .returned (.bool (decide (l = ts))) ∧ Below w.heap.size w w'
theorem same_no {l ts : List ByteArray} {i : Nat} (h1 : i < l.length) (h2 : i < ts.length) (h : l[i] ≠ ts[i]) : l ≠ ts := fun e => h (by subst e; rfl)
theorem same_yes16 {l ts : List ByteArray} (hl : l.length = ts.length) (h : ∀ j (h1 : j < l.length) (h2 : j < ts.length), l[j] = ts[j]) : l = ts := List.ext_getElem hl h
set_option maxHeartbeats 2000000 in
set_option maxRecDepth 100000 in
theorem rsame16_any (l ts : List ByteArray) (n c m d : Nat) (a b : Option Addr) (hn : l.length = n) (hm : ts.length = m) (hn9 : n ≤ 1000000) (hm9 : m ≤ 1000000) (w : World) (h1 : SsAt w a l) (h2 : SsAt w b ts) :
    Calls Try.prog 13 #[.slice a n c, .slice b m d] w (SameSP l ts w) := by
  have H := Lib.hid (And.intro h1 (And.intro h2 (And.intro hn hm)))
  have HP : Hid (∀ w', Below w.heap.size w w' → (l ≠ ts → SameSP l ts w (.returned (.bool false)) w') ∧ (l = ts → SameSP l ts w (.returned (.bool true)) w')) := fun w' hb => ⟨fun h => ⟨by simp [h], hb⟩, fun h => ⟨by simp [h], hb⟩⟩
  clear h1 h2 hn hm
  go_enter Try.func13, Try.ntmps13
  by_cases hnm : n = m
  · subst hnm
    go_wp2_with fail
    go_loopw [5] (fun v wr => ∃ k : Nat, v = .int .i64 k ∧ k ≤ n ∧ Hid (Below w.heap.size w wr ∧ ∀ j (h1 : j < l.length) (h2 : j < ts.length), j < k → l[j] = ts[j])) (fun v _ => n - (intOf v).toNat)
    case atStart => exact ⟨0, rfl, Nat.zero_le _, Below.refl _ _, fun j _ _ h => absurd h (by omega)⟩
    case round =>
      obtain ⟨k, rfl, hk, HX⟩ := hrel
      by_cases hlt : k < n
      · have hkA : k < l.length := by rw [H.out.2.2.1]; exact hlt
        have hkB : k < ts.length := by rw [H.out.2.2.2]; exact hlt
        obtain ⟨g1, o1, rfl, _, q1⟩ := (H.out.1.below HX.out.1) (by omega)
        obtain ⟨g2, o2, rfl, _, q2⟩ := (H.out.2.1.below HX.out.1) (by omega)
        have y1 := q1 k hkA
        have y2 := q2 k hkB
        have HN : Hid ((l[k] = ts[k] → ∀ j (h1 : j < l.length) (h2 : j < ts.length), j < k + 1 → l[j] = ts[j]) ∧ (l[k] ≠ ts[k] → l ≠ ts)) := by
          refine ⟨fun h j hj hj2 h3 => ?_, fun h => same_no hkA hkB h⟩
          by_cases e : j = k
          · subst e; exact h
          · exact HX.out.2 j hj hj2 (by omega)
        have i2 : (k : Int) < (n : Int) := by omega
        have hse := str_eq15 l[k] ts[k]
        clear q1 q2
        generalize l[k] = u at y1 HN hse
        generalize ts[k] = v at y2 HN hse
        rcases hE : (u.toList == v.toList) with _ | _
        · rw [hE] at hse
          have huv : u ≠ v := fun e => by simp [e] at hse
          have HZ := Lib.hid (HN.out.2 huv)
          have HB := Lib.hid HX.out.1
          have hEn : (u.toList != v.toList) = true := by simp [bne, hE]
          clear hse HN hkA hkB huv HX
          go_upto_region 6 with fail
          go_quiet (fail)
          go_wp2_with fail
          go_ret
          exact (HP.out _ (belowG w HB.out _)).1 HZ.out
        · rw [hE] at hse
          have huv : u = v := by simpa using hse
          have HZ := Lib.hid (HN.out.1 huv)
          have HB := Lib.hid HX.out.1
          have hEn : (u.toList != v.toList) = false := by simp [bne, hE]
          clear hse HN hkA hkB huv HX
          go_upto_region 6 with fail
          go_quiet (fail)
          go_wp2_with fail
          go_roundw
          case rel => exact ⟨k + 1, by go_num, by omega, belowG w HB.out _, HZ.out⟩
          case measure => simp [intOf]; omega
      · obtain rfl : k = n := by omega
        have HZ : Hid (l = ts) := same_yes16 (by rw [H.out.2.2.1, H.out.2.2.2]) (fun j h1 h2 => HX.out.2 j h1 h2 (by rw [← H.out.2.2.1]; exact h1))
        have HB := Lib.hid HX.out.1
        go_wp2_with fail
        go_ret
        exact (HP.out _ HB.out).2 HZ.out
  · have i1 : ((n : Int) != (m : Int)) = true := by simp; omega
    have HZ : Hid (l ≠ ts) := fun e => hnm (by rw [← H.out.2.2.1, ← H.out.2.2.2, e])
    go_wp2_with fail
    go_ret
    exact (HP.out _ (Below.refl _ _)).1 HZ.out
end Go.Proofs.Ytcohjopbhopcgaa
