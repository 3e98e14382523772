import Derived.Test.YtcohjopbhopcgaaGOf
import Derived.Test.YtcohjopbhopcgaaGRef
import Derived.Test.YtcohjopbhopcgaaGFew
import Derived.Test.YtcohjopbhopcgaaGSame
namespace Go.Proofs.Ytcohjopbhopcgaa
open Go.RowKit Go.Maps Go.WideElems Go.ChangeMaps Go.MapKept
set_option linter.unusedVariables false
set_option linter.unusedSimpArgs false

theorem own_putG {w : World} {base e g n c : Nat} {xs : List Value} (h : w.ownsRow base e 1 (.slice (some ⟨g, 0, none⟩) n c) n xs) (j : Nat) (hj : j < n) (u : Value) : (w.setCell ⟨g, j, none⟩ u).ownsRow base e 1 (.slice (some ⟨g, 0, none⟩) n c) n (xs.set j u) := by
  refine ⟨by rw [List.length_set]; exact h.1, ?_⟩
  rcases h.2 with ⟨h1, _⟩ | ⟨g', cap, cur, h1, h2, h3, h4, h5, h6, h7⟩
  · cases h1
  · injection h1 with e1 _ e3
    injection e1 with e1
    injection e1 with e1
    subst e1 e3
    refine Or.inr ⟨g, c, cur.setIfInBounds j u, rfl, h2, heap_setCell_same w g j cur e u h3, h4, h5, by simpa using h6, ?_⟩
    rw [Array.toList_setIfInBounds, ← h7]
    rw [List.take_set]
/-- The reference's list holds the names that the first k texts leave. -/
structure RlI (l : List ByteArray) (W : World) (k : Nat) (a : Option Addr) (m : Nat) (wr : World) : Prop where
  rf : SsAt wr a (adU l k)
  len : (adU l k).length = m
  nil : m = 0 → a = none
  bel : Below W.heap.size W wr
theorem RlI.step {l : List ByteArray} {W : World} {k : Nat} {a a3 : Option Addr} {m m3 : Nat} {wr w3 : World} (hk : k < l.length) (h : RlI l W k a m wr)
    (h1 : (adN (adU l k) l[k]).length = m3) (h2 : SsAt w3 a3 (adN (adU l k) l[k])) (b : Below wr.heap.size wr w3) (h3 : (a3 = a ∧ m3 = m) ∨ 0 < m3) : RlI l W (k + 1) a3 m3 w3 :=
  ⟨by rw [adU_succ hk]; exact h2, by rw [adU_succ hk]; exact h1, fun e => by
    rcases h3 with ⟨e1, e2⟩ | hp
    · rw [e1]; exact h.nil (by omega)
    · omega, h.bel.trans (b.mono h.bel.size)⟩

set_option maxHeartbeats 1000000 in
set_option maxRecDepth 100000 in
theorem symbolsOf_any (l : List ByteArray) (n c : Nat) (a : Option Addr) (hn : l.length = n) (hn9 : n ≤ 9223372036854775807) (hs9 : ∀ j (h : j < l.length), l[j].size ≤ 9223372036854775807) (w : World) (h1 : SsAt w a l) :
    Calls Try.prog 4 #[.slice a n c] w fun e w' => e = .returned (.bool true) ∧ Below w.heap.size w w' := by
  have H := Lib.hid (And.intro h1 hn)
  have HW := Lib.hid (awake16_any w)
  have HFw := Lib.hid (fun W (b : Below w.heap.size w W) => few16_any l n c a hn hn9 hs9 W (h1.below b))
  clear h1 hn hs9
  go_enter Try.func4, Try.ntmps4
  go_wp2_with (go_at_call 5; refine HW.out.mono ?_; rintro e w1 ⟨rfl, b1⟩)
  have HF := Lib.hid (HFw.out _ b1)
  have H1 := Lib.hid b1
  clear b1 HW HFw
  go_wp2_with (go_at_call 6; refine HF.out.mono ?_)
  rintro e w2 ⟨bo, rfl, hbo, rfl⟩
  clear HF
  rcases bo with _ | _
  · clear hbo
    go_wp2_with fail
    go_ret
    exact ⟨rfl, H1.out⟩
  have HB := Lib.hid (hbo rfl)
  clear hbo
  have hn4 : n ≤ 400 := by have := HB.out.n; have := H.out.2; omega
  clear hn9
  have HO := Lib.hid (of16_any l HB.out n c a H.out.2 w2 (H.out.1.below H1.out))
  go_wp2_with (go_at_call 16; refine HO.out.mono ?_)
  rintro e w3 ⟨b3, h3⟩
  have H3 := Lib.hid (H1.out.trans (b3.mono H1.out.size))
  clear b3 HO
  have HS3 : Hid (RlI l w3 0 none 0 w3) := ⟨fun h => absurd h (by simp [adU]), rfl, fun _ => rfl, Below.refl _ _⟩
  rcases h3 with ⟨k0, hk0, hA, hE, rfl⟩ | ⟨hA, p, v, rfl, hm⟩
  · have HA := Lib.hid (And.intro hA hE)
    obtain ⟨z, hz⟩ : ∃ z, adE (adU l k0) (l[k0]'hk0) = z := ⟨_, rfl⟩
    rw [hz]
    have Hz := Lib.hid hz
    clear hA hE hz
    go_wp2_with fail
    go_loopw [6, 7] (fun vw vi wr => ∃ (k : Nat) (a' : Option Addr) (m c' : Nat), vw = .slice a' m c' ∧ vi = .int .i64 k ∧ k ≤ k0 ∧ Hid (RlI l w3 k a' m wr)) (fun _ vi _ => n - (intOf vi).toNat)
    case atStart => exact ⟨0, none, 0, 0, rfl, rfl, Nat.zero_le _, HS3.out⟩
    case round =>
      clear HS3
      obtain ⟨k, a', m, c', rfl, rfl, hk, HX⟩ := hrel
      have hm3 : m ≤ 300 := by rw [← HX.out.len]; exact adU_len l k
      have hkA : k < l.length := by omega
      have hln := H.out.2
      have i2 : (k : Int) < (n : Int) := by omega
      obtain ⟨g1, o1, rfl, hg1, q1⟩ := (H.out.1.below (H3.out.trans (HX.out.bel.mono H3.out.size))) (by omega)
      have x1 := q1 k hkA
      have HR := Lib.hid (radd16_any (adU l k) (l[k]'hkA) m c' a' HX.out.len hm3 (by have := HB.out.s k hkA; unfold maxLen; omega) HX.out.nil wr HX.out.rf)
      clear q1
      rcases Nat.lt_or_ge k k0 with hlt | hge
      · have hy : adE (adU l k) (l[k]'hkA) = 0 := HA.out.1 k hkA hlt
        have HST : Hid (∀ a3 m3 w3', (adN (adU l k) (l[k]'hkA)).length = m3 → SsAt w3' a3 (adN (adU l k) (l[k]'hkA)) → Below wr.heap.size wr w3' → ((a3 = a' ∧ m3 = m) ∨ 0 < m3) → RlI l w3 (k + 1) a3 m3 w3') := fun a3 m3 w3' e1 e2 e3 e4 => RlI.step hkA HX.out e1 e2 e3 e4
        generalize l[k]'hkA = s at x1 HR HST hy
        go_wp2_with (go_at_call 9; refine HR.out.mono ?_)
        rintro e w5 ⟨a5, m5, c5, rfl, l5, s5, d5, b5⟩
        have H5 := Lib.hid (HST.out a5 m5 w5 l5 s5 b5 (d5.imp (fun h => ⟨h.1, h.2.1⟩) (fun h => h.1)))
        rw [hy]
        generalize adI (adU l k) s = y
        clear l5 s5 d5 b5 HST HR hy x1 hg1
        go_wp2_with fail
        go_roundw
        case rel => exact ⟨k + 1, a5, m5, c5, rfl, by go_num, by omega, H5.out⟩
        case measure => simp [intOf]; omega
      · obtain rfl : k = k0 := by omega
        have hy : adE (adU l k) (l[k]'hkA) = z := Hz.out
        have hz0 : z ≠ 0 := by rw [← hy]; exact HA.out.2
        have i4 : ((z : Int) != 0) = true := by simp [hz0]
        have i5 : ((z : Int) == z) = true := by simp
        have i6 : ((k : Int) == (k : Int)) = true := by simp
        generalize l[k]'hkA = s at x1 HR hy
        go_wp2_with (go_at_call 9; refine HR.out.mono ?_)
        rintro e w5 ⟨a5, m5, c5, rfl, l5, s5, d5, b5⟩
        have H5 := Lib.hid (H3.out.trans ((HX.out.bel.trans (b5.mono HX.out.bel.size)).mono H3.out.size))
        rw [hy]
        generalize adI (adU l k) s = y
        clear l5 s5 d5 b5 HR hy x1 hg1 hz0
        go_wp2_with fail
        go_ret
        exact ⟨rfl, H5.out⟩
  · have HA := Lib.hid hA
    have HM := Lib.hid hm
    have hln := H.out.2
    rw [hln]
    clear hA hm
    go_wp2_with fail
    go_loopw [6, 7] (fun vw vi wr => ∃ (k : Nat) (a' : Option Addr) (m c' : Nat), vw = .slice a' m c' ∧ vi = .int .i64 k ∧ k ≤ n ∧ Hid (RlI l w3 k a' m wr)) (fun _ vi _ => n - (intOf vi).toNat)
    case atStart => exact ⟨0, none, 0, 0, rfl, rfl, Nat.zero_le _, HS3.out⟩
    case round =>
      clear HS3
      obtain ⟨k, a', m, c', rfl, rfl, hk, HX⟩ := hrel
      have hm3 : m ≤ 300 := by rw [← HX.out.len]; exact adU_len l k
      rcases Nat.lt_or_ge k n with hlt | hge
      · have hkA : k < l.length := by omega
        have i2 : (k : Int) < (n : Int) := by omega
        obtain ⟨g1, o1, rfl, hg1, q1⟩ := (H.out.1.below (H3.out.trans (HX.out.bel.mono H3.out.size))) (by omega)
        have x1 := q1 k hkA
        have HR := Lib.hid (radd16_any (adU l k) (l[k]'hkA) m c' a' HX.out.len hm3 (by have := HB.out.s k hkA; unfold maxLen; omega) HX.out.nil wr HX.out.rf)
        clear q1
        have hy : adE (adU l k) (l[k]'hkA) = 0 := HA.out k hkA hkA
        have HST : Hid (∀ a3 m3 w3', (adN (adU l k) (l[k]'hkA)).length = m3 → SsAt w3' a3 (adN (adU l k) (l[k]'hkA)) → Below wr.heap.size wr w3' → ((a3 = a' ∧ m3 = m) ∨ 0 < m3) → RlI l w3 (k + 1) a3 m3 w3') := fun a3 m3 w3' e1 e2 e3 e4 => RlI.step hkA HX.out e1 e2 e3 e4
        generalize l[k]'hkA = s at x1 HR HST hy
        go_wp2_with (go_at_call 9; refine HR.out.mono ?_)
        rintro e w5 ⟨a5, m5, c5, rfl, l5, s5, d5, b5⟩
        have H5 := Lib.hid (HST.out a5 m5 w5 l5 s5 b5 (d5.imp (fun h => ⟨h.1, h.2.1⟩) (fun h => h.1)))
        rw [hy]
        generalize adI (adU l k) s = y
        clear l5 s5 d5 b5 HST HR hy x1 hg1
        go_wp2_with fail
        go_roundw
        case rel => exact ⟨k + 1, a5, m5, c5, rfl, by go_num, by omega, H5.out⟩
        case measure => simp [intOf]; omega
      · obtain rfl : k = n := by omega
        have HM2 := Lib.hid (HM.out.keep HX.out.bel)
        have HB2 := Lib.hid (H3.out.trans (HX.out.bel.mono H3.out.size))
        have HNs := Lib.hid (names16_any HM2.out (by omega))
        have inn : ((k : Int) != (k : Int)) = false := by simp
        clear HX HM
        obtain ⟨wn, ewn⟩ : ∃ wn, wn = wr := ⟨_, rfl⟩
        subst ewn
        go_wp2_with (go_at_call 14; refine HNs.out.mono ?_)
        rintro e w5 ⟨a5, c5, rfl, r5, b5⟩
        rw [hln] at r5
        rw [hln]
        have H5 : Hid ((∃ L' : List ByteArray, w5.ownsRow wn.heap.size 9 1 (.slice a5 k c5) k (sss L') ) ∧ Below wn.heap.size wn w5) := ⟨⟨l, r5⟩, b5⟩
        clear r5 b5 HNs
        go_wp2_with fail
        go_loopw [12] (fun vi wq => ∃ (q : Nat), vi = .int .i64 q ∧ q ≤ k ∧ Hid ((∃ L' : List ByteArray, wq.ownsRow wn.heap.size 9 1 (.slice a5 k c5) k (sss L')) ∧ Below wn.heap.size wn wq)) (fun vi _ => k - (intOf vi).toNat)
        case atStart => exact ⟨0, rfl, Nat.zero_le _, H5.out⟩
        case round =>
          clear H5
          obtain ⟨q, rfl, hq, HY⟩ := hrel
          rcases Nat.lt_or_ge q k with hlt2 | hge2
          · have i3 : (q : Int) < (k : Int) := by omega
            obtain ⟨⟨L', ho⟩, hb⟩ := HY.out
            obtain ⟨g5, rfl, hg5, hw5, hc5⟩ := ownsRow_read ho (by omega)
            have hL' : L'.length = k := by have := ho.1; rw [sss_length] at this; omega
            obtain ⟨u, y1⟩ : ∃ u, wr.cell? ⟨g5, q, none⟩ = some (.string u) := ⟨L'[q]'(by omega), by rw [(hc5 q (by omega)).1]; simp [sss, hL', hlt2]⟩
            have y2 := (hc5 q (by omega)).2
            have H6 : Hid ((∃ L' : List ByteArray, (wr.setCell ⟨g5, q, none⟩ (.string ⟨#[120]⟩)).ownsRow wn.heap.size 9 1 (.slice (some ⟨g5, 0, none⟩) k c5) k (sss L')) ∧ Below wn.heap.size wn (wr.setCell ⟨g5, q, none⟩ (.string ⟨#[120]⟩))) := by
              refine ⟨⟨L'.set q ⟨#[120]⟩, ?_⟩, hb.setCell (p := ⟨g5, q, none⟩) hg5 _⟩
              have := own_putG ho q hlt2 (.string ⟨#[120]⟩)
              rw [show sss (L'.set q ⟨#[120]⟩) = (sss L').set q (.string ⟨#[120]⟩) by simp [sss, List.map_set]]
              exact this
            clear HY ho hb hg5 hw5 hc5 hL'
            go_wp2_with fail
            go_roundw
            case rel => exact ⟨q + 1, by go_num, by omega, H6.out⟩
            case measure => simp [intOf]; omega
          · obtain rfl : q = k := by omega
            have HM3 := Lib.hid (HM2.out.keep HY.out.2)
            have HB3 := Lib.hid (HB2.out.trans (HY.out.2.mono HB2.out.size))
            have HN3 := Lib.hid (names16_any HM3.out (by omega))
            clear HY HM2 HB2
            go_wp2_with (go_at_call 14; refine HN3.out.mono ?_)
            rintro e w6 ⟨a6, c6, rfl, r6, b6⟩
            have HB6 := Lib.hid (HB3.out.trans (b6.mono HB3.out.size))
            rw [hln] at r6
            rw [hln]
            have HS6 := Lib.hid (rsame16_any l l q c6 q c a6 a hln hln (by omega) (by omega) w6 (own_sss hln r6) (H.out.1.below HB6.out))
            clear r6 b6 HN3
            go_wp2_with (go_at_call 13; refine HS6.out.mono ?_)
            rintro e w7 ⟨rfl, b7⟩
            have HB7 := Lib.hid (HB6.out.trans (b7.mono HB6.out.size))
            have hll : decide (l = l) = true := by simp
            rw [hll]
            clear b7
            go_wp2_with fail
            go_ret
            exact ⟨rfl, HB7.out⟩
end Go.Proofs.Ytcohjopbhopcgaa
