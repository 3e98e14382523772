import Derived.Test.YtcohjopbhopcgaaGPlI
import Derived.Test.YtcohjopbhopcgaaGFew
import Derived.Test.YtcohjopbhopcgaaGSame
import Derived.Test.YtcohjopbhopcgaaTk
namespace Go.Proofs.Ytcohjopbhopcgaa
open Go.RowKit Go.Maps Go.WideElems Go.ChangeMaps Go.MapKept
set_option linter.unusedVariables false
set_option linter.unusedSimpArgs false

theorem adN_m {l : List ByteArray} {k n : Nat} (h : (adU l k).length = n) : n ≤ 300 := by rw [← h]; exact adU_len l k
set_option maxHeartbeats 4000000 in
set_option maxRecDepth 100000 in
theorem symbolsPlays_any (l : List ByteArray) (n c : Nat) (a : Option Addr) (t : ByteArray) (x : Int) (hn : l.length = n) (hn9 : n ≤ 9223372036854775807) (hs9 : ∀ j (h : j < l.length), l[j].size ≤ 9223372036854775807) (ht9 : t.size ≤ 9223372036854775807) (w : World) (h1 : SsAt w a l) :
    Calls Try.prog 3 #[.slice a n c, .string t, .int .i64 x] w fun e w' => e = .returned (.bool true) ∧ Below w.heap.size w w' := by
  have H := Lib.hid (And.intro h1 hn)
  have HW := Lib.hid (awake16_any w)
  have HFw := Lib.hid (fun W (b : Below w.heap.size w W) => few16_any l n c a hn hn9 hs9 W (h1.below b))
  clear h1 hn hs9
  go_enter Try.func3, Try.ntmps3
  go_wp2_with (go_at_call 5; refine HW.out.mono ?_; rintro e w1 ⟨rfl, b1⟩)
  have HF := Lib.hid (HFw.out _ b1)
  have H1 := Lib.hid b1
  clear b1 HW HFw
  go_wp2_with (go_at_call 6; refine HF.out.mono ?_)
  rintro e w2 ⟨bo, rfl, hbo, rfl⟩
  clear HF
  rcases bo with _ | _
  · clear hbo
    go_wp2_with fail
    go_ret
    exact ⟨rfl, H1.out⟩
  have HB := Lib.hid (hbo rfl)
  clear hbo
  by_cases h100 : 100 < t.size
  · have i1 : (100 : Int) < (t.size : Int) := by omega
    go_wp2_with fail
    go_ret
    exact ⟨rfl, H1.out⟩
  have i1 : ¬ ((100 : Int) < (t.size : Int)) := by omega
  have hn4 : n ≤ 400 := by have := HB.out.n; have := H.out.2; omega
  clear hn9 ht9
  go_wp2_with (go_at_call 7; refine (new16_any _).mono ?_)
  rintro e w3 ⟨rfl, m3, b3⟩
  have H3 : Hid (PlI l w2 0 (.slice none 0 0) none 0 w3) := ⟨m3, fun h => absurd h (by simp [adU]), rfl, fun _ => rfl, fun ad e => (by cases e), b3⟩
  clear m3 b3
  obtain ⟨p, hp⟩ : ∃ p, w2.heap.size = p := ⟨_, rfl⟩
  have HP := Lib.hid hp
  rw [hp]
  clear hp
  go_wp2_with fail
  go_loopw [8, 9] (fun vw vi wr => ∃ (k : Nat) (v : Value) (a' : Option Addr) (m c' : Nat), vw = .slice a' m c' ∧ vi = .int .i64 k ∧ k ≤ n ∧ Hid (PlI l w2 k v a' m wr)) (fun _ vi _ => n - (intOf vi).toNat)
  case atStart => exact ⟨0, _, none, 0, 0, rfl, rfl, Nat.zero_le _, H3.out⟩
  case round =>
    clear H3
    obtain ⟨k, v, a', m, c', rfl, rfl, hk, HX⟩ := hrel
    have hm3 : m ≤ 300 := adN_m HX.out.len
    by_cases hlt : k < n
    · have hkA : k < l.length := by rw [H.out.2]; exact hlt
      have i2 : (k : Int) < (n : Int) := by omega
      have HSl := Lib.hid (H.out.1.below (H1.out.trans (HX.out.bel.mono H1.out.size)))
      obtain ⟨g1, o1, rfl, hg1, q1⟩ := HSl.out (by omega)
      have x1 := q1 k hkA
      have hsz := HB.out.s k hkA
      have HA := Lib.hid (addS_any HX.out.tb (adU_len l k) l[k] (Nat.le_trans hsz (by omega)))
      rw [HP.out] at HA
      clear q1
      obtain ⟨s, hs⟩ : ∃ s, l[k]'hkA = s := ⟨_, rfl⟩
      rw [hs] at x1 HA hsz
      have Hs := Lib.hid hs
      have Hx1 := Lib.hid (And.intro x1 hg1)
      have HkA := Lib.hid hkA
      clear hs
      go_wp2_with fail
      refine HA.out.mono ?_
      rintro e w4 ⟨v2, rfl, m4, c4, o4⟩
      clear x1 hg1 HA
      have H4 : Hid (TbM w4 w2.heap.size w2.heap.size v2 (adU l (k + 1)) ∧ SsAt w4 a' (adU l k) ∧ (∀ ad, a' = some ad → ad.block < w4.heap.size ∧ ad.block ≠ w2.heap.size ∧ some ad.block ≠ v2.ownBlock) ∧ Below w2.heap.size w2 w4) :=
        HX.out.add hkA (by rw [Hs.out, HP.out]; exact m4) (by rw [HP.out]; exact c4) o4
      clear m4 c4 o4
      have HRA := Lib.hid (radd16_any (adU l k) s m c' a' HX.out.len hm3 (by unfold maxLen; omega) HX.out.nil w4 H4.out.2.1)
      have HNil := Lib.hid HX.out.nil
      have HSl4 : Hid (w4.cell? ⟨g1, o1 + k, none⟩ = some (.string s) ∧ g1 < w4.heap.size) := by
        obtain ⟨g', o', e', hg', q'⟩ := (H.out.1.below (H1.out.trans (H4.out.2.2.2.mono H1.out.size))) (by omega)
        injection e' with e'
        injection e' with e1 e2
        subst e1 e2
        exact ⟨by rw [q' k hkA, Hs.out], hg'⟩
      clear HX HSl Hx1
      have x4 := HSl4.out.1
      go_wp2_with (go_at_call 9; refine HRA.out.mono ?_; rintro e w5 ⟨a5, m5, c5, rfl, l5, s5, d5, b5⟩)
      have H5 : Hid (PlI l w2 (k + 1) v2 a5 m5 w5) := PlI.step HkA.out HNil.out H4.out (by rw [Hs.out]; exact l5) (by rw [Hs.out]; exact s5) b5 (d5.imp (fun h => ⟨h.1, h.2.1⟩) (fun h => h))
      have hm5 : m5 ≤ 300 := adN_m H5.out.len
      have HSl5 : Hid (w5.cell? ⟨g1, o1 + k, none⟩ = some (.string s) ∧ g1 < w5.heap.size) := ⟨(b5.cell (p := ⟨g1, o1 + k, none⟩) HSl4.out.2).trans HSl4.out.1, by have := b5.size; have := HSl4.out.2; omega⟩
      clear l5 s5 d5 b5 x4 HSl4 H4 HRA HNil
      generalize adI (adU l k) s = y
      generalize adE (adU l k) s = z
      have hyy : (y != y) = false := by simp
      have hzz : (z != z) = false := by simp
      have hmm : ((m5 : Int) != (m5 : Int)) = false := by simp
      obtain ⟨f, hf⟩ : ∃ f, fdS (adU l (k + 1)) s = f := ⟨_, rfl⟩
      have hff : (f != f) = false := by simp
      go_upto_region 13 with fail
      refine wp_region_held_drew (S := fun W' => W' = w5.drew) (by kernel_rfl) rfl (fun hHeld => ?_)
      have H6 : Hid (PlI l w2 (k + 1) v2 a5 m5 w5.drew) := H5.out.keep ⟨rfl, rfl, rfl, Nat.le_refl _, fun _ _ => rfl⟩
      have x6 : w5.drew.cell? ⟨g1, o1 + k, none⟩ = some (.string s) := HSl5.out.1
      generalize w5.drew = w6 at H6 x6 hHeld ⊢
      have HL := Lib.hid (len16_any H6.out.tb)
      rw [H6.out.len, HP.out] at HL
      have HFi : Hid (Calls Try.prog 11 #[.pointer (some ⟨p, 0, none⟩), .string s] w6 fun e w' => e = .returned (.int .i64 f) ∧ w' = w6) := by
        have := find16_any H6.out.tb (by rw [H6.out.len]; omega) s
        unfold FindSP at this
        rw [hf, HP.out] at this
        exact this
      have HRf : Hid (Calls Try.prog 12 #[.slice a5 m5 c5, .string s] w6 fun e w' => e = .returned (.int .i64 f) ∧ w' = w6) := by
        have := rfind16_any (adU l (k + 1)) s m5 c5 a5 H6.out.len (by omega) w6 H6.out.rf
        unfold FindSP at this
        rw [hf] at this
        exact this
      clear hf H5 HSl5
      refine tkA 0 ?_ (hy := by intro wz hSw; subst hSw; (try simp only [Act.put, List.setIfInBounds_toArray, List.set_cons_zero, List.set_cons_succ]); go_simp; first | done | with_reducible rfl)
      try simp only [Act.put, List.setIfInBounds_toArray, List.set_cons_zero, List.set_cons_succ]
      refine tkA 1 ?_ (hy := by intro wz hSw; subst hSw; (try simp only [Act.put, List.setIfInBounds_toArray, List.set_cons_zero, List.set_cons_succ]); go_simp; first | done | with_reducible rfl)
      try simp only [Act.put, List.setIfInBounds_toArray, List.set_cons_zero, List.set_cons_succ]
      refine tkA 2 (v := .bool false) ?_ (hy := by intro wz hSw; subst hSw; (try simp only [Act.put, List.setIfInBounds_toArray, List.set_cons_zero, List.set_cons_succ]); go_simp; first | done | with_reducible rfl)
      try simp only [Act.put, List.setIfInBounds_toArray, List.set_cons_zero, List.set_cons_succ]
      refine tkA 3 ?_ (hy := by intro wz hSw; subst hSw; (try simp only [Act.put, List.setIfInBounds_toArray, List.set_cons_zero, List.set_cons_succ]); go_simp; first | done | with_reducible rfl)
      try simp only [Act.put, List.setIfInBounds_toArray, List.set_cons_zero, List.set_cons_succ]
      refine tkA 4 ?_ (hy := by intro wz hSw; subst hSw; (try simp only [Act.put, List.setIfInBounds_toArray, List.set_cons_zero, List.set_cons_succ]); go_simp; first | done | with_reducible rfl)
      try simp only [Act.put, List.setIfInBounds_toArray, List.set_cons_zero, List.set_cons_succ]
      refine tkA 5 ?_ (hy := by intro wz hSw; subst hSw; (try simp only [Act.put, List.setIfInBounds_toArray, List.set_cons_zero, List.set_cons_succ]); go_simp; first | done | with_reducible rfl)
      try simp only [Act.put, List.setIfInBounds_toArray, List.set_cons_zero, List.set_cons_succ]
      refine tkA 6 (v := .bool false) ?_ (hy := by intro wz hSw; subst hSw; (try simp only [Act.put, List.setIfInBounds_toArray, List.set_cons_zero, List.set_cons_succ]); go_simp; first | done | with_reducible rfl)
      try simp only [Act.put, List.setIfInBounds_toArray, List.set_cons_zero, List.set_cons_succ]
      refine tkA 7 ?_ (hy := by intro wz hSw; subst hSw; (try simp only [Act.put, List.setIfInBounds_toArray, List.set_cons_zero, List.set_cons_succ]); go_simp; first | done | with_reducible rfl)
      try simp only [Act.put, List.setIfInBounds_toArray, List.set_cons_zero, List.set_cons_succ]
      refine tkA 8 ?_ (hy := by intro wz hSw; subst hSw; (try simp only [Act.put, List.setIfInBounds_toArray, List.set_cons_zero, List.set_cons_succ]); go_simp; first | done | with_reducible rfl)
      try simp only [Act.put, List.setIfInBounds_toArray, List.set_cons_zero, List.set_cons_succ]
      refine tkA 9 ?_ (hy := by intro wz hSw; subst hSw; (try simp only [Act.put, List.setIfInBounds_toArray, List.set_cons_zero, List.set_cons_succ]); go_simp; first | done | with_reducible rfl)
      try simp only [Act.put, List.setIfInBounds_toArray, List.set_cons_zero, List.set_cons_succ]
      refine tkA 11 ?_ (hy := by intro wz hSw; subst hSw; (try simp only [Act.put, List.setIfInBounds_toArray, List.set_cons_zero, List.set_cons_succ]); go_simp; first | done | with_reducible rfl)
      try simp only [Act.put, List.setIfInBounds_toArray, List.set_cons_zero, List.set_cons_succ]
      refine tkA 12 ?_ (hy := by intro wz hSw; subst hSw; (try simp only [Act.put, List.setIfInBounds_toArray, List.set_cons_zero, List.set_cons_succ]); go_simp; first | done | with_reducible rfl)
      try simp only [Act.put, List.setIfInBounds_toArray, List.set_cons_zero, List.set_cons_succ]
      refine rd1 10 (fun K hK => ?_)
      go_simp
      go_at_call 10
      refine HL.out.mono ?_
      rintro e w8 ⟨rfl, rfl⟩
      try go_wp2_with fail
      refine hK.out _ _ rfl (fun hHeld => ?_)
      clear hK K
      try simp only [Act.put, List.setIfInBounds_toArray, List.set_cons_zero, List.set_cons_succ]
      refine tkA 13 (v := .bool false) ?_ (hy := by intro wz hSw; subst hSw; (try simp only [Act.put, List.setIfInBounds_toArray, List.set_cons_zero, List.set_cons_succ]); go_simp; first | done | with_reducible rfl)
      try simp only [Act.put, List.setIfInBounds_toArray, List.set_cons_zero, List.set_cons_succ]
      refine tkA 14 ?_ (hy := by intro wz hSw; subst hSw; (try simp only [Act.put, List.setIfInBounds_toArray, List.set_cons_zero, List.set_cons_succ]); go_simp; first | done | with_reducible rfl)
      try simp only [Act.put, List.setIfInBounds_toArray, List.set_cons_zero, List.set_cons_succ]
      refine tkA 15 ?_ (hy := by intro wz hSw; subst hSw; (try simp only [Act.put, List.setIfInBounds_toArray, List.set_cons_zero, List.set_cons_succ]); go_simp; first | done | with_reducible rfl)
      try simp only [Act.put, List.setIfInBounds_toArray, List.set_cons_zero, List.set_cons_succ]
      refine tkA 16 ?_ (hy := by intro wz hSw; subst hSw; (try simp only [Act.put, List.setIfInBounds_toArray, List.set_cons_zero, List.set_cons_succ]); go_simp; first | done | with_reducible rfl)
      try simp only [Act.put, List.setIfInBounds_toArray, List.set_cons_zero, List.set_cons_succ]
      refine tkA 17 ?_ (hy := by intro wz hSw; subst hSw; (try simp only [Act.put, List.setIfInBounds_toArray, List.set_cons_zero, List.set_cons_succ]); go_simp; first | done | with_reducible rfl)
      try simp only [Act.put, List.setIfInBounds_toArray, List.set_cons_zero, List.set_cons_succ]
      refine tkA 18 ?_ (hy := by intro wz hSw; subst hSw; (try simp only [Act.put, List.setIfInBounds_toArray, List.set_cons_zero, List.set_cons_succ]); go_simp; first | done | with_reducible rfl)
      try simp only [Act.put, List.setIfInBounds_toArray, List.set_cons_zero, List.set_cons_succ]
      refine tkA 19 ?_ (hy := by intro wz hSw; subst hSw; (try simp only [Act.put, List.setIfInBounds_toArray, List.set_cons_zero, List.set_cons_succ]); go_simp; first | done | with_reducible rfl)
      try simp only [Act.put, List.setIfInBounds_toArray, List.set_cons_zero, List.set_cons_succ]
      refine tkA 20 (v := .string s) ?_ (hy := by intro wz hSw; subst hSw; (try simp only [Act.put, List.setIfInBounds_toArray, List.set_cons_zero, List.set_cons_succ]); go_simp; first | done | with_reducible rfl)
      try simp only [Act.put, List.setIfInBounds_toArray, List.set_cons_zero, List.set_cons_succ]
      refine tkA 22 ?_ (hy := by intro wz hSw; subst hSw; (try simp only [Act.put, List.setIfInBounds_toArray, List.set_cons_zero, List.set_cons_succ]); go_simp; first | done | with_reducible rfl)
      try simp only [Act.put, List.setIfInBounds_toArray, List.set_cons_zero, List.set_cons_succ]
      refine tkA 23 ?_ (hy := by intro wz hSw; subst hSw; (try simp only [Act.put, List.setIfInBounds_toArray, List.set_cons_zero, List.set_cons_succ]); go_simp; first | done | with_reducible rfl)
      try simp only [Act.put, List.setIfInBounds_toArray, List.set_cons_zero, List.set_cons_succ]
      refine tkA 24 ?_ (hy := by intro wz hSw; subst hSw; (try simp only [Act.put, List.setIfInBounds_toArray, List.set_cons_zero, List.set_cons_succ]); go_simp; first | done | with_reducible rfl)
      try simp only [Act.put, List.setIfInBounds_toArray, List.set_cons_zero, List.set_cons_succ]
      refine tkA 25 ?_ (hy := by intro wz hSw; subst hSw; (try simp only [Act.put, List.setIfInBounds_toArray, List.set_cons_zero, List.set_cons_succ]); go_simp; first | done | with_reducible rfl)
      try simp only [Act.put, List.setIfInBounds_toArray, List.set_cons_zero, List.set_cons_succ]
      refine tkA 26 (v := .string s) ?_ (hy := by intro wz hSw; subst hSw; (try simp only [Act.put, List.setIfInBounds_toArray, List.set_cons_zero, List.set_cons_succ]); go_simp; first | done | with_reducible rfl)
      try simp only [Act.put, List.setIfInBounds_toArray, List.set_cons_zero, List.set_cons_succ]
      refine rd1 21 (fun K hK => ?_)
      go_simp
      go_at_call 11
      refine HFi.out.mono ?_
      rintro e w8 ⟨rfl, rfl⟩
      try go_wp2_with fail
      refine hK.out _ _ rfl (fun hHeld => ?_)
      clear hK K
      try simp only [Act.put, List.setIfInBounds_toArray, List.set_cons_zero, List.set_cons_succ]
      refine rd1 27 (fun K hK => ?_)
      go_simp
      go_at_call 12
      refine HRf.out.mono ?_
      rintro e w8 ⟨rfl, rfl⟩
      try go_wp2_with fail
      refine hK.out _ _ rfl (fun hHeld => ?_)
      clear hK K
      try simp only [Act.put, List.setIfInBounds_toArray, List.set_cons_zero, List.set_cons_succ]
      refine tkA 28 (v := .bool false) ?_ (hy := by intro wz hSw; subst hSw; (try simp only [Act.put, List.setIfInBounds_toArray, List.set_cons_zero, List.set_cons_succ]); go_simp; first | done | with_reducible rfl)
      try simp only [Act.put, List.setIfInBounds_toArray, List.set_cons_zero, List.set_cons_succ]
      refine tkA 29 ?_ (hy := by intro wz hSw; subst hSw; (try simp only [Act.put, List.setIfInBounds_toArray, List.set_cons_zero, List.set_cons_succ]); go_simp; first | done | with_reducible rfl)
      try simp only [Act.put, List.setIfInBounds_toArray, List.set_cons_zero, List.set_cons_succ]
      refine wpAnyH_done (by kernel_rfl) ?_ _
      clear hHeld HL HFi HRf
      go_wp2_with fail
      go_roundw
      case rel => exact ⟨k + 1, v2, a5, m5, c5, rfl, by go_num, by omega, H6.out⟩
      case measure => simp [intOf]; omega
    · obtain rfl : k = n := by omega
      obtain ⟨L, hL⟩ : ∃ L, adU l k = L := ⟨_, rfl⟩
      have HT := Lib.hid HX.out.tb
      have HR := Lib.hid HX.out.rf
      have hLm := HX.out.len
      have HBl := Lib.hid (H1.out.trans (HX.out.bel.mono H1.out.size))
      rw [hL] at HT HR hLm
      rw [HP.out] at HT
      have HLm := Lib.hid hLm
      clear hL hLm HX
      have HNm : Hid (∀ q : Nat, x = ((q : Nat) : Int) → ∀ (h : q < L.length), nmS L x = L[q]) := fun q e h => by
        subst e
        unfold nmS
        rw [dif_pos ⟨by omega, by simpa using h⟩]
        simp
      have HNo : Hid (¬ (0 ≤ x ∧ x.toNat < L.length) → nmS L x = ⟨#[]⟩) := fun h => dif_neg h
      obtain ⟨u, hu⟩ : ∃ u, nmS L x = u := ⟨_, rfl⟩
      have HU := Lib.hid hu
      clear hu
      have hcl : (0 ≤ x ∧ x < (m : Int) ∧ ∃ q : Nat, x = ((q : Nat) : Int) ∧ ∃ g o, a' = some ⟨g, o, none⟩ ∧ wr.cell? ⟨g, o + q, none⟩ = some (.string u)) ∨ (¬ (0 ≤ x) ∧ u = ⟨#[]⟩) ∨ (0 ≤ x ∧ ¬ (x < (m : Int)) ∧ u = ⟨#[]⟩) := by
        by_cases h0 : 0 ≤ x
        · by_cases h2 : x < (m : Int)
          · obtain ⟨q, rfl⟩ := Int.eq_ofNat_of_zero_le h0
            have hq : q < L.length := by rw [HLm.out]; omega
            obtain ⟨g, o, e, _, hc⟩ := HR.out (by omega)
            exact Or.inl ⟨h0, h2, q, rfl, g, o, e, by rw [hc q hq, ← HNm.out q rfl hq, HU.out]⟩
          · exact Or.inr (Or.inr ⟨h0, h2, by rw [← HU.out]; exact HNo.out (fun h => by have := HLm.out; omega)⟩)
        · exact Or.inr (Or.inl ⟨h0, by rw [← HU.out]; exact HNo.out (fun h => h0 h.1)⟩)
      clear HNm HNo
      have huu : (u.toList == u.toList) = true := by simp
      obtain ⟨f, hf⟩ : ∃ f, fdS L t = f := ⟨_, rfl⟩
      have Hf := Lib.hid hf
      have hff : (f == f) = true := by simp
      clear hf
      have HNs := Lib.hid (names16_any HT.out (by rw [HLm.out]; omega))
      have HQ : Hid (∀ w' (a4 : Option Addr) (c4 : Nat), w'.ownsRow wr.heap.size 9 1 (.slice a4 L.length c4) L.length (sss L) → Below wr.heap.size wr w' → Calls Try.prog 13 #[.slice a4 L.length c4, .slice a' m c'] w' fun e w2 => e = .returned (.bool true) ∧ Below w'.heap.size w' w2) := fun w' a4 c4 ho hb => by
        refine (rsame16_any L L L.length c4 m c' a4 a' rfl HLm.out (by rw [HLm.out]; omega) (by omega) w' (own_sss rfl ho) (HR.out.below hb)).mono ?_
        rintro e w2 ⟨rfl, hb2⟩
        exact ⟨by simp, hb2⟩
      have HG : Hid (∀ w', Below wr.heap.size wr w' → (Calls Try.prog 11 #[.pointer (some ⟨p, 0, none⟩), .string t] w' fun e w2 => e = .returned (.int .i64 f) ∧ w2 = w') ∧ (Calls Try.prog 12 #[.slice a' m c', .string t] w' fun e w2 => e = .returned (.int .i64 f) ∧ w2 = w') ∧ (Calls Try.prog 15 #[.pointer (some ⟨p, 0, none⟩), .int .i64 x] w' fun e w2 => e = .returned (.string u) ∧ w2 = w')) := fun w' hb => by
        refine ⟨?_, ?_, ?_⟩
        · have := find16_any (HT.out.keep hb) (by rw [HLm.out]; omega) t
          unfold FindSP at this
          rw [Hf.out] at this
          exact this
        · have := rfind16_any L t m c' a' HLm.out (by omega) w' (HR.out.below hb)
          unfold FindSP at this
          rw [Hf.out] at this
          exact this
        · have := name16_any (HT.out.keep hb) (by rw [HLm.out]; omega) x
          rw [HU.out] at this
          exact this
      rcases hcl with ⟨h0, h2, q, rfl, g, o, rfl, xq⟩ | ⟨h0, rfl⟩ | ⟨h0, h2, rfl⟩
      all_goals
        go_wp2_with (go_at_call 14; refine HNs.out.mono ?_; rintro e w5 ⟨a5, c5, rfl, r5, b5⟩)
        have HS5 := Lib.hid (HQ.out w5 a5 c5 r5 b5)
        have HB5 := Lib.hid b5
        clear r5 b5
        go_wp2_with (go_at_call 13; refine HS5.out.mono ?_; rintro e w6 ⟨rfl, b6⟩)
        have HB6 := Lib.hid (HB5.out.trans (b6.mono HB5.out.size))
        clear b6
        have HG6 := Lib.hid (HG.out _ HB6.out)
        go_wp2_with (go_at_call 11; refine HG6.out.1.mono ?_; rintro e w7 ⟨rfl, rfl⟩)
        go_wp2_with (go_at_call 12; refine HG6.out.2.1.mono ?_; rintro e w8 ⟨rfl, rfl⟩)
        go_wp2_with (go_at_call 15; refine HG6.out.2.2.mono ?_; rintro e w9 ⟨rfl, rfl⟩)
        go_wp2_with fail
        go_ret
        exact ⟨rfl, HBl.out.trans (HB6.out.mono HBl.out.size)⟩
end Go.Proofs.Ytcohjopbhopcgaa
