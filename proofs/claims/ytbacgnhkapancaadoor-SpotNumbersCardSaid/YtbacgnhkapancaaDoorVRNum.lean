import Derived.Test.YtbacgnhkapancaaDoorVDig
import Derived.Test.YtbacgnhkapancaaDoorStr
namespace Go.Proofs.YtbacgnhkapancaaDoor
open Go.RowKit Go.Maps Go.WideElems Go.ChangeMaps Go.MapKept
set_option linter.unusedVariables false
set_option linter.unusedSimpArgs false

set_option maxHeartbeats 1000000 in
set_option maxRecDepth 100000 in
theorem rdigits13_any (n : Int) (h0 : -9223372036854775808 ≤ n) (h1 : n ≤ 9223372036854775807) (w : World) :
    Calls Tryd.prog 18 #[.int .i64 n] w fun e w' => e = .returned (.string (strB (Lib.itoa n))) ∧ Below w.heap.size w w' := by
  by_cases hz : n = 0
  · subst hz
    have HI : Hid (strB (Lib.itoa 0) = ⟨#[48]⟩) := by
      show _ = _
      have : Lib.itoa 0 = [48] := by unfold Lib.itoa; rw [if_neg (by omega)]; exact dd_small (by decide)
      rw [this]; rfl
    go_enter Tryd.func18, Tryd.ntmps18
    go_wp2_with fail
    go_ret
    exact ⟨by rw [HI.out]; rfl, Below.refl _ _⟩
  · have hz9 : (n == 0) = false := by simp [hz]
    have HZ := Lib.hid hz
    clear hz
    go_enter Tryd.func18, Tryd.ntmps18
    go_wp2_with fail
    have hU : n.natAbs ≤ 9223372036854775808 := by omega
    have hlen := dd_len n.natAbs hU
    have HS : Hid (∃ l, (⟨#[]⟩ : ByteArray) = strB l ∧ Lib.decDigits n.natAbs = (if n.natAbs = 0 then [] else Lib.decDigits n.natAbs) ++ l ∧ Below w.heap.size w w) := ⟨[], rfl, by rw [if_neg (by have := HZ.out; omega), List.append_nil], Below.refl _ _⟩
    generalize hlo : decide (n < 0) = lo
    have HLo := Lib.hid hlo
    clear hlo
    go_loopw [0, 3, 5] (fun v0 v3 _ wr => ∃ (z : Int) (t : ByteArray), -9223372036854775808 ≤ z ∧ z ≤ 9223372036854775807 ∧ v0 = .int .i64 z ∧ v3 = .string t ∧ t.size ≤ 19 ∧ Hid (∃ l, t = strB l ∧ Lib.decDigits n.natAbs = (if z.natAbs = 0 then [] else Lib.decDigits z.natAbs) ++ l ∧ Below w.heap.size w wr)) (fun v _ _ _ => (nV v).natAbs)
    case atStart => exact ⟨n, ⟨#[]⟩, h0, h1, rfl, rfl, by simp [ByteArray.size], HS.out⟩
    case round =>
      obtain ⟨z, t, hz0, hz1, rfl, rfl, hl, HX⟩ := hrel
      by_cases hz : z = 0
      · subst hz
        have hq : ¬ 9223372036854775807 < 1 + t.size := by omega
        have HR : Hid ((lo = true → (⟨#[45]⟩ : ByteArray) ++ t = strB (Lib.itoa n)) ∧ (lo = false → t = strB (Lib.itoa n)) ∧ Below w.heap.size w wr) := by
          obtain ⟨l, rfl, hd, hb⟩ := HX.out
          rw [if_pos (by rfl), List.nil_append] at hd
          refine ⟨fun h => ?_, fun h => ?_, hb⟩
          · have hn : n < 0 := by have := HLo.out; rw [h] at this; exact of_decide_eq_true this
            unfold Lib.itoa
            rw [if_pos hn, hd]
            exact bytes_ext (by simp [strB])
          · have hn : ¬ n < 0 := by have := HLo.out; rw [h] at this; exact of_decide_eq_false this
            unfold Lib.itoa
            rw [if_neg hn, ← hd, show n.toNat = n.natAbs by omega]
        clear HX HLo
        cases lo
        · go_wp2_with fail
          go_ret
          exact ⟨by rw [← HR.out.2.1 (by trivial)]; rfl, HR.out.2.2⟩
        · go_wp2_with fail
          go_ret
          exact ⟨by rw [← HR.out.1 (by trivial)]; rfl, HR.out.2.2⟩
      · have hz9 : (z != 0) = true := by simp [hz]
        have HZ2 := Lib.hid hz
        have hr10 : z.natAbs % 10 < 10 := Nat.mod_lt _ (by decide)
        have hsplit : (z.tmod 10 < 0 ∧ z.tmod 10 = -((z.natAbs % 10 : Nat) : Int)) ∨ z.tmod 10 = ((z.natAbs % 10 : Nat) : Int) := by
          by_cases h : 0 ≤ z
          · right
            obtain ⟨u, rfl⟩ : ∃ u : Nat, z = (u : Int) := ⟨z.toNat, by omega⟩
            rw [Int.tmod_eq_emod_of_nonneg (by omega)]
            omega
          · obtain ⟨u, rfl⟩ : ∃ u : Nat, z = -(u : Int) := ⟨z.natAbs, by omega⟩
            rw [Int.neg_tmod, Int.tmod_eq_emod_of_nonneg (by omega)]
            omega
        have hquo : (z.tdiv 10).natAbs = z.natAbs / 10 ∧ -9223372036854775808 ≤ z.tdiv 10 ∧ z.tdiv 10 ≤ 9223372036854775807 := by
          by_cases h : 0 ≤ z
          · rw [Int.tdiv_eq_ediv_of_nonneg h]; omega
          · obtain ⟨u, rfl⟩ : ∃ u : Nat, z = -(u : Int) := ⟨z.natAbs, by omega⟩
            rw [Int.neg_tdiv, Int.tdiv_eq_ediv_of_nonneg (by omega)]
            omega
        have HQ := Lib.hid hquo
        obtain ⟨q, hq⟩ : ∃ q, z.tdiv 10 = q := ⟨_, rfl⟩
        have hwq : wrap64 q = q := IntWalk.wrap64_in _ ⟨by rw [← hq]; exact HQ.out.2.1, by rw [← hq]; exact HQ.out.2.2⟩
        obtain ⟨r, hr⟩ : ∃ r, z.natAbs % 10 = r := ⟨_, rfl⟩
        rw [hr] at hsplit hr10
        have HR : Hid (∃ l, strOf [48 + r] ++ t = strB l ∧ Lib.decDigits n.natAbs = (if z.natAbs / 10 = 0 then [] else Lib.decDigits (z.natAbs / 10)) ++ l ∧ l.length ≤ 19) := by
          obtain ⟨l, rfl, hd, hb⟩ := HX.out
          rw [if_neg (by have := HZ2.out; omega), dd_step (u := z.natAbs) (by have := HZ2.out; omega), hr] at hd
          refine ⟨UInt8.ofNat (48 + r) :: l, bytes_ext (by simp [strB, strOf_list]), by rw [hd]; simp, ?_⟩
          have := congrArg List.length hd
          simp at this
          simp
          omega
        have HB := Lib.hid (show Below w.heap.size w wr from HX.out.choose_spec.2.2)
        have HR9 := Lib.hid hr
        have hcv : (convert 50 9 (.slice (some ⟨wr.heap.size, 0, none⟩) 1 1)).run Tryd.prog (wr.alloc (.cells #[.int .u8 (48 + (r : Int))] 5)) = .ok (.string (strOf [48 + r])) (wr.alloc (.cells #[.int .u8 (48 + (r : Int))] 5)) := by
          refine conv_one _ _ (48 + r) ?_
          rw [show (((48 + r : Nat)) : Int) = 48 + (r : Int) by omega]
          simp
        have s1 : (strOf [48 + r]).size = 1 := by rw [strOf_size]; rfl
        have hc9 : ¬ 9223372036854775807 < 1 + t.size := by omega
        have hw : (48 + (r : Int)) % 256 = 48 + (r : Int) := by omega
        clear hz HX hr hquo
        go_upto_region 6 with fail
        rcases hsplit with ⟨hneg, htm⟩ | htm
        · have i0 : -(r : Int) < 0 := by omega
          rw [htm]
          clear hneg
          · go_wp2_with fail
            go_roundw
            case rel =>
              obtain ⟨l, h1, h2, h3⟩ := HR.out
              refine ⟨q, _, by rw [← hq]; exact HQ.out.2.1, by rw [← hq]; exact HQ.out.2.2, by rw [hwq], rfl, by rw [h1, strB_size]; exact h3, l, h1, ?_, ?_⟩
              · rw [← hq, HQ.out.1]; exact h2
              · exact HB.out.trans ((al wr _).mono HB.out.size)
            case measure => rw [hwq]; simp only [nV]; rw [← hq, HQ.out.1]; have := HZ2.out; omega
        · rw [htm]
          have i0 : ¬ ((r : Int) < 0) := by omega
          go_wp2_with fail
          go_roundw
          case rel =>
            obtain ⟨l, h1, h2, h3⟩ := HR.out
            refine ⟨q, _, by rw [← hq]; exact HQ.out.2.1, by rw [← hq]; exact HQ.out.2.2, by rw [hwq], rfl, by rw [h1, strB_size]; exact h3, l, h1, ?_, ?_⟩
            · rw [← hq, HQ.out.1]; exact h2
            · exact HB.out.trans ((al wr _).mono HB.out.size)
          case measure => rw [hwq]; simp only [nV]; rw [← hq, HQ.out.1]; have := HZ2.out; omega
end Go.Proofs.YtbacgnhkapancaaDoor
