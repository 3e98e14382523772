import Derived.Test.YtlnndkilaklifaaZNSets
import Derived.Test.YtlnndkilaklifaaZRefClass
import Derived.Test.YtlnndkilaklifaaZSFirst
namespace Go.Proofs.Ytlnndkilaklifaa
open Go.RowKit
set_option linter.unusedVariables false
set_option linter.unusedSimpArgs false

/-- The sets of the edges, by their place. -/
def setF (L : List Eg) (i : Nat) : Nat → Bool := (setsOf L).getD i (fun _ => false)
theorem sts_sets {w : World} {B n c : Nat} {a : Option Addr} {L : List Eg} (h : w.ownsRow B 41 4 (.slice a n c) n (sts (setsOf L))) (hn : (setsOf L).length = n) : SetsAt w a n (setF L) := by
  intro h0
  obtain ⟨g, e, _, hg, hc⟩ := ownsRow_read h (by omega)
  refine ⟨g, 0, e, hg, fun i hi => ?_⟩
  have hil : i < (setsOf L).length := by omega
  have hse : setF L i = (setsOf L)[i] := by simp [setF, List.getD_eq_getElem?_getD, List.getElem?_eq_getElem hil]
  have rd : ∀ j, j < 4 → w.cell? ⟨g, i * 4 + j, none⟩ = (stCells (setF L i))[j]? := fun j hj => by rw [(hc _ (by omega)).1, sts_get _ i hil j hj, hse]
  simp only [Nat.zero_add]
  exact ⟨rd 0 (by omega), rd 1 (by omega), rd 2 (by omega), rd 3 (by omega)⟩
theorem rl_rep (K : Nat → Lit) (k : Nat) : (fst K k = k → rl K (k + 1) = rl K k ++ [k]) ∧ (fst K k ≠ k → rl K (k + 1) = rl K k) := by
  constructor
  · intro e
    rw [rl, if_pos (by rw [rl_len]; unfold cls; rw [e])]
  · intro e
    have h1 := (fst_spec K k).1
    have h3 : fst K k < k := by omega
    have h2 := cls_lt K (fst K k) k h3
    unfold cls at h2
    rw [fst_fst] at h2
    rw [rl, if_neg (by rw [rl_len]; unfold cls; omega)]
def RepsPost (L : List Eg) (w : World) (e : Ending) (w' : World) : Prop :=
  ∃ (a : Option Addr) (c : Nat), e = .returned (.slice a (rl (keyLit (setF L) (setsOf L).length) 256).length c) ∧ w'.ownsRow w.heap.size 3 1 (.slice a (rl (keyLit (setF L) (setsOf L).length) 256).length c) (rl (keyLit (setF L) (setsOf L).length) 256).length (nums64 (rl (keyLit (setF L) (setsOf L).length) 256)) ∧ Below w.heap.size w w'

set_option maxHeartbeats 1000000 in
set_option maxRecDepth 100000 in
theorem reps_any (S F T : Int) (a : Option Addr) (n c : Nat) (L : List Eg) (w : World) (hL : EdAt w a L) (hn : L.length = n) (hmax : n ≤ 1000) :
    Calls Try.prog 12 #[.agg #[.int .i64 S, .slice a n c, .int .i64 F, .int .i64 T]] w (RepsPost L w) := by
  have HL := Lib.hid (And.intro hL hn)
  have HW := Lib.hid (nfa_new w S F T a n c)
  have HB := Lib.hid (al w (.cells #[.int .i64 S, .slice a n c, .int .i64 F, .int .i64 T] 24))
  obtain ⟨i0, hi, hz0, hz1, hz2⟩ := info_parts Try.info_set9
  obtain ⟨i1, hi1, hy0, hy1, hy2⟩ := info_parts Try.info_int9
  clear hL hn
  go_enter Try.func12, Try.ntmps12
  go_wp2_with fail
  generalize w.alloc (.cells #[.int .i64 S, .slice a n c, .int .i64 F, .int .i64 T] 24) = W0 at HW HB ⊢
  go_loopw [3, 4] (fun v i wr => ∃ (k q : Nat), i = .int .i64 k ∧ k ≤ n ∧ q ≤ k ∧ Hid ((setsOf (L.take k)).length = q) ∧ Hid (wr.ownsRow W0.heap.size 41 4 v q (sts (setsOf (L.take k)))) ∧ Hid (Below W0.heap.size W0 wr)) (fun _ i _ => n - (intOf i).toNat)
  case atStart => exact ⟨0, 0, rfl, Nat.zero_le _, Nat.zero_le _, rfl, World.ownsRow_nil _ _ _ _, Below.refl _ _⟩
  case round =>
    obtain ⟨k, q, rfl, hk, hq, HQ, HA, HBl⟩ := hrel
    obtain ⟨aS, cS, rfl⟩ := ownsRow_slice HA.out
    obtain ⟨n0, n1, n2, n3⟩ := (HW.out.keep HBl.out).cells4
    have HBw := Lib.hid (HB.out.trans (HBl.out.mono HB.out.size))
    have hsz := HBw.out.size
    have hsz0 := HBl.out.size
    by_cases hlt : k < n
    · have hkl : k < L.length := by rw [HL.out.2]; exact hlt
      obtain ⟨ge, off, rfl, hg, c0, c1, c2, c3, c4, c5, c6⟩ := (HL.out.1.below HBw.out).get k hkl
      have HS : Hid (L.take (k + 1) = L.take k ++ [L[k]]) := List.take_succ_eq_append_getElem hkl
      generalize L[k] = x at c0 c1 c2 c3 c4 c5 c6 HS
      obtain ⟨xf, xt, xp, xb⟩ := x
      dsimp only at c0 c1 c2 c3 c4 c5 c6 HS
      have i5 : (k : Int) < (n : Int) := by omega
      rcases xb with _ | _
      · have HZ : Hid (setsOf (L.take (k + 1)) = setsOf (L.take k) ++ [xp]) := by show _ = _; rw [HS.out]; simp [setsOf]
        have hO := HA.out
        go_wp2_with (at_builtin; refine wpList_append_own _ rfl _ _ 38 rfl W0.heap.size 41 i0 (.agg #[.int .u64 0, .int .u64 0, .int .u64 0, .int .u64 0]) 4 32 Try.underlying38 hi hz0 hz1 hz2 rfl (by decide) _ _ _ rfl (hO.alloc _) ⟨wr.heap.size, 0, none⟩ 1 1 (#[.int .u64 ((wd xp 0 : Nat) : Int), .int .u64 ((wd xp 1 : Nat) : Int), .int .u64 ((wd xp 2 : Nat) : Int), .int .u64 ((wd xp 3 : Nat) : Int)]).toList rfl rfl (World.news_of_block (cs := #[.int .u64 ((wd xp 0 : Nat) : Int), .int .u64 ((wd xp 1 : Nat) : Int), .int .u64 ((wd xp 2 : Nat) : Int), .int .u64 ((wd xp 3 : Nat) : Int)]) (t := 41) (fr := (0, 0)) (St.new wr _ _)) ?d2 ?d3 ?d4 ?d5 ?_)
        case d2 => exact ⟨rfl, rfl, rfl, rfl⟩
        case d3 => unfold maxLen; omega
        case d4 => omega
        case d5 => simp; omega
        intro v' w5 hown5 hgrow5 _
        obtain ⟨a9, e9, rfl⟩ := ownsRow_slice hown5
        have hal := al wr (.cells #[.int .u64 ((wd xp 0 : Nat) : Int), .int .u64 ((wd xp 1 : Nat) : Int), .int .u64 ((wd xp 2 : Nat) : Int), .int .u64 ((wd xp 3 : Nat) : Int)] 41)
        have hB5 : Hid (Below W0.heap.size W0 w5) := below_grown_own (HBl.out.trans (hal.mono hsz0)) (hO.alloc _) (by simp; omega) hgrow5
        have HO5 : Hid (w5.ownsRow W0.heap.size 41 4 (.slice a9 (q + 1) e9) (q + 1) (sts (setsOf (L.take (k + 1))))) := by
          show World.ownsRow _ _ _ _ _ _ _
          rw [HZ.out, sts_snoc]
          exact hown5
        have HQ5 : Hid ((setsOf (L.take (k + 1))).length = q + 1) := by show _ = _; rw [HZ.out, List.length_append, HQ.out]; rfl
        clear hown5 hgrow5 hal hO n0 n1 n2 n3 c0 c1 c2 c3 c4 c5 c6
        go_wp2_with fail
        go_roundw
        case rel => exact ⟨k + 1, q + 1, by go_num, by omega, by omega, HQ5, HO5, hB5⟩
        case measure => simp [intOf]; omega
      · have HZ : Hid (setsOf (L.take (k + 1)) = setsOf (L.take k)) := by show _ = _; rw [HS.out]; simp [setsOf]
        go_wp2_with fail
        go_roundw
        case rel => exact ⟨k + 1, q, by go_num, by omega, by omega, by show _ = _; rw [HZ.out]; exact HQ.out, by show World.ownsRow _ _ _ _ _ _ _; rw [HZ.out]; exact HA.out, HBl⟩
        case measure => simp [intOf]; omega
    · obtain rfl : k = n := by omega
      have HZ : Hid (L.take k = L) := List.take_of_length_le (by rw [HL.out.2]; exact Nat.le_refl _)
      have HQL : Hid ((setsOf L).length = q) := by have := HQ.out; rwa [HZ.out] at this
      have HSt : Hid (SetsAt wr aS q (setF L)) := sts_sets (by have := HA.out; rwa [HZ.out] at this) HQL.out
      obtain ⟨K, hK⟩ : ∃ K, keyLit (setF L) q = K := ⟨_, rfl⟩
      have HK := Lib.hid hK
      have HF : Hid (∀ (a' : Option Addr) (c' : Nat) (w' : World), w'.ownsRow w.heap.size 3 1 (.slice a' (rl K 256).length c') (rl K 256).length (nums64 (rl K 256)) → Below w.heap.size w w' → RepsPost L w (.returned (.slice a' (rl K 256).length c')) w') := fun a' c' w' h1 h2 => by
        have e : keyLit (setF L) (setsOf L).length = K := by rw [HQL.out, HK.out]
        unfold RepsPost
        rw [e]
        exact ⟨a', c', rfl, h1, h2⟩
      clear HA HQ hK
      obtain ⟨W9, rfl⟩ : ∃ W9, W9 = wr := ⟨wr, rfl⟩
      go_wp2_with fail
      go_loopw [5, 6] (fun v i wq => ∃ (b r : Nat) (aR : Option Addr) (cR : Nat), i = .int .i64 b ∧ b ≤ 256 ∧ r ≤ b ∧ v = .slice aR r cR ∧ Hid ((rl K b).length = r ∧ wq.ownsRow W9.heap.size 3 1 (.slice aR r cR) r (nums64 (rl K b)) ∧ Below W9.heap.size W9 wq)) (fun _ i _ => 256 - (intOf i).toNat)
      case atStart => exact ⟨0, 0, none, 0, rfl, Nat.zero_le _, Nat.zero_le _, rfl, rfl, World.ownsRow_nil _ _ _ _, Below.refl _ _⟩
      case round =>
        obtain ⟨b, r, aR, cR, rfl, hb, hr, rfl, HX⟩ := hrel
        have hs9 := HX.out.2.2.size
        by_cases hlt : b < 256
        · have hC := rclass_any aS q cS b (setF L) (by omega) hlt wr (HSt.out.keep HX.out.2.2)
          rw [HK.out] at hC
          have HC := Lib.hid hC
          have hfle := (fst_spec K b).1
          have HR := Lib.hid (rl_rep K b)
          have i6 : (b : Int) < 256 := by omega
          clear hC
          generalize fst K b = f at HC hfle HR
          go_wp2_with fail
          refine HC.out.mono ?_
          rintro e w3 ⟨rfl, b3⟩
          have HX3 : Hid ((rl K b).length = r ∧ w3.ownsRow W9.heap.size 3 1 (.slice aR r cR) r (nums64 (rl K b)) ∧ Below W9.heap.size W9 w3) := ⟨HX.out.1, ownsRow_keep HX.out.2.1 b3, HX.out.2.2.trans (b3.mono hs9)⟩
          have hs3 := HX3.out.2.2.size
          clear b3
          by_cases e : f = b
          · have HZ := Lib.hid (HR.out.1 e)
            subst e
            have hO := HX3.out.2.1
            go_wp2_with (at_builtin; refine wpList_append_own _ rfl _ _ 25 rfl W9.heap.size 3 i1 (.int .i64 0) 1 8 Try.underlying25 hi1 hy0 hy1 hy2 rfl (by decide) _ _ _ rfl (hO.alloc _) ⟨w3.heap.size, 0, none⟩ 1 1 [.int .i64 ((f : Nat) : Int)] rfl rfl (cell_one_new _ _ _) ?d2 ?d3 ?d4 ?d5 ?_)
            case d2 => intro u hu; simp at hu; subst hu; rfl
            case d3 => unfold maxLen; omega
            case d4 => omega
            case d5 => simp; omega
            intro v' w5 hown5 hgrow5 _
            obtain ⟨a9, e9, rfl⟩ := ownsRow_slice hown5
            have hB5 := below_grown_own (HX3.out.2.2.trans ((al w3 (.cells #[.int .i64 ((f : Nat) : Int)] 3)).mono hs3)) (hO.alloc _) (by simp; omega) hgrow5
            have HY : Hid ((rl K (f + 1)).length = r + 1 ∧ w5.ownsRow W9.heap.size 3 1 (.slice a9 (r + 1) e9) (r + 1) (nums64 (rl K (f + 1))) ∧ Below W9.heap.size W9 w5) := by
              refine ⟨by rw [HZ.out, List.length_append, HX3.out.1]; rfl, ?_, hB5⟩
              rw [HZ.out, nums64_snoc]
              exact hown5
            clear hown5 hgrow5 hB5 hO
            go_wp2_with fail
            go_roundw
            case rel => exact ⟨f + 1, r + 1, a9, e9, by go_num, by omega, by omega, rfl, HY⟩
            case measure => simp [intOf]; omega
          · have HZ := Lib.hid (HR.out.2 e)
            have i7 : ¬ ((f : Int) = (b : Int)) := by omega
            go_wp2_with fail
            go_roundw
            case rel => exact ⟨b + 1, r, aR, cR, by go_num, by omega, by omega, rfl, by rw [HZ.out]; exact HX3⟩
            case measure => simp [intOf]; omega
        · obtain rfl : b = 256 := by omega
          have HY : Hid (RepsPost L w (.returned (.slice aR r cR)) wr) := by
            have e := HX.out.1
            subst e
            exact HF.out aR cR wr (ownsRow_base (base := w.heap.size) HX.out.2.1 hsz) (HBw.out.trans (HX.out.2.2.mono hsz))
          go_wp2_with fail
          go_ret
          exact HY.out
end Go.Proofs.Ytlnndkilaklifaa
