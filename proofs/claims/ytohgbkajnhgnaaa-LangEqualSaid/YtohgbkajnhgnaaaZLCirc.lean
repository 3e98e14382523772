import Derived.Test.YtohgbkajnhgnaaaZLExT
import Derived.Test.YtohgbkajnhgnaaaZPDvS
import Derived.Deep.RegionHeld
namespace Go.Proofs.Ytohgbkajnhgnaaa
open Go.RowKit Go.Maps Go.WideElems Go.ChangeMaps Go.MapKept
set_option linter.unusedVariables false
set_option linter.unusedSimpArgs false

/-! ### A row of numbers that is changed in place -/
theorem rep_nmZ (n : Nat) (v : Int) : List.replicate n (Value.int .i64 v) = nmZ (fun _ => v) n := by
  rw [← nmZ_rep]
  simp [ints]
theorem nmZ_congr {f f' : Nat → Int} {n : Nat} (h : ∀ j, j < n → f j = f' j) : nmZ f n = nmZ f' n := by
  unfold nmZ
  refine List.map_congr_left fun j hj => ?_
  rw [h j (List.mem_range.1 hj)]
structure OI (W0 : World) (g n : Nat) (f : Nat → Int) (w : World) : Prop where
  own : w.ownsRow W0.heap.size 3 1 (.slice (some ⟨g, 0, none⟩) n n) n (nmZ f n)
  bel : Below W0.heap.size W0 w
  lo : W0.heap.size ≤ g
theorem OI.made (W0 : World) (n : Nat) (hn : n ≤ maxLen) : OI W0 W0.heap.size n (fun _ => 0) (W0.alloc (.cells (madeCells #[.int .i64 0] n) 3)) := by
  refine ⟨?_, al W0 _, Nat.le_refl _⟩
  have := made_own W0 W0.heap.size n 3 (.int .i64 0) (Nat.le_refl _) hn
  rwa [rep_nmZ] at this
theorem OI.keep {W0 wr w1 : World} {g n : Nat} {f : Nat → Int} (h : OI W0 g n f wr) (k : Below wr.heap.size wr w1) : OI W0 g n f w1 := ⟨ownsRow_keep h.own k, h.bel.trans (k.mono h.bel.size), h.lo⟩
theorem OI.congr {W0 wr : World} {g n : Nat} {f f' : Nat → Int} (h : OI W0 g n f wr) (e : ∀ j, j < n → f j = f' j) : OI W0 g n f' wr := ⟨by rw [← nmZ_congr e]; exact h.own, h.bel, h.lo⟩
theorem OI.put {W0 wr : World} {g n : Nat} {f f' : Nat → Int} (h : OI W0 g n f wr) (j : Nat) (hj : j < n) (v : Int) (e : ∀ i, i < n → (if i = j then v else f i) = f' i) : OI W0 g n f' (wr.setCell ⟨g, j, none⟩ (.int .i64 v)) := by
  refine ⟨?_, h.bel.setCell (p := ⟨g, j, none⟩) h.lo _, h.lo⟩
  have := own_put h.own j hj (.int .i64 v)
  rwa [nmZ_set, nmZ_congr e] at this
theorem OI.cell {W0 wr : World} {g n : Nat} {f : Nat → Int} (h : OI W0 g n f wr) (j : Nat) (hj : j < n) : wr.cell? ⟨g, j, none⟩ = some (.int .i64 (f j)) ∧ wr.frozen? ⟨g, j, none⟩ = false := by
  obtain ⟨g', e, _, _, hc⟩ := ownsRow_read h.own (by omega)
  injection e with e; injection e with e; subst e
  obtain ⟨h1, h2⟩ := hc j (by omega)
  exact ⟨by rw [h1, nmZ_at _ _ _ hj], h2⟩
/-- .. and a list beside it that grows. -/
structure CiM (W0 : World) (g n : Nat) (f : Nat → Int) (v : Value) (l : List Nat) (w : World) : Prop where
  ah : OI W0 g n f w
  fr : w.ownsRow W0.heap.size 3 1 v l.length (nums64 l)
  ne : ∀ b, v.ownBlock = some b → b ≠ g
theorem CiM.keep {W0 wr w1 : World} {g n : Nat} {f : Nat → Int} {v : Value} {l : List Nat} (h : CiM W0 g n f v l wr) (k : Below wr.heap.size wr w1) : CiM W0 g n f v l w1 := ⟨h.ah.keep k, ownsRow_keep h.fr k, h.ne⟩
theorem CiM.put {W0 wr : World} {g n : Nat} {f f' : Nat → Int} {v : Value} {l : List Nat} (h : CiM W0 g n f v l wr) (j : Nat) (hj : j < n) (x : Int) (e : ∀ i, i < n → (if i = j then x else f i) = f' i) : CiM W0 g n f' v l (wr.setCell ⟨g, j, none⟩ (.int .i64 x)) := by
  refine ⟨h.ah.put j hj x e, ?_, h.ne⟩
  exact own_kept (ts := []) (bs := [g]) h.fr ((Kept.refl _ _ _).setCell _ _ (Or.inl (by simp))) (by simp) (fun b e hm => h.ne b e (List.mem_singleton.1 hm))
theorem CiM.app {W0 wr w' : World} {g n q t : Nat} {f : Nat → Int} {v v' : Value} {l : List Nat} (h : CiM W0 g n f v l wr) (hq : l.length = q) (ho : w'.ownsRow W0.heap.size 3 1 v' (q + 1) (nums64 l ++ [.int .i64 ((t : Nat) : Int)]))
    (hg : wr.grownBy w' v.ownBlock) (hat : v'.ownBlock = v.ownBlock ∨ v'.ownBlock = some wr.heap.size) : CiM W0 g n f v' (l ++ [t]) w' := by
  subst hq
  have hlt := own_lt9 h.ah.own g rfl
  refine ⟨⟨own_grown h.ah.own hg (fun b e e2 => ?_), below_grown_own h.ah.bel h.fr h.ah.bel.size hg, h.ah.lo⟩, ?_, fun b e => ?_⟩
  · have e3 : g = b := by simpa [Value.ownBlock] using e
    exact h.ne b e2.symm e3.symm
  · rw [nums64_snoc, List.length_append]
    exact ho
  · rcases hat with e1 | e1
    · exact h.ne b (by rw [← e1]; exact e)
    · rw [e] at e1
      injection e1 with e1
      omega
end Go.Proofs.Ytohgbkajnhgnaaa

namespace Go.Proofs.Ytohgbkajnhgnaaa
open Go.RowKit Go.Maps Go.WideElems Go.ChangeMaps Go.MapKept
set_option linter.unusedVariables false
set_option linter.unusedSimpArgs false

/-! ### How many entries lead to each state of the example, and which states get free -/
def upI (f : Nat → Int) (t : Int) (d : Int) : Nat → Int := if t = -1 then f else fun j => if j = t.toNat then f t.toNat + d else f j
def hC9 (f : Nat → Int) (i : Nat) : Nat → Nat → Int
  | 0 => f
  | c + 1 => upI (hC9 f i c) (exN10 i c) 1
def hR9 : Nat → Nat → Int
  | 0 => fun _ => 0
  | i + 1 => hC9 (hR9 i) i 4
theorem hC_lt : ∀ i, i < 3 → ∀ c, c < 5 → ∀ j, j < 3 → 0 ≤ hC9 (hR9 i) i c j ∧ hC9 (hR9 i) i c j ≤ 12 := by decide
theorem hR3 : hR9 3 0 = 0 := by decide
def cS9 (p : (Nat → Int) × List Nat) (t : Int) : (Nat → Int) × List Nat := if t = -1 then p else (upI p.1 t (-1), if p.1 t.toNat - 1 = 0 then p.2 ++ [t.toNat] else p.2)
def cC9 (p : (Nat → Int) × List Nat) (x : Nat) : Nat → (Nat → Int) × List Nat
  | 0 => p
  | c + 1 => cS9 (cC9 p x c) (exN10 x c)
def cR9 : Nat → (Nat → Int) × List Nat
  | 0 => (hR9 3, [0])
  | i + 1 => cC9 (cR9 i) ((cR9 i).2.getD i 0) 4
theorem cC_ok : ∀ i, i < 3 → ∀ c, c < 5 → (∀ j, j < 3 → -12 ≤ (cC9 (cR9 i) ((cR9 i).2.getD i 0) c).1 j ∧ (cC9 (cR9 i) ((cR9 i).2.getD i 0) c).1 j ≤ 12) ∧ (cC9 (cR9 i) ((cR9 i).2.getD i 0) c).2.length ≤ 3 := by decide
theorem cR_at : ∀ i, i < 3 → i < (cR9 i).2.length ∧ (cR9 i).2.getD i 0 < 3 := by decide
theorem cR_end : (cR9 3).2.length = 3 := by decide
theorem upI_at (f : Nat → Int) (u : Nat) (d v : Int) (hv : f u + d = v) : ∀ i, i < 3 → (if i = u then v else f i) = upI f ((u : Nat) : Int) d i := by
  intro i _
  have h : ¬ (((u : Nat) : Int) = -1) := by omega
  unfold upI
  rw [if_neg h]
  show _ = (if i = ((u : Nat) : Int).toNat then _ else _)
  rw [Int.toNat_natCast, hv]

set_option maxHeartbeats 4000000 in
set_option maxRecDepth 100000 in
theorem circ_ex (D : Dd) (h : Ex10 D) (hR : DR D 4) (w : World) (hD : DM w D) :
    Calls Try.prog 24 #[.agg D.cD] w fun e w' => e = .returned (.bool false) ∧ Below w.heap.size w w' := by
  have hn := h.n
  have kb := al w (.cells D.cD 26)
  have hB : DBx (w.alloc (.cells D.cD 26)) w.heap.size D := DBx.new hD
  have hrow : ∀ i, i < 3 → D.len i = 4 ∧ ∀ c, c < 4 → D.nx i c = exN10 i c := fun i hi => ⟨hR.len i (by omega), fun c hc => h.nx i c hi hc⟩
  have HB := Lib.hid (And.intro hB (And.intro kb hrow))
  clear h hR hD kb hB hrow
  go_enter Try.func24, Try.ntmps24
  go_upto_region 1 with fail
  generalize w.alloc (.cells D.cD 26) = W0 at HB ⊢
  obtain ⟨b0, hb0⟩ : ∃ b0, w.heap.size = b0 := ⟨_, rfl⟩
  have Hb0 := Lib.hid hb0
  rw [hb0] at HB
  rw [hb0]
  clear hb0
  have f1 := HB.out.1.f1
  have hrN := HB.out.1.dm.rN
  obtain ⟨N, hN⟩ : ∃ N, D.n = N := ⟨_, rfl⟩
  rw [hN] at f1 hrN hn
  obtain ⟨M, hM⟩ : ∃ M, 4 = M := ⟨_, rfl⟩
  have HN := Lib.hid (And.intro hN (And.intro hn hM))
  have HrN := Lib.hid hrN
  have hN1 : N ≤ 3 ∧ 3 ≤ N := by omega
  have hM1 : M ≤ 4 ∧ 4 ≤ M := by omega
  have HFw : Hid (∀ W', Below W0.heap.size W0 W' → Below w.heap.size w W') := fun W' h => by
    have hz := HB.out.2.1.size
    rw [Hb0.out]
    exact HB.out.2.1.trans (h.mono (by have := Hb0.out; omega))
  clear hn hM hrN hN
  have hmk := make_row10 N (by omega)
  have HO := Lib.hid (OI.made W0 N (by unfold maxLen; omega))
  have g1 : (W0.alloc (.cells (madeCells #[.int .i64 0] N) 3)).cell? ⟨b0, 256, none⟩ = some (.slice D.aN N D.cN) := by
    rw [← f1]
    exact HO.out.bel.cell (p := ⟨b0, 256, none⟩) HB.out.1.st.lt
  go_wp2_with fail
  generalize W0.alloc (.cells (madeCells #[.int .i64 0] N) 3) = W1 at HO g1 ⊢
  obtain ⟨g, hg⟩ : ∃ g, W0.heap.size = g := ⟨_, rfl⟩
  have HO1 : Hid (OI W0 g N (hR9 0) W1) := by rw [← hg]; exact HO.out
  have hbg : b0 ≠ g := by have := HB.out.1.st.lt; omega
  rw [hg]
  clear hg HO hmk f1 g1
  obtain ⟨iI, hI, hI0, hI1, hI2⟩ := info_parts Try.info_int9
  have HSi : Hid (∀ wr, Below W0.heap.size W0 wr → wr.cell? ⟨b0, 256, none⟩ = some (.slice D.aN N D.cN)) := fun wr h => by
    have := (HB.out.1.keep h).f1
    rwa [HN.out.1] at this
  go_loopw [5, 7, 19, 25] (fun _ _ vi _ wr => ∃ i : Nat, vi = .int .i64 i ∧ i ≤ N ∧ Hid (OI W0 g N (hR9 i) wr)) (fun _ _ v _ _ => N - (intOf v).toNat)
  case atStart => exact ⟨0, rfl, by omega, HO1.out⟩
  case round =>
    obtain ⟨i, rfl, hi, HO⟩ := hrel
    by_cases hlt : i < N
    · obtain ⟨gN, oN, eN, _, cN0⟩ := (HrN.out.below HO.out.bel) (by omega)
      obtain ⟨cN, zN⟩ := cN0 i hlt
      obtain ⟨hl4, hx4⟩ := HB.out.2.2 i (by omega)
      rw [hl4, HN.out.2.2] at cN zN
      have HZ : Hid (ZAt W0 (D.A i) M (D.nx i)) := by
        obtain ⟨_, _, _, _, cLw⟩ := HrN.out (by omega)
        have := (cLw i hlt).2
        rwa [hl4, HN.out.2.2] at this
      have HX := Lib.hid hx4
      have i1 : (i : Int) < (N : Int) := by omega
      rw [eN]
      have HeN := Lib.hid eN
      clear cN0 zN hl4 hx4 eN
      generalize D.A i = ax at cN HZ
      generalize D.Cp i = cx at cN
      go_wp2_with fail
      go_loopw [7, 25] (fun _ vc wq => ∃ c : Nat, vc = .int .i64 c ∧ c ≤ M ∧ Hid (OI W0 g N (hC9 (hR9 i) i c) wq)) (fun _ v _ => M - (intOf v).toNat)
      case atStart => exact ⟨0, rfl, by omega, HO.out⟩
      case round =>
        obtain ⟨c, rfl, hc, HK⟩ := hrel
        by_cases hlc : c < M
        · obtain ⟨gA, oA, eA, _, cA0⟩ := (HZ.out.below HK.out.bel) (by omega)
          have cA := cA0 c hlc
          have ht3 := exN10_lt i (by omega) c (by omega)
          have HS : Hid (hC9 (hR9 i) i (c + 1) = upI (hC9 (hR9 i) i c) (exN10 i c) 1) := rfl
          have HF := Lib.hid (fun j hj => hC_lt i (by omega) c (by omega) j hj)
          rw [HX.out c (by omega)] at cA
          rw [eA]
          have HeA := Lib.hid eA
          have i3 : (c : Int) < (M : Int) := by omega
          clear cA0 eA
          generalize exN10 i c = t at cA ht3 HS
          by_cases ht : t = -1
          · subst ht
            have HZ2 : Hid (OI W0 g N (hC9 (hR9 i) i (c + 1)) wr) := by
              rw [HS.out]
              exact HK.out
            go_wp2_with fail
            go_roundw
            case rel => exact ⟨c + 1, by go_num, by omega, HZ2.out⟩
            case measure => simp [intOf]; omega
          · obtain ⟨u, rfl⟩ : ∃ u : Nat, t = (u : Int) := ⟨t.toNat, by omega⟩
            have hu : u < N := by omega
            have i4 : (u : Int) < (N : Int) := by omega
            have ht2 : ((u : Int) != (-1 : Int)) = true := by first | (simp; done) | (simp; omega)
            obtain ⟨y0, y1⟩ := HK.out.cell u hu
            obtain ⟨z1, z2⟩ := HF.out u (by omega)
            obtain ⟨z, hz⟩ : ∃ z, hC9 (hR9 i) i c u = z := ⟨_, rfl⟩
            have HT : Hid (OI W0 g N (hC9 (hR9 i) i (c + 1)) (wr.setCell ⟨g, u, none⟩ (.int .i64 (z + 1)))) := by
              refine HK.out.put u hu _ (fun k hk => ?_)
              rw [HS.out]
              exact upI_at _ u 1 _ (by rw [hz]) k (by omega)
            rw [hz] at y0 z1 z2
            clear hz ht ht3
            go_wp2_with fail
            go_roundw
            case rel => exact ⟨c + 1, by go_num, by omega, HT.out⟩
            case measure => simp [intOf]; omega
        · obtain rfl : c = M := by omega
          have HZ2 : Hid (OI W0 g N (hR9 (i + 1)) wr) := by
            have := HK.out
            rw [← HN.out.2.2] at this
            exact this
          go_wp2_with fail
          go_roundw
          case rel => exact ⟨i + 1, by go_num, by omega, HZ2.out⟩
          case measure => simp [intOf]; omega
    · obtain rfl : i = N := by omega
      have HCi : Hid (CiM W0 g i (hR9 3) (.slice none 0 0) [] wr) := by
        have := HO.out
        rw [HN.out.2.1] at this ⊢
        exact ⟨this, World.ownsRow_nil _ _ _ _, fun b e => by simp [Value.ownBlock] at e⟩
      obtain ⟨y0, y1⟩ := HCi.out.ah.cell 0 (by omega)
      rw [hR3] at y0
      have hO := HCi.out.fr
      have i0 : (0 : Int) < (i : Int) := by omega
      go_upto_region 14 with fail
      go_wp2_with (at_builtin; refine wpList_append_own_at _ rfl _ _ 24 rfl W0.heap.size 3 iI (.int .i64 0) 1 8 Try.underlying24 hI hI0 hI1 hI2 rfl (by decide) _ _ _ rfl (hO.alloc _) ⟨wr.heap.size, 0, none⟩ 1 1 [.int .i64 ((0 : Nat) : Int)] rfl rfl (cell_one_new _ _ _) ?d2 ?d3 ?d4 ?d5 ?_)
      case d2 => first | (intro u hu; simp at hu; subst hu; rfl) | rfl
      case d3 => unfold maxLen; simp
      case d4 => simp
      case d5 => have := HCi.out.ah.bel.size; simp at this ⊢; omega
      intro v5 w5 hown5 hgrow5 _ hat5
      obtain ⟨a5, c5, rfl⟩ := ownsRow_slice hown5
      have HC0 : Hid (CiM W0 g i (cR9 0).1 (.slice a5 1 c5) (cR9 0).2 w5) := by
        have h0 := HCi.out.keep (al wr (.cells #[.int .i64 ((0 : Nat) : Int)] 3))
        exact h0.app (t := 0) rfl hown5 hgrow5 (by simpa using hat5)
      clear hown5 hgrow5 hat5 hO y0 y1
      go_wp2_with fail
      go_loopw [8, 9, 11, 61] (fun v8 v9 _ _ wq => ∃ (k p : Nat) (a : Option Addr) (cc : Nat), v9 = .int .i64 k ∧ k ≤ p ∧ p ≤ 3 ∧ v8 = .slice a p cc ∧ Hid ((cR9 k).2.length = p ∧ CiM W0 g i (cR9 k).1 (.slice a p cc) (cR9 k).2 wq)) (fun _ v _ _ _ => 3 - (intOf v).toNat)
      case atStart => exact ⟨0, 1, a5, c5, rfl, by omega, by omega, rfl, rfl, HC0.out⟩
      case round =>
        clear HC0 HCi HO
        obtain ⟨k, p, a, cc, rfl, hkp, hp3, rfl, HL⟩ := hrel
        by_cases hlt : k < p
        · have hfr := HL.out.2.fr
          have hk2 : k < (cR9 k).2.length := by rw [HL.out.1]; exact hlt
          rw [HL.out.1] at hfr
          obtain ⟨gM, rfl, _, _, cM⟩ := ownsRow_read hfr (by omega)
          have d0 := (cM k (by omega)).1
          rw [nums64_get _ k hk2] at d0
          have hxl : (cR9 k).2[k] = (cR9 k).2.getD k 0 := by simp [List.getD_eq_getElem?_getD, hk2]
          rw [hxl] at d0
          have hx3 := (cR_at k (by omega)).2
          have HOk := Lib.hid (fun c hc => cC_ok k (by omega) c hc)
          obtain ⟨x, hx⟩ : ∃ x, (cR9 k).2.getD k 0 = x := ⟨_, rfl⟩
          have Hx := Lib.hid hx
          rw [hx] at d0 hx3 HOk
          obtain ⟨gN, oN, eN, _, cN0⟩ := (HrN.out.below HL.out.2.ah.bel) (by omega)
          obtain ⟨cN, zN⟩ := cN0 x (by omega)
          obtain ⟨hl4, hx4⟩ := HB.out.2.2 x hx3
          rw [hl4, HN.out.2.2] at cN zN
          have HZ : Hid (ZAt W0 (D.A x) M (D.nx x)) := by
            obtain ⟨_, _, _, _, cLw⟩ := HrN.out (by omega)
            have := (cLw x (by omega)).2
            rwa [hl4, HN.out.2.2] at this
          have HX := Lib.hid hx4
          have g1 := HSi.out wr HL.out.2.ah.bel
          have i1 : (k : Int) < (p : Int) := by omega
          have i2 : (x : Int) < (i : Int) := by omega
          rw [eN] at g1
          clear cN0 zN hl4 hx4 cM hfr hk2 hxl hx eN
          generalize D.A x = ax at cN HZ
          generalize D.Cp x = cx at cN
          go_wp2_with fail
          go_region
          go_wp2_with fail
          have HL0 : Hid (CiM W0 g i (cR9 k).1 (.slice (some ⟨gM, 0, none⟩) p cc) (cR9 k).2 wr.drew) := HL.out.2.keep (Below.refl _ _).drew
          have HLp := Lib.hid HL.out.1
          clear d0 cN g1 HL
          go_loopw [8, 11, 61] (fun v8 _ vc wz => ∃ (c p2 : Nat) (a : Option Addr) (cc : Nat), vc = .int .i64 c ∧ c ≤ M ∧ p2 ≤ 3 ∧ v8 = .slice a p2 cc ∧ Hid ((cC9 (cR9 k) x c).2.length = p2 ∧ CiM W0 g i (cC9 (cR9 k) x c).1 (.slice a p2 cc) (cC9 (cR9 k) x c).2 wz)) (fun _ _ v _ => M - (intOf v).toNat)
          case atStart => exact ⟨0, p, _, cc, rfl, by omega, hp3, rfl, HLp.out, HL0.out⟩
          case round =>
            clear HL0
            obtain ⟨c, p2, a, cc, rfl, hc, hp2, rfl, HK⟩ := hrel
            by_cases hlc : c < M
            · obtain ⟨gA, oA, eA, _, cA0⟩ := (HZ.out.below HK.out.2.ah.bel) (by omega)
              have cA := cA0 c hlc
              have ht3 := exN10_lt x hx3 c (by omega)
              have HS : Hid (cC9 (cR9 k) x (c + 1) = cS9 (cC9 (cR9 k) x c) (exN10 x c)) := rfl
              have HF := HOk.out c (by omega)
              have HF1 := (HOk.out (c + 1) (by omega)).2
              rw [HX.out c (by omega)] at cA
              rw [eA]
              have HeA := Lib.hid eA
              have i3 : (c : Int) < (M : Int) := by omega
              rw [HS.out] at HF1
              have HFh := Lib.hid (And.intro HF.1 HF1)
              clear cA0 eA HF HF1
              generalize exN10 x c = t at cA ht3 HS HFh
              by_cases ht : t = -1
              · subst ht
                have HZ2 : Hid ((cC9 (cR9 k) x (c + 1)).2.length = p2 ∧ CiM W0 g i (cC9 (cR9 k) x (c + 1)).1 (.slice a p2 cc) (cC9 (cR9 k) x (c + 1)).2 wr) := by
                  rw [HS.out]
                  exact HK.out
                go_wp2_with fail
                go_roundw
                case rel => exact ⟨c + 1, p2, a, cc, by go_num, by omega, by omega, rfl, HZ2.out⟩
                case measure => simp [intOf]; omega
              · obtain ⟨u, rfl⟩ : ∃ u : Nat, t = (u : Int) := ⟨t.toNat, by omega⟩
                have hu : u < i := by omega
                have i4 : (u : Int) < (i : Int) := by omega
                have ht2 : ((u : Int) == (-1 : Int)) = false := by rw [beq_eq_false_iff_ne]; omega
                obtain ⟨y0, y1⟩ := HK.out.2.ah.cell u hu
                obtain ⟨z1, z2⟩ := HFh.out.1 u (by omega)
                obtain ⟨z, hz⟩ : ∃ z, (cC9 (cR9 k) x c).1 u = z := ⟨_, rfl⟩
                have HS1 : Hid (cC9 (cR9 k) x (c + 1) = (upI (cC9 (cR9 k) x c).1 ((u : Nat) : Int) (-1), if z - 1 = 0 then (cC9 (cR9 k) x c).2 ++ [u] else (cC9 (cR9 k) x c).2)) := by
                  show _ = _
                  rw [HS.out]
                  unfold cS9
                  rw [if_neg (by omega), Int.toNat_natCast, hz]
                have hp9 := HFh.out.2
                have HT : Hid (CiM W0 g i (upI (cC9 (cR9 k) x c).1 ((u : Nat) : Int) (-1)) (.slice a p2 cc) (cC9 (cR9 k) x c).2 (wr.setCell ⟨g, u, none⟩ (.int .i64 (z - 1)))) := by
                  refine HK.out.2.put u hu _ (fun k hk => ?_)
                  exact upI_at _ u (-1) _ (by rw [hz]; omega) k (by omega)
                have HKp := Lib.hid HK.out.1
                rw [HS.out.symm.trans HS1.out] at hp9
                rw [hz] at y0 z1 z2
                clear hz ht ht3 HFh HS HK
                by_cases hz1 : z - 1 = 0
                · have hq2 : p2 + 1 ≤ 3 := by
                    rw [if_pos hz1, List.length_append, HKp.out] at hp9
                    exact hp9
                  have HZ3 : Hid (cC9 (cR9 k) x (c + 1) = (upI (cC9 (cR9 k) x c).1 ((u : Nat) : Int) (-1), (cC9 (cR9 k) x c).2 ++ [u])) := by
                    show _ = _
                    rw [HS1.out, if_pos hz1]
                  have hq1 : ((z - 1 : Int) == 0) = true := by rw [hz1]; rfl
                  clear hp9 HS1 hz1
                  go_upto_region 24 with fail
                  generalize wr.setCell ⟨g, u, none⟩ (.int .i64 (z - 1)) = W5 at HT ⊢
                  have hO := HT.out.fr
                  rw [HKp.out] at hO
                  clear y0 y1
                  go_wp2_with (at_builtin; refine wpList_append_own_at _ rfl _ _ 24 rfl W0.heap.size 3 iI (.int .i64 0) 1 8 Try.underlying24 hI hI0 hI1 hI2 rfl (by decide) _ _ _ rfl (hO.alloc _) ⟨W5.heap.size, 0, none⟩ 1 1 [.int .i64 ((u : Nat) : Int)] rfl rfl (cell_one_new _ _ _) ?d2 ?d3 ?d4 ?d5 ?_)
                  case d2 => first | (intro u hu; simp at hu; subst hu; rfl) | rfl
                  case d3 => unfold maxLen; omega
                  case d4 => omega
                  case d5 => have := HT.out.ah.bel.size; simp at this ⊢; omega
                  intro v5 w5 hown5 hgrow5 _ hat5
                  obtain ⟨a5, c5, rfl⟩ := ownsRow_slice hown5
                  have HY : Hid ((cC9 (cR9 k) x (c + 1)).2.length = p2 + 1 ∧ CiM W0 g i (cC9 (cR9 k) x (c + 1)).1 (.slice a5 (p2 + 1) c5) (cC9 (cR9 k) x (c + 1)).2 w5) := by
                    rw [HZ3.out]
                    refine ⟨by rw [List.length_append, HKp.out]; rfl, ?_⟩
                    have h0 := HT.out.keep (al W5 (.cells #[.int .i64 ((u : Nat) : Int)] 3))
                    exact h0.app (t := u) HKp.out hown5 hgrow5 (by simpa using hat5)
                  clear hown5 hgrow5 hat5 hO
                  go_wp2_with fail
                  go_roundw
                  case rel => exact ⟨c + 1, p2 + 1, a5, c5, by go_num, by omega, hq2, rfl, HY.out⟩
                  case measure => simp [intOf]; omega
                · have HY : Hid ((cC9 (cR9 k) x (c + 1)).2.length = p2 ∧ CiM W0 g i (cC9 (cR9 k) x (c + 1)).1 (.slice a p2 cc) (cC9 (cR9 k) x (c + 1)).2 (wr.setCell ⟨g, u, none⟩ (.int .i64 (z - 1)))) := by
                    rw [HS1.out, if_neg hz1]
                    exact ⟨HKp.out, HT.out⟩
                  have hq1 : ((z - 1 : Int) == 0) = false := by rw [beq_eq_false_iff_ne]; exact hz1
                  clear hp9 HS1 hz1
                  go_wp2_with fail
                  go_roundw
                  case rel => exact ⟨c + 1, p2, a, cc, by go_num, by omega, hp2, rfl, HY.out⟩
                  case measure => simp [intOf]; omega
            · obtain rfl : c = M := by omega
              have HZ2 : Hid ((cR9 (k + 1)).2.length = p2 ∧ CiM W0 g i (cR9 (k + 1)).1 (.slice a p2 cc) (cR9 (k + 1)).2 wr) := by
                have := HK.out
                rw [← HN.out.2.2, ← Hx.out] at this
                exact this
              have hk9 : k + 1 ≤ p2 := by
                have h2 := HZ2.out.1
                by_cases h3 : k + 1 < 3
                · have := (cR_at (k + 1) h3).1; omega
                · have := cR_end
                  rw [show k + 1 = 3 by omega] at h2
                  omega
              go_wp2_with fail
              go_roundw
              case rel => exact ⟨k + 1, p2, a, cc, by go_num, hk9, hp2, rfl, HZ2.out⟩
              case measure => simp [intOf]; omega
        · obtain rfl : k = p := by omega
          have hp9 : 3 ≤ k := by
            have h2 := HL.out.1
            by_cases h3 : k < 3
            · have := (cR_at k h3).1; omega
            · omega
          have g1 := HSi.out wr HL.out.2.ah.bel
          have i3 : ¬ ((k : Int) < (i : Int)) := by omega
          have HF := Lib.hid (HFw.out _ HL.out.2.ah.bel)
          go_wp2_with fail
          go_ret
          exact ⟨rfl, HF.out⟩
end Go.Proofs.Ytohgbkajnhgnaaa
