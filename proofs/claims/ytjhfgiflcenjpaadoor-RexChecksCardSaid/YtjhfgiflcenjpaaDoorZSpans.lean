import Derived.Test.YtjhfgiflcenjpaaDoorZList
import Derived.Test.YtjhfgiflcenjpaaDoorZRx
import Derived.Deep.Slices
namespace Go.Proofs.YtjhfgiflcenjpaaDoor
open Go.RowKit

theorem Tryd.info_span : (Tryd.prog.info? 94).map (fun i => (i.zero, i.size, i.bytes)) = some (some (.agg #[.int .u8 0, .int .u8 0]), 2, 2) := by kernel_rfl

structure SpansAt (B : Nat) (w1 : World) (acc : List (Nat × Nat)) (v : Value) (wr : World) : Prop where
  own : wr.ownsRow B 94 2 v acc.length (spCells acc.reverse)
  below : Below B w1 wr
  size : B ≤ wr.heap.size

/-- A list of spans of the call's own. -/
def SpansPost (l : List (Nat × Nat)) (w : World) (e : Ending) (w' : World) : Prop := ∃ a cap, e = .returned (.slice a l.length cap) ∧ w'.ownsRow w.heap.size 94 2 (.slice a l.length cap) l.length (spCells l) ∧ Below w.heap.size w w'

set_option maxRecDepth 100000 in
theorem spans_any (p : Nat → Bool) (w : World) : Calls Tryd.prog 59 #[(.agg #[.int .u64 ((wd p 0 : Nat) : Int), .int .u64 ((wd p 1 : Nat) : Int), .int .u64 ((wd p 2 : Nat) : Int), .int .u64 ((wd p 3 : Nat) : Int)])] w (SpansPost (spansOf p) w) := by
  obtain ⟨i0, hi, hz0, hz1, hz2⟩ := info_parts Tryd.info_span
  go_enter Tryd.func59, Tryd.ntmps59
  go_wp2_with fail
  refine (list_any p _).mono ?_
  rintro e w1 ⟨a1, cap1, rfl, ho1, b1⟩
  obtain ⟨xs, hxs⟩ : ∃ xs, lst p 256 = xs := ⟨_, rfl⟩
  have hl256 := lst_le p 256
  have hps := lst_pairwise p 256
  have hxm : ∀ k, k < xs.length → xs.getD k 0 < 256 := by
    intro k hk
    have : xs[k] ∈ lst p 256 := by rw [hxs]; exact List.getElem_mem hk
    rw [lst_mem] at this
    simpa [List.getElem?_eq_getElem hk] using this.1
  rw [hxs] at ho1 hl256 hps
  rw [hxs]
  have HX := Lib.hid hxs
  clear hxs
  have hread : 0 < xs.length → ∃ g, a1 = some ⟨g, 0, none⟩ ∧ g < w1.heap.size ∧ ∀ j, j < xs.length → w1.cell? ⟨g, j, none⟩ = some (.int .u8 ((xs.getD j 0 : Nat) : Int)) := by
    intro h0
    obtain ⟨g, hg1, _, hg2, hg3⟩ := ownsRow_read ho1 h0
    exact ⟨g, hg1, hg2, fun j hj => by rw [(hg3 j (by omega)).1, u8s_get _ _ hj]⟩
  have HR := Lib.hid hread
  have HM := Lib.hid hxm
  have HP := Lib.hid hps
  have hb1 : Below w.heap.size w w1 := ((Below.refl _ w).alloc (Nat.le_refl _) _).trans (b1.mono (by simp))
  have hsz1 := b1.size
  simp at hsz1
  obtain ⟨n, hn, hn2⟩ : ∃ n, xs.length = n ∧ n ≤ 256 := ⟨_, rfl, hl256⟩
  rw [hn]
  have HN := Lib.hid hn
  clear hn hread hxm hps ho1 b1 hl256
  go_wp2_with fail
  go_loopw [3, 10] (fun v i wr => ∃ (k : Nat) (acc : List (Nat × Nat)), i = .int .i64 k ∧ k ≤ n ∧ Hid (acc = spAcc (xs.take k)) ∧ acc.length ≤ k ∧ SpansAt w1.heap.size w1 acc v wr) (fun _ i _ => n - (intOf i).toNat)
  case atStart => exact ⟨0, [], rfl, Nat.zero_le _, by simp [Hid, spAcc], Nat.le_refl _, ⟨World.ownsRow_nil _ _ _ _, Below.refl _ _, Nat.le_refl _⟩⟩
  case round =>
    obtain ⟨k, acc, rfl, hk, HA, hak, R⟩ := hrel
    obtain ⟨a, cap, rfl⟩ := ownsRow_slice R.own
    by_cases hlt : k < n
    · have hkx : k < xs.length := by rw [HN.out]; exact hlt
      obtain ⟨g, rfl, hg, hgc⟩ := HR.out (by omega)
      have hc := (R.below.cell (p := ⟨g, k, none⟩) hg).trans (hgc k hkx)
      have hx := HM.out k hkx
      have HS : Hid (spAcc (xs.take (k + 1)) = spStep acc (xs.getD k 0) ∧ ∀ f t r, acc = (f, t) :: r → t < xs.getD k 0) := by
        have e1 : xs.getD k 0 = xs[k] := by simp [List.getElem?_eq_getElem hkx]
        refine ⟨by rw [spAcc_take xs k hkx, HA.out, e1], ?_⟩
        rintro f t r rfl
        have ok := spAcc_ok xs HP.out k (by omega)
        rw [← HA.out] at ok
        have hm := (ok.right (f, t) (by simp)).2.2
        obtain ⟨i, hi, he⟩ := List.getElem_of_mem hm
        have hi' : i < k := by simp at hi; omega
        rw [List.getElem_take] at he
        have := List.pairwise_iff_getElem.1 HP.out i k (by omega) hkx hi'
        simp at he
        omega
      clear hgc hkx
      generalize xs.getD k 0 = x at hc hx HS
      match acc, hak, HA, R, HS with
      | [], hak, HA, R, HS =>
        have hown := R.own
        have hbr := R.below
        have hBr := R.size
        clear R
        simp only [List.length_nil] at hown ⊢
        go_wp2_with (at_builtin; refine wpList_append_own _ rfl _ _ 91 rfl w1.heap.size 94 i0 (.agg #[.int .u8 0, .int .u8 0]) 2 2 Tryd.underlying91 hi hz0 hz1 hz2 rfl (by decide) _ _ _ rfl (hown.alloc _) ⟨wr.heap.size, 0, none⟩ 1 1 [.int .u8 (x : Nat), .int .u8 (x : Nat)] rfl rfl ?c1 ?c2 ?c3 ?c4 ?c5 ?_)
        case c1 =>
          intro j u hj
          match j, hj with
          | 0, hj => simp at hj; subst hj; simp [Addr.add]
          | 1, hj => simp at hj; subst hj; simp [Addr.add]
        case c2 => intro u hu; simp at hu; subst hu; rfl
        case c3 => unfold maxLen; omega
        case c4 => omega
        case c5 => simp; omega
        intro v' w5 hown5 hgrow5 _
        have hB5 : Below w1.heap.size wr w5 := ((Below.refl _ wr).alloc hBr _).trans (grown_kept hgrow5 (hown.alloc _) (by simp; omega))
        have R5 : SpansAt w1.heap.size w1 ((x, x) :: []) v' w5 := ⟨by rw [List.reverse_cons, spCells_snoc]; simpa using hown5, hbr.trans hB5, Nat.le_trans hBr hB5.size⟩
        clear hown5 hgrow5 hown hbr hB5
        go_wp2_with fail
        go_roundw
        case rel => exact ⟨k + 1, (x, x) :: [], by go_num, by omega, by rw [HS.out.1]; simp [spStep, Hid], by simp, R5⟩
        case measure => simp [intOf]; omega
      | (f, t) :: r, hak, HA, R, HS =>
        have htx := HS.out.2 f t r rfl
        have hown := R.own
        have hbr := R.below
        have hBr := R.size
        clear R
        simp only [List.length_cons] at hown hak ⊢
        obtain ⟨g2, rfl, hg2, hg3, hg4⟩ := ownsRow_read hown (by omega)
        obtain ⟨hcell1, hcell2⟩ := hg4 (r.length * 2 + 1) (by omega)
        rw [List.reverse_cons, spCells_snoc, List.getElem?_append_right (by rw [spCells_length]; simp), show r.length * 2 + 1 - (spCells r.reverse).length = 1 by rw [spCells_length]; simp] at hcell1
        simp at hcell1
        clear hg4
        by_cases e : t + 1 = x
        · have HE := Lib.hid e
          have hx1 : 1 ≤ x := by omega
          have e1 : ((t : Int) == (x : Int) - 1) = true := by simp; omega
          obtain ⟨ho5, hg5⟩ := hown.stored (r.length * 2 + 1) (.int .u8 ((x : Nat) : Int))
          have hB5 : Below w1.heap.size wr (wr.setCell ⟨g2, r.length * 2 + 1, none⟩ (.int .u8 ((x : Nat) : Int))) := (Below.refl _ wr).setCell hg2 _
          have R5 : SpansAt w1.heap.size w1 ((f, x) :: r) (.slice (some ⟨g2, 0, none⟩) (r.length + 1) cap) (wr.setCell ⟨g2, r.length * 2 + 1, none⟩ (.int .u8 ((x : Nat) : Int))) := by
            refine ⟨?_, hbr.trans hB5, Nat.le_trans hBr hB5.size⟩
            rw [List.reverse_cons, spCells_snoc]
            rw [List.reverse_cons, spCells_snoc, List.set_append_right _ _ (by rw [spCells_length]; simp), show r.length * 2 + 1 - (spCells r.reverse).length = 1 by rw [spCells_length]; simp] at ho5
            exact ho5
          have HR5 := Lib.hid R5
          clear e hB5 ho5 hg5 R5 hown hbr
          go_wp2_with fail
          go_roundw
          case rel => exact ⟨k + 1, (f, x) :: r, by go_num, by omega, by rw [HS.out.1]; simp [spStep, Hid, HE.out], by simp; omega, HR5.out⟩
          case measure => simp [intOf]; omega
        · have HE := Lib.hid e
          have hx1 : 1 ≤ x := by omega
          have e1 : ((t : Int) == (x : Int) - 1) = false := by simp; omega
          clear e
          go_wp2_with (at_builtin; refine wpList_append_own _ rfl _ _ 91 rfl w1.heap.size 94 i0 (.agg #[.int .u8 0, .int .u8 0]) 2 2 Tryd.underlying91 hi hz0 hz1 hz2 rfl (by decide) _ _ _ rfl (hown.alloc _) ⟨wr.heap.size, 0, none⟩ 1 1 [.int .u8 (x : Nat), .int .u8 (x : Nat)] rfl rfl ?d1 ?d2 ?d3 ?d4 ?d5 ?_)
          case d1 =>
            intro j u hj
            match j, hj with
            | 0, hj => simp at hj; subst hj; simp [Addr.add]
            | 1, hj => simp at hj; subst hj; simp [Addr.add]
          case d2 => intro u hu; simp at hu; subst hu; rfl
          case d3 => unfold maxLen; omega
          case d4 => omega
          case d5 => simp; omega
          intro v' w5 hown5 hgrow5 _
          have hB5 : Below w1.heap.size wr w5 := ((Below.refl _ wr).alloc hBr _).trans (grown_kept hgrow5 (hown.alloc _) (by simp; omega))
          have R5 : SpansAt w1.heap.size w1 ((x, x) :: (f, t) :: r) v' w5 := ⟨by rw [List.reverse_cons, spCells_snoc]; simpa using hown5, hbr.trans hB5, Nat.le_trans hBr hB5.size⟩
          clear hown5 hgrow5 hown hbr hB5
          go_wp2_with fail
          go_roundw
          case rel => exact ⟨k + 1, (x, x) :: (f, t) :: r, by go_num, by omega, by rw [HS.out.1]; simp [spStep, Hid, HE.out], by simp; omega, R5⟩
          case measure => simp [intOf]; omega
    · obtain rfl : k = n := by omega
      have hown := R.own
      have hbel := hb1.trans (R.below.mono (by omega))
      have HF : Hid (acc.reverse = spansOf p ∧ acc.reverse.length = acc.length) := by
        refine ⟨?_, by simp⟩
        rw [HA.out, List.take_of_length_le (by rw [HN.out]; omega), spansOf, HX.out]
      clear R
      go_wp2_with fail
      go_ret
      refine ⟨a, cap, ?_, ?_, hbel⟩
      · rw [← HF.out.1, HF.out.2]; rfl
      · rw [← HF.out.1, HF.out.2]; exact ownsRow_base hown (by omega)
end Go.Proofs.YtjhfgiflcenjpaaDoor
