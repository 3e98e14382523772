import Derived.Test.YthidhkaeebakjaaNUCopy
import Derived.Test.YthidhkaeebakjaaNByte
namespace Go.Proofs.Ythidhkaeebakjaa
open Go.RowKit
set_option linter.unusedVariables false
set_option linter.unusedSimpArgs false

theorem fre_cells (f t : Nat) : egCells (fre f t).z = [.int .i64 ((f : Nat) : Int), .int .i64 ((t : Nat) : Int), .int .u64 0, .int .u64 0, .int .u64 0, .int .u64 0, .bool true] := by
  simp [egCells, En.z, fre, wd_none]
set_option maxRecDepth 100000 in
theorem freeEdge_any (f t : Nat) (w : World) : Calls Try.prog 39 #[.int .i64 ((f : Nat) : Int), .int .i64 ((t : Nat) : Int)] w fun e w' => e = .returned (.agg #[.int .i64 ((f : Nat) : Int), .int .i64 ((t : Nat) : Int), .int .u64 0, .int .u64 0, .int .u64 0, .int .u64 0, .bool true]) ∧ Below w.heap.size w w' := by
  have HB := Lib.hid ((Below.refl w.heap.size w).alloc (Nat.le_refl _) (.cells #[.int .i64 ((f : Nat) : Int), .int .i64 ((t : Nat) : Int), .int .u64 0, .int .u64 0, .int .u64 0, .int .u64 0, .bool true] 35))
  have HS := Lib.hid (St.new w 35 #[.int .i64 ((f : Nat) : Int), .int .i64 ((t : Nat) : Int), .int .u64 0, .int .u64 0, .int .u64 0, .int .u64 0, .bool true])
  go_enter Try.func39, Try.ntmps39
  go_wp2_with fail
  generalize w.alloc (.cells #[.int .i64 ((f : Nat) : Int), .int .i64 ((t : Nat) : Int), .int .u64 0, .int .u64 0, .int .u64 0, .int .u64 0, .bool true] 35) = W at HB HS ⊢
  obtain ⟨v0, v1, v2, v3, v4, v5, v6⟩ := row7e HS.out
  exact bodyPost_ret (v := .agg #[.int .i64 ((f : Nat) : Int), .int .i64 ((t : Nat) : Int), .int .u64 0, .int .u64 0, .int .u64 0, .int .u64 0, .bool true]) (by simp [results, Try.results39, go_sem, v0, v1, v2, v3, v4, v5, v6]) rfl ⟨rfl, HB.out⟩

set_option maxHeartbeats 2000000 in
set_option maxRecDepth 100000 in
theorem moved_any (L : List En) (o : Nat) (a : Option Addr) (n c : Nat) (w : World) (hL : EdAt w a (L.map En.z)) (hn : L.length = n) (hmax : n ≤ 1000) (ho : o ≤ 1000000) (hb : ∀ e ∈ L, e.f ≤ 1000000 ∧ e.t ≤ 1000000) :
    Calls Try.prog 40 #[.slice a n c, .int .i64 ((o : Nat) : Int)] w fun e w' => ∃ g, e = .returned (.slice (some ⟨g, 0, none⟩) n n) ∧ w'.ownsRow w.heap.size 35 7 (.slice (some ⟨g, 0, none⟩) n n) n (egs ((L.map (En.by o)).map En.z)) ∧ Below w.heap.size w w' := by
  have HL := Lib.hid (And.intro hL (And.intro hn hb))
  obtain ⟨i0, hi, hz0, hz1, hz2⟩ := info_parts Try.info_edge
  have hsz : (Try.prog.info? 35).map (·.size) = some 7 := by kernel_rfl
  clear hL hn hb
  go_enter Try.func40, Try.ntmps40
  go_wp2_with (at_make; refine wpList_make_full _ rfl _ _ 22 rfl w.heap.size 35 i0 (.agg #[.int .i64 0, .int .i64 0, .int .u64 0, .int .u64 0, .int .u64 0, .int .u64 0, .bool false]) 7 Try.underlying22 hi hz0 hz1 .i64 .i64 _ _ n rfl rfl ?c1 ?c2 ?c3 ?c4 ?c5 ?_)
  case c1 => omega
  case c2 => omega
  case c3 => rw [hz2]; omega
  case c4 => unfold maxLen; omega
  case c5 => omega
  intro w1 hown hgrow
  have hb1 : Below w.heap.size w w1 := ⟨hgrow.os, hgrow.tape, hgrow.output, hgrow.size, fun k hk => hgrow.block k hk (by simp)⟩
  have HO := Lib.hid (And.intro hown (And.intro hb1 (own_full hown)))
  have HX : Hid ((egs (L.map En.z)).length = n * 7 ∧ (0 < n → ∃ ad, a = some ad ∧ ∀ j v, (egs (L.map En.z))[j]? = some v → w1.cell? (ad.add j) = some v)) := by
    show _ ∧ _
    have hlen : (egs (L.map En.z)).length = n * 7 := by rw [egs_length, List.length_map, HL.out.2.1]
    refine ⟨hlen, fun h0 => ?_⟩
    obtain ⟨g, off, e, hg, hc⟩ := (HL.out.1.below hb1) (by rw [List.length_map, HL.out.2.1]; exact h0)
    refine ⟨_, e, fun j v hj => ?_⟩
    have hjl := (List.getElem?_eq_some_iff.1 hj).1
    have : (⟨g, off, none⟩ : Addr).add j = ⟨g, off + j, none⟩ := by unfold Addr.add; split <;> simp_all
    rw [this, hc j (by rw [← egs_length]; exact hjl)]
    exact hj
  clear hown hgrow hb1
  go_wp2_with (refine wpList_copy_full rfl _ _ _ _ rfl 35 7 Try.underlying22 hsz w.heap.size n n c a rfl rfl _ 35 HO.out.2.2.1 (egs (L.map En.z)) HX.out.1 (by have := HO.out.2.2.2.2.2; have h2 := HX.out.1; simp at this ⊢; omega) HX.out.2 (egs_one _) ?_)
  have HA : Hid ((w1.setRow w.heap.size (egs (L.map En.z)).toArray).ownsRow w.heap.size 35 7 (.slice (some ⟨w.heap.size, 0, none⟩) n n) n (egs ((mx o L 0).map En.z)) ∧ Below w.heap.size w (w1.setRow w.heap.size (egs (L.map En.z)).toArray)) :=
    ⟨own_refill HO.out.1 HX.out.1, below_setRow HO.out.2.1 (Nat.le_refl _) _⟩
  generalize w1.setRow w.heap.size (egs (L.map En.z)).toArray = w2 at HA ⊢
  clear HO HX
  go_wp2_with fail
  go_loopw [6, 15] (fun _ i wr => ∃ k : Nat, i = .int .i64 k ∧ k ≤ n ∧ Hid (wr.ownsRow w.heap.size 35 7 (.slice (some ⟨w.heap.size, 0, none⟩) n n) n (egs ((mx o L k).map En.z)) ∧ Below w.heap.size w wr)) (fun _ i _ => n - (intOf i).toNat)
  case atStart => exact ⟨0, rfl, Nat.zero_le _, HA⟩
  case round =>
    clear HA
    obtain ⟨k, rfl, hk, HA⟩ := hrel
    by_cases hlt : k < n
    · have hkl : k < L.length := by rw [HL.out.2.1]; exact hlt
      have hkm : k < ((mx o L k).map En.z).length := by rw [List.length_map, mx_len]; exact hkl
      have hx := HL.out.2.2 L[k] (List.getElem_mem _)
      have hst : St wr 35 w.heap.size (egs ((mx o L k).map En.z)).toArray := (own_full HA.out.1).1
      have hce : ∀ j, j < 7 → (egs ((mx o L k).map En.z))[k * 7 + j]? = (egCells L[k].z)[j]? := fun j hj => by
        rw [egs_get _ k hkm j hj, List.getElem_map, mx_at o L k hkl]
      have c0 : wr.cell? ⟨w.heap.size, k * 7, none⟩ = some (.int .i64 ((L[k].f : Nat) : Int)) := by rw [hst.at_, List.getElem?_toArray]; exact hce 0 (by omega)
      have c1 : wr.cell? ⟨w.heap.size, k * 7 + 1, none⟩ = some (.int .i64 ((L[k].t : Nat) : Int)) := by rw [hst.at_, List.getElem?_toArray]; exact hce 1 (by omega)
      have f0 := hst.thaw_ (k * 7)
      have f1 := hst.thaw_ (k * 7 + 1)
      have HF : Hid (((wr.setCell ⟨w.heap.size, k * 7, none⟩ (.int .i64 ((L[k].f : Int) + (o : Int)))).setCell ⟨w.heap.size, k * 7 + 1, none⟩ (.int .i64 ((L[k].t : Int) + (o : Int)))).ownsRow w.heap.size 35 7 (.slice (some ⟨w.heap.size, 0, none⟩) n n) n (egs ((mx o L (k + 1)).map En.z)) ∧
          Below w.heap.size w ((wr.setCell ⟨w.heap.size, k * 7, none⟩ (.int .i64 ((L[k].f : Int) + (o : Int)))).setCell ⟨w.heap.size, k * 7 + 1, none⟩ (.int .i64 ((L[k].t : Int) + (o : Int))))) := by
        show _ ∧ _
        refine ⟨?_, (HA.out.2.setCell (p := ⟨w.heap.size, k * 7, none⟩) (Nat.le_refl _) _).setCell (p := ⟨w.heap.size, k * 7 + 1, none⟩) (Nat.le_refl _) _⟩
        have h1 := own_putn (own_putn HA.out.1 (k * 7) (by omega) (.int .i64 ((L[k].f : Int) + (o : Int)))) (k * 7 + 1) (by omega) (.int .i64 ((L[k].t : Int) + (o : Int)))
        have h2 := egs_set ((mx o L k).map En.z) k (L[k].by o).z hkm (by rw [List.getElem_map, mx_at o L k hkl]; rfl) (by rw [List.getElem_map, mx_at o L k hkl]; rfl)
        rw [← List.map_set, mx_set o L k hkl] at h2
        rw [h2]
        exact h1
      generalize L[k].f = xf at c0 hx HF
      generalize L[k].t = xt at c1 hx HF
      clear hst hce hkl hkm HA
      go_wp2_with fail
      go_roundw
      case rel => exact ⟨k + 1, by go_num, by omega, HF⟩
      case measure => simp [intOf]; omega
    · obtain rfl : k = n := by omega
      have HF : Hid (wr.ownsRow w.heap.size 35 7 (.slice (some ⟨w.heap.size, 0, none⟩) k k) k (egs ((L.map (En.by o)).map En.z)) ∧ Below w.heap.size w wr) := by
        show _ ∧ _
        have h := HA.out
        rw [show mx o L k = L.map (En.by o) by unfold mx; rw [List.take_of_length_le (by rw [HL.out.2.1]; exact Nat.le_refl _), List.drop_eq_nil_of_le (by rw [HL.out.2.1]; exact Nat.le_refl _), List.append_nil]] at h
        exact h
      go_wp2_with fail
      go_ret
      exact ⟨w.heap.size, rfl, HF.out.1, HF.out.2⟩
end Go.Proofs.Ythidhkaeebakjaa
