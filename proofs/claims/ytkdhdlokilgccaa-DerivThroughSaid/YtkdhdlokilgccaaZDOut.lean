import Derived.Test.YtkdhdlokilgccaaZDTree
namespace Go.Proofs.Ytkdhdlokilgccaa
open Go.RowKit Go.Maps Go.WideElems Go.ChangeMaps Go.MapKept
set_option linter.unusedVariables false

/-- What writing leaves: other blocks than the tree's own and the row's as they were. -/
structure WFr (bt : Nat) (w : World) (vR : Value) (w' : World) (vR' : Value) : Prop where
  kept : Kept [] (bt :: vR.ownBlock.toList) w w'
  sub : ∀ g, vR'.ownBlock = some g → vR.ownBlock = some g ∨ w.heap.size ≤ g
  size : w.heap.size ≤ w'.heap.size
theorem WFr.refl (bt : Nat) (w : World) (vR : Value) : WFr bt w vR w vR := ⟨Kept.refl _ _ _, fun _ h => Or.inl h, Nat.le_refl _⟩
theorem WFr.of_below (bt : Nat) {w w' : World} (vR : Value) (k : Below w.heap.size w w') : WFr bt w vR w' vR := ⟨(Kept.refl _ _ _).below k, fun _ h => Or.inl h, k.size⟩
theorem WFr.trans {bt : Nat} {w w' w'' : World} {v v' v'' : Value} (h : WFr bt w v w' v') (k : WFr bt w' v' w'' v'') : WFr bt w v w'' v'' := by
  have hs := h.size
  refine ⟨fun i o hi ho hb => ?_, fun g hg => ?_, Nat.le_trans h.size k.size⟩
  · have hlt := (Array.getElem?_eq_some_iff.1 hi).1
    refine k.kept i o (h.kept i o hi ho hb) ho (fun hm => ?_)
    simp only [List.mem_cons, Option.mem_toList, not_or] at hm hb
    rcases hm with e | e
    · exact hb.1 e
    · rcases h.sub i (Option.mem_def.1 e) with e2 | e2
      · exact hb.2 (Option.mem_def.2 e2)
      · omega
  · rcases k.sub g hg with e | e
    · exact h.sub g e
    · exact Or.inr (by omega)
theorem WFr.st {bt : Nat} {w w' : World} {v v' : Value} (h : WFr bt w v w' v') {t g : Nat} {cs : Array Value} (hg : St w t g cs) (h1 : g ≠ bt) (h2 : v.ownBlock ≠ some g) : St w' t g cs :=
  hg.kept h.kept (by simp) (by simp only [List.mem_cons, Option.mem_toList, not_or]; exact ⟨h1, h2⟩)
def WPost (W0 : World) (kr bl bt bL : Nat) (T : List Tl) (f : Nat → Option (List Nat)) (w : World) (vR : Value) (lr more : List Pc) (e : Ending) (w' : World) : Prop :=
  ∃ vR', e = .returned (.tuple #[]) ∧ TrAt W0 w' kr bl bt bL T f vR' (lr ++ more) ∧ WFr bt w vR w' vR'
theorem WPost.seq {W0 : World} {kr bl bt bL : Nat} {T : List Tl} {f : Nat → Option (List Nat)} {w w' w'' : World} {vR vR' : Value} {lr m1 m2 m : List Pc} {e : Ending} (h1 : WFr bt w vR w' vR') (h2 : WPost W0 kr bl bt bL T f w' vR' (lr ++ m1) m2 e w'') (hm : m = m1 ++ m2) : WPost W0 kr bl bt bL T f w vR lr m e w'' := by
  obtain ⟨v, he, hT, hF⟩ := h2
  exact ⟨v, he, by rw [hm, ← List.append_assoc]; exact hT, h1.trans hF⟩
theorem Try.info_piece : (Try.prog.info? 66).map (fun i => (i.zero, i.size, i.bytes)) = some (some (.agg #[.int .i64 0, .int .u64 0, .int .u64 0, .int .u64 0, .int .u64 0]), 5, 40) := by kernel_rfl
/-- The tree behind an append to its row and the store of it. -/
theorem TrAt.push {W0 w w6 : World} {kr bl bt bL : Nat} {T : List Tl} {f : Nat → Option (List Nat)} {vR : Value} {lr : List Pc} (h : TrAt W0 w kr bl bt bL T f vR lr) (x : Pc) (gg cap6 : Nat)
    (hown : w6.ownsRow W0.heap.size 66 5 (.slice (some ⟨gg, 0, none⟩) (lr.length + 1) cap6) (lr.length + 1) (pcs lr ++ pcCells x)) (hg : w.grownBy w6 vR.ownBlock) (hat : vR.ownBlock = some gg ∨ w.heap.size ≤ gg) :
    TrAt W0 (w6.setCell ⟨bt, 3, none⟩ (.slice (some ⟨gg, 0, none⟩) (lr.length + 1) cap6)) kr bl bt bL T f (.slice (some ⟨gg, 0, none⟩) (lr.length + 1) cap6) (lr ++ [x]) ∧ WFr bt w vR (w6.setCell ⟨bt, 3, none⟩ (.slice (some ⟨gg, 0, none⟩) (lr.length + 1) cap6)) (.slice (some ⟨gg, 0, none⟩) (lr.length + 1) cap6) := by
  have hS6 : St w6 133 bt #[.pointer (some ⟨kr, 0, none⟩), .pointer (some ⟨bl, 0, none⟩), .map (some bL), vR] := h.st.grown_own h.row (by decide) hg
  have hl : (lr ++ [x]).length = lr.length + 1 := by simp
  have hkg := kept_row hg
  have hk7 : Kept [] (bt :: vR.ownBlock.toList) w (w6.setCell ⟨bt, 3, none⟩ (.slice (some ⟨gg, 0, none⟩) (lr.length + 1) cap6)) := (hkg.mono (fun _ h => h) (fun g hg => List.mem_cons_of_mem _ hg)).setCell _ _ (Or.inl (by simp))
  have hsz : w.heap.size ≤ (w6.setCell ⟨bt, 3, none⟩ (.slice (some ⟨gg, 0, none⟩) (lr.length + 1) cap6)).heap.size := by have := hg.size; simp [World.setCell]; exact this
  refine ⟨⟨(below_grown_own h.below h.row h.below.size hg).setCell (p := ⟨bt, 3, none⟩) h.ht _, hS6.set 3 _, h.lg.kept hk7 ?_ (fun g c fz hc hm => ?_), ?_, h.ht, h.hL⟩, ⟨hk7, fun g e => ?_, hsz⟩⟩
  · simp only [List.mem_cons, Option.mem_toList, not_or]
    refine ⟨fun e => h.ne e.symm, fun e => ?_⟩
    obtain ⟨c, fz, hc⟩ := own_kind h.row _ (Option.mem_def.1 e)
    obtain ⟨es, clock, hb, _⟩ := h.lg
    rw [hb] at hc
    cases hc
  · simp only [List.mem_cons, Option.mem_toList] at hm
    rcases hm with e | e
    · have h1 : w.heap[bt]? = _ := h.st
      rw [e, h1] at hc
      injection hc with hc
      injection hc with _ hc
      exact absurd hc (by decide)
    · obtain ⟨c', fz', hc'⟩ := own_kind h.row g (Option.mem_def.1 e)
      rw [hc] at hc'
      injection hc' with hc'
      injection hc' with _ hc'
      exact absurd hc' (by decide)
  · rw [hl, pcs_append]
    have e1 : pcs [x] = pcCells x := by simp [pcs]
    rw [e1]
    exact own_set hown hS6 (by decide) 3 _
  · have e1 : gg = g := by simpa [Value.ownBlock] using e
    rw [← e1]
    exact hat

set_option maxHeartbeats 1000000 in
set_option maxRecDepth 100000 in
theorem tadd_any (W0 w : World) (kr bl bt bL : Nat) (T : List Tl) (f : Nat → Option (List Nat)) (vR : Value) (lr : List Pc) (k : Int) (hk : 0 ≤ k ∧ k ≤ 6) (h : TrAt W0 w kr bl bt bL T f vR lr) (hl : lr.length ≤ 1000000000000) :
    Calls Try.prog 74 #[.pointer (some ⟨bt, 0, none⟩), .int .i64 k] w (WPost W0 kr bl bt bL T f w vR lr [⟨k, emp⟩]) := by
  obtain ⟨i0, hi, hz0, hz1, hz2⟩ := info_parts Try.info_piece
  obtain ⟨t0, t1, t2, t3⟩ := row4t h.st
  obtain ⟨aR, cR, rfl⟩ := ownsRow_slice h.row
  obtain ⟨p, hp⟩ : ∃ p, lr.length = p := ⟨_, rfl⟩
  have hal : Below w.heap.size w (w.alloc (.cells #[.int .i64 k, .int .u64 0, .int .u64 0, .int .u64 0, .int .u64 0] 66)) := (Below.refl _ _).alloc (Nat.le_refl _) _
  have hTA := h.keep hal
  have hrow := hTA.row
  have hH := hTA.below.size
  rw [hp] at t3 hl hrow
  have hbt := h.st.lt
  have hSA := hTA.st
  have HH := Lib.hid (And.intro h (And.intro hTA (And.intro hp hal)))
  have e0 : pcCells ⟨k, emp⟩ = [.int .i64 k, .int .u64 0, .int .u64 0, .int .u64 0, .int .u64 0] := by
    show [Value.int .i64 k, .int .u64 ((wd emp 0 : Nat) : Int), .int .u64 ((wd emp 1 : Nat) : Int), .int .u64 ((wd emp 2 : Nat) : Int), .int .u64 ((wd emp 3 : Nat) : Int)] = _
    simp only [wd_emp]
    rfl
  have HE := Lib.hid e0
  clear h hp hTA hal e0
  go_enter Try.func74, Try.ntmps74
  go_wp2_with (at_builtin; refine wpList_append_lies _ rfl _ _ _ rfl W0.heap.size 66 i0 (.agg #[.int .i64 0, .int .u64 0, .int .u64 0, .int .u64 0, .int .u64 0]) 5 40 Try.underlying23 hi hz0 hz1 hz2 rfl (by decide) (.slice aR p cR) p (pcs lr) rfl hrow ⟨w.heap.size, 0, none⟩ 1 1 [.int .i64 k, .int .u64 0, .int .u64 0, .int .u64 0, .int .u64 0] rfl rfl (World.news_of_block (cs := #[.int .i64 k, .int .u64 0, .int .u64 0, .int .u64 0, .int .u64 0]) (by first | exact heap_alloc_new _ _ | exact St.new _ _ _)) (by intro u hu; simp at hu; rcases hu with rfl | rfl | rfl | rfl | rfl <;> rfl) (by omega) (by unfold maxLen; omega) (by omega) hH _ rfl ?_; intro gg cap6 w6 hown6 hgrow6 hat6 hlt6; have hS6 : St w6 133 bt #[.pointer (some ⟨kr, 0, none⟩), .pointer (some ⟨bl, 0, none⟩), .map (some bL), .slice aR p cR] := (by have := hSA.grown_own hrow (by decide) hgrow6; rw [HH.out.2.2.1] at this; exact this); have s3 := (row4t hS6).2.2.2; have f3 := hS6.thaw 3)
  go_end0
  obtain ⟨h, hTA, rfl, hal⟩ := HH.out
  obtain ⟨hT, hF⟩ := hTA.push ⟨k, emp⟩ gg cap6 (by rw [HE.out]; exact hown6) hgrow6 (hat6.imp id (fun e => by rw [e]; exact Nat.le_refl _))
  exact ⟨_, rfl, hT, (WFr.of_below bt _ hal).trans hF⟩
end Go.Proofs.Ytkdhdlokilgccaa

namespace Go.Proofs.Ytkdhdlokilgccaa
open Go.RowKit Go.Maps Go.WideElems Go.ChangeMaps Go.MapKept
set_option linter.unusedVariables false

set_option maxRecDepth 100000 in
theorem slice_ops (b m : Nat) (hm : m ≤ 2) (W : World) : (Instr.sliceAt 140 (.pointer (some ⟨b, 5, none⟩)) none (some (.int .i64 ((m : Nat) : Int))) none).run Try.prog W = .ok (.slice (some ⟨b, 5, none⟩) m 2) W := by
  have h0 : (Instr.sliceAt 140 (.pointer (some ⟨b, 5, none⟩)) none (some (.int .i64 0)) none).run Try.prog W = .ok (.slice (some ⟨b, 5, none⟩) 0 2) W := by kernel_rfl
  have h1 : (Instr.sliceAt 140 (.pointer (some ⟨b, 5, none⟩)) none (some (.int .i64 1)) none).run Try.prog W = .ok (.slice (some ⟨b, 5, none⟩) 1 2) W := by kernel_rfl
  have h2 : (Instr.sliceAt 140 (.pointer (some ⟨b, 5, none⟩)) none (some (.int .i64 2)) none).run Try.prog W = .ok (.slice (some ⟨b, 5, none⟩) 2 2) W := by kernel_rfl
  rcases (show m = 0 ∨ m = 1 ∨ m = 2 by omega) with rfl | rfl | rfl
  · exact h0
  · exact h1
  · exact h2
def WriteOk (W0 : World) (kr bl bt bL : Nat) (T : List Tl) (f : Nat → Option (List Nat)) (E : List Ex) (s : Rx) : Prop := ∀ (n : Nat) (w : World) (vR : Value) (lr : List Pc), Den E n s → TrAt W0 w kr bl bt bL T f vR lr → lr.length + s.flat.length ≤ 1000000000000 →
  Calls Try.prog 81 #[.pointer (some ⟨bt, 0, none⟩), .int .i64 n] w (WPost W0 kr bl bt bL T f w vR lr s.flat)
def opd (x : Ex) (k : Nat) : Nat := if k = 0 then x.a else x.b

set_option maxHeartbeats 2000000 in
set_option maxRecDepth 100000 in
/-- The operands, one behind the other, and the piece. -/
theorem write_node (W0 : World) (B kr : Nat) (cur : Array Value) (E : List Ex) (F : List Fa) (T : List Tl) (b1 b2 n0 : Nat) (S : List (List Rx)) (hR : RdAt W0 B kr cur E F T b1 b2 n0 S) (bl bt bL : Nat) (f : Nat → Option (List Nat))
    (n : Nat) (x : Ex) (m : Nat) (hm : m ≤ 2) (hx : E[n]? = some x) (htk : takesZ x.p.k = (m : Int)) (ss : List Rx) (hss : ss.length = m) (hd : ∀ k (h : k < ss.length), Den E (opd x k) ss[k]) (ih : ∀ s, s ∈ ss → WriteOk W0 kr bl bt bL T f E s)
    (w : World) (vR : Value) (lr : List Pc) (hTr : TrAt W0 w kr bl bt bL T f vR lr) (hl : lr.length + ((ss.flatMap Rx.flat).length + 1) ≤ 1000000000000) :
    Calls Try.prog 81 #[.pointer (some ⟨bt, 0, none⟩), .int .i64 n] w (WPost W0 kr bl bt bL T f w vR lr (ss.flatMap Rx.flat ++ [x.p])) := by
  have hRw := hR.below hTr.below
  obtain ⟨gE, cE, c0, hgE, hnE, hE8, hcE1, hcE2, hy⟩ := hRw.entry hx
  have y0 := hy 0 (by decide)
  have y1 := hy 1 (by decide)
  have y2 := hy 2 (by decide)
  have y3 := hy 3 (by decide)
  have y4 := hy 4 (by decide)
  have y5 := hy 5 (by decide)
  have y6 := hy 6 (by decide)
  simp only [exCells, List.getElem?_cons_zero, List.getElem?_cons_succ, Nat.add_zero] at y0 y1 y2 y3 y4 y5 y6
  obtain ⟨nE, hnE'⟩ : ∃ nE, E.length = nE := ⟨_, rfl⟩
  rw [hnE'] at c0 hnE hE8 hcE1
  have hkb : kr < w.heap.size := hRw.book.num.st.lt
  have iE : (n : Int) < (nE : Int) := by omega
  unfold maxLen at hcE2
  obtain ⟨t0, t1, t2, t3⟩ := row4t hTr.st
  have hbt := hTr.st.lt
  have hvl : vR.ownBlock ≠ some w.heap.size := fun e => by have := own_lt hTr.row _ e; omega
  have hal : Below w.heap.size w (w.alloc (.cells #[.int .i64 x.p.k, .int .u64 ((wd x.p.p 0 : Nat) : Int), .int .u64 ((wd x.p.p 1 : Nat) : Int), .int .u64 ((wd x.p.p 2 : Nat) : Int), .int .u64 ((wd x.p.p 3 : Nat) : Int), .int .i64 ((x.a : Nat) : Int), .int .i64 ((x.b : Nat) : Int)] 142)) := (Below.refl _ _).alloc (Nat.le_refl _) _
  have hX := St.new w 142 #[.int .i64 x.p.k, .int .u64 ((wd x.p.p 0 : Nat) : Int), .int .u64 ((wd x.p.p 1 : Nat) : Int), .int .u64 ((wd x.p.p 2 : Nat) : Int), .int .u64 ((wd x.p.p 3 : Nat) : Int), .int .i64 ((x.a : Nat) : Int), .int .i64 ((x.b : Nat) : Int)]
  have hT1 := hTr.keep hal
  have hF1 := WFr.of_below bt vR hal
  have hsl := slice_ops w.heap.size m hm
  have H0 := Lib.hid (And.intro hT1 (And.intro hF1 (And.intro hX (And.intro hvl (And.intro htk (And.intro hss (And.intro hd ih)))))))
  have HL := Lib.hid hl
  clear hTr hRw hy hnE' hX hT1 hF1 hal hx hvl htk hss hd ih hl
  go_enter Try.func81, Try.ntmps81
  go_upto_region 1 with (fail)
  clear c0 y0 y1 y2 y3 y4 y5 y6 t0 t1 t2 t3
  generalize w.alloc (.cells #[.int .i64 x.p.k, .int .u64 ((wd x.p.p 0 : Nat) : Int), .int .u64 ((wd x.p.p 1 : Nat) : Int), .int .u64 ((wd x.p.p 2 : Nat) : Int), .int .u64 ((wd x.p.p 3 : Nat) : Int), .int .i64 ((x.a : Nat) : Int), .int .i64 ((x.b : Nat) : Int)] 142) = A at H0 ⊢
  obtain ⟨x0, x1, x2, x3, x4, x5, x6⟩ := row7 H0.out.2.2.1
  go_wp2_with fail
  refine (takes_any x.p.k _).mono ?_
  rintro e w1 ⟨rfl, rfl⟩
  rw [H0.out.2.2.2.2.1]
  have im : (0 : Int) ≤ (m : Int) := by omega
  go_wp2_with fail
  clear x0 x1 x2 x3 x4 x5 x6
  go_loopw [26] (fun tv wr => ∃ (k : Nat) (vK : Value), tv = .int .i64 ((k : Nat) : Int) ∧ k ≤ m ∧ Hid (TrAt W0 wr kr bl bt bL T f vK (lr ++ (ss.take k).flatMap Rx.flat) ∧ WFr bt w vR wr vK ∧ St wr 142 w.heap.size #[.int .i64 x.p.k, .int .u64 ((wd x.p.p 0 : Nat) : Int), .int .u64 ((wd x.p.p 1 : Nat) : Int), .int .u64 ((wd x.p.p 2 : Nat) : Int), .int .u64 ((wd x.p.p 3 : Nat) : Int), .int .i64 ((x.a : Nat) : Int), .int .i64 ((x.b : Nat) : Int)] ∧ vK.ownBlock ≠ some w.heap.size)) (fun tv _ => m - (intOf tv).toNat)
  case atStart => exact ⟨0, vR, rfl, Nat.zero_le _, Lib.hid ⟨by simpa using H0.out.1, H0.out.2.1, H0.out.2.2.1, H0.out.2.2.2.1⟩⟩
  case round =>
    obtain ⟨k, vK, rfl, hk, HI⟩ := hrel
    obtain ⟨x0, x1, x2, x3, x4, x5, x6⟩ := row7 HI.out.2.2.1
    by_cases hlt : k < m
    · have hks : k < ss.length := by have := H0.out.2.2.2.2.2.1; omega
      have d0 : wr.cell? ⟨w.heap.size, 5 + k, none⟩ = some (.int .i64 ((opd x k : Nat) : Int)) := by
        rcases (show k = 0 ∨ k = 1 by omega) with rfl | rfl
        · exact x5
        · exact x6
      have ik : (k : Int) < (m : Int) := by omega
      have hlen : (lr ++ (ss.take k).flatMap Rx.flat).length + (ss[k]).flat.length ≤ 1000000000000 := by
        have h1 := HL.out
        have h2 : ss.flatMap Rx.flat = (ss.take k).flatMap Rx.flat ++ (ss.drop k).flatMap Rx.flat := by rw [← List.flatMap_append, List.take_append_drop]
        have h3 : ss.drop k = ss[k] :: ss.drop (k + 1) := List.drop_eq_getElem_cons hks
        rw [h2, h3] at h1
        simp only [List.length_append, List.flatMap_cons] at h1 ⊢
        omega
      have HD := Lib.hid (And.intro (H0.out.2.2.2.2.2.2.1 k hks) (And.intro (H0.out.2.2.2.2.2.2.2 ss[k] (List.getElem_mem _)) hlen))
      have hSl := Lib.hid hsl
      clear x0 x1 x2 x3 x4 x5 x6 hlen hsl
      go_wp2_with fail
      refine (HD.out.2.1 (opd x k) wr vK (lr ++ (ss.take k).flatMap Rx.flat) HD.out.1 HI.out.1 HD.out.2.2).mono ?_
      rintro e w3 ⟨v3, rfl, hT3, hF3⟩
      have hI3 : TrAt W0 w3 kr bl bt bL T f v3 (lr ++ (ss.take (k + 1)).flatMap Rx.flat) ∧ WFr bt w vR w3 v3 ∧ St w3 142 w.heap.size #[.int .i64 x.p.k, .int .u64 ((wd x.p.p 0 : Nat) : Int), .int .u64 ((wd x.p.p 1 : Nat) : Int), .int .u64 ((wd x.p.p 2 : Nat) : Int), .int .u64 ((wd x.p.p 3 : Nat) : Int), .int .i64 ((x.a : Nat) : Int), .int .i64 ((x.b : Nat) : Int)] ∧ v3.ownBlock ≠ some w.heap.size := by
        refine ⟨?_, HI.out.2.1.trans hF3, hF3.st HI.out.2.2.1 (by omega) HI.out.2.2.2, fun e => ?_⟩
        · rw [List.take_succ_eq_append_getElem hks, List.flatMap_append]
          simpa using hT3
        · rcases hF3.sub _ e with e | e
          · exact HI.out.2.2.2 e
          · have := HI.out.2.2.1.lt; omega
      have HI3 := Lib.hid hI3
      have hk1 : k + 1 ≤ m := by omega
      clear hT3 hF3 hI3 d0
      go_wp2_with fail
      go_roundw
      case rel => exact ⟨k + 1, v3, by go_num, hk1, HI3⟩
      case measure => simp [intOf]; omega
    · obtain rfl : k = m := by omega
      obtain ⟨i0, hi, hz0, hz1, hz2⟩ := info_parts Try.info_piece
      obtain ⟨aR, cR, rfl⟩ := ownsRow_slice HI.out.1.row
      have hss := H0.out.2.2.2.2.2.1
      have htake : (ss.take k).flatMap Rx.flat = ss.flatMap Rx.flat := by rw [List.take_of_length_le (by omega)]
      obtain ⟨p, hp⟩ : ∃ p, (lr ++ (ss.take k).flatMap Rx.flat).length = p := ⟨_, rfl⟩
      have hpl : p + 1 ≤ 1000000000000 := by have h1 := HL.out; rw [← hp, htake]; simp only [List.length_append] at h1 ⊢; omega
      obtain ⟨t0, t1, t2, t3⟩ := row4t HI.out.1.st
      have hal6 : Below wr.heap.size wr ((wr.alloc (.cells #[.int .i64 x.p.k, .int .u64 ((wd x.p.p 0 : Nat) : Int), .int .u64 ((wd x.p.p 1 : Nat) : Int), .int .u64 ((wd x.p.p 2 : Nat) : Int), .int .u64 ((wd x.p.p 3 : Nat) : Int)] 66)).drew) := ((Below.refl _ _).alloc (Nat.le_refl _) _).drew
      have hTA := HI.out.1.keep hal6
      have hrow := hTA.row
      have hSA := hTA.st
      have hH := hTA.below.size
      have ft := HI.out.1.st.lt
      rw [hp] at t3 hrow
      have HP := Lib.hid (And.intro hp (And.intro htake (And.intro hTA hal6)))
      clear hp htake hTA hal6 hss
      have hb1 : p + 1 ≤ maxLen := by unfold maxLen; omega
      have hb2 : (p + 1) * 40 ≤ 140737488355328 := by omega
      have hone : ∀ u ∈ (#[.int .i64 x.p.k, .int .u64 ((wd x.p.p 0 : Nat) : Int), .int .u64 ((wd x.p.p 1 : Nat) : Int), .int .u64 ((wd x.p.p 2 : Nat) : Int), .int .u64 ((wd x.p.p 3 : Nat) : Int)] : Array Value).toList, u.oneCell' = true := by intro u hu; simp at hu; rcases hu with rfl | rfl | rfl | rfl | rfl <;> rfl
      go_wp2_with fail
      go_region_law (
        refine step_append_lies _ (by rfl) _ _ _ (by rfl) W0.heap.size 66 i0 (.agg #[.int .i64 0, .int .u64 0, .int .u64 0, .int .u64 0, .int .u64 0]) 5 40 Try.underlying23 hi hz0 hz1 hz2 (by rfl) (by decide) (.slice aR p cR) p (pcs (lr ++ (ss.take k).flatMap Rx.flat)) (by rfl) hrow ⟨wr.heap.size, 0, none⟩ 1 1 (#[.int .i64 x.p.k, .int .u64 ((wd x.p.p 0 : Nat) : Int), .int .u64 ((wd x.p.p 1 : Nat) : Int), .int .u64 ((wd x.p.p 2 : Nat) : Int), .int .u64 ((wd x.p.p 3 : Nat) : Int)] : Array Value).toList (by rfl) (by rfl) (World.news_of_block (cs := #[.int .i64 x.p.k, .int .u64 ((wd x.p.p 0 : Nat) : Int), .int .u64 ((wd x.p.p 1 : Nat) : Int), .int .u64 ((wd x.p.p 2 : Nat) : Int), .int .u64 ((wd x.p.p 3 : Nat) : Int)]) (by first | exact heap_alloc_new _ _ | exact St.new _ _ _)) hone (by decide) hb1 hb2 hH _ (by rfl) ?_
        intro gg cap6 w6 hown6 hgrow6 hat6 hlt6
        have hS6 : St w6 133 bt #[.pointer (some ⟨kr, 0, none⟩), .pointer (some ⟨bl, 0, none⟩), .map (some bL), .slice aR p cR] := (by have := hSA.grown_own hrow (by decide) hgrow6; rw [HP.out.1] at this; exact this)
        have s3 := (row4t hS6).2.2.2
        have f3 := hS6.thaw 3)
      all_goals
        go_end0
        obtain ⟨hp, htake, hTA, hal6⟩ := HP.out
        subst hp
        obtain ⟨hT, hF⟩ := hTA.push x.p gg cap6 hown6 hgrow6 (hat6.imp id (fun e => by rw [e]; exact Nat.le_refl _))
        refine ⟨_, rfl, ?_, (HI.out.2.1.trans (WFr.of_below bt _ hal6)).trans hF⟩
        rw [← htake, ← List.append_assoc]
        exact hT
/-- An expression of the book is written. -/
theorem write_any (W0 : World) (B kr : Nat) (cur : Array Value) (E : List Ex) (F : List Fa) (T : List Tl) (b1 b2 n0 : Nat) (S : List (List Rx)) (hR : RdAt W0 B kr cur E F T b1 b2 n0 S) (bl bt bL : Nat) (f : Nat → Option (List Nat)) (t : Rx) : WriteOk W0 kr bl bt bL T f E t := by
  induction t with
  | leaf p =>
    intro n w vR lr hd hTr hl
    obtain ⟨x, hx, rfl, h1⟩ := hd.leafE
    exact write_node W0 B kr cur E F T b1 b2 n0 S hR bl bt bL f n x 0 (by omega) hx h1 [] rfl (fun k h => absurd h (by simp)) (by simp) w vR lr hTr (by simpa [Rx.flat] using hl)
  | un p a iha =>
    intro n w vR lr hd hTr hl
    obtain ⟨x, hx, rfl, h1, _, _, hda⟩ := hd.unE
    have := write_node W0 B kr cur E F T b1 b2 n0 S hR bl bt bL f n x 1 (by omega) hx h1 [a] rfl (fun k h => by
      have e : k = 0 := by simp at h; omega
      subst e
      exact hda) (fun s hs => by rw [List.mem_singleton.1 hs]; exact iha) w vR lr hTr (by simpa [Rx.flat] using hl)
    simpa [Rx.flat] using this
  | bin p a c iha ihc =>
    intro n w vR lr hd hTr hl
    obtain ⟨x, hx, rfl, h1, hda, hdc⟩ := hd.binE
    have := write_node W0 B kr cur E F T b1 b2 n0 S hR bl bt bL f n x 2 (by omega) hx h1 [a, c] rfl (fun k h => by
      rcases (show k = 0 ∨ k = 1 by simp at h; omega) with rfl | rfl
      · exact hda
      · exact hdc) (fun s hs => by
        simp only [List.mem_cons, List.not_mem_nil, or_false] at hs
        rcases hs with rfl | rfl
        · exact iha
        · exact ihc) w vR lr hTr (by simp [Rx.flat] at hl ⊢; omega)
    simpa [Rx.flat] using this
end Go.Proofs.Ytkdhdlokilgccaa

namespace Go.Proofs.Ytkdhdlokilgccaa
open Go.RowKit Go.Maps Go.WideElems Go.ChangeMaps Go.MapKept
set_option linter.unusedVariables false

open Classical in
/-- The pieces of a tail's head. -/
noncomputable def hsz (E : List Ex) (T : List Tl) (m : Nat) : Nat := if h : ∃ (u : Rx) (τ : List Rx), TD E T m (u :: τ) then h.choose.flat.length else 0
theorem hsz_eq {E : List Ex} {T : List Tl} {m : Nat} {u : Rx} {τ : List Rx} (h : TD E T m (u :: τ)) : hsz E T m = u.flat.length := by
  have hex : ∃ (u : Rx) (τ : List Rx), TD E T m (u :: τ) := ⟨u, τ, h⟩
  unfold hsz
  rw [dif_pos hex]
  obtain ⟨τ', h'⟩ := hex.choose_spec
  have := h'.one h
  injection this with e _
  rw [e]
open Classical in
noncomputable def optv (f : Nat → Option (List Nat)) (ll : List Nat) (m : Nat) : Nat := if f m ≠ some [] ∧ m ∈ ll then 1 else 0
noncomputable def vv (E : List Ex) (T : List Tl) (f : Nat → Option (List Nat)) (ll : List Nat) (m : Nat) : Nat := hsz E T m + 1 + optv f ll m
/-- All that writing needs to know. -/
structure Out (W0 : World) (B kr : Nat) (cur : Array Value) (E : List Ex) (F : List Fa) (T : List Tl) (b1 b2 n0 : Nat) (S : List (List Rx)) (bl : Nat) (ll : List Nat) (m : Nat) (vA vI : Value) (f : Nat → Option (List Nat)) : Prop where
  rd : RdAt W0 B kr cur E F T b1 b2 n0 S
  pl : PileAt W0 B bl ll m vA vI
  good : Good T f (fun m => m ∈ ll)
  all : ∀ n, n ∈ ll → ∃ l, f n = some l
def AheadT (E : List Ex) (T : List Tl) (f : Nat → Option (List Nat)) (ll : List Nat) (n : Nat) (l : List Nat) (u : Rx) : Prop := u.wf ∧ (∀ s, Lan u s ↔ Ahd E T ll n s) ∧ (l = [] → u.flat.length = 1) ∧ (l ≠ [] → u.flat.length + 1 = (l.map (subSum E T f (vv E T f ll))).sum + optv f ll n)
def ToT (E : List Ex) (T : List Tl) (f : Nat → Option (List Nat)) (ll : List Nat) (c : Nat) (h : Rx) (u : Rx) : Prop := u.wf ∧ (∀ s, Lan u s ↔ Cat (Ahd E T ll c) (Lan h) s) ∧ u.flat.length + 1 = subSum E T f (vv E T f ll) c
def APost (W0 : World) (kr bl bt bL : Nat) (T : List Tl) (f : Nat → Option (List Nat)) (w : World) (vR : Value) (lr : List Pc) (P : Rx → Prop) (e : Ending) (w' : World) : Prop :=
  ∃ u, P u ∧ WPost W0 kr bl bt bL T f w vR lr u.flat e w'
def AOk (W0 : World) (kr bl bt bL : Nat) (E : List Ex) (T : List Tl) (f : Nat → Option (List Nat)) (ll : List Nat) (n : Nat) : Prop := ∀ (w : World) (vR : Value) (lr l : List Pc) (ln : List Nat), f n = some ln → (ln = [] → n ∈ ll) → TrAt W0 w kr bl bt bL T f vR lr → lr.length + (ln.map (subSum E T f (vv E T f ll))).sum + 2 ≤ 1000000000000 →
  Calls Try.prog 63 #[.pointer (some ⟨bt, 0, none⟩), .int .i64 n] w (APost W0 kr bl bt bL T f w vR lr (AheadT E T f ll n ln))
def TOk (W0 : World) (kr bl bt bL : Nat) (E : List Ex) (T : List Tl) (f : Nat → Option (List Nat)) (ll : List Nat) (c : Nat) : Prop := ∀ (w : World) (vR : Value) (lr : List Pc) (h : Rx) (τ : List Rx), TD E T c (h :: τ) → (∃ lc, f c = some lc) → TrAt W0 w kr bl bt bL T f vR lr → lr.length + subSum E T f (vv E T f ll) c + 2 ≤ 1000000000000 →
  Calls Try.prog 73 #[.pointer (some ⟨bt, 0, none⟩), .int .i64 c] w (APost W0 kr bl bt bL T f w vR lr (ToT E T f ll c h))
theorem okSet_emp (k : Int) (h : k ≠ 1) : okSet ⟨k, emp⟩ = true := by
  have hn : noneB emp = true := by decide +kernel
  unfold okSet
  show (noneB emp != (k == 1)) = true
  rw [hn]
  have : (k == 1) = false := by simpa using h
  rw [this]
  rfl
/-- A planted tail that nothing is ahead of stands alone. -/
theorem Out.leaf {W0 : World} {B kr : Nat} {cur : Array Value} {E : List Ex} {F : List Fa} {T : List Tl} {b1 b2 n0 : Nat} {S : List (List Rx)} {bl : Nat} {ll : List Nat} {m : Nat} {vA vI : Value} {f : Nat → Option (List Nat)} (h : Out W0 B kr cur E F T b1 b2 n0 S bl ll m vA vI f) {n : Nat} (hn : f n = some []) (hm : n ∈ ll) (s : List Nat) : Ahd E T ll n s ↔ s = [] := by
  rw [ahd_iff h.rd.si.inv h.rd.si.nd h.good h.all (fun i hi => (h.rd.si.td i hi).imp fun _ h => h.1) hn]
  constructor
  · rintro (⟨_, e⟩ | ⟨c, u, τ, hc, _⟩)
    · exact e
    · cases hc
  · exact fun e => Or.inl ⟨hm, e⟩
theorem Out.kids {W0 : World} {B kr : Nat} {cur : Array Value} {E : List Ex} {F : List Fa} {T : List Tl} {b1 b2 n0 : Nat} {S : List (List Rx)} {bl : Nat} {ll : List Nat} {m : Nat} {vA vI : Value} {f : Nat → Option (List Nat)} (h : Out W0 B kr cur E F T b1 b2 n0 S bl ll m vA vI f) {n : Nat} {l : List Nat} (hn : f n = some l) : subSum E T f (vv E T f ll) n = vv E T f ll n + (l.map (subSum E T f (vv E T f ll))).sum :=
  subSum_kids h.rd.si.inv h.rd.si.nd h.good (fun i hi => (h.rd.si.td i hi).imp fun _ h => h.1) _ hn

set_option maxHeartbeats 2000000 in
set_option maxRecDepth 100000 in
/-- What stands ahead of a tail, and its head. -/
theorem to_any {W0 : World} {B kr : Nat} {cur : Array Value} {E : List Ex} {F : List Fa} {T : List Tl} {b1 b2 n0 : Nat} {S : List (List Rx)} {bl : Nat} {ll : List Nat} {m : Nat} {vA vI : Value} {f : Nat → Option (List Nat)} (hO : Out W0 B kr cur E F T b1 b2 n0 S bl ll m vA vI f) (bt bL c : Nat) (hA : AOk W0 kr bl bt bL E T f ll c) : TOk W0 kr bl bt bL E T f ll c := by
  intro w vR lr h τ htd ⟨lc, hlc⟩ hTr hlen
  have hc0 : 0 < c := by
    rcases Nat.eq_zero_or_pos c with e | e
    · subst e; have := htd.zero; cases this
    · exact e
  have hTl := hO.rd.si.tlen
  obtain ⟨u0, ρ0, h', r, e0, hTc, hrc, hdh, hdr⟩ := htd.consE hc0
  injection e0 with e0 e1
  subst e0 e1
  have hRw := hO.rd.below hTr.below
  obtain ⟨gT, cT, c3, hgT, hnT, hT4, hcT1, hcT2, hy⟩ := hRw.at_tail hTc
  have y0 := hy 0 (by decide)
  simp only [tlCells, List.getElem?_cons_zero, Nat.add_zero] at y0
  obtain ⟨nT, hnT'⟩ : ∃ nT, T.length = nT := ⟨_, rfl⟩
  rw [hnT'] at c3 hnT hT4 hcT1
  have hkb : kr < w.heap.size := hRw.book.num.st.lt
  have iT : (c : Int) < (nT : Int) := by omega
  unfold maxLen at hcT2
  obtain ⟨t0, t1, t2, t3⟩ := row4t hTr.st
  obtain ⟨v, hv⟩ := hTr.lg.look (by unfold maxLen; omega) (by omega) hlc
  have hrun : (Instr.lookup 131 (.map (some bL)) (.int .i64 ((c : Nat) : Int)) false).run Try.prog w = .ok v w := by simpa using hv.run false w rfl
  obtain ⟨aV, cV, rfl⟩ := ownsRow_slice hv.row
  have hsum := hO.kids hlc
  have hhs := hsz_eq htd
  have hvv : vv E T f ll c = h.flat.length + 1 + optv f ll c := by unfold vv; rw [hhs]
  cases lc with
  | nil =>
    have hmem := hO.good.leaf c hlc (by omega)
    have hov : optv f ll c = 0 := by unfold optv; rw [if_neg (fun h => h.1 hlc)]
    simp only [List.map_nil, List.sum_nil, Nat.add_zero] at hsum
    have HT := Lib.hid (And.intro hTr (And.intro hdh (And.intro (show h.flat.length + 1 = subSum E T f (vv E T f ll) c by omega) (And.intro hlc (And.intro hmem hlen)))))
    clear hTr hdh hlc hmem hlen hsum hhs hvv hov hv hRw hy hnT' hTc hdr htd hA
    go_enter Try.func73, Try.ntmps73
    go_wp2_with fail
    refine (write_any W0 B kr cur E F T b1 b2 n0 S hO.rd bl bt bL f h h' w vR lr HT.out.2.1 HT.out.1 (by have := HT.out.2.2.1; have := HT.out.2.2.2.2.2; omega)).mono ?_
    rintro e w2 ⟨v2, rfl, hT2, hF2⟩
    have H2 := Lib.hid (And.intro hT2 hF2)
    clear hT2 hF2
    go_wp2_with fail
    refine bodyPost_ret (results_none rfl _ _ _) rfl ?_
    refine ⟨h, ⟨HT.out.2.1.wf, fun s => ?_, HT.out.2.2.1⟩, v2, rfl, H2.out.1, H2.out.2⟩
    constructor
    · exact fun hs => ⟨[], s, rfl, (hO.leaf HT.out.2.2.2.1 HT.out.2.2.2.2.1 []).2 rfl, hs⟩
    · rintro ⟨a, b, rfl, ha, hb⟩
      rw [(hO.leaf HT.out.2.2.2.1 HT.out.2.2.2.2.1 a).1 ha]
      exact hb
  | cons c1 lc' =>
    have hA1 := hA w vR lr [] (c1 :: lc') hlc (fun e => by cases e) hTr (by omega)
    have hne : (((lc'.length + 1 : Nat) : Int) == 0) = false := by simp; omega
    have hne2 : ((lc'.length + 1) == 0) = false := by simp
    have HA := Lib.hid hA1
    have HT := Lib.hid (And.intro hTr (And.intro hdh (And.intro hsum (And.intro hvv hlen))))
    simp only [List.length_cons] at hrun
    obtain ⟨nl, hnl⟩ : ∃ nl, lc'.length + 1 = nl := ⟨_, rfl⟩
    rw [hnl] at hrun hne hne2
    clear hTr hdh hlc hlen hsum hhs hvv hv hRw hy hnT' hTc hdr htd hA hA1 hnl
    go_enter Try.func73, Try.ntmps73
    go_wp2_with fail
    refine HA.out.mono ?_
    rintro e w2 ⟨ua, ⟨hwa, hLa, _, hla⟩, v2, rfl, hT2, hF2⟩
    have hla' := hla (by simp)
    have H2 := Lib.hid (And.intro hT2 (And.intro hF2 (And.intro hwa (And.intro hLa hla'))))
    clear hT2 hF2 hwa hLa hla hla' t0 t1 t2 t3 c3 y0 hrun
    go_wp2_with fail
    refine (write_any W0 B kr cur E F T b1 b2 n0 S hO.rd bl bt bL f h h' w2 v2 (lr ++ ua.flat) HT.out.2.1 H2.out.1 (by have := HT.out.2.2.1; have := HT.out.2.2.2.1; have := HT.out.2.2.2.2; have := H2.out.2.2.2.2; simp; omega)).mono ?_
    rintro e w3 ⟨v3, rfl, hT3, hF3⟩
    have H3 := Lib.hid (And.intro hT3 hF3)
    clear hT3 hF3
    go_wp2_with fail
    refine (tadd_any W0 w3 kr bl bt bL T f v3 (lr ++ ua.flat ++ h.flat) 2 (by decide) H3.out.1 (by have := HT.out.2.2.1; have := HT.out.2.2.2.1; have := HT.out.2.2.2.2; have := H2.out.2.2.2.2; simp; omega)).mono ?_
    rintro e w4 ⟨v4, rfl, hT4', hF4⟩
    have H4 := Lib.hid (And.intro hT4' hF4)
    clear hT4' hF4
    go_wp2_with fail
    go_end0
    refine ⟨.bin ⟨2, emp⟩ ua h, ⟨⟨by show takesZ 2 = 2; decide, okSet_emp 2 (by decide), H2.out.2.2.1, HT.out.2.1.wf⟩, fun s => ?_, ?_⟩, v4, rfl, ?_, (H2.out.2.1.trans H3.out.2).trans H4.out.2⟩
    · rw [lan_bin, if_pos rfl]
      exact Cat.congr H2.out.2.2.2.1 (fun _ => Iff.rfl) s
    · have := HT.out.2.2.1; have := HT.out.2.2.2.1; have := H2.out.2.2.2.2
      simp only [Rx.flat, List.length_append, List.length_cons, List.length_nil]
      omega
    · have := H4.out.1
      simpa [Rx.flat] using this
end Go.Proofs.Ytkdhdlokilgccaa
