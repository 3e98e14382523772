import Derived.Test.YtghhjonhmelohaaYBack
namespace Go.Proofs.Ytghhjonhmelohaa
open Go.RowKit Go.Shelf
set_option linter.unusedVariables false
set_option linter.unusedSimpArgs false

attribute [local go_sem] Oper.semAt_some

theorem Bl.grown {W W' : World} {row : Option Nat} {B t : Nat} {cs : Array Value} (h : Bl W t B cs) (hg : W.grownBy W' row) (hrow : ∀ r, row = some r → ∃ o : Obj, W.heap[r]? = some o ∧ o.isCells = false) : Bl W' t B cs :=
  (hg.block B h.lt (fun e' => by
    obtain ⟨o, ho, hc⟩ := hrow B e'.symm
    rw [show W.heap[B]? = _ from h] at ho
    cases ho
    cases hc)).trans h
theorem keeps_below {B : Nat} {W W' : World} (h : Below W.heap.size W W') : KeepsFrom B W W' := ⟨h.size, fun k o _ hk _ => (h.block k (Array.getElem?_eq_some_iff.1 hk).1).trans hk⟩
theorem bl_one {W : World} {t B : Nat} {v : Value} (h : Bl W t B #[v]) : W.cell? ⟨B, 0, none⟩ = some v ∧ W.frozen? ⟨B, 0, none⟩ = false := by
  have h : W.heap[B]? = some (.cells #[v] t (0, 0)) := h
  exact ⟨by rw [cell_of_row W _ _ _ _ _ h]; rfl, frozen_of_row W _ _ _ _ h⟩
theorem bkL_app {A : List Tok} {k : Nat} (h : k ≤ A.length) : A.reverse = (bkL A k).map (·.2) ++ A.reverse.drop k := by
  rw [bkL_rev A h, List.take_append_drop]

set_option maxRecDepth 100000 in
set_option maxHeartbeats 4000000 in
theorem parted_any (n c : Nat) (a : Option Addr) (z : Nat → Int) (m c2 : Nat) (a2 : Option Addr) (A : List Tok) (hA : A.length = m) (hm : m ≤ 100000) (w : World) (hK : ZAt w a n z) (hT : TkAt w a2 A) :
    Calls Try.prog 24 #[.slice a n c, .slice a2 m c2] w fun e w' => e = .returned (.bool (befF (kdF z n) A.reverse)) ∧ Below w.heap.size w w' := by
  refine (callsIn_wide (n := 6)).1 ?_
  refine callsIn_of_wp_marks Try.func24 rfl trivial ?_ rfl
  simp only [Try.ntmps24, List.size_toArray, List.length_cons, List.length_nil, Nat.reduceAdd, Nat.reduceSub, Array.replicate_succ, Array.replicate_zero, List.push_toArray, List.append_toArray, List.nil_append, List.cons_append]
  gi_wp2_with (refine ⟨trivial, ?_⟩; gi_at_call 29; refine (back_in Fence.wide _ trivial rfl _ _ _ _).mono ?_; rintro e w' ⟨rfl, rfl⟩)
  obtain ⟨W0, hW0⟩ : ∃ W0, ((w.alloc (.cells #[.slice a n c] 22)).alloc (.cells #[.bool false] 4)).alloc (.cells #[.slice a2 m c2] 23) = W0 := ⟨_, rfl⟩
  have hsz : W0.heap.size = w.heap.size + 3 := by rw [← hW0]; simp
  have hB0 : Below w.heap.size w W0 := by rw [← hW0]; exact (((Below.refl _ w).alloc (Nat.le_refl _) _).alloc (by simp) _).alloc (by simp; omega) _
  have k1 := al w (.cells #[.slice a n c] 22)
  have k2 := al (w.alloc (.cells #[.slice a n c] 22)) (.cells #[.bool false] 4)
  have k3 := al ((w.alloc (.cells #[.slice a n c] 22)).alloc (.cells #[.bool false] 4)) (.cells #[.slice a2 m c2] 23)
  have bK : Bl W0 22 w.heap.size #[.slice a n c] := by rw [← hW0]; exact ((Bl.new _ _ _).below k2 (by simp)).below k3 (by simp; omega)
  have bR : Bl W0 4 (w.heap.size + 1) #[.bool false] := by
    rw [← hW0]
    have := (Bl.new (w.alloc (.cells #[.slice a n c] 22)) 4 #[.bool false]).below k3 (by simp)
    rwa [World.size_alloc] at this
  have bS : Bl W0 23 (w.heap.size + 1 + 1) #[.slice a2 m c2] := by
    rw [← hW0]
    have := Bl.new ((w.alloc (.cells #[.slice a n c] 22)).alloc (.cells #[.bool false] 4)) 23 #[.slice a2 m c2]
    rwa [World.size_alloc, World.size_alloc] at this
  have cS : W0.cell? ⟨w.heap.size + 1 + 1, 0, none⟩ = some (.slice a2 m c2) := by
    have h : W0.heap[w.heap.size + 1 + 1]? = some (.cells #[.slice a2 m c2] 23 (0, 0)) := bS
    rw [cell_of_row W0 _ _ _ _ _ h]; rfl
  rw [hW0]
  clear hW0 k1 k2 k3 bS
  refine wpIn_rangeFunc_ownH rfl (by omega) (gf := 31) (lb := #[.pointer (some ⟨w.heap.size + 1 + 1, 0, none⟩)]) rfl trivial (enters_of Try.func31 (by kernel_rfl) rfl)
    (back_stops Fence.wide _ trivial rfl (by omega) (w.heap.size + 1 + 1) m c2 a2 A hA hm W0 (by omega) cS (hT.below hB0)) belowK_t (belowK_b (Nat.le_refl _)) (Below.refl _ _) (fun _ => rfl)
    (fun pre W => ((∀ L, befF (kdF z n) (pre.map (·.2) ++ L) = befF (kdF z n) L) ∧ Bl W 22 w.heap.size #[.slice a n c] ∧ Bl W 4 (w.heap.size + 1) #[.bool false] ∧ W0.heap.size ≤ W.heap.size) ∧ Below w.heap.size w W)
    (fun c pre W => (c = .ret ∧ ∃ b, (∀ L, befF (kdF z n) (pre.map (·.2) ++ L) = b) ∧ Bl W 4 (w.heap.size + 1) #[.bool b]) ∧ Below w.heap.size w W)
    (OwnFrom.and (Own.from (fun s X Y row hs hg hr => ⟨hs.1, hs.2.1.grown hg hr, hs.2.2.1.grown hg hr, Nat.le_trans hs.2.2.2 hg.size⟩) _) (ownFrom_below (Nat.le_refl _) (by omega)))
    (fun c => OwnFrom.and (Own.from (fun s X Y row hs hg hr => by obtain ⟨h1, b, h2, h3⟩ := hs; exact ⟨h1, b, h2, h3.grown hg hr⟩) _) (ownFrom_below (Nat.le_refl _) (by omega)))
    ⟨⟨fun L => rfl, bK, bR, Nat.le_refl _⟩, hB0⟩
    (fun x a' W => ∃ Bx, Bl W 32 Bx #[.int .i64 x.2.r, .string x.2.s, .int .i64 x.2.p] ∧ a' = { tmps := #[.slice a n c, .slice a2 m c2, .pointer (some ⟨w.heap.size, 0, none⟩), undef, .pointer (some ⟨w.heap.size + 1, 0, none⟩), undef, .pointer (some ⟨Bx, 0, none⟩), undef, .slice a2 m c2, .func (.func 31) #[] #[.pointer (some ⟨w.heap.size + 1 + 1, 0, none⟩)], .int .i64 ((x.1 : Nat) : Int), .agg #[.int .i64 x.2.r, .string x.2.s, .int .i64 x.2.p], undef, undef, undef, undef, undef, undef, undef, undef, undef, undef], defers := [] })
    (fun x a' _ X Y row hs hg hr => by obtain ⟨Bx, h2, h3⟩ := hs; exact ⟨Bx, h2.grown hg (fun r e => (hr r e).2), h3⟩)
    ?assign ?body ?done ?stop
  case assign =>
    rintro l pre ⟨q, r, s, p⟩ W K ⟨⟨hp, bK1, bR1, hz1⟩, hB1⟩ hK
    have hs1 := bR1.lt
    have hsW := hB1.size
    unfold ixV
    dsimp only
    gi_wp2
    have k1 := al W (.cells #[.int .i64 r, .string s, .int .i64 p] 32)
    exact hK _ _ ((KeepsOthers.alloc _ _).from _) (k1.mono (by omega)) ⟨⟨hp, bK1.below k1 bK1.lt, bR1.below k1 bR1.lt, Nat.le_trans hz1 k1.size⟩, hB1.trans (k1.mono hsW)⟩ ⟨W.heap.size, Bl.new _ _ _, rfl⟩
  case body =>
    rintro l pre ⟨q, x⟩ a' W hl ⟨r, hr⟩ ⟨⟨hp, bK1, bR1, hz1⟩, hB1⟩ ⟨Bx, bX, rfl⟩ hlt
    clear hl hr
    dsimp only at bX ⊢
    have HC := Lib.hid (lkind_any n c a z x W (hK.below hB1))
    have HK := Lib.hid (fun W => breaks_any x.s W)
    have HE := Lib.hid (fun L : List Tok => show befF (kdF z n) ((pre ++ [(q, x)]).map (·.2) ++ L) = befF (kdF z n) (x :: L) by rw [List.map_append, List.append_assoc, hp]; rfl)
    have H1 := Lib.hid (And.intro bK1 (And.intro bR1 (And.intro hB1 bX)))
    have HZ : Hid (W0.heap.size ≤ W.heap.size) := hz1
    have c0 := (bl_one bK1).1
    obtain ⟨x0, x1, x2⟩ := tk_box bX
    clear hp bK1 bR1 hB1 bX hz1
    simp only [befF] at HE
    generalize kdF z n x.r = kx at HC HE
    rcases hq0 : (kx == 0) with _ | _
    · have hn0 : ¬ kx = 0 := by simpa using hq0
      simp only [if_neg hn0] at HE
      rcases hb : bkF x.s with _ | _
      · simp only [hb, Bool.false_eq_true, if_false] at HE
        rcases hq2 : (kx == 2) with _ | _
        · have hn2 : ¬ kx = 2 := by simpa using hq2
          simp only [if_neg hn2] at HE
          clear hn0 hn2
          gi_wp2_with (first
        | (refine ⟨trivial, ?_⟩; gi_at_call 13; refine (CallsIn.inRound l (callsIn_wide.2 HC.out)).mono ?_; rintro e w2 ⟨rfl, b2⟩
           have H2 := Lib.hid (And.intro (H1.out.1.below b2 H1.out.1.lt) (And.intro (H1.out.2.1.below b2 H1.out.2.1.lt) (And.intro (H1.out.2.2.1.trans (b2.mono H1.out.2.2.1.size)) (And.intro (keeps_below (B := W0.heap.size) b2) (b2.mono HZ.out)))))
           obtain ⟨y0, y1, y2⟩ := tk_box (H1.out.2.2.2.below b2 H1.out.2.2.2.lt)
           obtain ⟨c1, f1⟩ := bl_one H2.out.2.1
           clear b2)
        | (refine ⟨trivial, ?_⟩; gi_at_call 15; refine (CallsIn.inRound l (callsIn_wide.2 (HK.out _))).mono ?_; rintro e w3 ⟨rfl, rfl⟩))
          exact ⟨H2.out.2.2.2.1, H2.out.2.2.2.2, ⟨fun L => HE.out L, H2.out.1, H2.out.2.1, Nat.le_trans HZ.out H2.out.2.2.2.1.size⟩, H2.out.2.2.1⟩
        · have hn2 : kx = 2 := by simpa using hq2
          simp only [if_pos hn2] at HE
          clear hn0 hn2
          gi_wp2_with (first
        | (refine ⟨trivial, ?_⟩; gi_at_call 13; refine (CallsIn.inRound l (callsIn_wide.2 HC.out)).mono ?_; rintro e w2 ⟨rfl, b2⟩
           have H2 := Lib.hid (And.intro (H1.out.1.below b2 H1.out.1.lt) (And.intro (H1.out.2.1.below b2 H1.out.2.1.lt) (And.intro (H1.out.2.2.1.trans (b2.mono H1.out.2.2.1.size)) (And.intro (keeps_below (B := W0.heap.size) b2) (b2.mono HZ.out)))))
           obtain ⟨y0, y1, y2⟩ := tk_box (H1.out.2.2.2.below b2 H1.out.2.2.2.lt)
           obtain ⟨c1, f1⟩ := bl_one H2.out.2.1
           clear b2)
        | (refine ⟨trivial, ?_⟩; gi_at_call 15; refine (CallsIn.inRound l (callsIn_wide.2 (HK.out _))).mono ?_; rintro e w3 ⟨rfl, rfl⟩))
          exact ⟨H2.out.2.2.2.1.trans ((KeepsOthers.setCell _ _ _).from _), ⟨rfl, false, fun L => HE.out L, by have := H2.out.2.1.set 0 (.bool false); simpa using this⟩, H2.out.2.2.1.setCell (p := ⟨w.heap.size + 1, 0, none⟩) (by simp) _⟩
      · simp only [hb, if_true] at HE
        clear hn0
        gi_wp2_with (first
        | (refine ⟨trivial, ?_⟩; gi_at_call 13; refine (CallsIn.inRound l (callsIn_wide.2 HC.out)).mono ?_; rintro e w2 ⟨rfl, b2⟩
           have H2 := Lib.hid (And.intro (H1.out.1.below b2 H1.out.1.lt) (And.intro (H1.out.2.1.below b2 H1.out.2.1.lt) (And.intro (H1.out.2.2.1.trans (b2.mono H1.out.2.2.1.size)) (And.intro (keeps_below (B := W0.heap.size) b2) (b2.mono HZ.out)))))
           obtain ⟨y0, y1, y2⟩ := tk_box (H1.out.2.2.2.below b2 H1.out.2.2.2.lt)
           obtain ⟨c1, f1⟩ := bl_one H2.out.2.1
           clear b2)
        | (refine ⟨trivial, ?_⟩; gi_at_call 15; refine (CallsIn.inRound l (callsIn_wide.2 (HK.out _))).mono ?_; rintro e w3 ⟨rfl, rfl⟩))
        exact ⟨H2.out.2.2.2.1.trans ((KeepsOthers.setCell _ _ _).from _), ⟨rfl, true, fun L => HE.out L, by have := H2.out.2.1.set 0 (.bool true); simpa using this⟩, H2.out.2.2.1.setCell (p := ⟨w.heap.size + 1, 0, none⟩) (by simp) _⟩
    · have hn0 : kx = 0 := by simpa using hq0
      simp only [if_pos hn0] at HE
      clear hn0
      gi_wp2_with (first
        | (refine ⟨trivial, ?_⟩; gi_at_call 13; refine (CallsIn.inRound l (callsIn_wide.2 HC.out)).mono ?_; rintro e w2 ⟨rfl, b2⟩
           have H2 := Lib.hid (And.intro (H1.out.1.below b2 H1.out.1.lt) (And.intro (H1.out.2.1.below b2 H1.out.2.1.lt) (And.intro (H1.out.2.2.1.trans (b2.mono H1.out.2.2.1.size)) (And.intro (keeps_below (B := W0.heap.size) b2) (b2.mono HZ.out)))))
           obtain ⟨y0, y1, y2⟩ := tk_box (H1.out.2.2.2.below b2 H1.out.2.2.2.lt)
           obtain ⟨c1, f1⟩ := bl_one H2.out.2.1
           clear b2)
        | (refine ⟨trivial, ?_⟩; gi_at_call 15; refine (CallsIn.inRound l (callsIn_wide.2 (HK.out _))).mono ?_; rintro e w3 ⟨rfl, rfl⟩))
      exact ⟨H2.out.2.2.2.1.trans ((KeepsOthers.setCell _ _ _).from _), ⟨rfl, false, fun L => HE.out L, by have := H2.out.2.1.set 0 (.bool false); simpa using this⟩, H2.out.2.2.1.setCell (p := ⟨w.heap.size + 1, 0, none⟩) (by simp) _⟩
  case done =>
    rintro D ys W hD rfl ⟨⟨hp, bK1, bR1, hz1⟩, hB1⟩ hK9
    have c1 : W.cell? ⟨w.heap.size + 1, 0, none⟩ = some (.bool false) ∧ W.frozen? ⟨w.heap.size + 1, 0, none⟩ = false := by
      have h : W.heap[w.heap.size + 1]? = some (.cells #[.bool false] 4 (0, 0)) := bR1
      exact ⟨by rw [cell_of_row W _ _ _ _ _ h]; rfl, frozen_of_row W _ _ _ _ h⟩
    obtain ⟨c1, f1⟩ := c1
    gi_wp2
    have hK' := (KeepsOthers.setCell W ⟨w.heap.size + 1, 0, none⟩ (.bool true)).same D _ hK9 rfl
    refine ⟨by simp, .inl ⟨_, _, rfl, run_takeDeferred hK', ?_⟩⟩
    have hc5 := cell_kept (World.cell?_setCell_same' W ⟨w.heap.size + 1, 0, none⟩ (.bool true) (by rw [c1]; rfl)) (grownBy_putObj' _ D (.deferred none)) (fun r e => by cases e; exact ⟨_, hK', rfl⟩)
    refine ⟨.bool true, ?_, ?_, (hB1.setCell (p := ⟨w.heap.size + 1, 0, none⟩) (by simp) _).trans (belowK_b (w := w) (Nat.le_refl _) _ D _ _ (by omega) hK' rfl rfl)⟩
    · simp [results, Try.results24, go_sem, hc5]
    · have h9 := hp []
      rw [List.append_nil, bkL_rev A (by omega), List.take_of_length_le (by simp; omega)] at h9
      rw [h9]; rfl
  case stop =>
    rintro D c pre W hD ⟨k, hk, rfl⟩ ⟨⟨rfl, b, hp, bR1⟩, hB1⟩ hK9
    gi_wp2
    refine ⟨by simp, .inl ⟨_, _, rfl, run_takeDeferred hK9, ?_⟩⟩
    have h : W.heap[w.heap.size + 1]? = some (.cells #[.bool b] 4 (0, 0)) := bR1
    have c1 : W.cell? ⟨w.heap.size + 1, 0, none⟩ = some (.bool b) := by rw [cell_of_row W _ _ _ _ _ h]; rfl
    have hc5 := cell_kept c1 (grownBy_putObj' _ D (.deferred none)) (fun r e => by cases e; exact ⟨_, hK9, rfl⟩)
    refine ⟨.bool b, ?_, ?_, hB1.trans (belowK_b (w := w) (Nat.le_refl _) W D _ _ (by omega) hK9 rfl rfl)⟩
    · simp [results, Try.results24, go_sem, hc5]
    · rw [bkL_app (A := A) (k := k) (by omega), hp]
end Go.Proofs.Ytghhjonhmelohaa
