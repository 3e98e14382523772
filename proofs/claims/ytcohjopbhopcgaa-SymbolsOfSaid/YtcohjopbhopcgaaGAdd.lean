import Derived.Test.YtcohjopbhopcgaaGClone
import Derived.Test.YtcohjopbhopcgaaPClass
import Derived.Test.YtcohjopbhopcgaaTk
import Derived.OwnWalk
import Derived.Deep.AppendLies
import Derived.Deep.Cut
namespace Go.Proofs.Ytcohjopbhopcgaa
open Go.RowKit Go.Maps Go.WideElems Go.ChangeMaps Go.MapKept
set_option linter.unusedVariables false
set_option linter.unusedSimpArgs false

/-- What Check tells. -/
def chkE (b : Bool) : Int := if b then 0 else 8
set_option maxHeartbeats 1000000 in
set_option maxRecDepth 100000 in
theorem check16_any (s : ByteArray) (w : World) (hs : s.size ≤ maxLen) :
    Calls Try.prog 17 #[.string s] w fun e w' => e = .returned (.int .i64 (chkE (nameT s))) ∧ w = w' := by
  go_enter Try.func17, Try.ntmps17
  go_wp2_with fail
  refine (name_any s _ hs).mono ?_
  rintro e w1 ⟨rfl, rfl⟩
  rcases hn : nameT s with _ | _
  · have HN := Lib.hid hn
    clear hn
    go_wp2_with fail
    go_ret
    exact ⟨by rw [HN.out]; rfl, rfl⟩
  · have HN := Lib.hid hn
    clear hn
    go_wp2_with fail
    go_ret
    exact ⟨by rw [HN.out]; rfl, rfl⟩

theorem own_at16 {w w' : World} {B t z n c g : Nat} {xs : List Value} (h : w.ownsRow B t z (.slice (some ⟨g, 0, none⟩) n c) n xs) (e : w'.heap[g]? = w.heap[g]?) : w'.ownsRow B t z (.slice (some ⟨g, 0, none⟩) n c) n xs := by
  obtain ⟨h1, h2⟩ := h
  refine ⟨h1, ?_⟩
  rcases h2 with ⟨h2, _⟩ | ⟨g', cap, cur, hv, hg, hh, r⟩
  · cases h2
  · have hv' := hv
    simp at hv
    obtain ⟨e1, e2⟩ := hv
    exact Or.inr ⟨g', cap, cur, hv', hg, by rw [← e1, e, e1]; exact hh, r⟩
theorem TbC.after {w w1 w2 : World} {p : Nat} {v : Value} (hb : Below w.heap.size w w1) (h : TbC w1 w2 p v) : TbC w w2 p v :=
  ⟨h.os.trans hb.os, h.tape.trans hb.tape, h.output.trans hb.output, Nat.le_trans hb.size h.size, fun k hk h1 h2 => (h.block k (Nat.lt_of_lt_of_le hk hb.size) h1 h2).trans (hb.block k hk)⟩
theorem TbM.grown {w w1 : World} {B p n g c : Nat} {v : Value} {l : List ByteArray} {s : ByteArray} (h : TbM w B p v l) (hn : l.length = n)
    (hown : w1.ownsRow B 9 1 (.slice (some ⟨g, 0, none⟩) (n + 1) c) (n + 1) (sss l ++ [.string s])) (hgrow : w.grownBy w1 v.ownBlock) (hat : v.ownBlock = some g ∨ g = w.heap.size) :
    w1.cell? ⟨p, 0, none⟩ = some v ∧ w1.frozen? ⟨p, 0, none⟩ = false ∧ TbM (w1.setCell ⟨p, 0, none⟩ (.slice (some ⟨g, 0, none⟩) (n + 1) c)) B p (.slice (some ⟨g, 0, none⟩) (n + 1) c) (l ++ [s]) ∧ TbC w (w1.setCell ⟨p, 0, none⟩ (.slice (some ⟨g, 0, none⟩) (n + 1) c)) p v := by
  have hlt := h.lt
  have hb : w1.heap[p]? = some (.cells #[v] 42 (0, 0)) := (hgrow.block p hlt (fun e => h.far e.symm)).trans h.box
  have hgp : g ≠ p := by
    rcases hat with e | e
    · intro e2; subst e2; exact h.far e
    · omega
  have hlen : (l ++ [s]).length = n + 1 := by simp [hn]
  refine ⟨by rw [cell_of_row w1 p 0 _ _ _ hb]; rfl, frozen_of_row w1 p 0 _ _ hb, ⟨?_, ?_, h.le, ?_⟩, hgrow.os, hgrow.tape, hgrow.output, ?_, fun k hk h1 h2 => ?_⟩
  · have := heap_setCell_same w1 p 0 _ _ (.slice (some ⟨g, 0, none⟩) (n + 1) c) hb
    simpa using this
  · rw [hlen]
    rw [show sss (l ++ [s]) = sss l ++ [.string s] by simp [sss]]
    exact own_at16 hown (Below.heap_setCell w1 ⟨p, 0, none⟩ _ g hgp)
  · simp [Value.ownBlock, hgp]
  · have := hgrow.size
    simp [World.setCell]; omega
  · exact (Below.heap_setCell w1 ⟨p, 0, none⟩ _ k h1).trans (hgrow.block k hk h2)
/-- What Add tells. -/
def AddSP (B p : Nat) (v : Value) (l : List ByteArray) (s : ByteArray) (w : World) (e : Ending) (w' : World) : Prop :=
  ∃ v', e = .returned (.tuple #[.int .i64 (adI l s), .int .i64 (adE l s)]) ∧ TbM w' B p v' (adN l s) ∧ TbC w w' p v ∧ (v'.ownBlock = v.ownBlock ∨ ∃ g, v'.ownBlock = some g ∧ w.heap.size ≤ g)

set_option maxHeartbeats 4000000 in
set_option maxRecDepth 100000 in
theorem add16_any {w : World} {B p : Nat} {v : Value} {l : List ByteArray} (h : TbM w B p v l) (hl : l.length ≤ 300) (s : ByteArray) (hs : s.size ≤ 1000) (HCl : ∀ W, Calls Try.prog 18 #[.string s] W fun e w' => e = .returned (.string s) ∧ Below W.heap.size W w') :
    Calls Try.prog 8 #[.pointer (some ⟨p, 0, none⟩), .string s] w (AddSP B p v l s w) := by
  have HK := Lib.hid (check16_any s w (by unfold maxLen; omega))
  have HC := Lib.hid HCl
  have HF := Lib.hid (find16_any h (by omega) s)
  have HL := Lib.hid (len16_any h)
  have H := Lib.hid h
  have hBw : B ≤ w.heap.size := Nat.le_of_lt (Nat.lt_of_le_of_lt h.le h.lt)
  clear HCl h
  go_enter Try.func8, Try.ntmps8
  go_wp2_with fail
  refine HK.out.mono ?_
  rintro e w1 ⟨rfl, rfl⟩
  rcases hT : nameT s with _ | _
  · have HZ : Hid (AddSP B p v l s w (.returned (.tuple #[.int .i64 0, .int .i64 8])) w) := by
      obtain ⟨e1, e2, e3⟩ := ad_name (l := l) hT
      exact ⟨v, by rw [e2, e3], by rw [e1]; exact H.out, TbC.refl _ _ _, Or.inl rfl⟩
    rw [show chkE false = 8 from rfl]
    clear hT HK
    go_wp2_with fail
    go_ret2
    exact HZ.out
  · have HT := Lib.hid hT
    rw [show chkE true = 0 from rfl]
    clear hT HK
    go_wp2_with fail
    refine HF.out.mono ?_
    rintro e w1 ⟨rfl, rfl⟩
    rcases fdS_or l s with hf | ⟨k, hf, hk⟩
    · have HD := Lib.hid hf
      rw [hf]
      clear hf
      by_cases hb : l.length < 300
      · obtain ⟨n, hn⟩ : ∃ n, l.length = n := ⟨_, rfl⟩
        have i1 : ((n : Int) == (300 : Int)) = false := by simp; omega
        have HN : Hid (l.length = n) := hn
        have hn3 : n < 300 := by omega
        rw [hn] at HL
        obtain ⟨iT, hT0, hT1, hT2, hT3⟩ := info_parts Try.info_str15
        have HZ : Hid (∀ g c w9, TbM w9 B p (.slice (some ⟨g, 0, none⟩) (n + 1) c) (l ++ [s]) → TbC w1 w9 p v → (v.ownBlock = some g ∨ w1.heap.size ≤ g) → AddSP B p v l s w1 (.returned (.tuple #[.int .i64 ((n : Nat) : Int), .int .i64 0])) w9) := fun g c w9 h1 h2 h3 => by
          obtain ⟨e1, e2, e3⟩ := ad_yes (l := l) HT.out HD.out hb
          refine ⟨_, by rw [e2, e3, hn], by rw [e1]; exact h1, h2, ?_⟩
          rcases h3 with h3 | h3
          · exact Or.inl (by rw [h3]; rfl)
          · exact Or.inr ⟨g, rfl, h3⟩
        have hlen : (l ++ [s]).length = n + 1 := by simp [hn]
        have HE := Lib.hid hlen
        clear hn hl hb HF hlen
        obtain ⟨aV, cV, hv⟩ : ∃ aV cV, v = .slice aV n cV := by
          obtain ⟨a, c, h1, _⟩ := H.out.list
          exact ⟨a, c, by rw [h1, HN.out]⟩
        subst hv
        go_wp2_with fail
        refine HL.out.mono ?_
        rintro e w2 ⟨rfl, rfl⟩
        clear HL
        go_upto_region 9 with fail
        -- REGION 9
        refine wp_region_held_drew (S := fun _ => True) (by kernel_rfl) trivial (fun hHeld => ?_)
        have H0 := Lib.hid (And.intro (H.out.keep (⟨rfl, rfl, rfl, Nat.le_refl _, fun _ _ => rfl⟩ : Below w2.heap.size w2 w2.drew)) (⟨rfl, rfl, rfl, Nat.le_refl _, fun _ _ => rfl⟩ : Below w2.heap.size w2 w2.drew))
        generalize w2.drew = w0 at H0 ⊢
        refine tkA 0 ?_
        try simp only [Act.put, List.setIfInBounds_toArray, List.set_cons_zero, List.set_cons_succ]
        refine tkA 1 ?_
        try simp only [Act.put, List.setIfInBounds_toArray, List.set_cons_zero, List.set_cons_succ]
        refine tkA 2 ?_
        try simp only [Act.put, List.setIfInBounds_toArray, List.set_cons_zero, List.set_cons_succ]
        refine tkA 3 ?_
        try simp only [Act.put, List.setIfInBounds_toArray, List.set_cons_zero, List.set_cons_succ]
        refine tkA 5 ?_
        try simp only [Act.put, List.setIfInBounds_toArray, List.set_cons_zero, List.set_cons_succ]
        refine wpAnyH_ready (rs := [4, 6]) (by kernel_rfl) (by simp) (arC (fun K hK => ?_) (arC (fun K hK => ?_) AllReadyH.nil))
        · have t1 := H0.out.1.cell
          have f1 := H0.out.1.frz
          go_simp
          try go_wp2_with fail
          refine hK.out _ _ trivial (fun hHeld => ?_)
          clear hK K
          try simp only [Act.put, List.setIfInBounds_toArray, List.set_cons_zero, List.set_cons_succ]
          clear t1 f1
          refine rd1 6 (fun K hK => ?_)
          go_simp
          go_at_call 18
          refine (HC.out w0).mono ?_
          rintro e w5 ⟨rfl, b5⟩
          have H5 := Lib.hid (And.intro (H0.out.1.keep b5) (H0.out.2.trans (b5.mono H0.out.2.size)))
          clear b5
          try go_wp2_with fail
          refine hK.out _ _ trivial (fun hHeld => ?_)
          clear hK K
          try simp only [Act.put, List.setIfInBounds_toArray, List.set_cons_zero, List.set_cons_succ]
          refine rd1 7 (fun K hK => ?_)
          go_simp
          have k6 := al w5 (.cells #[.string s] 9)
          have H6 := Lib.hid (And.intro (H5.out.1.keep k6) (And.intro (H5.out.2.trans (k6.mono H5.out.2.size)) (heap_alloc_new w5 (.cells #[.string s] 9))))
          have hz6 : (w5.alloc (.cells #[.string s] 9)).heap.size = w5.heap.size + 1 := by simp
          generalize w5.alloc (.cells #[.string s] 9) = w6 at H6 hz6 ⊢
          clear k6
          refine hK.out _ _ trivial (fun hHeld => ?_)
          clear hK K
          try simp only [Act.put, List.setIfInBounds_toArray, List.set_cons_zero, List.set_cons_succ]
          refine rd1 8 (fun K hK => ?_)
          refine step_append_lies _ (by rfl) _ _ 22 (by rfl) B 9 iT (.string ⟨#[]⟩) 1 16 Try.underlying22 hT0 hT1 hT2 hT3 (by rfl) (by decide) (.slice aV n cV) n (sss l) (by rfl) (by have h9 := H6.out.1.own; rw [HN.out] at h9; exact h9) ⟨w5.heap.size, 0, none⟩ 1 1 [.string s] (by rfl) (by rfl) (World.news_of_block (cs := #[.string s]) H6.out.2.2) (by intro u hu; simp at hu; rcases hu with rfl; rfl) (by omega) (by unfold maxLen; omega) (by omega) (Nat.le_trans hBw H6.out.2.1.size) _ (by rfl) ?_
          intro g8 c8 w8 hown8 hgrow8 hat8 hlt8
          obtain ⟨t8, f8, m8, d8⟩ := H6.out.1.grown HN.out hown8 hgrow8 hat8
          have HY := Lib.hid (And.intro m8 (HZ.out g8 c8 _ m8 (TbC.after H6.out.2.1 d8) (hat8.imp id (fun e => by rw [e]; exact H6.out.2.1.size))))
          clear hown8 hgrow8 hat8 hlt8 m8 d8
          refine hK.out _ _ trivial (fun hHeld => ?_)
          clear hK K
          try simp only [Act.put, List.setIfInBounds_toArray, List.set_cons_zero, List.set_cons_succ]
          refine tkA 9 ?_
          try simp only [Act.put, List.setIfInBounds_toArray, List.set_cons_zero, List.set_cons_succ]
          refine tkA 10 ?_
          try simp only [Act.put, List.setIfInBounds_toArray, List.set_cons_zero, List.set_cons_succ]
          refine rd1 11 (fun K hK => ?_)
          go_simp
          refine hK.out _ _ trivial (fun hHeld => ?_)
          clear hK K
          try simp only [Act.put, List.setIfInBounds_toArray, List.set_cons_zero, List.set_cons_succ]
          refine wpAnyH_done (by kernel_rfl) ?_ _
          clear hHeld
          have HLn := Lib.hid (len16_any HY.out.1)
          rw [HE.out] at HLn
          go_wp2_with fail
          refine HLn.out.mono ?_
          rintro e w9 ⟨rfl, rfl⟩
          go_wp2_with fail
          go_ret2
          exact HY.out.2
        · go_simp
          go_at_call 18
          refine (HC.out w0).mono ?_
          rintro e w5 ⟨rfl, b5⟩
          have H5 := Lib.hid (And.intro (H0.out.1.keep b5) (H0.out.2.trans (b5.mono H0.out.2.size)))
          clear b5
          try go_wp2_with fail
          refine hK.out _ _ trivial (fun hHeld => ?_)
          clear hK K
          try simp only [Act.put, List.setIfInBounds_toArray, List.set_cons_zero, List.set_cons_succ]
          refine wpAnyH_ready (rs := [4, 7]) (by kernel_rfl) (by simp) (arC (fun K hK => ?_) (arC (fun K hK => ?_) AllReadyH.nil))
          · have t1 := H5.out.1.cell
            have f1 := H5.out.1.frz
            go_simp
            try go_wp2_with fail
            refine hK.out _ _ trivial (fun hHeld => ?_)
            clear hK K
            try simp only [Act.put, List.setIfInBounds_toArray, List.set_cons_zero, List.set_cons_succ]
            clear t1 f1
            refine rd1 7 (fun K hK => ?_)
            go_simp
            have k6 := al w5 (.cells #[.string s] 9)
            have H6 := Lib.hid (And.intro (H5.out.1.keep k6) (And.intro (H5.out.2.trans (k6.mono H5.out.2.size)) (heap_alloc_new w5 (.cells #[.string s] 9))))
            have hz6 : (w5.alloc (.cells #[.string s] 9)).heap.size = w5.heap.size + 1 := by simp
            generalize w5.alloc (.cells #[.string s] 9) = w6 at H6 hz6 ⊢
            clear k6
            refine hK.out _ _ trivial (fun hHeld => ?_)
            clear hK K
            try simp only [Act.put, List.setIfInBounds_toArray, List.set_cons_zero, List.set_cons_succ]
            refine rd1 8 (fun K hK => ?_)
            refine step_append_lies _ (by rfl) _ _ 22 (by rfl) B 9 iT (.string ⟨#[]⟩) 1 16 Try.underlying22 hT0 hT1 hT2 hT3 (by rfl) (by decide) (.slice aV n cV) n (sss l) (by rfl) (by have h9 := H6.out.1.own; rw [HN.out] at h9; exact h9) ⟨w5.heap.size, 0, none⟩ 1 1 [.string s] (by rfl) (by rfl) (World.news_of_block (cs := #[.string s]) H6.out.2.2) (by intro u hu; simp at hu; rcases hu with rfl; rfl) (by omega) (by unfold maxLen; omega) (by omega) (Nat.le_trans hBw H6.out.2.1.size) _ (by rfl) ?_
            intro g8 c8 w8 hown8 hgrow8 hat8 hlt8
            obtain ⟨t8, f8, m8, d8⟩ := H6.out.1.grown HN.out hown8 hgrow8 hat8
            have HY := Lib.hid (And.intro m8 (HZ.out g8 c8 _ m8 (TbC.after H6.out.2.1 d8) (hat8.imp id (fun e => by rw [e]; exact H6.out.2.1.size))))
            clear hown8 hgrow8 hat8 hlt8 m8 d8
            refine hK.out _ _ trivial (fun hHeld => ?_)
            clear hK K
            try simp only [Act.put, List.setIfInBounds_toArray, List.set_cons_zero, List.set_cons_succ]
            refine tkA 9 ?_
            try simp only [Act.put, List.setIfInBounds_toArray, List.set_cons_zero, List.set_cons_succ]
            refine tkA 10 ?_
            try simp only [Act.put, List.setIfInBounds_toArray, List.set_cons_zero, List.set_cons_succ]
            refine rd1 11 (fun K hK => ?_)
            go_simp
            refine hK.out _ _ trivial (fun hHeld => ?_)
            clear hK K
            try simp only [Act.put, List.setIfInBounds_toArray, List.set_cons_zero, List.set_cons_succ]
            refine wpAnyH_done (by kernel_rfl) ?_ _
            clear hHeld
            have HLn := Lib.hid (len16_any HY.out.1)
            rw [HE.out] at HLn
            go_wp2_with fail
            refine HLn.out.mono ?_
            rintro e w9 ⟨rfl, rfl⟩
            go_wp2_with fail
            go_ret2
            exact HY.out.2
          · go_simp
            have k6 := al w5 (.cells #[.string s] 9)
            have H6 := Lib.hid (And.intro (H5.out.1.keep k6) (And.intro (H5.out.2.trans (k6.mono H5.out.2.size)) (heap_alloc_new w5 (.cells #[.string s] 9))))
            have hz6 : (w5.alloc (.cells #[.string s] 9)).heap.size = w5.heap.size + 1 := by simp
            generalize w5.alloc (.cells #[.string s] 9) = w6 at H6 hz6 ⊢
            clear k6
            refine hK.out _ _ trivial (fun hHeld => ?_)
            clear hK K
            try simp only [Act.put, List.setIfInBounds_toArray, List.set_cons_zero, List.set_cons_succ]
            refine rd1 4 (fun K hK => ?_)
            have t1 := H6.out.1.cell
            have f1 := H6.out.1.frz
            go_simp
            try go_wp2_with fail
            refine hK.out _ _ trivial (fun hHeld => ?_)
            clear hK K
            try simp only [Act.put, List.setIfInBounds_toArray, List.set_cons_zero, List.set_cons_succ]
            clear t1 f1
            refine rd1 8 (fun K hK => ?_)
            refine step_append_lies _ (by rfl) _ _ 22 (by rfl) B 9 iT (.string ⟨#[]⟩) 1 16 Try.underlying22 hT0 hT1 hT2 hT3 (by rfl) (by decide) (.slice aV n cV) n (sss l) (by rfl) (by have h9 := H6.out.1.own; rw [HN.out] at h9; exact h9) ⟨w5.heap.size, 0, none⟩ 1 1 [.string s] (by rfl) (by rfl) (World.news_of_block (cs := #[.string s]) H6.out.2.2) (by intro u hu; simp at hu; rcases hu with rfl; rfl) (by omega) (by unfold maxLen; omega) (by omega) (Nat.le_trans hBw H6.out.2.1.size) _ (by rfl) ?_
            intro g8 c8 w8 hown8 hgrow8 hat8 hlt8
            obtain ⟨t8, f8, m8, d8⟩ := H6.out.1.grown HN.out hown8 hgrow8 hat8
            have HY := Lib.hid (And.intro m8 (HZ.out g8 c8 _ m8 (TbC.after H6.out.2.1 d8) (hat8.imp id (fun e => by rw [e]; exact H6.out.2.1.size))))
            clear hown8 hgrow8 hat8 hlt8 m8 d8
            refine hK.out _ _ trivial (fun hHeld => ?_)
            clear hK K
            try simp only [Act.put, List.setIfInBounds_toArray, List.set_cons_zero, List.set_cons_succ]
            refine tkA 9 ?_
            try simp only [Act.put, List.setIfInBounds_toArray, List.set_cons_zero, List.set_cons_succ]
            refine tkA 10 ?_
            try simp only [Act.put, List.setIfInBounds_toArray, List.set_cons_zero, List.set_cons_succ]
            refine rd1 11 (fun K hK => ?_)
            go_simp
            refine hK.out _ _ trivial (fun hHeld => ?_)
            clear hK K
            try simp only [Act.put, List.setIfInBounds_toArray, List.set_cons_zero, List.set_cons_succ]
            refine wpAnyH_done (by kernel_rfl) ?_ _
            clear hHeld
            have HLn := Lib.hid (len16_any HY.out.1)
            rw [HE.out] at HLn
            go_wp2_with fail
            refine HLn.out.mono ?_
            rintro e w9 ⟨rfl, rfl⟩
            go_wp2_with fail
            go_ret2
            exact HY.out.2
        -- END 9
      · have i1 : l.length = 300 := by omega
        rw [i1] at HL
        have HZ : Hid (AddSP B p v l s w1 (.returned (.tuple #[.int .i64 0, .int .i64 6])) w1) := by
          obtain ⟨e1, e2, e3⟩ := ad_big (l := l) HT.out HD.out hb
          exact ⟨v, by rw [e2, e3], by rw [e1]; exact H.out, TbC.refl _ _ _, Or.inl rfl⟩
        clear HF HT HD hb
        go_wp2_with fail
        refine HL.out.mono ?_
        rintro e w2 ⟨rfl, rfl⟩
        go_wp2_with fail
        go_ret2
        exact HZ.out
    · have HZ : Hid (AddSP B p v l s w1 (.returned (.tuple #[.int .i64 ((k : Nat) : Int), .int .i64 9])) w1) := by
        obtain ⟨e1, e2, e3⟩ := ad_twice (l := l) HT.out (by rw [hf]; omega)
        exact ⟨v, by rw [e2, e3, hf], by rw [e1]; exact H.out, TbC.refl _ _ _, Or.inl rfl⟩
      rw [hf]
      have i2 : ((k : Int) != (-1 : Int)) = true := by first | (simp; done) | (simp; omega)
      clear hf hk HT
      go_wp2_with fail
      go_ret2
      exact HZ.out
end Go.Proofs.Ytcohjopbhopcgaa
