import Derived.Test.YtldpmcgkbdejjaaZJRJoin
import Derived.Test.YtldpmcgkbdejjaaZJRep
import Derived.Test.YtldpmcgkbdejjaaZJSpl
import Derived.Test.YtldpmcgkbdejjaaZTk
namespace Go.Proofs.Ytldpmcgkbdejjaa
open Go.RowKit Go.Maps Go.WideElems Go.ChangeMaps Go.MapKept
set_option linter.unusedVariables false
set_option linter.unusedSimpArgs false

theorem OB.lt {W0 wr : World} {g n : Nat} {f : Nat → Bool} (h : OB W0 g n f wr) (hn : 0 < n) : g < wr.heap.size := by
  obtain ⟨g', e, _, hg, _⟩ := ownsRow_read h.own hn
  injection e with e
  injection e with e _
  omega
theorem OB.setb {W0 wr : World} {g n : Nat} {f : Nat → Bool} (h : OB W0 g n f wr) (j : Nat) (hj : j < n) (v : Bool) : OB W0 g n (setB f j v) (wr.setCell ⟨g, j, none⟩ (.bool v)) := h.put j hj v
/-- What one round of Gaps tells. -/
def ThP (D : Dd) (bl : Int) (l : List ByteArray) (m : Nat) (f : Nat → Bool) (V : World) (g : Nat) (e : Ending) (w' : World) : Prop :=
  ∃ r, e = .returned (.bool r) ∧ OB V g m (gps D bl l m f m) w' ∧ (r = false → gps D bl l m f m = f) ∧ (r = true → cntB (gps D bl l m f m) m < cntB f m)

set_option maxHeartbeats 4000000 in
set_option maxRecDepth 100000 in
theorem thin_any (D : Dd) (C : Nat) (hR : DR D C) (bl : Int) (l : List ByteArray) (hl : FewT l) (n c : Nat) (a : Option Addr) (hn : l.length = n) (m : Nat) (hm : m ≤ 8) (g : Nat) (f : Nat → Bool) (V w : World) (hD : DM V D) (h1 : SsAt V a l) (hO : OB V g m f w) :
    Calls Try.prog 19 #[.agg D.cD, .int .i64 bl, .slice a n c, .slice (some ⟨g, 0, none⟩) m m] w (ThP D bl l m f V g) := by
  have kb := al w (.cells D.cD 26)
  have HB : Hid (DBx (w.alloc (.cells D.cD 26)) w.heap.size D ∧ OB V g m f (w.alloc (.cells D.cD 26)) ∧ (0 < m → g < w.heap.size)) := ⟨DBx.new (hD.below hO.bel), hO.keep kb, fun h => hO.lt h⟩
  have H := Lib.hid (And.intro hD (And.intro h1 (And.intro hR (And.intro hl hn))))
  have hm1 : m ≤ 100000 := by omega
  have hn8 : n ≤ 1000000 := by have := hl.n; omega
  clear kb hR hD h1 hl hn hO
  go_enter Try.func19, Try.ntmps19
  go_upto_region 1 with fail
  generalize w.alloc (.cells D.cD 26) = w1 at HB ⊢
  obtain ⟨b, hb0⟩ : ∃ b0, w.heap.size = b0 := ⟨_, rfl⟩
  rw [hb0] at HB
  rw [hb0]
  clear hb0
  go_wp2_with fail
  go_loopw [9, 10, 11, 14] (fun v9 _ _ v wr => ∃ (k : Nat) (r : Bool), v = .int .i64 k ∧ v9 = .bool r ∧ k ≤ m ∧ Hid (OB V g m (gps D bl l m f k) wr ∧ DBx wr b D ∧ (r = false → gps D bl l m f k = f) ∧ (r = true → cntB (gps D bl l m f k) m < cntB f m))) (fun _ _ _ v _ => m - (intOf v).toNat)
  case atStart => exact ⟨0, false, rfl, rfl, Nat.zero_le _, HB.out.2.1, HB.out.1, fun _ => rfl, fun h => absurd h (by decide)⟩
  case round =>
    obtain ⟨k, r, rfl, rfl, hk, HL⟩ := hrel
    by_cases hlt : k < m
    · have i1 : (k : Int) < (m : Int) := by omega
      have hgb : ¬ (b = g) := by have := HB.out.2.2 (by omega); omega
      obtain ⟨x0, x1⟩ := HL.out.1.cell k hlt
      have HOr := Lib.hid (gps_or D bl l m f k (by omega))
      have HNx : Hid (gps D bl l m f (k + 1) = gst D bl l m (gps D bl l m f k) k) := rfl
      generalize gps D bl l m f k = f1 at HL x0 HOr HNx
      rcases hf : f1 k with _ | _
      · rw [hf] at x0
        have HE : Hid (gps D bl l m f (k + 1) = f1) := by show _ = _; rw [HNx.out, gst_off hf]
        clear hf x1
        go_wp2_with fail
        go_roundw
        case rel => exact ⟨k + 1, r, by go_num, rfl, by omega, by rw [HE.out]; exact HL.out⟩
        case measure => simp [intOf]; omega
      · rw [hf] at x0
        have HT := Lib.hid hf
        clear hf
        go_upto_region 7 with fail
        have HO2 : Hid (OB V g m (setB f1 k false) (wr.setCell ⟨g, k, none⟩ (.bool false)) ∧ DBx (wr.setCell ⟨g, k, none⟩ (.bool false)) b D) := by
          have h2 := HL.out.1.setb k hlt false
          exact ⟨h2, HL.out.2.1.st.far (p := ⟨g, k, none⟩) hgb _, H.out.1.below h2.bel⟩
        generalize wr.setCell ⟨g, k, none⟩ (.bool false) = w2 at HO2 ⊢
        have Hwr := Lib.hid HL.out.2.2
        clear HL x0 x1
        obtain ⟨wr, hwr⟩ : ∃ wr, wr = w2 := ⟨_, rfl⟩
        subst hwr
        have HJ : Hid (∀ W, Below wr.heap.size wr W → Calls Try.prog 13 #[.slice a n c, .slice (some ⟨g, 0, none⟩) m m] W (fun e w' => e = .returned (.string (jnS l m (setB f1 k false))) ∧ Below W.heap.size W w')) := fun W h =>
          join_any l H.out.2.2.2.1 n c a H.out.2.2.2.2 m m (some ⟨g, 0, none⟩) (setB f1 k false) hm1 W ((H.out.2.1.below HO2.out.1.bel).below h) ((bls_at HO2.out.1.own).below h)
        have HSp : Hid (∀ W, Below wr.heap.size wr W → Calls Try.prog 12 #[.agg D.cD, .int .i64 bl, .string (jnS l m (setB f1 k false)), .slice a n c] W (fun e w' => e = .returned (.bool (chkG D bl l m (setB f1 k false))) ∧ Below W.heap.size W w')) := fun W h =>
          splits_any D C H.out.2.2.1 bl _ (by have := jnS_size H.out.2.2.2.1 m (setB f1 k false); omega) l n c a H.out.2.2.2.2 hn8 W (HO2.out.2.dm.below h) ((H.out.2.1.below HO2.out.1.bel).below h)
        have HSo : Hid (∀ W', Below wr.heap.size wr W' → Below wr.heap.size wr W' ∧ DBx W' b D) := fun W' h => ⟨h, HO2.out.2.keep h⟩
        have HY : Hid (chkG D bl l m (setB f1 k false) = true → gps D bl l m f (k + 1) = setB f1 k false ∧ cntB (setB f1 k false) m < cntB f m) := fun h => by
          refine ⟨by rw [HNx.out, gst_yes HT.out h], ?_⟩
          have h9 := cntB_set HT.out m hlt
          rcases HOr.out with e | e
          · rw [e] at h9; rw [e]; omega
          · omega
        have HN : Hid (chkG D bl l m (setB f1 k false) = false → gps D bl l m f (k + 1) = f1) := fun h => by rw [HNx.out, gst_no h]
        generalize hcg : chkG D bl l m (setB f1 k false) = cg at HSp HY HN
        clear hcg
        generalize jnS l m (setB f1 k false) = js at HJ HSp
        refine wp_region_held_drew (S := fun W' => Below wr.heap.size wr W' ∧ DBx W' b D) (by kernel_rfl) (HSo.out _ (Below.refl _ _).drew) (fun hHeld => ?_)
        refine tkA 0 (v := .agg D.cD) ?_ (hy := fun wz hSw => exec_load_any9 (o := _) (ρ := _) wz 26 (.tmp 4) rfl ⟨b, 0, none⟩ rfl D.cD _ (DBx.st (And.right hSw)).part Try.underlying26 rfl (DBx.dm (And.right hSw)).info)
        try simp only [Act.put, List.setIfInBounds_toArray, List.set_cons_zero, List.set_cons_succ]
        refine tkA 1 ?_
        try simp only [Act.put, List.setIfInBounds_toArray, List.set_cons_zero, List.set_cons_succ]
        refine tkA 2 ?_
        try simp only [Act.put, List.setIfInBounds_toArray, List.set_cons_zero, List.set_cons_succ]
        refine tkA 3 ?_
        try simp only [Act.put, List.setIfInBounds_toArray, List.set_cons_zero, List.set_cons_succ]
        refine tkA 5 ?_
        try simp only [Act.put, List.setIfInBounds_toArray, List.set_cons_zero, List.set_cons_succ]
        refine rd1 4 (fun K hK => ?_)
        go_simp
        go_at_call 13
        refine (HJ.out _ hHeld.1).mono ?_
        rintro e w8 ⟨rfl, b8⟩
        have hbn := hHeld.1.trans (b8.mono hHeld.1.size)
        clear b8
        try go_wp2_with fail
        refine hK.out _ _ (HSo.out _ hbn) (fun hHeld => ?_)
        clear hK K hbn
        try simp only [Act.put, List.setIfInBounds_toArray, List.set_cons_zero, List.set_cons_succ]
        refine rd1 6 (fun K hK => ?_)
        go_simp
        go_at_call 12
        refine (HSp.out _ hHeld.1).mono ?_
        rintro e w8 ⟨rfl, b8⟩
        have hbn := hHeld.1.trans (b8.mono hHeld.1.size)
        clear b8
        try go_wp2_with fail
        refine hK.out _ _ (HSo.out _ hbn) (fun hHeld => ?_)
        clear hK K hbn
        try simp only [Act.put, List.setIfInBounds_toArray, List.set_cons_zero, List.set_cons_succ]
        refine wpAnyH_done (by kernel_rfl) ?_ _
        have HO3 : Hid (OB V g m (setB f1 k false) w8 ∧ DBx w8 b D) := ⟨HO2.out.1.keep hHeld.1, hHeld.2⟩
        clear hHeld HSo HJ HSp HO2
        rcases cg with _ | _
        · have HZ := Lib.hid (HN.out rfl)
          obtain ⟨y0, y1⟩ := HO3.out.1.cell k hlt
          rw [show setB f1 k false k = false by simp [setB]] at y0
          have HO4 : Hid (OB V g m f1 (w8.setCell ⟨g, k, none⟩ (.bool true)) ∧ DBx (w8.setCell ⟨g, k, none⟩ (.bool true)) b D) := by
            have h2 := HO3.out.1.setb k hlt true
            rw [setB_back HT.out] at h2
            exact ⟨h2, HO3.out.2.st.far (p := ⟨g, k, none⟩) hgb _, H.out.1.below h2.bel⟩
          go_wp2_with fail
          go_roundw
          case rel => exact ⟨k + 1, r, by go_num, rfl, by omega, by rw [HZ.out]; exact ⟨HO4.out.1, HO4.out.2, Hwr.out⟩⟩
          case measure => simp [intOf]; omega
        · have HZ := Lib.hid (HY.out rfl)
          go_wp2_with fail
          go_roundw
          case rel => exact ⟨k + 1, true, by go_num, rfl, by omega, by rw [HZ.out.1]; exact ⟨HO3.out.1, HO3.out.2, fun h => absurd h (by decide), fun _ => HZ.out.2⟩⟩
          case measure => simp [intOf]; omega
    · obtain rfl : k = m := by omega
      go_wp2_with fail
      go_ret
      exact ⟨r, rfl, HL.out.1, HL.out.2.2.1, HL.out.2.2.2⟩
end Go.Proofs.Ytldpmcgkbdejjaa

namespace Go.Proofs.Ytldpmcgkbdejjaa
open Go.RowKit Go.Maps Go.WideElems Go.ChangeMaps Go.MapKept
set_option linter.unusedVariables false
set_option linter.unusedSimpArgs false

open Classical in
/-- How many truths lie in a row. -/
noncomputable def muB (w : World) (g m : Nat) : Nat := cntB (fun j => decide (w.cell? ⟨g, j, none⟩ = some (.bool true))) m
theorem OB.mu {V wr : World} {g m : Nat} {f : Nat → Bool} (h : OB V g m f wr) : muB wr g m = cntB f m := by
  unfold muB
  refine cntB_congr fun j hj => ?_
  rw [(h.cell j hj).1]
  cases f j <;> simp
/-- What Gaps tells: o an error, or the blanks that are left. -/
def GpP (D : Dd) (bl : Int) (l : List ByteArray) (m : Nat) (no yes : Value) (w : World) (e : Ending) (w' : World) : Prop :=
  Below w.heap.size w w' ∧ ((chkG D bl l m (fun _ => true) = false ∧ e = .returned (.tuple #[.slice none 0 0, no])) ∨ (chkG D bl l m (fun _ => true) = true ∧ ∃ (a : Option Addr) (c : Nat) (f : Nat → Bool), e = .returned (.tuple #[.slice a m c, yes]) ∧ w'.ownsRow w.heap.size 4 1 (.slice a m c) m (bls f m) ∧ GapF D bl l m f))

set_option maxHeartbeats 4000000 in
set_option maxRecDepth 100000 in
theorem gaps_any (D : Dd) (C : Nat) (hR : DR D C) (bl : Int) (l : List ByteArray) (hl : FewT l) (n c : Nat) (a : Option Addr) (hn : l.length = n) (w : World) (hD : DM w D) (h1 : SsAt w a l) :
    Calls Try.prog 9 #[.agg D.cD, .int .i64 bl, .slice a n c] w (GpP D bl l (n - 1) (.int .i64 7) (.int .i64 0) w) := by
  have kb := al w (.cells D.cD 26)
  have k2 := al (w.alloc (.cells D.cD 26)) (.cells #[.bool true] 4)
  have HB : Hid (DBx ((w.alloc (.cells D.cD 26)).alloc (.cells #[.bool true] 4)) w.heap.size D ∧ SsAt ((w.alloc (.cells D.cD 26)).alloc (.cells #[.bool true] 4)) a l ∧ Below w.heap.size w ((w.alloc (.cells D.cD 26)).alloc (.cells #[.bool true] 4)) ∧ St ((w.alloc (.cells D.cD 26)).alloc (.cells #[.bool true] 4)) 4 (w.heap.size + 1) #[.bool true]) := by
    refine ⟨(DBx.new hD).keep k2, (h1.below kb).below k2, kb.trans (k2.mono kb.size), ?_⟩
    have := St.new (w.alloc (.cells D.cD 26)) 4 #[.bool true]
    simpa using this
  have H := Lib.hid (And.intro hR (And.intro hl hn))
  have hn8 : n ≤ 8 := by have := hl.n; omega
  clear kb k2 hR hD h1 hl hn
  obtain ⟨m, hm⟩ : ∃ m, n - 1 = m := ⟨_, rfl⟩
  rw [hm]
  have i1 : ¬ (300 < (n : Int)) := by omega
  have i2 : max ((n : Int) - 1) 0 = (m : Int) := by omega
  have hm8 : m ≤ 8 := by omega
  have Hm := Lib.hid hm
  clear hm
  go_enter Try.func9, Try.ntmps9
  go_upto_region 3 with fail
  have HRp : Hid (∀ V g0, St V 4 g0 #[.bool true] → Calls Try.prog 18 #[.slice (some ⟨g0, 0, none⟩) 1 1, .int .i64 ((m : Nat) : Int)] V (RepBP m V)) := fun V g0 h => repeatB_any m (by omega) g0 V (h.at_ 0) h.lt
  go_wp2_with fail
  generalize (w.alloc (.cells D.cD 26)).alloc (.cells #[.bool true] 4) = V at HB ⊢
  obtain ⟨b, hb0⟩ : ∃ b0, w.heap.size = b0 := ⟨_, rfl⟩
  have Hb0 := Lib.hid hb0
  rw [hb0] at HB
  rw [hb0]
  clear hb0
  have hbV : b ≤ V.heap.size := by have := HB.out.2.2.1.size; have := Hb0.out; omega
  refine (HRp.out V (b + 1) HB.out.2.2.2).mono ?_
  rintro e w3 ⟨g, rfl, hO⟩
  clear HRp
  go_upto_region 4 with fail
  have HO := Lib.hid hO
  have HF : Hid (∀ f' W, OB V g m f' W → Below w.heap.size w W ∧ W.ownsRow w.heap.size 4 1 (.slice (some ⟨g, 0, none⟩) m m) m (bls f' m)) := fun f' W h => by
    rw [Hb0.out]
    exact ⟨HB.out.2.2.1.trans (h.bel.mono hbV), ownsRow_base h.own (by omega)⟩
  clear hO
  obtain ⟨wr, hwr⟩ : ∃ wr, wr = w3 := ⟨_, rfl⟩
  subst hwr
  have hm1 : m ≤ 100000 := by omega
  have hn9 : n ≤ 1000000 := by omega
  have HJ : Hid (∀ W, Below wr.heap.size wr W → Calls Try.prog 13 #[.slice a n c, .slice (some ⟨g, 0, none⟩) m m] W (fun e w' => e = .returned (.string (jnS l m (fun _ => true))) ∧ Below W.heap.size W w')) := fun W h =>
    join_any l H.out.2.1 n c a H.out.2.2 m m (some ⟨g, 0, none⟩) (fun _ => true) hm1 W ((HB.out.2.1.below HO.out.bel).below h) ((bls_at HO.out.own).below h)
  have HSp : Hid (∀ W, Below wr.heap.size wr W → Calls Try.prog 12 #[.agg D.cD, .int .i64 bl, .string (jnS l m (fun _ => true)), .slice a n c] W (fun e w' => e = .returned (.bool (chkG D bl l m (fun _ => true))) ∧ Below W.heap.size W w')) := fun W h =>
    splits_any D C H.out.1 bl _ (by have := jnS_size H.out.2.1 m (fun _ => true); omega) l n c a H.out.2.2 hn9 W ((HB.out.1.dm.below HO.out.bel).below h) ((HB.out.2.1.below HO.out.bel).below h)
  have HSo : Hid (∀ W', Below wr.heap.size wr W' → Below wr.heap.size wr W' ∧ DBx W' b D) := fun W' h => ⟨h, (HB.out.1.keep HO.out.bel).keep h⟩
  have HN : Hid (∀ w', chkG D bl l m (fun _ => true) = false → Below w.heap.size w w' → GpP D bl l m (.int .i64 7) (.int .i64 0) w (.returned (.tuple #[.slice none 0 0, .int .i64 7])) w') := fun w' h hb => ⟨hb, Or.inl ⟨h, rfl⟩⟩
  have HY : Hid (∀ w' k, chkG D bl l m (fun _ => true) = true → OB V g m (gI D bl l m k) w' → gps D bl l m (gI D bl l m k) m = gI D bl l m k → GpP D bl l m (.int .i64 7) (.int .i64 0) w (.returned (.tuple #[.slice (some ⟨g, 0, none⟩) m m, .int .i64 0])) w') := fun w' k h hO hx =>
    ⟨(HF.out _ _ hO).1, Or.inr ⟨h, _, _, _, rfl, (HF.out _ _ hO).2, k, rfl, hx⟩⟩
  generalize hcg : chkG D bl l m (fun _ => true) = cg at HSp HN HY
  clear hcg
  generalize jnS l m (fun _ => true) = js at HJ HSp
  refine wp_region_held_drew (S := fun W' => Below wr.heap.size wr W' ∧ DBx W' b D) (by kernel_rfl) (HSo.out _ (Below.refl _ _).drew) (fun hHeld => ?_)
  refine tkA 0 (v := .agg D.cD) ?_ (hy := fun wz hSw => exec_load_any9 (o := _) (ρ := _) wz 26 (.tmp 3) rfl ⟨b, 0, none⟩ rfl D.cD _ (DBx.st (And.right hSw)).part Try.underlying26 rfl (DBx.dm (And.right hSw)).info)
  try simp only [Act.put, List.setIfInBounds_toArray, List.set_cons_zero, List.set_cons_succ]
  refine tkA 1 ?_
  try simp only [Act.put, List.setIfInBounds_toArray, List.set_cons_zero, List.set_cons_succ]
  refine tkA 2 ?_
  try simp only [Act.put, List.setIfInBounds_toArray, List.set_cons_zero, List.set_cons_succ]
  refine tkA 3 ?_
  try simp only [Act.put, List.setIfInBounds_toArray, List.set_cons_zero, List.set_cons_succ]
  refine tkA 5 ?_
  try simp only [Act.put, List.setIfInBounds_toArray, List.set_cons_zero, List.set_cons_succ]
  refine rd1 4 (fun K hK => ?_)
  go_simp
  go_at_call 13
  refine (HJ.out _ hHeld.1).mono ?_
  rintro e w8 ⟨rfl, b8⟩
  have hbn := hHeld.1.trans (b8.mono hHeld.1.size)
  clear b8
  try go_wp2_with fail
  refine hK.out _ _ (HSo.out _ hbn) (fun hHeld => ?_)
  clear hK K hbn
  try simp only [Act.put, List.setIfInBounds_toArray, List.set_cons_zero, List.set_cons_succ]
  refine rd1 6 (fun K hK => ?_)
  go_simp
  go_at_call 12
  refine (HSp.out _ hHeld.1).mono ?_
  rintro e w8 ⟨rfl, b8⟩
  have hbn := hHeld.1.trans (b8.mono hHeld.1.size)
  clear b8
  try go_wp2_with fail
  refine hK.out _ _ (HSo.out _ hbn) (fun hHeld => ?_)
  clear hK K hbn
  try simp only [Act.put, List.setIfInBounds_toArray, List.set_cons_zero, List.set_cons_succ]
  refine tkA 7 ?_
  try simp only [Act.put, List.setIfInBounds_toArray, List.set_cons_zero, List.set_cons_succ]
  refine wpAnyH_done (by kernel_rfl) ?_ _
  have HO3 : Hid (OB V g m (gI D bl l m 0) w8) := HO.out.keep hHeld.1
  clear hHeld HSo HJ HSp
  rcases cg with _ | _
  · have HZ := Lib.hid (HN.out w8 rfl (HF.out _ _ HO3.out).1)
    go_wp2_with fail
    go_ret2
    exact HZ.out
  · have HTh : Hid (∀ k W, OB V g m (gI D bl l m k) W → Calls Try.prog 19 #[.agg D.cD, .int .i64 bl, .slice a n c, .slice (some ⟨g, 0, none⟩) m m] W (ThP D bl l m (gI D bl l m k) V g)) := fun k W h => thin_any D C H.out.1 bl l H.out.2.1 n c a H.out.2.2 m hm8 g _ V W HB.out.1.dm HB.out.2.1 h
    have HDx : Hid (∀ f W, OB V g m f W → DBx W b D) := fun f W h => HB.out.1.keep h.bel
    go_wp2_with fail
    go_loopw [26, 27, 28, 29, 30] (fun _ _ _ _ _ wr => ∃ k : Nat, OB V g m (gI D bl l m k) wr) (fun _ _ _ _ _ w => muB w g m)
    case atStart => exact ⟨0, HO3.out⟩
    case round =>
      obtain ⟨k, hk⟩ := hrel
      have HK := Lib.hid hk
      have HC := Lib.hid (HTh.out k wr hk)
      have HDw := Lib.hid (HDx.out _ _ hk)
      clear hk
      go_wp2_with (first
        | (refine wpList_load_any9 (by rfl) 26 _ rfl ⟨b, 0, none⟩ rfl D.cD _ HDw.out.st.part Try.underlying26 rfl HDw.out.dm.info ?_)
        | (go_at_call 19; refine HC.out.mono ?_; rintro e w5 ⟨r, rfl, hO5, hr0, hr1⟩; have H5 := Lib.hid (And.intro hO5 (And.intro hr0 hr1)); clear hO5 hr0 hr1 HC; rcases r with _ | _))
      · have hx := H5.out.2.1 (by first | trivial | rfl)
        have HZ := Lib.hid (HY.out w5 k (by first | trivial | rfl) (by have := H5.out.1; rw [hx] at this; exact this) hx)
        clear hx
        go_wp2_with fail
        go_ret2
        exact HZ.out
      · exact ⟨⟨k + 1, H5.out.1⟩, by rw [H5.out.1.mu, HK.out.mu]; exact H5.out.2.2 (by first | trivial | rfl)⟩
end Go.Proofs.Ytldpmcgkbdejjaa
