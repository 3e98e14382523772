import Derived.Test.YtldpmcgkbdejjaaZJGaps
import Derived.Test.YtldpmcgkbdejjaaZJRJoin
import Derived.Test.YtldpmcgkbdejjaaZJSpl
import Derived.Deep.OwnRows
namespace Go.Proofs.Ytldpmcgkbdejjaa
open Go.RowKit Go.Maps Go.WideElems Go.ChangeMaps Go.MapKept
set_option linter.unusedVariables false
set_option linter.unusedSimpArgs false

noncomputable def muV (w : World) (v : Value) (m : Nat) : Nat := match v with
  | .slice (some a) _ _ => muB w a.block m
  | _ => 0
def bitV (v : Value) : Nat := match v with
  | .bool true => 1
  | _ => 0
theorem own_mu {w : World} {B m c : Nat} {a : Option Addr} {f : Nat → Bool} (h : w.ownsRow B 4 1 (.slice a m c) m (bls f m)) : muV w (.slice a m c) m = cntB f m := by
  rcases Nat.eq_zero_or_pos m with e | e
  · subst e
    cases a <;> rfl
  · obtain ⟨g, rfl, _, _, hc⟩ := ownsRow_read h e
    show muB w g m = _
    unfold muB
    refine cntB_congr fun j hj => ?_
    rw [(hc j (by omega)).1, show (bls f m)[j]? = some (.bool (f j)) by simp [bls, hj]]
    cases f j <;> simp
theorem own_emptyB (W : World) : (W.alloc (.cells #[] 4)).ownsRow W.heap.size 4 1 (.slice (some ⟨W.heap.size, 0, none⟩) 0 0) 0 [] :=
  ⟨rfl, Or.inr ⟨W.heap.size, 0, #[], rfl, Nat.le_refl _, St.new W _ _, Nat.le_refl _, by unfold maxLen; omega, rfl, rfl⟩⟩
theorem bls_news {w : World} {g m : Nat} {f : Nat → Bool} (h : ∀ j, j < m → w.cell? ⟨g, j, none⟩ = some (.bool (f j))) : ∀ j u, (bls f m)[j]? = some u → w.cell? ((⟨g, 0, none⟩ : Addr).add j) = some u := fun j u hj => by
  have h1 : j < m := by
    have := (List.getElem?_eq_some_iff.1 hj).1
    simpa [bls] using this
  rw [show (⟨g, 0, none⟩ : Addr).add j = ⟨g, j, none⟩ by unfold Addr.add; split <;> simp_all, h j h1, ← hj]
  simp [bls, h1]
theorem bls_one (f : Nat → Bool) (m : Nat) : ∀ u ∈ bls f m, u.oneCell' = true := by
  intro u hu
  simp only [bls, List.mem_map] at hu
  obtain ⟨j, _, rfl⟩ := hu
  rfl
theorem bls_length9 (f : Nat → Bool) (m : Nat) : (bls f m).length = m := by simp [bls]
theorem bls_more (k : Nat) : bls (fun _ => true) (k + 1) = bls (fun _ => true) k ++ [.bool true] := by simp [bls, List.range_succ]
theorem own_setb {w : World} {B g m c : Nat} {f : Nat → Bool} (h : w.ownsRow B 4 1 (.slice (some ⟨g, 0, none⟩) m c) m (bls f m)) (j : Nat) (hj : j < m) (v : Bool) : (w.setCell ⟨g, j, none⟩ (.bool v)).ownsRow B 4 1 (.slice (some ⟨g, 0, none⟩) m c) m (bls (setB f j v) m) := by
  have := own_put h j hj (.bool v)
  rwa [bls_setv] at this

set_option maxHeartbeats 8000000 in
set_option maxRecDepth 100000 in
theorem rgaps_any (D : Dd) (C : Nat) (hR : DR D C) (bl : Int) (l : List ByteArray) (hl : FewT l) (n c : Nat) (a : Option Addr) (hn : l.length = n) (w : World) (hD : DM w D) (h1 : SsAt w a l) :
    Calls Try.prog 10 #[.agg D.cD, .int .i64 bl, .slice a n c] w (GpP D bl l (n - 1) (.bool false) (.bool true) w) := by
  have kb := al w (.cells D.cD 26)
  have HB : Hid (DBx (w.alloc (.cells D.cD 26)) w.heap.size D ∧ SsAt (w.alloc (.cells D.cD 26)) a l ∧ Below w.heap.size w (w.alloc (.cells D.cD 26))) := ⟨DBx.new hD, h1.below kb, kb⟩
  have H := Lib.hid (And.intro hR (And.intro hl hn))
  have hn8 : n ≤ 8 := by have := hl.n; omega
  clear kb hR hD h1 hl hn
  obtain ⟨m, hm⟩ : ∃ m, n - 1 = m := ⟨_, rfl⟩
  rw [hm]
  have hm8 : m ≤ 8 := by omega
  have hmn : n = m + 1 ∨ (n = 0 ∧ m = 0) := by omega
  have Hm := Lib.hid hm
  clear hm
  go_enter Try.func10, Try.ntmps10
  go_upto_region 1 with fail
  generalize w.alloc (.cells D.cD 26) = V at HB ⊢
  obtain ⟨b, hb0⟩ : ∃ b0, w.heap.size = b0 := ⟨_, rfl⟩
  have Hb0 := Lib.hid hb0
  rw [hb0] at HB
  rw [hb0]
  clear hb0
  have hbV : b ≤ V.heap.size := by have := HB.out.2.2.size; have := Hb0.out; omega
  have HF : Hid (∀ W v xs, Below V.heap.size V W → W.ownsRow V.heap.size 4 1 v m xs → Below w.heap.size w W ∧ W.ownsRow w.heap.size 4 1 v m xs) := fun W v xs h h2 => by
    rw [Hb0.out]
    exact ⟨HB.out.2.2.trans (h.mono hbV), ownsRow_base h2 hbV⟩
  go_wp2_with fail
  go_loopw [8, 9] (fun v8 v9 wr => ∃ (k : Nat) (a1 : Option Addr) (c1 : Nat), v9 = .int .i64 ((k + 1 : Nat) : Int) ∧ k ≤ m ∧ v8 = .slice a1 k c1 ∧ Hid (wr.ownsRow V.heap.size 4 1 v8 k (bls (fun _ => true) k) ∧ Below V.heap.size V wr)) (fun _ v _ => n - (intOf v).toNat)
  case atStart => exact ⟨0, none, 0, rfl, Nat.zero_le _, rfl, World.ownsRow_nil _ _ _ _, Below.refl _ _⟩
  case round =>
    obtain ⟨k, a1, c1, rfl, hk, rfl, HX⟩ := hrel
    by_cases hlt : k < m
    · have i1 : ((k : Int) + 1) < (n : Int) := by omega
      have hO := HX.out.1
      have hz := HX.out.2.size
      obtain ⟨iT, hT, hT0, hT1, hT2⟩ := info_parts Try.info_bool9
      go_wp2_with (at_builtin; refine wpList_append_own _ rfl _ _ 31 rfl V.heap.size 4 iT (.bool false) 1 1 Try.underlying31 hT hT0 hT1 hT2 rfl (by decide) _ _ _ rfl (hO.alloc _) ⟨wr.heap.size, 0, none⟩ 1 1 [.bool true] rfl rfl (World.news_of_block (cs := #[.bool true]) (St.new _ _ _)) ?_ ?_ ?_ ?_ ?_)
      · intro u hu; rw [List.mem_singleton.1 hu]; rfl
      · unfold maxLen; omega
      · omega
      · simp; omega
      intro v' w5 hown5 hgrow5 _
      obtain ⟨a5, c5, rfl⟩ := ownsRow_slice hown5
      have hb5 : Below V.heap.size V w5 := (HX.out.2.trans ((al wr _).mono hz)).grown hgrow5 (by simp; omega) (fun g e => (hO.lt g e).1)
      have HX5 : Hid (w5.ownsRow V.heap.size 4 1 (.slice a5 (k + 1) c5) (k + 1) (bls (fun _ => true) (k + 1)) ∧ Below V.heap.size V w5) := ⟨by rw [bls_more]; exact hown5, hb5⟩
      clear hown5 hgrow5 hb5 hO hz
      go_wp2_with fail
      go_roundw
      case rel => exact ⟨k + 1, a5, c5, by go_num, by omega, rfl, HX5.out⟩
      case measure => simp [intOf]; omega
    · obtain rfl : k = m := by omega
      have i1 : ¬ (((k : Int) + 1) < (n : Int)) := by omega
      go_upto_region 6 with fail
      clear hlt hk
      have hm1 : k ≤ 100000 := by omega
      have hn9 : n ≤ 1000000 := by omega
      have HSd : Hid (∀ f, (jnS l k f).size ≤ 255) := fun f => by have := jnS_size H.out.2.1 k f; omega
      have HJa : Hid (∀ f W aa cc, Below V.heap.size V W → BAt W aa k f → Calls Try.prog 21 #[.slice a n c, .slice aa k cc] W (fun e w' => e = .returned (.string (jnS l k f)) ∧ Below W.heap.size W w')) := fun f W aa cc h h2 =>
        (rjoin_any l H.out.2.1 n c a H.out.2.2 k cc aa f hm1 W (HB.out.2.1.below h) h2).mono (fun e w' h => ⟨h.1, by rw [h.2]; exact Below.refl _ _⟩)
      have HSa : Hid (∀ f W, Below V.heap.size V W → Calls Try.prog 20 #[.agg D.cD, .int .i64 bl, .string (jnS l k f), .slice a n c] W (fun e w' => e = .returned (.bool (chkG D bl l k f)) ∧ Below W.heap.size W w')) := fun f W h =>
        rsplits_any D C H.out.1 bl _ (HSd.out f) l n c a H.out.2.2 hn9 W (HB.out.1.dm.below h) (HB.out.2.1.below h)
      have HDx : Hid (∀ W, Below V.heap.size V W → DBx W b D) := fun W h => HB.out.1.keep h
      have HN : Hid (∀ w', chkG D bl l k (fun _ => true) = false → Below V.heap.size V w' → GpP D bl l k (.bool false) (.bool true) w (.returned (.tuple #[.slice none 0 0, .bool false])) w') := fun w' h hb => ⟨by rw [Hb0.out]; exact HB.out.2.2.trans (hb.mono hbV), Or.inl ⟨h, rfl⟩⟩
      have HY : Hid (∀ w' j aa cc, chkG D bl l k (fun _ => true) = true → w'.ownsRow V.heap.size 4 1 (.slice aa k cc) k (bls (gI D bl l k j) k) → Below V.heap.size V w' → gps D bl l k (gI D bl l k j) k = gI D bl l k j → GpP D bl l k (.bool false) (.bool true) w (.returned (.tuple #[.slice aa k cc, .bool true])) w') := fun w' j aa cc h hO hb hx =>
        ⟨(HF.out _ _ _ hb hO).1, Or.inr ⟨h, _, _, _, rfl, (HF.out _ _ _ hb hO).2, j, rfl, hx⟩⟩
      have HX6 := HX
      have HJ : Hid (∀ W, Below wr.heap.size wr W → Calls Try.prog 21 #[.slice a n c, .slice a1 k c1] W (fun e w' => e = .returned (.string (jnS l k (fun _ => true))) ∧ Below W.heap.size W w')) := fun W h => HJa.out _ W a1 c1 (HX.out.2.trans (h.mono HX.out.2.size)) ((bls_at HX.out.1).below h)
      have HSp : Hid (∀ W, Below wr.heap.size wr W → Calls Try.prog 20 #[.agg D.cD, .int .i64 bl, .string (jnS l k (fun _ => true)), .slice a n c] W (fun e w' => e = .returned (.bool (chkG D bl l k (fun _ => true))) ∧ Below W.heap.size W w')) := fun W h => HSa.out _ W (HX.out.2.trans (h.mono HX.out.2.size))
      have HSo : Hid (∀ W', Below wr.heap.size wr W' → Below wr.heap.size wr W' ∧ DBx W' b D) := fun W' h => ⟨h, HDx.out _ (HX.out.2.trans (h.mono HX.out.2.size))⟩
      generalize hcg : chkG D bl l k (fun _ => true) = cg at HSp HN HY
      clear hcg
      generalize jnS l k (fun _ => true) = js at HJ HSp
      refine wp_region_held_drew (S := fun W' => Below wr.heap.size wr W' ∧ DBx W' b D) (by kernel_rfl) (HSo.out _ (Below.refl _ _).drew) (fun hHeld => ?_)
      refine tkA 0 (v := .agg D.cD) ?_ (hy := fun wz hSw => exec_load_any9 (o := _) (ρ := _) wz 26 (.tmp 3) rfl ⟨b, 0, none⟩ rfl D.cD _ (DBx.st (And.right hSw)).part Try.underlying26 rfl (DBx.dm (And.right hSw)).info)
      try simp only [Act.put, List.setIfInBounds_toArray, List.set_cons_zero, List.set_cons_succ]
      refine tkA 1 ?_
      try simp only [Act.put, List.setIfInBounds_toArray, List.set_cons_zero, List.set_cons_succ]
      refine tkA 2 ?_
      try simp only [Act.put, List.setIfInBounds_toArray, List.set_cons_zero, List.set_cons_succ]
      refine tkA 3 ?_
      try simp only [Act.put, List.setIfInBounds_toArray, List.set_cons_zero, List.set_cons_succ]
      refine tkA 5 ?_
      try simp only [Act.put, List.setIfInBounds_toArray, List.set_cons_zero, List.set_cons_succ]
      refine rd1 4 (fun K hK => ?_)
      go_simp
      go_at_call 21
      refine (HJ.out _ hHeld.1).mono ?_
      rintro e w8 ⟨rfl, b8⟩
      have hbn := hHeld.1.trans (b8.mono hHeld.1.size)
      clear b8
      try go_wp2_with fail
      refine hK.out _ _ (HSo.out _ hbn) (fun hHeld => ?_)
      clear hK K hbn
      try simp only [Act.put, List.setIfInBounds_toArray, List.set_cons_zero, List.set_cons_succ]
      refine rd1 6 (fun K hK => ?_)
      go_simp
      go_at_call 20
      refine (HSp.out _ hHeld.1).mono ?_
      rintro e w8 ⟨rfl, b8⟩
      have hbn := hHeld.1.trans (b8.mono hHeld.1.size)
      clear b8
      try go_wp2_with fail
      refine hK.out _ _ (HSo.out _ hbn) (fun hHeld => ?_)
      clear hK K hbn
      try simp only [Act.put, List.setIfInBounds_toArray, List.set_cons_zero, List.set_cons_succ]
      refine tkA 7 ?_
      try simp only [Act.put, List.setIfInBounds_toArray, List.set_cons_zero, List.set_cons_succ]
      refine wpAnyH_done (by kernel_rfl) ?_ _
      have HX8 : Hid (w8.ownsRow V.heap.size 4 1 (.slice a1 k c1) k (bls (gI D bl l k 0) k) ∧ Below V.heap.size V w8) := ⟨ownsRow_keep HX.out.1 hHeld.1, HX.out.2.trans (hHeld.1.mono HX.out.2.size)⟩
      clear hHeld HSo HJ HSp HX HX6
      rcases cg with _ | _
      · have HZ := Lib.hid (HN.out w8 (by first | trivial | rfl) HX8.out.2)
        go_wp2_with fail
        go_ret2
        exact HZ.out
      go_wp2_with fail
      go_loopw [8, 10, 11, 12] (fun v8 v10 _ _ wr => ∃ (j : Nat) (r : Bool) (aa : Option Addr) (cc : Nat), v8 = .slice aa k cc ∧ v10 = .bool r ∧ Hid (wr.ownsRow V.heap.size 4 1 v8 k (bls (gI D bl l k j) k) ∧ Below V.heap.size V wr ∧ (r = false → gps D bl l k (gI D bl l k j) k = gI D bl l k j))) (fun v8 v10 _ _ w => 2 * muV w v8 k + bitV v10)
      case atStart => exact ⟨0, true, a1, c1, rfl, rfl, HX8.out.1, HX8.out.2, fun h => absurd h (by decide)⟩
      case round =>
        clear HX8
        obtain ⟨j, r, aa, cc, rfl, rfl, HX⟩ := hrel
        rcases r with _ | _
        · have HZ := Lib.hid (HY.out wr j aa cc (by first | trivial | rfl) HX.out.1 HX.out.2.1 (HX.out.2.2 (by first | trivial | rfl)))
          go_wp2_with fail
          go_ret2
          exact HZ.out
        have HMu : Hid (2 * muV wr (.slice aa k cc) k + bitV (.bool true) = 2 * cntB (gI D bl l k j) k + 1) := by show _ = _; rw [own_mu HX.out.1]; rfl
        have HI1 : Hid (gI D bl l k (j + 1) = gps D bl l k (gI D bl l k j) k) := rfl
        revert wr
        intro wo HX HMu
        generalize hf0 : gI D bl l k j = f at HX HMu HI1
        have Hf0 := Lib.hid hf0
        clear hf0
        go_wp2_with fail
        go_loopw [8, 10, 11, 12] (fun v8 v10 v11 _ wr => ∃ (i : Nat) (r : Bool) (aa : Option Addr) (cc : Nat), v8 = .slice aa k cc ∧ v10 = .bool r ∧ v11 = .int .i64 i ∧ i ≤ k ∧ Hid (wr.ownsRow V.heap.size 4 1 v8 k (bls (gps D bl l k f i) k) ∧ Below V.heap.size V wr ∧ (r = false → gps D bl l k f i = f) ∧ (r = true → cntB (gps D bl l k f i) k < cntB f k))) (fun _ _ v _ _ => k - (intOf v).toNat)
        case atStart => exact ⟨0, false, aa, cc, rfl, rfl, rfl, Nat.zero_le _, HX.out.1, HX.out.2.1, fun _ => rfl, fun h => absurd h (by decide)⟩
        case round =>
          clear HX
          obtain ⟨i, r, a2, c2, rfl, rfl, rfl, hi, HL⟩ := hrel
          by_cases hik : i < k
          · have i2 : (i : Int) < (k : Int) := by omega
            obtain ⟨g2, rfl, hg2, hg2w, hc2⟩ := ownsRow_read HL.out.1 (by omega)
            have HOr := Lib.hid (gps_or D bl l k f i (by omega))
            have HNx : Hid (gps D bl l k f (i + 1) = gst D bl l k (gps D bl l k f i) i) := rfl
            generalize gps D bl l k f i = f1 at HL hc2 HOr HNx
            have hcs : ∀ j, j < k → wr.cell? ⟨g2, j, none⟩ = some (.bool (f1 j)) := fun j hj => by rw [(hc2 j (by omega)).1]; simp [bls, hj]
            have HC2 := Lib.hid (And.intro hcs hg2w)
            have hEm := own_emptyB wr
            have kE := al wr (.cells #[] 4)
            have hnew : ∀ j u, (bls f1 k)[j]? = some u → (wr.alloc (.cells #[] 4)).cell? ((⟨g2, 0, none⟩ : Addr).add j) = some u := bls_news (fun j hj => (kE.cell (p := ⟨g2, j, none⟩) hg2w).trans (hcs j hj))
            have hbo := bls_one f1 k
            have hbl := bls_length9 f1 k
            have HEm := Lib.hid (And.intro hEm (And.intro kE (And.intro hnew (And.intro hbo hbl))))
            clear hcs hc2 hEm kE hnew hbo hbl hg2 hg2w
            obtain ⟨iT, hT, hT0, hT1, hT2⟩ := info_parts Try.info_bool9
            go_wp2_with (at_builtin; refine wpList_append_own _ rfl _ _ 31 rfl wr.heap.size 4 iT (.bool false) 1 1 Try.underlying31 hT hT0 hT1 hT2 rfl (by decide) _ _ _ rfl HEm.out.1 ⟨g2, 0, none⟩ k c2 (bls f1 k) rfl (by rw [HEm.out.2.2.2.2, Nat.mul_one]) HEm.out.2.2.1 HEm.out.2.2.2.1 ?_ ?_ ?_ ?_)
            · unfold maxLen; omega
            · omega
            · simp
            intro v' w5 hown5 hgrow5 _
            obtain ⟨a5, c5, rfl⟩ := ownsRow_slice hown5
            have hb5 : Below wr.heap.size wr w5 := HEm.out.2.1.grown hgrow5 (by simp) (fun g e => (HEm.out.1.lt g e).1)
            try simp only [Nat.zero_add, List.nil_append] at hown5
            try simp only [Nat.zero_add]
            obtain ⟨g5, rfl, hg5, hg5w, hc5⟩ := ownsRow_read hown5 (by omega)
            have x5 : w5.cell? ⟨g5, i, none⟩ = some (.bool (f1 i)) := by rw [(hc5 i (by omega)).1]; simp [bls, hik]
            have x6 : w5.frozen? ⟨g5, i, none⟩ = false := (hc5 i (by omega)).2
            have HW5 := Lib.hid (And.intro hown5 (And.intro hb5 hg5))
            clear hown5 hgrow5 hb5 hc5 HEm hg5 hg5w
            go_upto_region 16 with fail
            have HW6 : Hid ((w5.setCell ⟨g5, i, none⟩ (.bool false)).ownsRow V.heap.size 4 1 (.slice (some ⟨g5, 0, none⟩) k c5) k (bls (setB f1 i false) k) ∧ Below wr.heap.size wr (w5.setCell ⟨g5, i, none⟩ (.bool false)) ∧ (w5.setCell ⟨g5, i, none⟩ (.bool false)).ownsRow V.heap.size 4 1 (.slice (some ⟨g2, 0, none⟩) k c2) k (bls f1 k) ∧ Below V.heap.size V (w5.setCell ⟨g5, i, none⟩ (.bool false)) ∧ (w5.setCell ⟨g5, i, none⟩ (.bool false)).cell? ⟨g2, i, none⟩ = some (.bool (f1 i)) ∧ g2 < (w5.setCell ⟨g5, i, none⟩ (.bool false)).heap.size) := by
              have h1 := own_setb HW5.out.1 i hik false
              have h2 := HW5.out.2.1.setCell (p := ⟨g5, i, none⟩) HW5.out.2.2 (.bool false)
              have hs := HL.out.2.1.size
              exact ⟨ownsRow_base h1 hs, h2, ownsRow_keep HL.out.1 h2, HL.out.2.1.trans (h2.mono hs), (h2.cell (p := ⟨g2, i, none⟩) HC2.out.2).trans (HC2.out.1 i hik), by have := h2.size; have := HC2.out.2; omega⟩
            generalize w5.setCell ⟨g5, i, none⟩ (.bool false) = w6 at HW6 ⊢
            have HLr := Lib.hid HL.out.2.2
            clear HL x5 x6 HW5 HC2
            obtain ⟨wr, hwr⟩ : ∃ wr, wr = w6 := ⟨_, rfl⟩
            subst hwr
            have HSo : Hid (∀ W', Below wr.heap.size wr W' → Below wr.heap.size wr W' ∧ DBx W' b D) := fun W' h => ⟨h, HDx.out _ (HW6.out.2.2.2.1.trans (h.mono HW6.out.2.2.2.1.size))⟩
            rcases hfi : f1 i with _ | _
            · have HCl : Hid (∀ W', Below wr.heap.size wr W' → W'.cell? ⟨g2, i, none⟩ = some (.bool false)) := fun W' h => (h.cell (p := ⟨g2, i, none⟩) HW6.out.2.2.2.2.2).trans (by rw [HW6.out.2.2.2.2.1, hfi])
              have HE : Hid (gps D bl l k f (i + 1) = f1) := by show _ = _; rw [HNx.out, gst_off hfi]
              clear hfi
              refine wp_region_held_drew (S := fun W' => Below wr.heap.size wr W' ∧ DBx W' b D) (by kernel_rfl) (HSo.out _ (Below.refl _ _).drew) (fun hHeld => ?_)
              refine tkA 0 ?_
              try simp only [Act.put, List.setIfInBounds_toArray, List.set_cons_zero, List.set_cons_succ]
              refine tkA 1 ?_
              try simp only [Act.put, List.setIfInBounds_toArray, List.set_cons_zero, List.set_cons_succ]
              refine tkA 2 ?_
              try simp only [Act.put, List.setIfInBounds_toArray, List.set_cons_zero, List.set_cons_succ]
              refine tkA 3 ?_ (hy := by intro wz hSw; have z0 := HCl.out wz hSw.1; (try simp only [Act.put, List.setIfInBounds_toArray, List.set_cons_zero, List.set_cons_succ]); go_simp; first | done | with_reducible rfl)
              try simp only [Act.put, List.setIfInBounds_toArray, List.set_cons_zero, List.set_cons_succ]
              refine tkA 4 ?_
              try simp only [Act.put, List.setIfInBounds_toArray, List.set_cons_zero, List.set_cons_succ]
              refine tkB 5 ?_
              try simp only [Act.put, List.setIfInBounds_toArray, List.set_cons_zero, List.set_cons_succ]
              refine tkB 6 ?_
              try simp only [Act.put, List.setIfInBounds_toArray, List.set_cons_zero, List.set_cons_succ]
              refine tkB 7 ?_
              try simp only [Act.put, List.setIfInBounds_toArray, List.set_cons_zero, List.set_cons_succ]
              refine tkB 8 ?_
              try simp only [Act.put, List.setIfInBounds_toArray, List.set_cons_zero, List.set_cons_succ]
              refine tkB 9 ?_
              try simp only [Act.put, List.setIfInBounds_toArray, List.set_cons_zero, List.set_cons_succ]
              refine tkB 10 ?_
              try simp only [Act.put, List.setIfInBounds_toArray, List.set_cons_zero, List.set_cons_succ]
              refine tkB 11 ?_
              try simp only [Act.put, List.setIfInBounds_toArray, List.set_cons_zero, List.set_cons_succ]
              refine tkA 12 ?_
              try simp only [Act.put, List.setIfInBounds_toArray, List.set_cons_zero, List.set_cons_succ]
              refine wpAnyH_done (by kernel_rfl) ?_ _
              have HX9 : Hid (_ ∧ Below V.heap.size V _) := ⟨ownsRow_keep HW6.out.2.2.1 hHeld.1, HW6.out.2.2.2.1.trans (hHeld.1.mono HW6.out.2.2.2.1.size)⟩
              clear hHeld HSo HW6 HCl
              go_wp2_with fail
              go_roundw
              case rel => exact ⟨i + 1, r, _, c2, rfl, rfl, by go_num, by omega, by rw [HE.out]; exact ⟨HX9.out.1, HX9.out.2, HLr.out⟩⟩
              case measure => simp [intOf]; omega
            · have HCl : Hid (∀ W', Below wr.heap.size wr W' → W'.cell? ⟨g2, i, none⟩ = some (.bool true)) := fun W' h => (h.cell (p := ⟨g2, i, none⟩) HW6.out.2.2.2.2.2).trans (by rw [HW6.out.2.2.2.2.1, hfi])
              have HT := Lib.hid hfi
              clear hfi
              have HJ : Hid (∀ W, Below wr.heap.size wr W → Calls Try.prog 21 #[.slice a n c, .slice (some ⟨g5, 0, none⟩) k c5] W (fun e w' => e = .returned (.string (jnS l k (setB f1 i false))) ∧ Below W.heap.size W w')) := fun W h => HJa.out _ W (some ⟨g5, 0, none⟩) c5 (HW6.out.2.2.2.1.trans (h.mono HW6.out.2.2.2.1.size)) ((bls_at HW6.out.1).below h)
              have HSp : Hid (∀ W, Below wr.heap.size wr W → Calls Try.prog 20 #[.agg D.cD, .int .i64 bl, .string (jnS l k (setB f1 i false)), .slice a n c] W (fun e w' => e = .returned (.bool (chkG D bl l k (setB f1 i false))) ∧ Below W.heap.size W w')) := fun W h => HSa.out _ W (HW6.out.2.2.2.1.trans (h.mono HW6.out.2.2.2.1.size))
              have HYs : Hid (chkG D bl l k (setB f1 i false) = true → gps D bl l k f (i + 1) = setB f1 i false ∧ cntB (setB f1 i false) k < cntB f k) := fun h => by
                refine ⟨by rw [HNx.out, gst_yes HT.out h], ?_⟩
                have h9 := cntB_set HT.out k hik
                rcases HOr.out with e | e
                · rw [e] at h9; rw [e]; omega
                · omega
              have HNo : Hid (chkG D bl l k (setB f1 i false) = false → gps D bl l k f (i + 1) = f1) := fun h => by rw [HNx.out, gst_no h]
              generalize hcg : chkG D bl l k (setB f1 i false) = cg at HSp HYs HNo
              clear hcg
              generalize jnS l k (setB f1 i false) = js at HJ HSp
              refine wp_region_held_drew (S := fun W' => Below wr.heap.size wr W' ∧ DBx W' b D) (by kernel_rfl) (HSo.out _ (Below.refl _ _).drew) (fun hHeld => ?_)
              refine tkA 0 ?_
              try simp only [Act.put, List.setIfInBounds_toArray, List.set_cons_zero, List.set_cons_succ]
              refine tkA 1 ?_
              try simp only [Act.put, List.setIfInBounds_toArray, List.set_cons_zero, List.set_cons_succ]
              refine tkA 2 ?_
              try simp only [Act.put, List.setIfInBounds_toArray, List.set_cons_zero, List.set_cons_succ]
              refine tkA 3 ?_ (hy := by intro wz hSw; have z0 := HCl.out wz hSw.1; (try simp only [Act.put, List.setIfInBounds_toArray, List.set_cons_zero, List.set_cons_succ]); go_simp; first | done | with_reducible rfl)
              try simp only [Act.put, List.setIfInBounds_toArray, List.set_cons_zero, List.set_cons_succ]
              refine tkA 4 ?_
              try simp only [Act.put, List.setIfInBounds_toArray, List.set_cons_zero, List.set_cons_succ]
              refine tkA 5 (v := .agg D.cD) ?_ (hy := fun wz hSw => exec_load_any9 (o := _) (ρ := _) wz 26 (.tmp 3) rfl ⟨b, 0, none⟩ rfl D.cD _ (DBx.st (And.right hSw)).part Try.underlying26 rfl (DBx.dm (And.right hSw)).info)
              try simp only [Act.put, List.setIfInBounds_toArray, List.set_cons_zero, List.set_cons_succ]
              refine tkA 6 ?_
              try simp only [Act.put, List.setIfInBounds_toArray, List.set_cons_zero, List.set_cons_succ]
              refine tkA 7 ?_
              try simp only [Act.put, List.setIfInBounds_toArray, List.set_cons_zero, List.set_cons_succ]
              refine tkA 8 ?_
              try simp only [Act.put, List.setIfInBounds_toArray, List.set_cons_zero, List.set_cons_succ]
              refine tkA 10 ?_
              try simp only [Act.put, List.setIfInBounds_toArray, List.set_cons_zero, List.set_cons_succ]
              refine rd1 9 (fun K hK => ?_)
              go_simp
              go_at_call 21
              refine (HJ.out _ hHeld.1).mono ?_
              rintro e w8 ⟨rfl, b8⟩
              have hbn := hHeld.1.trans (b8.mono hHeld.1.size)
              clear b8
              try go_wp2_with fail
              refine hK.out _ _ (HSo.out _ hbn) (fun hHeld => ?_)
              clear hK K hbn
              try simp only [Act.put, List.setIfInBounds_toArray, List.set_cons_zero, List.set_cons_succ]
              refine rd1 11 (fun K hK => ?_)
              go_simp
              go_at_call 20
              refine (HSp.out _ hHeld.1).mono ?_
              rintro e w8 ⟨rfl, b8⟩
              have hbn := hHeld.1.trans (b8.mono hHeld.1.size)
              clear b8
              try go_wp2_with fail
              refine hK.out _ _ (HSo.out _ hbn) (fun hHeld => ?_)
              clear hK K hbn
              try simp only [Act.put, List.setIfInBounds_toArray, List.set_cons_zero, List.set_cons_succ]
              refine tkA 12 ?_
              try simp only [Act.put, List.setIfInBounds_toArray, List.set_cons_zero, List.set_cons_succ]
              refine wpAnyH_done (by kernel_rfl) ?_ _
              have HX9 : Hid (w8.ownsRow V.heap.size 4 1 (.slice (some ⟨g5, 0, none⟩) k c5) k (bls (setB f1 i false) k) ∧ w8.ownsRow V.heap.size 4 1 (.slice (some ⟨g2, 0, none⟩) k c2) k (bls f1 k) ∧ Below V.heap.size V w8) := ⟨ownsRow_keep HW6.out.1 hHeld.1, ownsRow_keep HW6.out.2.2.1 hHeld.1, HW6.out.2.2.2.1.trans (hHeld.1.mono HW6.out.2.2.2.1.size)⟩
              clear hHeld HSo HJ HSp HW6 HCl
              rcases cg with _ | _
              · have HZ := Lib.hid (HNo.out rfl)
                go_wp2_with fail
                go_roundw
                case rel => exact ⟨i + 1, r, _, c2, rfl, rfl, by go_num, by omega, by rw [HZ.out]; exact ⟨HX9.out.2.1, HX9.out.2.2, HLr.out⟩⟩
                case measure => simp [intOf]; omega
              · have HZ := Lib.hid (HYs.out rfl)
                go_wp2_with fail
                go_roundw
                case rel => exact ⟨i + 1, true, _, c5, rfl, rfl, by go_num, by omega, by rw [HZ.out.1]; exact ⟨HX9.out.1, HX9.out.2.2, fun h => absurd h (by decide), fun _ => HZ.out.2⟩⟩
                case measure => simp [intOf]; omega
          · obtain rfl : i = k := by omega
            have HR9 : Hid (2 * muV wr (.slice a2 i c2) i + bitV (.bool r) < 2 * cntB f i + 1) := by
              show _ < _
              rw [own_mu HL.out.1]
              cases r with
              | false => rw [HL.out.2.2.1 rfl]; show 2 * cntB f i + 0 < _; omega
              | true => have := HL.out.2.2.2 rfl; show 2 * _ + 1 < _; omega
            have HE9 : Hid (r = false → gps D bl l i (gI D bl l i (j + 1)) i = gI D bl l i (j + 1)) := fun h => by
              rw [HI1.out, HL.out.2.2.1 h, HL.out.2.2.1 h]
            go_wp2_with fail
            refine ⟨⟨j + 1, r, a2, c2, rfl, rfl, ?_⟩, ?_⟩
            · exact ⟨by rw [HI1.out]; exact HL.out.1, HL.out.2.1, HE9.out⟩
            · have h1 := HR9.out; have h2 := HMu.out; first | omega | exact (0 : Nat)
end Go.Proofs.Ytldpmcgkbdejjaa
