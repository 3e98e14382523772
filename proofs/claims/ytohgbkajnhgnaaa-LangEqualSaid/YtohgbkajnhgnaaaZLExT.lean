import Derived.Test.YtohgbkajnhgnaaaZLEqual
import Derived.Test.YtohgbkajnhgnaaaZPRef
import Derived.Test.YtohgbkajnhgnaaaZPRun
import Derived.Test.YtohgbkajnhgnaaaZTKeep
import Derived.Deep.RegionHeld
import Derived.Deep.RegionHeld3
import Derived.OrdersHeld
namespace Go.Proofs.Ytohgbkajnhgnaaa
open Go.RowKit Go.Maps Go.WideElems Go.ChangeMaps Go.MapKept
set_option linter.unusedVariables false
set_option linter.unusedSimpArgs false

theorem mrk8_markF {D : Dd} (h : D.m = D.n) (i : Int) : mrk8 D i = markF D i := by unfold mrk8 markF; rw [h]
/-- Whether a text is accepted. -/
def hasF (D : Dd) (s : ByteArray) : Bool := decide (0 ≤ markF D (runF D 0 (zof s) s.size))

set_option maxHeartbeats 1000000 in
set_option maxRecDepth 100000 in
theorem lhas_any (D : Dd) (C : Nat) (hR : DR D C) (s : ByteArray) (hs : s.size ≤ 1000000) (w : World) (hD : DM w D) :
    Calls Try.prog 9 #[.agg D.cD, .string s] w fun e w' => e = .returned (.bool (hasF D s)) ∧ Below w.heap.size w w' := by
  have HR := Lib.hid (And.intro hR hs)
  have kb := al w (.cells D.cD 26)
  have HB : Hid (DBx (w.alloc (.cells D.cD 26)) w.heap.size D ∧ Below w.heap.size w (w.alloc (.cells D.cD 26))) := ⟨DBx.new hD, kb⟩
  clear kb hR hs hD
  go_enter Try.func9, Try.ntmps9
  go_upto_region 1 with fail
  generalize w.alloc (.cells D.cD 26) = W0 at HB ⊢
  obtain ⟨b0, hb0⟩ : ∃ b0, w.heap.size = b0 := ⟨_, rfl⟩
  have Hb0 := Lib.hid hb0
  rw [hb0] at HB
  rw [hb0]
  clear hb0
  have HFw : Hid (∀ W', Below W0.heap.size W0 W' → Below w.heap.size w W') := fun W' h => by
    have hz := HB.out.2.size
    rw [Hb0.out]
    exact HB.out.2.trans (h.mono (by have := Hb0.out; omega))
  have HSo : Hid (∀ W', Below W0.heap.size W0 W' → Below W0.heap.size W0 W' ∧ DBx W' b0 D ∧ True) := fun W' h => ⟨h, HB.out.1.keep h, trivial⟩
  obtain ⟨r, hr⟩ : ∃ r, runF D 0 (zof s) s.size = r := ⟨_, rfl⟩
  obtain ⟨mk, hmk⟩ : ∃ mk, markF D r = mk := ⟨_, rfl⟩
  have Hr := Lib.hid hr
  have Hmk : Hid (mrk8 D r = mk) := by show _ = _; rw [mrk8_markF HR.out.1.m]; exact hmk
  have Hh : Hid (hasF D s = decide (0 ≤ mk)) := by show _ = _; unfold hasF; rw [hr, hmk]
  have hm9 : D.m ≤ 100000 := by have h1 := HR.out.1.m; have h2 := HR.out.1.n2; omega
  have Hm9 := Lib.hid hm9
  clear hr hmk hm9
  rcases (Classical.em (0 ≤ mk)) with hm0 | hm0
  · refine wp_region_held_drew (S := fun W' => Below W0.heap.size W0 W' ∧ DBx W' b0 D ∧ True) (by kernel_rfl) (HSo.out _ (Below.refl _ _).drew) (fun hHeld => ?_)
    (refine wpAnyH_take (i := 0) (oi := ?_) (v := .agg D.cD) ?_ (by kernel_rfl) (by kernel_rfl) (by kernel_rfl) ?_ (Or.inl ⟨?_, ?_⟩) (by assumption) ?_; rotate_left; (focus ((simp only [List.getElem?_toArray, List.getElem?_cons_zero]); first | done | rfl)); (focus (exact fun _ _ _ h => h)); (focus rfl); (focus (intro wz hSw; exact exec_load_any9 (o := _) (ρ := _) wz 26 (.tmp 2) rfl ⟨b0, 0, none⟩ rfl D.cD _ (DBx.st (And.left (And.right hSw))).part Try.underlying26 rfl (DBx.dm (And.left (And.right hSw))).info)); try simp only [Act.put, List.setIfInBounds_toArray, List.set_cons_zero, List.set_cons_succ])
    (refine wpAnyH_take (i := 1) (oi := ?_) (v := .agg D.cD) ?_ (by kernel_rfl) (by kernel_rfl) (by kernel_rfl) ?_ (Or.inl ⟨?_, ?_⟩) (by assumption) ?_; rotate_left; (focus ((simp only [List.getElem?_toArray, List.getElem?_cons_succ, List.getElem?_cons_zero]); first | done | rfl)); (focus (exact fun _ _ _ h => h)); (focus rfl); (focus (intro wz hSw; exact exec_load_any9 (o := _) (ρ := _) wz 26 (.tmp 2) rfl ⟨b0, 0, none⟩ rfl D.cD _ (DBx.st (And.left (And.right hSw))).part Try.underlying26 rfl (DBx.dm (And.left (And.right hSw))).info)); try simp only [Act.put, List.setIfInBounds_toArray, List.set_cons_zero, List.set_cons_succ])
    (refine wpAnyH_take (i := 2) (oi := ?_) (v := ?_) ?_ (by kernel_rfl) (by kernel_rfl) (by kernel_rfl) ?_ (Or.inl ⟨?_, ?_⟩) (by assumption) ?_; rotate_left 2; (focus ((simp only [List.getElem?_toArray, List.getElem?_cons_succ, List.getElem?_cons_zero]); first | done | rfl)); (focus (exact fun _ _ _ h => h)); (focus rfl); (focus (intro wz hSw; (try dsimp only at hSw); go_simp; first | done | with_reducible rfl)); try simp only [Act.put, List.setIfInBounds_toArray, List.set_cons_zero, List.set_cons_succ])
    refine wpAnyH_ready (rs := [3]) (by kernel_rfl) (by simp) ?_
    refine AllReadyH.cons (o := ?_) ?_ (fun K hK => ?_) ?_
    rotate_left
    (focus ((simp only [List.getElem?_toArray, List.getElem?_cons_succ, List.getElem?_cons_zero]); first | done | rfl))
    · skip
      go_simp
      go_at_call 17
      refine (rrun8_any D _ HR.out.1 0 s _ rfl HR.out.2 _ (And.left (And.right hHeld)).dm).mono ?_
      rintro e w3 ⟨rfl, vv⟩
      rw [Hr.out]
      have hbn : Below W0.heap.size W0 w3 := hHeld.1.trans (vv.mono hHeld.1.size)
      clear vv
      try go_wp2_with fail
      refine hK.out _ _ (HSo.out _ hbn) (fun hHeld => ?_)
      clear hK K
      try simp only [Act.put, List.setIfInBounds_toArray, List.set_cons_zero, List.set_cons_succ]
      clear hbn
      refine wpAnyH_ready (rs := [4]) (by kernel_rfl) (by simp) ?_
      refine AllReadyH.cons (o := ?_) ?_ (fun K hK => ?_) ?_
      rotate_left
      (focus ((simp only [List.getElem?_toArray, List.getElem?_cons_succ, List.getElem?_cons_zero]); first | done | rfl))
      · skip
        go_simp
        go_at_call 16
        refine (rmark8_any D r _ (And.left (And.right hHeld)).dm Hm9.out).mono ?_
        rintro e w4 ⟨rfl, vv⟩
        rw [Hmk.out]
        have hbn : Below W0.heap.size W0 w4 := hHeld.1.trans (vv.mono hHeld.1.size)
        clear vv
        try go_wp2_with fail
        refine hK.out _ _ (HSo.out _ hbn) (fun hHeld => ?_)
        clear hK K
        try simp only [Act.put, List.setIfInBounds_toArray, List.set_cons_zero, List.set_cons_succ]
        clear hbn
        (refine wpAnyH_take (i := 5) (oi := ?_) (v := ?_) ?_ (by kernel_rfl) (by kernel_rfl) (by kernel_rfl) ?_ (Or.inl ⟨?_, ?_⟩) (by assumption) ?_; rotate_left 2; (focus ((simp only [List.getElem?_toArray, List.getElem?_cons_succ, List.getElem?_cons_zero]); first | done | rfl)); (focus (exact fun _ _ _ h => h)); (focus rfl); (focus (intro wz hSw; (try dsimp only at hSw); go_simp; first | done | with_reducible rfl)); try simp only [Act.put, List.setIfInBounds_toArray, List.set_cons_zero, List.set_cons_succ])
        (refine wpAnyH_take (i := 6) (oi := ?_) (v := ?_) ?_ (by kernel_rfl) (by kernel_rfl) (by kernel_rfl) ?_ (Or.inl ⟨?_, ?_⟩) (by assumption) ?_; rotate_left 2; (focus ((simp only [List.getElem?_toArray, List.getElem?_cons_succ, List.getElem?_cons_zero]); first | done | rfl)); (focus (exact fun _ _ _ h => h)); (focus rfl); (focus (intro wz hSw; (try dsimp only at hSw); go_simp; first | done | with_reducible rfl)); try simp only [Act.put, List.setIfInBounds_toArray, List.set_cons_zero, List.set_cons_succ])
        refine wpAnyH_done (by kernel_rfl) ?_ _
        have HF := Lib.hid (HFw.out _ hHeld.1)
        clear hHeld
        go_wp2_with fail
        go_ret
        exact ⟨by rw [Hh.out]; simp [hm0], HF.out⟩
      exact AllReadyH.nil
    exact AllReadyH.nil
  · have hm1 : mk < 0 := by omega
    refine wp_region_held_drew (S := fun W' => Below W0.heap.size W0 W' ∧ DBx W' b0 D ∧ True) (by kernel_rfl) (HSo.out _ (Below.refl _ _).drew) (fun hHeld => ?_)
    (refine wpAnyH_take (i := 0) (oi := ?_) (v := .agg D.cD) ?_ (by kernel_rfl) (by kernel_rfl) (by kernel_rfl) ?_ (Or.inl ⟨?_, ?_⟩) (by assumption) ?_; rotate_left; (focus ((simp only [List.getElem?_toArray, List.getElem?_cons_zero]); first | done | rfl)); (focus (exact fun _ _ _ h => h)); (focus rfl); (focus (intro wz hSw; exact exec_load_any9 (o := _) (ρ := _) wz 26 (.tmp 2) rfl ⟨b0, 0, none⟩ rfl D.cD _ (DBx.st (And.left (And.right hSw))).part Try.underlying26 rfl (DBx.dm (And.left (And.right hSw))).info)); try simp only [Act.put, List.setIfInBounds_toArray, List.set_cons_zero, List.set_cons_succ])
    (refine wpAnyH_take (i := 1) (oi := ?_) (v := .agg D.cD) ?_ (by kernel_rfl) (by kernel_rfl) (by kernel_rfl) ?_ (Or.inl ⟨?_, ?_⟩) (by assumption) ?_; rotate_left; (focus ((simp only [List.getElem?_toArray, List.getElem?_cons_succ, List.getElem?_cons_zero]); first | done | rfl)); (focus (exact fun _ _ _ h => h)); (focus rfl); (focus (intro wz hSw; exact exec_load_any9 (o := _) (ρ := _) wz 26 (.tmp 2) rfl ⟨b0, 0, none⟩ rfl D.cD _ (DBx.st (And.left (And.right hSw))).part Try.underlying26 rfl (DBx.dm (And.left (And.right hSw))).info)); try simp only [Act.put, List.setIfInBounds_toArray, List.set_cons_zero, List.set_cons_succ])
    (refine wpAnyH_take (i := 2) (oi := ?_) (v := ?_) ?_ (by kernel_rfl) (by kernel_rfl) (by kernel_rfl) ?_ (Or.inl ⟨?_, ?_⟩) (by assumption) ?_; rotate_left 2; (focus ((simp only [List.getElem?_toArray, List.getElem?_cons_succ, List.getElem?_cons_zero]); first | done | rfl)); (focus (exact fun _ _ _ h => h)); (focus rfl); (focus (intro wz hSw; (try dsimp only at hSw); go_simp; first | done | with_reducible rfl)); try simp only [Act.put, List.setIfInBounds_toArray, List.set_cons_zero, List.set_cons_succ])
    refine wpAnyH_ready (rs := [3]) (by kernel_rfl) (by simp) ?_
    refine AllReadyH.cons (o := ?_) ?_ (fun K hK => ?_) ?_
    rotate_left
    (focus ((simp only [List.getElem?_toArray, List.getElem?_cons_succ, List.getElem?_cons_zero]); first | done | rfl))
    · skip
      go_simp
      go_at_call 17
      refine (rrun8_any D _ HR.out.1 0 s _ rfl HR.out.2 _ (And.left (And.right hHeld)).dm).mono ?_
      rintro e w3 ⟨rfl, vv⟩
      rw [Hr.out]
      have hbn : Below W0.heap.size W0 w3 := hHeld.1.trans (vv.mono hHeld.1.size)
      clear vv
      try go_wp2_with fail
      refine hK.out _ _ (HSo.out _ hbn) (fun hHeld => ?_)
      clear hK K
      try simp only [Act.put, List.setIfInBounds_toArray, List.set_cons_zero, List.set_cons_succ]
      clear hbn
      refine wpAnyH_ready (rs := [4]) (by kernel_rfl) (by simp) ?_
      refine AllReadyH.cons (o := ?_) ?_ (fun K hK => ?_) ?_
      rotate_left
      (focus ((simp only [List.getElem?_toArray, List.getElem?_cons_succ, List.getElem?_cons_zero]); first | done | rfl))
      · skip
        go_simp
        go_at_call 16
        refine (rmark8_any D r _ (And.left (And.right hHeld)).dm Hm9.out).mono ?_
        rintro e w4 ⟨rfl, vv⟩
        rw [Hmk.out]
        have hbn : Below W0.heap.size W0 w4 := hHeld.1.trans (vv.mono hHeld.1.size)
        clear vv
        try go_wp2_with fail
        refine hK.out _ _ (HSo.out _ hbn) (fun hHeld => ?_)
        clear hK K
        try simp only [Act.put, List.setIfInBounds_toArray, List.set_cons_zero, List.set_cons_succ]
        clear hbn
        (refine wpAnyH_take (i := 5) (oi := ?_) (v := ?_) ?_ (by kernel_rfl) (by kernel_rfl) (by kernel_rfl) ?_ (Or.inl ⟨?_, ?_⟩) (by assumption) ?_; rotate_left 2; (focus ((simp only [List.getElem?_toArray, List.getElem?_cons_succ, List.getElem?_cons_zero]); first | done | rfl)); (focus (exact fun _ _ _ h => h)); (focus rfl); (focus (intro wz hSw; (try dsimp only at hSw); go_simp; first | done | with_reducible rfl)); try simp only [Act.put, List.setIfInBounds_toArray, List.set_cons_zero, List.set_cons_succ])
        (refine wpAnyH_take (i := 6) (oi := ?_) (v := ?_) ?_ (by kernel_rfl) (by kernel_rfl) (by kernel_rfl) ?_ (Or.inl ⟨?_, ?_⟩) (by assumption) ?_; rotate_left 2; (focus ((simp only [List.getElem?_toArray, List.getElem?_cons_succ, List.getElem?_cons_zero]); first | done | rfl)); (focus (exact fun _ _ _ h => h)); (focus rfl); (focus (intro wz hSw; (try dsimp only at hSw); go_simp; first | done | with_reducible rfl)); try simp only [Act.put, List.setIfInBounds_toArray, List.set_cons_zero, List.set_cons_succ])
        refine wpAnyH_done (by kernel_rfl) ?_ _
        have HF := Lib.hid (HFw.out _ hHeld.1)
        clear hHeld
        go_wp2_with fail
        go_ret
        exact ⟨by rw [Hh.out]; simp [hm0], HF.out⟩
      exact AllReadyH.nil
    exact AllReadyH.nil
end Go.Proofs.Ytohgbkajnhgnaaa

namespace Go.Proofs.Ytohgbkajnhgnaaa
open Go.RowKit Go.Maps Go.WideElems Go.ChangeMaps Go.MapKept
set_option linter.unusedVariables false
set_option linter.unusedSimpArgs false

theorem hasF_list (D : Dd) (l : List Nat) (hl : ∀ b ∈ l, b < 256) : hasF D (strOf l) = decide (0 ≤ markF D (runL D l)) := by
  unfold hasF
  rw [strOf_size, runL_runF]
  congr 3
  refine runF_congr D 0 _ _ l.length (fun j hj => ?_)
  rw [zof_strOf l hl j hj, List.getD_eq_getElem?_getD, List.getElem?_eq_getElem hj]
  rfl
/-- A text, as a list of its bytes. -/
def bytesL (s : ByteArray) : List Nat := (List.range s.size).map (zof s)
theorem bytesL_lt (s : ByteArray) : ∀ b ∈ bytesL s, b < 256 := by
  intro b hb
  obtain ⟨j, _, rfl⟩ := List.mem_map.1 hb
  exact zof_lt s j
theorem hasF_bytes (D : Dd) (s : ByteArray) : hasF D s = decide (0 ≤ markF D (runL D (bytesL s))) := by
  unfold hasF
  rw [runL_runF]
  have e : (bytesL s).length = s.size := by simp [bytesL]
  rw [e]
  congr 3
  refine runF_congr D 0 _ _ s.size (fun j hj => ?_)
  simp [bytesL, List.getD_eq_getElem?_getD, hj]
/-! ### What the answers mean -/
theorem togL_has (how : Int) (A B : Dd) (l : List Nat) (hl : ∀ b ∈ l, b < 256) : togL how A B l = togF how (hasF A (strOf l)) (hasF B (strOf l)) := by
  unfold togL
  rw [hasF_list A l hl, hasF_list B l hl]
theorem togL_bytes (how : Int) (A B : Dd) (s : ByteArray) : togL how A B (bytesL s) = togF how (hasF A s) (hasF B s) := by
  unfold togL
  rw [hasF_bytes, hasF_bytes]
theorem togF_xor (a b : Bool) : togF 3 a b = (a != b) := rfl
theorem togF_less (a b : Bool) : togF 2 a b = (a && !b) := rfl
/-- The same texts just if each has all of the other one's. -/
theorem same_within (A B : Dd) : (∀ l : List Nat, (∀ b ∈ l, b < 256) → togL 3 A B l = false) ↔ (∀ l : List Nat, (∀ b ∈ l, b < 256) → togL 2 A B l = false) ∧ ∀ l : List Nat, (∀ b ∈ l, b < 256) → togL 2 B A l = false := by
  constructor
  · intro h
    refine ⟨fun l hl => ?_, fun l hl => ?_⟩
    · have := h l hl
      unfold togL at this ⊢
      rw [togF_xor] at this
      rw [togF_less]
      revert this
      generalize decide (0 ≤ markF A (runL A l)) = a
      generalize decide (0 ≤ markF B (runL B l)) = b
      cases a <;> cases b <;> decide
    · have := h l hl
      unfold togL at this ⊢
      rw [togF_xor] at this
      rw [togF_less]
      revert this
      generalize decide (0 ≤ markF A (runL A l)) = a
      generalize decide (0 ≤ markF B (runL B l)) = b
      cases a <;> cases b <;> decide
  · rintro ⟨h1, h2⟩ l hl
    have e1 := h1 l hl
    have e2 := h2 l hl
    unfold togL at e1 e2 ⊢
    rw [togF_less] at e1 e2
    rw [togF_xor]
    revert e1 e2
    generalize decide (0 ≤ markF A (runL A l)) = a
    generalize decide (0 ≤ markF B (runL B l)) = b
    cases a <;> cases b <;> decide
/-- No text is of one alone. -/
theorem self_none (A : Dd) (l : List Nat) : togL 3 A A l = false := by
  unfold togL
  rw [togF_xor]
  simp
end Go.Proofs.Ytohgbkajnhgnaaa

namespace Go.Proofs.Ytohgbkajnhgnaaa
open Go.RowKit Go.Maps Go.WideElems Go.ChangeMaps Go.MapKept
set_option linter.unusedVariables false
set_option linter.unusedSimpArgs false

/-! ### The example of law 10 -/
def exK10 (j : Nat) : Nat := if j = 97 then 1 else if j = 98 then 2 else if j = 99 then 3 else 0
def exN10 (i c : Nat) : Int := if i = 0 ∧ c = 1 then 1 else if i = 0 ∧ c = 2 then 2 else if i = 2 ∧ c = 3 then 1 else -1
structure Ex10 (D : Dd) : Prop where
  K : ∀ j, j < 256 → D.K j = exK10 j
  n : D.n = 3
  nx : ∀ i c, i < 3 → c < 4 → D.nx i c = exN10 i c
  q : ∀ i, i < 3 → D.q i = if i = 1 then 5 else -1
theorem exK10_lt (j : Nat) : exK10 j < 4 := by
  unfold exK10
  by_cases e1 : j = 97
  · rw [if_pos e1]; omega
  · rw [if_neg e1]
    by_cases e2 : j = 98
    · rw [if_pos e2]; omega
    · rw [if_neg e2]
      by_cases e3 : j = 99
      · rw [if_pos e3]; omega
      · rw [if_neg e3]; omega
theorem Ex10.step {D : Dd} (h : Ex10 D) (i x : Nat) (hi : i < 3) (hx : x < 256) : stepF D ((i : Nat) : Int) x = exN10 i (exK10 x) := by
  have hn := h.n
  unfold stepF
  rw [if_pos (by omega), Int.toNat_natCast, h.K x hx, h.nx i _ hi (exK10_lt x)]
theorem Ex10.mark {D : Dd} (h : Ex10 D) (i : Nat) (hi : i < 3) : markF D ((i : Nat) : Int) = if i = 1 then 5 else -1 := by
  have hn := h.n
  unfold markF
  rw [if_pos (by omega), Int.toNat_natCast, h.q i hi]
theorem Ex10.a_in {D : Dd} (h : Ex10 D) : 0 ≤ markF D (runL D [97]) := by
  have e : runL D [97] = ((1 : Nat) : Int) := by
    show stepF D 0 97 = _
    have := h.step 0 97 (by omega) (by omega)
    exact this.trans (by decide)
  rw [e, h.mark 1 (by omega)]
  decide
theorem Ex10.short {D : Dd} (h : Ex10 D) {l : List Nat} (hl : ShoF D l) : l = [97] := by
  obtain ⟨h1, h2, h3⟩ := hl
  have h4 := h3 [97] (by simp) h.a_in
  match l, h4 with
  | [], _ =>
    have : runL D [] = ((0 : Nat) : Int) := rfl
    rw [this, h.mark 0 (by omega)] at h2
    exact absurd h2 (by decide)
  | [x], _ =>
    have hx : x < 256 := h1 x (by simp)
    have e : runL D [x] = exN10 0 (exK10 x) := h.step 0 x (by omega) hx
    rw [e] at h2
    by_cases e1 : x = 97
    · rw [e1]
    · by_cases e2 : x = 98
      · have e3 : exN10 0 (exK10 x) = ((2 : Nat) : Int) := by rw [e2]; decide
        rw [e3, h.mark 2 (by omega)] at h2
        exact absurd h2 (by decide)
      · have e3 : exN10 0 (exK10 x) = -1 := by
          unfold exK10
          rw [if_neg e1, if_neg e2]
          split <;> decide
        rw [e3, markF_dead] at h2
        exact absurd h2 (by decide)
  | x :: y :: l, h4 => simp at h4
end Go.Proofs.Ytohgbkajnhgnaaa

namespace Go.Proofs.Ytohgbkajnhgnaaa
open Go.RowKit Go.Maps Go.WideElems Go.ChangeMaps Go.MapKept
set_option linter.unusedVariables false
set_option linter.unusedSimpArgs false

/-! ### The example, trimmed and put in order, is itself -/
theorem Ex10.isC {D : Dd} (h : Ex10 D) : IsC D.K 4 := ⟨fun j hj => by rw [h.K j hj]; exact exK10_lt j, 99, by omega, by rw [h.K 99 (by omega)]; rfl⟩
theorem Ex10.ed {D : Dd} (h : Ex10 D) (hR : DR D 4) (i c t : Nat) (hi : i < 3) (hc : c < 4) (ht : exN10 i c = ((t : Nat) : Int)) : Ed D i t := by
  have hn := h.n
  exact ⟨by omega, c, by rw [hR.len i (by omega)]; exact hc, by rw [h.nx i c hi hc]; exact ht⟩
theorem Ex10.alv {D : Dd} (h : Ex10 D) (hR : DR D 4) (i : Nat) (hi : i < 3) : Alv D i := by
  have h1 : Alv D 1 := ⟨1, Rch.base rfl, by rw [h.q 1 (by omega)]; decide⟩
  match i, hi with
  | 0, _ => exact Alv.of (h.ed hR 0 1 1 (by omega) (by omega) rfl) h1
  | 1, _ => exact h1
  | 2, _ => exact Alv.of (h.ed hR 2 3 1 (by omega) (by omega) rfl) h1
theorem exN10_lt : ∀ i, i < 3 → ∀ c, c < 4 → exN10 i c = -1 ∨ (0 ≤ exN10 i c ∧ exN10 i c < 3) := by decide
theorem Ex10.trim {D D1 : Dd} (h : Ex10 D) (hR : DR D 4) (hF : DfF D 4 D.n (trF D) D.q D1) : Ex10 D1 := by
  obtain ⟨e1, e2, e3, e4, e5, e6⟩ := hF
  have hn := h.n
  refine ⟨fun j hj => by rw [e1]; exact h.K j hj, by omega, fun i c hi hc => ?_, fun i hi => by rw [e6 i (by omega)]; exact h.q i hi⟩
  rw [e5 i (by omega) c hc]
  unfold trF
  rw [h.nx i c hi hc, if_neg]
  rintro ⟨h0, h1⟩
  have := exN10_lt i hi c hc
  exact h1 (h.alv hR _ (by omega))
theorem Ex10.row {D : Dd} (h : Ex10 D) (hR : DR D 4) (i : Nat) (hi : i < 3) : rowsF D.len D.nx i = [exN10 i 0, exN10 i 1, exN10 i 2, exN10 i 3] := by
  have hn := h.n
  unfold rowsF
  rw [hR.len i (by omega)]
  show [D.nx i 0, D.nx i 1, D.nx i 2, D.nx i 3] = _
  rw [h.nx i 0 hi (by omega), h.nx i 1 hi (by omega), h.nx i 2 hi (by omega), h.nx i 3 hi (by omega)]
theorem Ex10.wk {D : Dd} (h : Ex10 D) (hR : DR D 4) {k : Nat} (hk : (wkN (rowsF D.len D.nx) [0] k).length = k) : k = 3 ∧ wkN (rowsF D.len D.nx) [0] k = [0, 1, 2] := by
  have w1 : wkN (rowsF D.len D.nx) [0] 1 = [0, 1, 2] := by
    show addR [0] (rowsF D.len D.nx 0) = _
    rw [h.row hR 0 (by omega)]
    decide
  have w2 : wkN (rowsF D.len D.nx) [0] 2 = [0, 1, 2] := by
    show wkS (rowsF D.len D.nx) (wkN (rowsF D.len D.nx) [0] 1) 1 = _
    rw [w1]
    show addR [0, 1, 2] (rowsF D.len D.nx 1) = _
    rw [h.row hR 1 (by omega)]
    decide
  have w3 : wkN (rowsF D.len D.nx) [0] 3 = [0, 1, 2] := by
    show wkS (rowsF D.len D.nx) (wkN (rowsF D.len D.nx) [0] 2) 2 = _
    rw [w2]
    show addR [0, 1, 2] (rowsF D.len D.nx 2) = _
    rw [h.row hR 2 (by omega)]
    decide
  have hk3 : k = 3 := by
    by_cases h3 : 3 ≤ k
    · have := wkN_stay (rowsF D.len D.nx) [0] (k := 3) (by rw [w3]; rfl) k h3
      rw [this, w3] at hk
      exact hk.symm
    · match k, h3, hk with
      | 0, _, hk => exact absurd hk (by show ¬ (([0] : List Nat).length = 0); decide)
      | 1, _, hk => rw [w1] at hk; exact absurd hk (by show ¬ (([0, 1, 2] : List Nat).length = 1); decide)
      | 2, _, hk => rw [w2] at hk; exact absurd hk (by show ¬ (([0, 1, 2] : List Nat).length = 2); decide)
      | k + 3, h3, _ => exact absurd (by omega) h3
  subst hk3
  exact ⟨rfl, w3⟩
theorem ex10_ord : ∀ i, i < 3 → ∀ c, c < 4 → plF [0, 1, 2] (exN10 (([0, 1, 2] : List Nat).getD i 0) c) = exN10 i c := by decide
theorem ex10_get : ∀ i, i < 3 → ([0, 1, 2] : List Nat).getD i 0 = i := by decide
theorem Ex10.order {D D1 : Dd} (h : Ex10 D) (hR : DR D 4) {k : Nat} (hk : (wkN (rowsF D.len D.nx) [0] k).length = k)
    (hF : DfF D 4 k (ordF D (wkN (rowsF D.len D.nx) [0] k)) (fun i => D.q ((wkN (rowsF D.len D.nx) [0] k).getD i 0)) D1) : Ex10 D1 := by
  obtain ⟨k3, hw⟩ := h.wk hR hk
  rw [hw] at hF
  obtain ⟨e1, e2, e3, e4, e5, e6⟩ := hF
  refine ⟨fun j hj => by rw [e1]; exact h.K j hj, by omega, fun i c hi hc => ?_, fun i hi => ?_⟩
  · rw [e5 i (by omega) c hc]
    unfold ordF
    have hg := ex10_get i hi
    have ho := ex10_ord i hi c hc
    rw [hg] at ho ⊢
    rw [h.nx i c hi hc]
    exact ho
  · rw [e6 i (by omega)]
    show D.q (([0, 1, 2] : List Nat).getD i 0) = _
    rw [ex10_get i hi]
    exact h.q i hi
end Go.Proofs.Ytohgbkajnhgnaaa
