import Derived.Test.YtohgbkajnhgnaaaZLMk
import Derived.Test.YtohgbkajnhgnaaaZLMkr
namespace Go.Proofs.Ytohgbkajnhgnaaa
open Go.RowKit Go.Maps Go.WideElems Go.ChangeMaps Go.MapKept
set_option linter.unusedVariables false
set_option linter.unusedSimpArgs false

theorem Try.info_pair9 : (Try.prog.info? 72).map (fun i => (i.zero, i.size, i.bytes)) = some (some (.agg #[.int .i64 0, .int .i64 0]), 2, 16) := by kernel_rfl
/-- The blocks that a call may change. -/
def mblk (bm bM : Nat) (vT vK : Value) : List Nat := bm :: bM :: (vT.ownBlock.toList ++ vK.ownBlock.toList)
theorem mblk_bm {bm bM : Nat} {vT vK : Value} : bm ∈ mblk bm bM vT vK := by simp [mblk]
theorem mblk_bM {bm bM : Nat} {vT vK : Value} : bM ∈ mblk bm bM vT vK := by simp [mblk]
theorem mblk_T {bm bM b : Nat} {vT vK : Value} (h : vT.ownBlock = some b) : b ∈ mblk bm bM vT vK := by simp [mblk, h]
theorem mblk_K {bm bM b : Nat} {vT vK : Value} (h : vK.ownBlock = some b) : b ∈ mblk bm bM vT vK := by simp [mblk, h]
/-- What the number of a pair is. -/
def NumR (met : List (Int × Int)) (p : Int × Int) (met' : List (Int × Int)) (r : Int) : Prop :=
  ((p.1 = -1 ∧ p.2 = -1) ∧ r = -1 ∧ met' = met) ∨ (¬ (p.1 = -1 ∧ p.2 = -1) ∧ ∃ i : Nat, r = ((i : Nat) : Int) ∧ met'[i]? = some p ∧ (met' = met ∨ (p ∉ met ∧ met' = met ++ [p])))
def NumP (W0 : World) (A B : Dd) (how : Int) (bm bM : Nat) (lt : List Nat) (vL : Value) (Kc : Nat → Nat) (met : List (Int × Int)) (vT : Value) (R : List (List Int)) (vN : Value) (ws : Nat → Value) (vK : Value) (p : Int × Int) (w : World) (e : Ending) (w' : World) : Prop :=
  ∃ (met' : List (Int × Int)) (vT' vK' : Value) (cs' : Array Value) (r : Int), e = .returned (.int .i64 r) ∧ Mk3 W0 A B how bm bM lt vL Kc met' met' met' vT' R vN ws vK' cs' w' ∧ Kept [] (mblk bm bM vT vK) w w' ∧ (∀ b, vK'.ownBlock = some b → vK.ownBlock = some b ∨ w.heap.size ≤ b) ∧ (∀ b, vT'.ownBlock = some b → vT.ownBlock = some b ∨ w.heap.size ≤ b) ∧ w.heap.size ≤ w'.heap.size ∧ NumR met p met' r

set_option maxHeartbeats 2000000 in
set_option maxRecDepth 100000 in
theorem number_any (W0 : World) (A B : Dd) (CA CB : Nat) (hA : DR A CA) (hB : DR B CB) (hdA : DM W0 A) (hdB : DM W0 B) (how : Int) (bm bM : Nat) (lt : List Nat) (vL : Value) (Kc : Nat → Nat) (met : List (Int × Int)) (q : Nat) (hq : met.length = q) (hq2 : q ≤ 1000000) (vT : Value) (R : List (List Int)) (vN : Value) (ws : Nat → Value) (vK : Value) (cs : Array Value) (p : Int × Int) (hp : Prb A B p) (w : World)
    (h : Mk3 W0 A B how bm bM lt vL Kc met met met vT R vN ws vK cs w) :
    Calls Try.prog 45 #[.pointer (some ⟨bm, 0, none⟩), prv p] w (NumP W0 A B how bm bM lt vL Kc met vT R vN ws vK p w) := by
  obtain ⟨iI, hI, hI0, hI1, hI2⟩ := info_parts Try.info_int9
  obtain ⟨iP, hP, hP0, hP1, hP2⟩ := info_parts Try.info_pair9
  have ha2 := hA.n2
  have hb2 := hB.n2
  obtain ⟨⟨hp1, hp2⟩, hp3, hp4⟩ := hp
  have HAB := Lib.hid (And.intro hA (And.intro hB (And.intro hdA (And.intro hdB hq))))
  have kb := al w (.cells #[.int .i64 p.1, .int .i64 p.2] 72)
  have HB : Hid (Mk3 W0 A B how bm bM lt vL Kc met met met vT R vN ws vK cs (w.alloc (.cells #[.int .i64 p.1, .int .i64 p.2] 72)) ∧ St (w.alloc (.cells #[.int .i64 p.1, .int .i64 p.2] 72)) 72 w.heap.size #[.int .i64 p.1, .int .i64 p.2] ∧ Below w.heap.size w (w.alloc (.cells #[.int .i64 p.1, .int .i64 p.2] 72))) := ⟨h.keep kb, St.new _ _ _, kb⟩
  obtain ⟨aT, cT, rfl⟩ := ownsRow_slice h.mets
  obtain ⟨aK, cK, rfl⟩ := ownsRow_slice h.mks
  have hTlt : Hid (∀ b, (Value.slice aT met.length cT).ownBlock = some b → b < w.heap.size) := fun b e => own_lt9 h.mets b e
  have hKlt : Hid (∀ b, (Value.slice aK met.length cK).ownBlock = some b → b < w.heap.size) := fun b e => own_lt9 h.mks b e
  rw [hq] at HB hTlt hKlt
  rw [hq]
  clear h kb hA hB hdA hdB hq
  unfold prv
  go_enter Try.func45, Try.ntmps45
  go_upto_region 1 with fail
  generalize w.alloc (.cells #[.int .i64 p.1, .int .i64 p.2] 72) = W1 at HB ⊢
  obtain ⟨b3, hb3⟩ : ∃ b3, w.heap.size = b3 := ⟨_, rfl⟩
  have Hb3 := Lib.hid hb3
  rw [hb3] at HB hTlt hKlt
  rw [hb3]
  clear hb3
  have HFw : Hid (∀ W', Kept [] (mblk bm bM (.slice aT q cT) (.slice aK q cK)) W1 W' → W1.heap.size ≤ W'.heap.size → Kept [] (mblk bm bM (.slice aT q cT) (.slice aK q cK)) w W' ∧ w.heap.size ≤ W'.heap.size) := fun W' h hs => by
    have h1 := (Kept.refl [] (mblk bm bM (.slice aT q cT) (.slice aK q cK)) w).below (by rw [Hb3.out]; exact HB.out.2.2)
    have h2 := HB.out.2.2.size
    exact ⟨h1.trans h, by have := Hb3.out; omega⟩
  obtain ⟨p1, e1⟩ : ∃ p1, p.1 = p1 := ⟨_, rfl⟩
  obtain ⟨p2, e2⟩ : ∃ p2, p.2 = p2 := ⟨_, rfl⟩
  have He := Lib.hid (And.intro e1 e2)
  rw [e1] at hp1 hp2 HB
  rw [e2] at hp3 hp4 HB
  rw [e1, e2]
  clear e1 e2
  have q0 := HB.out.2.1.at_ 0
  have q1 := HB.out.2.1.at_ 1
  by_cases hd : p1 = -1 ∧ p2 = -1
  · obtain ⟨rfl, rfl⟩ := hd
    have HF : Hid (NumP W0 A B how bm bM lt vL Kc met (.slice aT q cT) R vN ws (.slice aK q cK) p w (.returned (.int .i64 (-1))) W1) := by
      obtain ⟨h1, h2⟩ := HFw.out W1 (Kept.refl _ _ _) (Nat.le_refl _)
      exact ⟨met, _, _, _, -1, rfl, HB.out.1, h1, fun b e => Or.inl e, fun b e => Or.inl e, h2, Or.inl ⟨⟨He.out.1, He.out.2⟩, rfl, rfl⟩⟩
    go_wp2_with fail
    go_ret
    exact HF.out
  have Hnd : Hid (¬ (p.1 = -1 ∧ p.2 = -1)) := by rw [He.out.1, He.out.2]; exact hd
  go_cut [14] from 7 to 14 (fun v wx => v = .bool false ∧ wx = W1)
  case first =>
    by_cases h1 : p1 = -1
    · have h2 : ¬ p2 = -1 := fun h => hd ⟨h1, h⟩
      subst h1
      clear hd
      have h3 : (p2 == -1) = false := by simpa using h2
      go_wp2_with fail
      go_meet
      exact ⟨rfl, rfl⟩
    · clear hd
      go_wp2_with fail
      go_meet
      exact ⟨rfl, rfl⟩
  case rest =>
    obtain ⟨rfl, rfl⟩ := hcut
    clear q0 q1 hd
    have HMd : Hid (Mk3 W0 A B how bm bM lt vL Kc met met met (.slice aT q cT) R vN ws (.slice aK q cK) cs wc.drew) := HB.out.1.keep (Below.refl _ _).drew
    have HSd : Hid (St wc.drew 72 b3 #[.int .i64 p1, .int .i64 p2]) := HB.out.2.1.keep (Below.refl _ _).drew
    have hlk := HMd.out.look p (by rw [He.out.1]; omega) (by rw [He.out.2]; omega)
    have f5 : wc.drew.cell? ⟨bm, 519, none⟩ = some (.map (some bM)) := (HMd.out.st.at_ 519).trans HMd.out.c.hM
    unfold prv at hlk
    rw [He.out.1, He.out.2] at hlk
    go_upto_region 3 with fail
    rcases hlk with ⟨b, hb, hrun⟩ | ⟨hb, hrun⟩
    · have HF : Hid (NumP W0 A B how bm bM lt vL Kc met (.slice aT q cT) R vN ws (.slice aK q cK) p w (.returned (.int .i64 ((b : Nat) : Int))) wc.drew) := by
        obtain ⟨h1, h2⟩ := HFw.out wc.drew ((Kept.refl _ _ _).drew) (Nat.le_refl _)
        exact ⟨met, _, _, _, _, rfl, HMd.out, h1, fun b e => Or.inl e, fun b e => Or.inl e, h2, Or.inr ⟨Hnd.out, b, rfl, hb, Or.inl rfl⟩⟩
      clear hb
      refine wp_region_held_drew (S := fun W' => W'.cell? ⟨bm, 519, none⟩ = some (.map (some bM)) ∧ (∀ j v, (#[Value.int .i64 p1, .int .i64 p2] : Array Value).toList[j]? = some v → W'.cell? ((⟨b3, 0, none⟩ : Addr).add j) = some v) ∧ (Instr.lookup 74 (.map (some bM)) (.agg #[.int .i64 p1, .int .i64 p2]) true).run Try.prog W' = .ok (.tuple #[.int .i64 ((b : Nat) : Int), .bool true]) W') (by kernel_rfl) ⟨f5, HSd.out.part, hrun⟩ (fun hHeld => ?_)
      (refine wpAnyH_take (i := 0) (oi := ?_) (v := ?_) ?_ (by kernel_rfl) (by kernel_rfl) (by kernel_rfl) ?_ (Or.inl ⟨?_, ?_⟩) (by assumption) ?_; rotate_left 2; (focus ((simp only [List.getElem?_toArray, List.getElem?_cons_zero]); first | done | rfl)); (focus (exact fun _ _ _ h => h)); (focus rfl); (focus (intro wz hSw; (try dsimp only at hSw); go_simp; first | done | with_reducible rfl)); try simp only [Act.put, List.setIfInBounds_toArray, List.set_cons_zero, List.set_cons_succ])
      (refine wpAnyH_take (i := 1) (oi := ?_) (v := ?_) ?_ (by kernel_rfl) (by kernel_rfl) (by kernel_rfl) ?_ (Or.inl ⟨?_, ?_⟩) (by assumption) ?_; rotate_left 2; (focus ((simp only [List.getElem?_toArray, List.getElem?_cons_succ, List.getElem?_cons_zero]); first | done | rfl)); (focus (exact fun _ _ _ h => h)); (focus rfl); (focus (intro wz hSw; (try dsimp only at hSw); go_simp; first | done | with_reducible rfl)); try simp only [Act.put, List.setIfInBounds_toArray, List.set_cons_zero, List.set_cons_succ])
      (refine wpAnyH_take (i := 2) (oi := ?_) (v := ?_) ?_ (by kernel_rfl) (by kernel_rfl) (by kernel_rfl) ?_ (Or.inl ⟨?_, ?_⟩) (by assumption) ?_; rotate_left 2; (focus ((simp only [List.getElem?_toArray, List.getElem?_cons_succ, List.getElem?_cons_zero]); first | done | rfl)); (focus (exact fun _ _ _ h => h)); (focus rfl); (focus (intro wz hSw; (try dsimp only at hSw); go_simp; first | done | with_reducible rfl)); try simp only [Act.put, List.setIfInBounds_toArray, List.set_cons_zero, List.set_cons_succ])
      (refine wpAnyH_take (i := 3) (oi := ?_) (v := ?_) ?_ (by kernel_rfl) (by kernel_rfl) (by kernel_rfl) ?_ (Or.inl ⟨?_, ?_⟩) (by assumption) ?_; rotate_left 2; (focus ((simp only [List.getElem?_toArray, List.getElem?_cons_succ, List.getElem?_cons_zero]); first | done | rfl)); (focus (exact fun _ _ _ h => h)); (focus rfl); (focus (intro wz hSw; (try dsimp only at hSw); go_simp; first | done | with_reducible rfl)); try simp only [Act.put, List.setIfInBounds_toArray, List.set_cons_zero, List.set_cons_succ])
      (refine wpAnyH_take (i := 4) (oi := ?_) (v := .agg #[.int .i64 p1, .int .i64 p2]) ?_ (by kernel_rfl) (by kernel_rfl) (by kernel_rfl) ?_ (Or.inl ⟨?_, ?_⟩) (by assumption) ?_; rotate_left; (focus ((simp only [List.getElem?_toArray, List.getElem?_cons_succ, List.getElem?_cons_zero]); first | done | rfl)); (focus (exact fun _ _ _ h => h)); (focus rfl); (focus (intro wz hSw; exact exec_load_any9 (o := _) (ρ := _) wz 72 (.tmp 3) rfl ⟨b3, 0, none⟩ rfl #[.int .i64 p1, .int .i64 p2] _ (And.left (And.right hSw)) Try.underlying72 rfl (by kernel_rfl))); try simp only [Act.put, List.setIfInBounds_toArray, List.set_cons_zero, List.set_cons_succ])
      (refine wpAnyH_take (i := 5) (oi := ?_) (v := ?_) ?_ (by kernel_rfl) (by kernel_rfl) (by kernel_rfl) ?_ (Or.inl ⟨?_, ?_⟩) (by assumption) ?_; rotate_left 2; (focus ((simp only [List.getElem?_toArray, List.getElem?_cons_succ, List.getElem?_cons_zero]); first | done | rfl)); (focus (exact fun _ _ _ h => h)); (focus rfl); (focus (intro wz hSw; (try dsimp only at hSw); go_simp; first | done | with_reducible rfl)); try simp only [Act.put, List.setIfInBounds_toArray, List.set_cons_zero, List.set_cons_succ])
      (refine wpAnyH_take (i := 6) (oi := ?_) (v := ?_) ?_ (by kernel_rfl) (by kernel_rfl) (by kernel_rfl) ?_ (Or.inl ⟨?_, ?_⟩) (by assumption) ?_; rotate_left 2; (focus ((simp only [List.getElem?_toArray, List.getElem?_cons_succ, List.getElem?_cons_zero]); first | done | rfl)); (focus (exact fun _ _ _ h => h)); (focus rfl); (focus (intro wz hSw; (try dsimp only at hSw); go_simp; first | done | with_reducible rfl)); try simp only [Act.put, List.setIfInBounds_toArray, List.set_cons_zero, List.set_cons_succ])
      (refine wpAnyH_take (i := 7) (oi := ?_) (v := ?_) ?_ (by kernel_rfl) (by kernel_rfl) (by kernel_rfl) ?_ (Or.inl ⟨?_, ?_⟩) (by assumption) ?_; rotate_left 2; (focus ((simp only [List.getElem?_toArray, List.getElem?_cons_succ, List.getElem?_cons_zero]); first | done | rfl)); (focus (exact fun _ _ _ h => h)); (focus rfl); (focus (intro wz hSw; (try dsimp only at hSw); go_simp; first | done | with_reducible rfl)); try simp only [Act.put, List.setIfInBounds_toArray, List.set_cons_zero, List.set_cons_succ])
      (refine wpAnyH_take (i := 8) (oi := ?_) (v := ?_) ?_ (by kernel_rfl) (by kernel_rfl) (by kernel_rfl) ?_ (Or.inl ⟨?_, ?_⟩) (by assumption) ?_; rotate_left 2; (focus ((simp only [List.getElem?_toArray, List.getElem?_cons_succ, List.getElem?_cons_zero]); first | done | rfl)); (focus (exact fun _ _ _ h => h)); (focus rfl); (focus (intro wz hSw; (try dsimp only at hSw); go_simp; first | done | with_reducible rfl)); try simp only [Act.put, List.setIfInBounds_toArray, List.set_cons_zero, List.set_cons_succ])
      (refine wpAnyH_take (i := 9) (oi := ?_) (v := ?_) ?_ (by kernel_rfl) (by kernel_rfl) (by kernel_rfl) ?_ (Or.inl ⟨?_, ?_⟩) (by assumption) ?_; rotate_left 2; (focus ((simp only [List.getElem?_toArray, List.getElem?_cons_succ, List.getElem?_cons_zero]); first | done | rfl)); (focus (exact fun _ _ _ h => h)); (focus rfl); (focus (intro wz hSw; (try dsimp only at hSw); go_simp; first | done | with_reducible rfl)); try simp only [Act.put, List.setIfInBounds_toArray, List.set_cons_zero, List.set_cons_succ])
      (refine wpAnyH_take (i := 10) (oi := ?_) (v := ?_) ?_ (by kernel_rfl) (by kernel_rfl) (by kernel_rfl) ?_ (Or.inl ⟨?_, ?_⟩) (by assumption) ?_; rotate_left 2; (focus ((simp only [List.getElem?_toArray, List.getElem?_cons_succ, List.getElem?_cons_zero]); first | done | rfl)); (focus (exact fun _ _ _ h => h)); (focus rfl); (focus (intro wz hSw; (try dsimp only at hSw); go_simp; first | done | with_reducible rfl)); try simp only [Act.put, List.setIfInBounds_toArray, List.set_cons_zero, List.set_cons_succ])
      refine wpAnyH_done (by kernel_rfl) ?_ _
      clear hHeld f5 hrun
      go_wp2_with fail
      go_ret
      exact HF.out
    · have hml : met.length < maxLen := by rw [HAB.out.2.2.2.2]; unfold maxLen; omega
      have Hnb := Lib.hid hb
      refine wp_region_held_drew (S := fun W' => W'.cell? ⟨bm, 519, none⟩ = some (.map (some bM)) ∧ (∀ j v, (#[Value.int .i64 p1, .int .i64 p2] : Array Value).toList[j]? = some v → W'.cell? ((⟨b3, 0, none⟩ : Addr).add j) = some v) ∧ (Instr.lookup 74 (.map (some bM)) (.agg #[.int .i64 p1, .int .i64 p2]) true).run Try.prog W' = .ok (.tuple #[.int .i64 0, .bool false]) W') (by kernel_rfl) ⟨f5, HSd.out.part, hrun⟩ (fun hHeld => ?_)
      (refine wpAnyH_take (i := 0) (oi := ?_) (v := ?_) ?_ (by kernel_rfl) (by kernel_rfl) (by kernel_rfl) ?_ (Or.inl ⟨?_, ?_⟩) (by assumption) ?_; rotate_left 2; (focus ((simp only [List.getElem?_toArray, List.getElem?_cons_zero]); first | done | rfl)); (focus (exact fun _ _ _ h => h)); (focus rfl); (focus (intro wz hSw; (try dsimp only at hSw); go_simp; first | done | with_reducible rfl)); try simp only [Act.put, List.setIfInBounds_toArray, List.set_cons_zero, List.set_cons_succ])
      (refine wpAnyH_take (i := 1) (oi := ?_) (v := ?_) ?_ (by kernel_rfl) (by kernel_rfl) (by kernel_rfl) ?_ (Or.inl ⟨?_, ?_⟩) (by assumption) ?_; rotate_left 2; (focus ((simp only [List.getElem?_toArray, List.getElem?_cons_succ, List.getElem?_cons_zero]); first | done | rfl)); (focus (exact fun _ _ _ h => h)); (focus rfl); (focus (intro wz hSw; (try dsimp only at hSw); go_simp; first | done | with_reducible rfl)); try simp only [Act.put, List.setIfInBounds_toArray, List.set_cons_zero, List.set_cons_succ])
      (refine wpAnyH_take (i := 2) (oi := ?_) (v := ?_) ?_ (by kernel_rfl) (by kernel_rfl) (by kernel_rfl) ?_ (Or.inl ⟨?_, ?_⟩) (by assumption) ?_; rotate_left 2; (focus ((simp only [List.getElem?_toArray, List.getElem?_cons_succ, List.getElem?_cons_zero]); first | done | rfl)); (focus (exact fun _ _ _ h => h)); (focus rfl); (focus (intro wz hSw; (try dsimp only at hSw); go_simp; first | done | with_reducible rfl)); try simp only [Act.put, List.setIfInBounds_toArray, List.set_cons_zero, List.set_cons_succ])
      (refine wpAnyH_take (i := 3) (oi := ?_) (v := ?_) ?_ (by kernel_rfl) (by kernel_rfl) (by kernel_rfl) ?_ (Or.inl ⟨?_, ?_⟩) (by assumption) ?_; rotate_left 2; (focus ((simp only [List.getElem?_toArray, List.getElem?_cons_succ, List.getElem?_cons_zero]); first | done | rfl)); (focus (exact fun _ _ _ h => h)); (focus rfl); (focus (intro wz hSw; (try dsimp only at hSw); go_simp; first | done | with_reducible rfl)); try simp only [Act.put, List.setIfInBounds_toArray, List.set_cons_zero, List.set_cons_succ])
      (refine wpAnyH_take (i := 4) (oi := ?_) (v := .agg #[.int .i64 p1, .int .i64 p2]) ?_ (by kernel_rfl) (by kernel_rfl) (by kernel_rfl) ?_ (Or.inl ⟨?_, ?_⟩) (by assumption) ?_; rotate_left; (focus ((simp only [List.getElem?_toArray, List.getElem?_cons_succ, List.getElem?_cons_zero]); first | done | rfl)); (focus (exact fun _ _ _ h => h)); (focus rfl); (focus (intro wz hSw; exact exec_load_any9 (o := _) (ρ := _) wz 72 (.tmp 3) rfl ⟨b3, 0, none⟩ rfl #[.int .i64 p1, .int .i64 p2] _ (And.left (And.right hSw)) Try.underlying72 rfl (by kernel_rfl))); try simp only [Act.put, List.setIfInBounds_toArray, List.set_cons_zero, List.set_cons_succ])
      (refine wpAnyH_take (i := 5) (oi := ?_) (v := ?_) ?_ (by kernel_rfl) (by kernel_rfl) (by kernel_rfl) ?_ (Or.inl ⟨?_, ?_⟩) (by assumption) ?_; rotate_left 2; (focus ((simp only [List.getElem?_toArray, List.getElem?_cons_succ, List.getElem?_cons_zero]); first | done | rfl)); (focus (exact fun _ _ _ h => h)); (focus rfl); (focus (intro wz hSw; (try dsimp only at hSw); go_simp; first | done | with_reducible rfl)); try simp only [Act.put, List.setIfInBounds_toArray, List.set_cons_zero, List.set_cons_succ])
      (refine wpAnyH_take (i := 6) (oi := ?_) (v := ?_) ?_ (by kernel_rfl) (by kernel_rfl) (by kernel_rfl) ?_ (Or.inl ⟨?_, ?_⟩) (by assumption) ?_; rotate_left 2; (focus ((simp only [List.getElem?_toArray, List.getElem?_cons_succ, List.getElem?_cons_zero]); first | done | rfl)); (focus (exact fun _ _ _ h => h)); (focus rfl); (focus (intro wz hSw; (try dsimp only at hSw); go_simp; first | done | with_reducible rfl)); try simp only [Act.put, List.setIfInBounds_toArray, List.set_cons_zero, List.set_cons_succ])
      (refine wpAnyH_take (i := 7) (oi := ?_) (v := ?_) ?_ (by kernel_rfl) (by kernel_rfl) (by kernel_rfl) ?_ (Or.inl ⟨?_, ?_⟩) (by assumption) ?_; rotate_left 2; (focus ((simp only [List.getElem?_toArray, List.getElem?_cons_succ, List.getElem?_cons_zero]); first | done | rfl)); (focus (exact fun _ _ _ h => h)); (focus rfl); (focus (intro wz hSw; (try dsimp only at hSw); go_simp; first | done | with_reducible rfl)); try simp only [Act.put, List.setIfInBounds_toArray, List.set_cons_zero, List.set_cons_succ])
      (refine wpAnyH_take (i := 8) (oi := ?_) (v := ?_) ?_ (by kernel_rfl) (by kernel_rfl) (by kernel_rfl) ?_ (Or.inl ⟨?_, ?_⟩) (by assumption) ?_; rotate_left 2; (focus ((simp only [List.getElem?_toArray, List.getElem?_cons_succ, List.getElem?_cons_zero]); first | done | rfl)); (focus (exact fun _ _ _ h => h)); (focus rfl); (focus (intro wz hSw; (try dsimp only at hSw); go_simp; first | done | with_reducible rfl)); try simp only [Act.put, List.setIfInBounds_toArray, List.set_cons_zero, List.set_cons_succ])
      (refine wpAnyH_take (i := 9) (oi := ?_) (v := ?_) ?_ (by kernel_rfl) (by kernel_rfl) (by kernel_rfl) ?_ (Or.inl ⟨?_, ?_⟩) (by assumption) ?_; rotate_left 2; (focus ((simp only [List.getElem?_toArray, List.getElem?_cons_succ, List.getElem?_cons_zero]); first | done | rfl)); (focus (exact fun _ _ _ h => h)); (focus rfl); (focus (intro wz hSw; (try dsimp only at hSw); go_simp; first | done | with_reducible rfl)); try simp only [Act.put, List.setIfInBounds_toArray, List.set_cons_zero, List.set_cons_succ])
      (refine wpAnyH_take (i := 10) (oi := ?_) (v := ?_) ?_ (by kernel_rfl) (by kernel_rfl) (by kernel_rfl) ?_ (Or.inl ⟨?_, ?_⟩) (by assumption) ?_; rotate_left 2; (focus ((simp only [List.getElem?_toArray, List.getElem?_cons_succ, List.getElem?_cons_zero]); first | done | rfl)); (focus (exact fun _ _ _ h => h)); (focus rfl); (focus (intro wz hSw; (try dsimp only at hSw); go_simp; first | done | with_reducible rfl)); try simp only [Act.put, List.setIfInBounds_toArray, List.set_cons_zero, List.set_cons_succ])
      refine wpAnyH_done (by kernel_rfl) ?_ _
      clear hHeld hrun
      have f4 : wc.drew.cell? ⟨bm, 518, none⟩ = some (.slice aT q cT) := (HMd.out.st.at_ 518).trans HMd.out.c.hT
      go_upto_region 6 with fail
      clear f4
      generalize hW6 : wc.drew = W6 at f5 HMd HSd ⊢
      have HW6 : Hid (∀ W', Kept [] (mblk bm bM (.slice aT q cT) (.slice aK q cK)) W6 W' → W6.heap.size ≤ W'.heap.size → Kept [] (mblk bm bM (.slice aT q cT) (.slice aK q cK)) w W' ∧ w.heap.size ≤ W'.heap.size) := fun W' h hs => HFw.out W' ((show Kept [] (mblk bm bM (.slice aT q cT) (.slice aK q cK)) wc W6 by rw [← hW6]; exact (Kept.refl _ _ _).drew).trans h) (by have e : wc.drew.heap.size = wc.heap.size := rfl; rw [hW6] at e; omega)
      clear hW6 f5
      have HMe : Hid (Mk3 W0 A B how bm bM lt vL Kc met met met (.slice aT q cT) R vN ws (.slice aK q cK) cs W6.drew) := HMd.out.keep (Below.refl _ _).drew
      have HSe : Hid (St W6.drew 72 b3 #[.int .i64 p1, .int .i64 p2]) := HSd.out.keep (Below.refl _ _).drew
      have f5 : W6.drew.cell? ⟨bm, 519, none⟩ = some (.map (some bM)) := (HMe.out.st.at_ 519).trans HMe.out.c.hM
      obtain ⟨w7, hup, hM7, hg7⟩ := HMe.out.put p (by rw [He.out.1]; omega) (by rw [He.out.2]; omega) hml Hnb.out
      unfold prv at hup
      rw [He.out.1, He.out.2, HAB.out.2.2.2.2] at hup
      have HM7 := Lib.hid hM7
      have HS7 : Hid (St w7 72 b3 #[.int .i64 p1, .int .i64 p2]) := HSe.out.grown_map HMe.out.map.ex.of hg7
      have f57 : w7.cell? ⟨bm, 519, none⟩ = some (.map (some bM)) := (hM7.st.at_ 519).trans hM7.c.hM
      have HW7 : Hid (∀ W', Kept [] (mblk bm bM (.slice aT q cT) (.slice aK q cK)) w7 W' → w7.heap.size ≤ W'.heap.size → Kept [] (mblk bm bM (.slice aT q cT) (.slice aK q cK)) w W' ∧ w.heap.size ≤ W'.heap.size) := fun W' h hs => HW6.out W' ((((Kept.refl _ _ _).drew (w := W6)).grown hg7 (fun g e => Or.inl (by injection e with e; rw [← e]; exact mblk_bM))).trans h) (by have := hg7.size; have e : W6.drew.heap.size = W6.heap.size := rfl; omega)
      clear hM7 hg7 hml
      refine wp_region_held_drew (S := fun W' => W'.cell? ⟨bm, 519, none⟩ = some (.map (some bM)) ∧ (∀ j v, (#[Value.int .i64 p1, .int .i64 p2] : Array Value).toList[j]? = some v → W'.cell? ((⟨b3, 0, none⟩ : Addr).add j) = some v)) (by kernel_rfl) ⟨f5, HSe.out.part⟩ (fun hHeld => ?_)
      (refine wpAnyH_take (i := 0) (oi := ?_) (v := ?_) ?_ (by kernel_rfl) (by kernel_rfl) (by kernel_rfl) ?_ (Or.inl ⟨?_, ?_⟩) (by assumption) ?_; rotate_left 2; (focus ((simp only [List.getElem?_toArray, List.getElem?_cons_zero]); first | done | rfl)); (focus (exact fun _ _ _ h => h)); (focus rfl); (focus (intro wz hSw; (try dsimp only at hSw); go_simp; first | done | with_reducible rfl)); try simp only [Act.put, List.setIfInBounds_toArray, List.set_cons_zero, List.set_cons_succ])
      (refine wpAnyH_take (i := 1) (oi := ?_) (v := ?_) ?_ (by kernel_rfl) (by kernel_rfl) (by kernel_rfl) ?_ (Or.inl ⟨?_, ?_⟩) (by assumption) ?_; rotate_left 2; (focus ((simp only [List.getElem?_toArray, List.getElem?_cons_succ, List.getElem?_cons_zero]); first | done | rfl)); (focus (exact fun _ _ _ h => h)); (focus rfl); (focus (intro wz hSw; (try dsimp only at hSw); go_simp; first | done | with_reducible rfl)); try simp only [Act.put, List.setIfInBounds_toArray, List.set_cons_zero, List.set_cons_succ])
      (refine wpAnyH_take (i := 2) (oi := ?_) (v := ?_) ?_ (by kernel_rfl) (by kernel_rfl) (by kernel_rfl) ?_ (Or.inl ⟨?_, ?_⟩) (by assumption) ?_; rotate_left 2; (focus ((simp only [List.getElem?_toArray, List.getElem?_cons_succ, List.getElem?_cons_zero]); first | done | rfl)); (focus (exact fun _ _ _ h => h)); (focus rfl); (focus (intro wz hSw; (try dsimp only at hSw); go_simp; first | done | with_reducible rfl)); try simp only [Act.put, List.setIfInBounds_toArray, List.set_cons_zero, List.set_cons_succ])
      (refine wpAnyH_take (i := 3) (oi := ?_) (v := ?_) ?_ (by kernel_rfl) (by kernel_rfl) (by kernel_rfl) ?_ (Or.inl ⟨?_, ?_⟩) (by assumption) ?_; rotate_left 2; (focus ((simp only [List.getElem?_toArray, List.getElem?_cons_succ, List.getElem?_cons_zero]); first | done | rfl)); (focus (exact fun _ _ _ h => h)); (focus rfl); (focus (intro wz hSw; (try dsimp only at hSw); go_simp; first | done | with_reducible rfl)); try simp only [Act.put, List.setIfInBounds_toArray, List.set_cons_zero, List.set_cons_succ])
      (refine wpAnyH_take (i := 4) (oi := ?_) (v := .agg #[.int .i64 p1, .int .i64 p2]) ?_ (by kernel_rfl) (by kernel_rfl) (by kernel_rfl) ?_ (Or.inl ⟨?_, ?_⟩) (by assumption) ?_; rotate_left; (focus ((simp only [List.getElem?_toArray, List.getElem?_cons_succ, List.getElem?_cons_zero]); first | done | rfl)); (focus (exact fun _ _ _ h => h)); (focus rfl); (focus (intro wz hSw; exact exec_load_any9 (o := _) (ρ := _) wz 72 (.tmp 3) rfl ⟨b3, 0, none⟩ rfl #[.int .i64 p1, .int .i64 p2] _ (And.right hSw) Try.underlying72 rfl (by kernel_rfl))); try simp only [Act.put, List.setIfInBounds_toArray, List.set_cons_zero, List.set_cons_succ])
      (refine wpAnyH_take (i := 5) (oi := ?_) (v := ?_) ?_ (by kernel_rfl) (by kernel_rfl) (by kernel_rfl) ?_ (Or.inl ⟨?_, ?_⟩) (by assumption) ?_; rotate_left 2; (focus ((simp only [List.getElem?_toArray, List.getElem?_cons_succ, List.getElem?_cons_zero]); first | done | rfl)); (focus (exact fun _ _ _ h => h)); (focus rfl); (focus (intro wz hSw; (try dsimp only at hSw); go_simp; first | done | with_reducible rfl)); try simp only [Act.put, List.setIfInBounds_toArray, List.set_cons_zero, List.set_cons_succ])
      refine wpAnyH_ready (rs := [6]) (by kernel_rfl) (by simp) ?_
      refine AllReadyH.cons (o := ?_) ?_ (fun K hK => ?_) ?_
      rotate_left
      (focus ((simp only [List.getElem?_toArray, List.getElem?_cons_succ, List.getElem?_cons_zero]); first | done | rfl))
      · skip
        go_simp
        refine hK.out _ _ ⟨f57, HS7.out.part⟩ (fun hHeld => ?_)
        clear hK K
        try simp only [Act.put, List.setIfInBounds_toArray, List.set_cons_zero, List.set_cons_succ]
        refine wpAnyH_done (by kernel_rfl) ?_ _
        clear hHeld f57 hup
        go_upto_region 7 with fail
        go_cut [] from 37 to 46 (fun wx => ∃ (aT2 : Option Addr) (cT2 : Nat), Mk3 W0 A B how bm bM lt vL Kc (met ++ [p]) (met ++ [p]) met (.slice aT2 (q + 1) cT2) R vN ws (.slice aK q cK) (cs.setIfInBounds 518 (.slice aT2 (q + 1) cT2)) wx ∧ St wx 72 b3 #[.int .i64 p1, .int .i64 p2] ∧ Kept [] (mblk bm bM (.slice aT q cT) (.slice aK q cK)) w7 wx ∧ w7.heap.size ≤ wx.heap.size ∧ ∀ b, (Value.slice aT2 (q + 1) cT2).ownBlock = some b → (Value.slice aT q cT).ownBlock = some b ∨ w7.heap.size ≤ b)
        case first =>
          have HM : Hid (Mk3 W0 A B how bm bM lt vL Kc (met ++ [p]) met met (.slice aT q cT) R vN ws (.slice aK q cK) cs w7.drew) := HM7.out.keep (Below.refl _ _).drew
          have HS : Hid (St w7.drew 72 b3 #[.int .i64 p1, .int .i64 p2]) := HS7.out.keep (Below.refl _ _).drew
          have HKp : Hid (Kept [] (mblk bm bM (.slice aT q cT) (.slice aK q cK)) w7 w7.drew ∧ w7.heap.size ≤ w7.drew.heap.size) := ⟨(Kept.refl _ _ _).drew, Nat.le_refl _⟩
          refine wp_region_held_drew (S := fun W' => (∀ j v, (#[Value.int .i64 p1, .int .i64 p2] : Array Value).toList[j]? = some v → W'.cell? ((⟨b3, 0, none⟩ : Addr).add j) = some v)) (by kernel_rfl) HS.out.part (fun hHeld => ?_)
          (refine wpAnyH_take (i := 0) (oi := ?_) (v := ?_) ?_ (by kernel_rfl) (by kernel_rfl) (by kernel_rfl) ?_ (Or.inl ⟨?_, ?_⟩) (by assumption) ?_; rotate_left 2; (focus ((simp only [List.getElem?_toArray, List.getElem?_cons_zero]); first | done | rfl)); (focus (exact fun _ _ _ h => h)); (focus rfl); (focus (intro wz hSw; (try dsimp only at hSw); go_simp; first | done | with_reducible rfl)); try simp only [Act.put, List.setIfInBounds_toArray, List.set_cons_zero, List.set_cons_succ])
          (refine wpAnyH_take (i := 1) (oi := ?_) (v := ?_) ?_ (by kernel_rfl) (by kernel_rfl) (by kernel_rfl) ?_ (Or.inl ⟨?_, ?_⟩) (by assumption) ?_; rotate_left 2; (focus ((simp only [List.getElem?_toArray, List.getElem?_cons_succ, List.getElem?_cons_zero]); first | done | rfl)); (focus (exact fun _ _ _ h => h)); (focus rfl); (focus (intro wz hSw; (try dsimp only at hSw); go_simp; first | done | with_reducible rfl)); try simp only [Act.put, List.setIfInBounds_toArray, List.set_cons_zero, List.set_cons_succ])
          (refine wpAnyH_take (i := 2) (oi := ?_) (v := ?_) ?_ (by kernel_rfl) (by kernel_rfl) (by kernel_rfl) ?_ (Or.inl ⟨?_, ?_⟩) (by assumption) ?_; rotate_left 2; (focus ((simp only [List.getElem?_toArray, List.getElem?_cons_succ, List.getElem?_cons_zero]); first | done | rfl)); (focus (exact fun _ _ _ h => h)); (focus rfl); (focus (intro wz hSw; (try dsimp only at hSw); go_simp; first | done | with_reducible rfl)); try simp only [Act.put, List.setIfInBounds_toArray, List.set_cons_zero, List.set_cons_succ])
          (refine wpAnyH_take (i := 3) (oi := ?_) (v := ?_) ?_ (by kernel_rfl) (by kernel_rfl) (by kernel_rfl) ?_ (Or.inl ⟨?_, ?_⟩) (by assumption) ?_; rotate_left 2; (focus ((simp only [List.getElem?_toArray, List.getElem?_cons_succ, List.getElem?_cons_zero]); first | done | rfl)); (focus (exact fun _ _ _ h => h)); (focus rfl); (focus (intro wz hSw; (try dsimp only at hSw); go_simp; first | done | with_reducible rfl)); try simp only [Act.put, List.setIfInBounds_toArray, List.set_cons_zero, List.set_cons_succ])
          (refine wpAnyH_take (i := 5) (oi := ?_) (v := .agg #[.int .i64 p1, .int .i64 p2]) ?_ (by kernel_rfl) (by kernel_rfl) (by kernel_rfl) ?_ (Or.inl ⟨?_, ?_⟩) (by assumption) ?_; rotate_left; (focus ((simp only [List.getElem?_toArray, List.getElem?_cons_succ, List.getElem?_cons_zero]); first | done | rfl)); (focus (exact fun _ _ _ h => h)); (focus rfl); (focus (intro wz hSw; exact exec_load_any9 (o := _) (ρ := _) wz 72 (.tmp 3) rfl ⟨b3, 0, none⟩ rfl #[.int .i64 p1, .int .i64 p2] _ hSw Try.underlying72 rfl (by kernel_rfl))); try simp only [Act.put, List.setIfInBounds_toArray, List.set_cons_zero, List.set_cons_succ])
          refine wpAnyH_ready (rs := [4, 6]) (by kernel_rfl) (by simp) ?_
          refine AllReadyH.cons (o := ?_) ?_ (fun K hK => ?_) ?_
          rotate_left
          (focus ((simp only [List.getElem?_toArray, List.getElem?_cons_succ, List.getElem?_cons_zero]); first | done | rfl))
          · skip
            have f4 := (HM.out.st.at_ 518).trans HM.out.c.hT
            go_simp
            refine hK.out _ _ HS.out.part (fun hHeld => ?_)
            clear hK K
            try simp only [Act.put, List.setIfInBounds_toArray, List.set_cons_zero, List.set_cons_succ]
            clear f4
            refine wpAnyH_ready (rs := [6]) (by kernel_rfl) (by simp) ?_
            refine AllReadyH.cons (o := ?_) ?_ (fun K hK => ?_) ?_
            rotate_left
            (focus ((simp only [List.getElem?_toArray, List.getElem?_cons_succ, List.getElem?_cons_zero]); first | done | rfl))
            · skip
              go_simp
              have kk := al w7.drew (.cells #[.int .i64 p1, .int .i64 p2] 72)
              have HN1 : Hid (∀ j u, [Value.int .i64 p1, .int .i64 p2][j]? = some u → ((w7.alloc (.cells #[.int .i64 p1, .int .i64 p2] 72)).drew).cell? ((⟨w7.heap.size, 0, none⟩ : Addr).add j) = some u) := St.part (St.new w7.drew _ _)
              have HM : Hid (Mk3 W0 A B how bm bM lt vL Kc (met ++ [p]) met met (.slice aT q cT) R vN ws (.slice aK q cK) cs ((w7.alloc (.cells #[.int .i64 p1, .int .i64 p2] 72)).drew)) := HM.out.keep kk
              have HS : Hid (St ((w7.alloc (.cells #[.int .i64 p1, .int .i64 p2] 72)).drew) 72 b3 #[.int .i64 p1, .int .i64 p2]) := HS.out.keep kk
              have HKp : Hid (Kept [] (mblk bm bM (.slice aT q cT) (.slice aK q cK)) w7 ((w7.alloc (.cells #[.int .i64 p1, .int .i64 p2] 72)).drew) ∧ w7.heap.size ≤ ((w7.alloc (.cells #[.int .i64 p1, .int .i64 p2] 72)).drew).heap.size) := ⟨HKp.out.1.below kk, Nat.le_trans HKp.out.2 kk.size⟩
              refine hK.out _ _ HS.out.part (fun hHeld => ?_)
              clear hK K
              try simp only [Act.put, List.setIfInBounds_toArray, List.set_cons_zero, List.set_cons_succ]
              clear kk
              generalize (w7.alloc (.cells #[.int .i64 p1, .int .i64 p2] 72)).drew = W8 at HN1 HM HS HKp hHeld ⊢
              refine wpAnyH_ready (rs := [7]) (by kernel_rfl) (by simp) ?_
              refine AllReadyH.cons (o := ?_) ?_ (fun K hK => ?_) ?_
              rotate_left
              (focus ((simp only [List.getElem?_toArray, List.getElem?_cons_succ, List.getElem?_cons_zero]); first | done | rfl))
              · skip
                have hO := HM.out.mets
                rw [HAB.out.2.2.2.2] at hO
                refine step_append_at9 (by rfl) _ _ _ (by rfl) W0.heap.size 72 iP (.agg #[.int .i64 0, .int .i64 0]) 2 16 Try.underlying73 hP hP0 hP1 hP2 (by rfl) (by decide) _ q (prs met) (by rfl) hO ⟨w7.heap.size, 0, none⟩ 1 1 [.int .i64 p1, .int .i64 p2] (by rfl) (by rfl) HN1.out (by intro u hu; simp at hu; rcases hu with rfl | rfl <;> rfl) (by unfold maxLen; omega) (by omega) HM.out.bel.size ?_
                intro v9 w9 hown hgrow hat
                obtain ⟨aT2, cT2, rfl⟩ := ownsRow_slice hown
                have s9 := HM.out.st.grown_own HM.out.mets (by decide) hgrow
                have z2 := (s9.at_ 518).trans HM.out.c.hT
                have z3 := s9.thaw_ 518
                have Hs9 := Lib.hid s9
                have HMF := Lib.hid (HM.out.push (p := p) (vT' := .slice aT2 (q + 1) cT2) (by rw [HAB.out.2.2.2.2, He.out.1, He.out.2]; exact hown) hgrow)
                have HS9 : Hid (St w9 72 b3 #[.int .i64 p1, .int .i64 p2]) := HS.out.grown hgrow (fun e => by have h1 := hTlt.out b3 e.symm; omega)
                have HzT : Hid (w7.heap.size ≤ W8.heap.size) := HKp.out.2
                have HKp : Hid (Kept [] (mblk bm bM (.slice aT q cT) (.slice aK q cK)) w7 w9 ∧ w7.heap.size ≤ w9.heap.size) := ⟨HKp.out.1.trans ((Kept.refl _ _ _).grown hgrow (fun g e => Or.inl (mblk_T e))), Nat.le_trans HKp.out.2 hgrow.size⟩
                have HaT : Hid (∀ b, (Value.slice aT2 (q + 1) cT2).ownBlock = some b → (Value.slice aT q cT).ownBlock = some b ∨ w7.heap.size ≤ b) := fun b e => hat.elim (fun e2 => Or.inl (by rw [← e2]; exact e)) (fun e2 => Or.inr (by rw [e2] at e; have e3 := Option.some.inj e; have e4 := HzT.out; omega))
                clear hown hgrow hat hO s9
                refine hK.out _ _ HS9.out.part (fun hHeld => ?_)
                clear hK K
                try simp only [Act.put, List.setIfInBounds_toArray, List.set_cons_zero, List.set_cons_succ]
                (refine wpAnyH_take (i := 8) (oi := ?_) (v := ?_) ?_ (by kernel_rfl) (by kernel_rfl) (by kernel_rfl) ?_ (Or.inl ⟨?_, ?_⟩) (by assumption) ?_; rotate_left 2; (focus ((simp only [List.getElem?_toArray, List.getElem?_cons_succ, List.getElem?_cons_zero]); first | done | rfl)); (focus (exact fun _ _ _ h => h)); (focus rfl); (focus (intro wz hSw; (try dsimp only at hSw); go_simp; first | done | with_reducible rfl)); try simp only [Act.put, List.setIfInBounds_toArray, List.set_cons_zero, List.set_cons_succ])
                (refine wpAnyH_take (i := 9) (oi := ?_) (v := ?_) ?_ (by kernel_rfl) (by kernel_rfl) (by kernel_rfl) ?_ (Or.inl ⟨?_, ?_⟩) (by assumption) ?_; rotate_left 2; (focus ((simp only [List.getElem?_toArray, List.getElem?_cons_succ, List.getElem?_cons_zero]); first | done | rfl)); (focus (exact fun _ _ _ h => h)); (focus rfl); (focus (intro wz hSw; (try dsimp only at hSw); go_simp; first | done | with_reducible rfl)); try simp only [Act.put, List.setIfInBounds_toArray, List.set_cons_zero, List.set_cons_succ])
                refine wpAnyH_ready (rs := [10]) (by kernel_rfl) (by simp) ?_
                refine AllReadyH.cons (o := ?_) ?_ (fun K hK => ?_) ?_
                rotate_left
                (focus ((simp only [List.getElem?_toArray, List.getElem?_cons_succ, List.getElem?_cons_zero]); first | done | rfl))
                · skip
                  go_simp
                  have hSx : ∀ j v, (#[Value.int .i64 p1, .int .i64 p2] : Array Value).toList[j]? = some v → (w9.setCell ⟨bm, 518, none⟩ (.slice aT2 (q + 1) cT2)).cell? ((⟨b3, 0, none⟩ : Addr).add j) = some v := (HS9.out.set_far Hs9.out (by decide) 518 _).part
                  refine hK.out _ _ hSx (fun hHeld => ?_)
                  clear hK K
                  try simp only [Act.put, List.setIfInBounds_toArray, List.set_cons_zero, List.set_cons_succ]
                  refine wpAnyH_done (by kernel_rfl) ?_ _
                  have HS10 : Hid (St (w9.setCell ⟨bm, 518, none⟩ (.slice aT2 (q + 1) cT2)) 72 b3 #[.int .i64 p1, .int .i64 p2]) := HS9.out.set_far Hs9.out (by decide) 518 _
                  have HK10 : Hid (Kept [] (mblk bm bM (.slice aT q cT) (.slice aK q cK)) w7 (w9.setCell ⟨bm, 518, none⟩ (.slice aT2 (q + 1) cT2)) ∧ w7.heap.size ≤ (w9.setCell ⟨bm, 518, none⟩ (.slice aT2 (q + 1) cT2)).heap.size) := ⟨HKp.out.1.trans ((Kept.refl _ _ _).setCell _ _ (Or.inl mblk_bm)), by have := HKp.out.2; simpa [World.setCell] using this⟩
                  clear hHeld z2 z3 HM HS HKp HS9 Hs9
                  go_wp2_with fail
                  go_meet
                  exact ⟨aT2, cT2, HMF.out, HS10.out, HK10.out.1, HK10.out.2, HaT.out⟩
                exact AllReadyH.nil
              exact AllReadyH.nil
            exact AllReadyH.nil
          refine AllReadyH.cons (o := ?_) ?_ (fun K hK => ?_) ?_
          rotate_left
          (focus ((simp only [List.getElem?_toArray, List.getElem?_cons_succ, List.getElem?_cons_zero]); first | done | rfl))
          · skip
            go_simp
            have kk := al w7.drew (.cells #[.int .i64 p1, .int .i64 p2] 72)
            have HN1 : Hid (∀ j u, [Value.int .i64 p1, .int .i64 p2][j]? = some u → ((w7.alloc (.cells #[.int .i64 p1, .int .i64 p2] 72)).drew).cell? ((⟨w7.heap.size, 0, none⟩ : Addr).add j) = some u) := St.part (St.new w7.drew _ _)
            have HM : Hid (Mk3 W0 A B how bm bM lt vL Kc (met ++ [p]) met met (.slice aT q cT) R vN ws (.slice aK q cK) cs ((w7.alloc (.cells #[.int .i64 p1, .int .i64 p2] 72)).drew)) := HM.out.keep kk
            have HS : Hid (St ((w7.alloc (.cells #[.int .i64 p1, .int .i64 p2] 72)).drew) 72 b3 #[.int .i64 p1, .int .i64 p2]) := HS.out.keep kk
            have HKp : Hid (Kept [] (mblk bm bM (.slice aT q cT) (.slice aK q cK)) w7 ((w7.alloc (.cells #[.int .i64 p1, .int .i64 p2] 72)).drew) ∧ w7.heap.size ≤ ((w7.alloc (.cells #[.int .i64 p1, .int .i64 p2] 72)).drew).heap.size) := ⟨HKp.out.1.below kk, Nat.le_trans HKp.out.2 kk.size⟩
            refine hK.out _ _ HS.out.part (fun hHeld => ?_)
            clear hK K
            try simp only [Act.put, List.setIfInBounds_toArray, List.set_cons_zero, List.set_cons_succ]
            clear kk
            generalize (w7.alloc (.cells #[.int .i64 p1, .int .i64 p2] 72)).drew = W8 at HN1 HM HS HKp hHeld ⊢
            refine wpAnyH_ready (rs := [4]) (by kernel_rfl) (by simp) ?_
            refine AllReadyH.cons (o := ?_) ?_ (fun K hK => ?_) ?_
            rotate_left
            (focus ((simp only [List.getElem?_toArray, List.getElem?_cons_succ, List.getElem?_cons_zero]); first | done | rfl))
            · skip
              have f4 := (HM.out.st.at_ 518).trans HM.out.c.hT
              go_simp
              refine hK.out _ _ HS.out.part (fun hHeld => ?_)
              clear hK K
              try simp only [Act.put, List.setIfInBounds_toArray, List.set_cons_zero, List.set_cons_succ]
              clear f4
              refine wpAnyH_ready (rs := [7]) (by kernel_rfl) (by simp) ?_
              refine AllReadyH.cons (o := ?_) ?_ (fun K hK => ?_) ?_
              rotate_left
              (focus ((simp only [List.getElem?_toArray, List.getElem?_cons_succ, List.getElem?_cons_zero]); first | done | rfl))
              · skip
                have hO := HM.out.mets
                rw [HAB.out.2.2.2.2] at hO
                refine step_append_at9 (by rfl) _ _ _ (by rfl) W0.heap.size 72 iP (.agg #[.int .i64 0, .int .i64 0]) 2 16 Try.underlying73 hP hP0 hP1 hP2 (by rfl) (by decide) _ q (prs met) (by rfl) hO ⟨w7.heap.size, 0, none⟩ 1 1 [.int .i64 p1, .int .i64 p2] (by rfl) (by rfl) HN1.out (by intro u hu; simp at hu; rcases hu with rfl | rfl <;> rfl) (by unfold maxLen; omega) (by omega) HM.out.bel.size ?_
                intro v9 w9 hown hgrow hat
                obtain ⟨aT2, cT2, rfl⟩ := ownsRow_slice hown
                have s9 := HM.out.st.grown_own HM.out.mets (by decide) hgrow
                have z2 := (s9.at_ 518).trans HM.out.c.hT
                have z3 := s9.thaw_ 518
                have Hs9 := Lib.hid s9
                have HMF := Lib.hid (HM.out.push (p := p) (vT' := .slice aT2 (q + 1) cT2) (by rw [HAB.out.2.2.2.2, He.out.1, He.out.2]; exact hown) hgrow)
                have HS9 : Hid (St w9 72 b3 #[.int .i64 p1, .int .i64 p2]) := HS.out.grown hgrow (fun e => by have h1 := hTlt.out b3 e.symm; omega)
                have HzT : Hid (w7.heap.size ≤ W8.heap.size) := HKp.out.2
                have HKp : Hid (Kept [] (mblk bm bM (.slice aT q cT) (.slice aK q cK)) w7 w9 ∧ w7.heap.size ≤ w9.heap.size) := ⟨HKp.out.1.trans ((Kept.refl _ _ _).grown hgrow (fun g e => Or.inl (mblk_T e))), Nat.le_trans HKp.out.2 hgrow.size⟩
                have HaT : Hid (∀ b, (Value.slice aT2 (q + 1) cT2).ownBlock = some b → (Value.slice aT q cT).ownBlock = some b ∨ w7.heap.size ≤ b) := fun b e => hat.elim (fun e2 => Or.inl (by rw [← e2]; exact e)) (fun e2 => Or.inr (by rw [e2] at e; have e3 := Option.some.inj e; have e4 := HzT.out; omega))
                clear hown hgrow hat hO s9
                refine hK.out _ _ HS9.out.part (fun hHeld => ?_)
                clear hK K
                try simp only [Act.put, List.setIfInBounds_toArray, List.set_cons_zero, List.set_cons_succ]
                (refine wpAnyH_take (i := 8) (oi := ?_) (v := ?_) ?_ (by kernel_rfl) (by kernel_rfl) (by kernel_rfl) ?_ (Or.inl ⟨?_, ?_⟩) (by assumption) ?_; rotate_left 2; (focus ((simp only [List.getElem?_toArray, List.getElem?_cons_succ, List.getElem?_cons_zero]); first | done | rfl)); (focus (exact fun _ _ _ h => h)); (focus rfl); (focus (intro wz hSw; (try dsimp only at hSw); go_simp; first | done | with_reducible rfl)); try simp only [Act.put, List.setIfInBounds_toArray, List.set_cons_zero, List.set_cons_succ])
                (refine wpAnyH_take (i := 9) (oi := ?_) (v := ?_) ?_ (by kernel_rfl) (by kernel_rfl) (by kernel_rfl) ?_ (Or.inl ⟨?_, ?_⟩) (by assumption) ?_; rotate_left 2; (focus ((simp only [List.getElem?_toArray, List.getElem?_cons_succ, List.getElem?_cons_zero]); first | done | rfl)); (focus (exact fun _ _ _ h => h)); (focus rfl); (focus (intro wz hSw; (try dsimp only at hSw); go_simp; first | done | with_reducible rfl)); try simp only [Act.put, List.setIfInBounds_toArray, List.set_cons_zero, List.set_cons_succ])
                refine wpAnyH_ready (rs := [10]) (by kernel_rfl) (by simp) ?_
                refine AllReadyH.cons (o := ?_) ?_ (fun K hK => ?_) ?_
                rotate_left
                (focus ((simp only [List.getElem?_toArray, List.getElem?_cons_succ, List.getElem?_cons_zero]); first | done | rfl))
                · skip
                  go_simp
                  have hSx : ∀ j v, (#[Value.int .i64 p1, .int .i64 p2] : Array Value).toList[j]? = some v → (w9.setCell ⟨bm, 518, none⟩ (.slice aT2 (q + 1) cT2)).cell? ((⟨b3, 0, none⟩ : Addr).add j) = some v := (HS9.out.set_far Hs9.out (by decide) 518 _).part
                  refine hK.out _ _ hSx (fun hHeld => ?_)
                  clear hK K
                  try simp only [Act.put, List.setIfInBounds_toArray, List.set_cons_zero, List.set_cons_succ]
                  refine wpAnyH_done (by kernel_rfl) ?_ _
                  have HS10 : Hid (St (w9.setCell ⟨bm, 518, none⟩ (.slice aT2 (q + 1) cT2)) 72 b3 #[.int .i64 p1, .int .i64 p2]) := HS9.out.set_far Hs9.out (by decide) 518 _
                  have HK10 : Hid (Kept [] (mblk bm bM (.slice aT q cT) (.slice aK q cK)) w7 (w9.setCell ⟨bm, 518, none⟩ (.slice aT2 (q + 1) cT2)) ∧ w7.heap.size ≤ (w9.setCell ⟨bm, 518, none⟩ (.slice aT2 (q + 1) cT2)).heap.size) := ⟨HKp.out.1.trans ((Kept.refl _ _ _).setCell _ _ (Or.inl mblk_bm)), by have := HKp.out.2; simpa [World.setCell] using this⟩
                  clear hHeld z2 z3 HM HS HKp HS9 Hs9
                  go_wp2_with fail
                  go_meet
                  exact ⟨aT2, cT2, HMF.out, HS10.out, HK10.out.1, HK10.out.2, HaT.out⟩
                exact AllReadyH.nil
              exact AllReadyH.nil
            exact AllReadyH.nil
          exact AllReadyH.nil
        case rest =>
          obtain ⟨aT2, cT2, hm10, hs10, hk10, hz10, ht10⟩ := hcut
          have HaT : Hid (∀ b, (Value.slice aT2 (q + 1) cT2).ownBlock = some b → (Value.slice aT q cT).ownBlock = some b ∨ w.heap.size ≤ b) := fun b e => (ht10 b e).elim Or.inl (fun h => Or.inr (by have := (HW7.out w7 (Kept.refl _ _ _) (Nat.le_refl _)).2; omega))
          obtain ⟨w10, rfl⟩ : ∃ w10, w10 = wc := ⟨wc, rfl⟩
          have HM10 := Lib.hid hm10
          have HS10 := Lib.hid hs10
          have HW10 : Hid (∀ W', Kept [] (mblk bm bM (.slice aT q cT) (.slice aK q cK)) w10 W' → w10.heap.size ≤ W'.heap.size → Kept [] (mblk bm bM (.slice aT q cT) (.slice aK q cK)) w W' ∧ w.heap.size ≤ W'.heap.size) := fun W' h hs => HW7.out W' (hk10.trans h) (by omega)
          have HWs : Hid (w.heap.size ≤ w10.heap.size) := (HW10.out w10 (Kept.refl _ _ _) (Nat.le_refl _)).2
          clear hm10 hs10 hk10 hz10 ht10
          go_upto_region 8 with fail
          have HM : Hid (Mk3 W0 A B how bm bM lt vL Kc (met ++ [p]) (met ++ [p]) met (.slice aT2 (q + 1) cT2) R vN ws (.slice aK q cK) (cs.setIfInBounds 518 (.slice aT2 (q + 1) cT2)) w10.drew) := HM10.out.keep (Below.refl _ _).drew
          have HS : Hid (St w10.drew 72 b3 #[.int .i64 p1, .int .i64 p2]) := HS10.out.keep (Below.refl _ _).drew
          have HKp : Hid (Kept [] (mblk bm bM (.slice aT q cT) (.slice aK q cK)) w10 w10.drew ∧ w10.heap.size ≤ w10.drew.heap.size) := ⟨(Kept.refl _ _ _).drew, Nat.le_refl _⟩
          refine wp_region_held_drew (S := fun W' => (∀ j v, (#[Value.int .i64 p1, .int .i64 p2] : Array Value).toList[j]? = some v → W'.cell? ((⟨b3, 0, none⟩ : Addr).add j) = some v)) (by kernel_rfl) HS.out.part (fun hHeld => ?_)
          (refine wpAnyH_take (i := 0) (oi := ?_) (v := ?_) ?_ (by kernel_rfl) (by kernel_rfl) (by kernel_rfl) ?_ (Or.inl ⟨?_, ?_⟩) (by assumption) ?_; rotate_left 2; (focus ((simp only [List.getElem?_toArray, List.getElem?_cons_zero]); first | done | rfl)); (focus (exact fun _ _ _ h => h)); (focus rfl); (focus (intro wz hSw; (try dsimp only at hSw); go_simp; first | done | with_reducible rfl)); try simp only [Act.put, List.setIfInBounds_toArray, List.set_cons_zero, List.set_cons_succ])
          (refine wpAnyH_take (i := 1) (oi := ?_) (v := ?_) ?_ (by kernel_rfl) (by kernel_rfl) (by kernel_rfl) ?_ (Or.inl ⟨?_, ?_⟩) (by assumption) ?_; rotate_left 2; (focus ((simp only [List.getElem?_toArray, List.getElem?_cons_succ, List.getElem?_cons_zero]); first | done | rfl)); (focus (exact fun _ _ _ h => h)); (focus rfl); (focus (intro wz hSw; (try dsimp only at hSw); go_simp; first | done | with_reducible rfl)); try simp only [Act.put, List.setIfInBounds_toArray, List.set_cons_zero, List.set_cons_succ])
          (refine wpAnyH_take (i := 2) (oi := ?_) (v := ?_) ?_ (by kernel_rfl) (by kernel_rfl) (by kernel_rfl) ?_ (Or.inl ⟨?_, ?_⟩) (by assumption) ?_; rotate_left 2; (focus ((simp only [List.getElem?_toArray, List.getElem?_cons_succ, List.getElem?_cons_zero]); first | done | rfl)); (focus (exact fun _ _ _ h => h)); (focus rfl); (focus (intro wz hSw; (try dsimp only at hSw); go_simp; first | done | with_reducible rfl)); try simp only [Act.put, List.setIfInBounds_toArray, List.set_cons_zero, List.set_cons_succ])
          (refine wpAnyH_take (i := 3) (oi := ?_) (v := ?_) ?_ (by kernel_rfl) (by kernel_rfl) (by kernel_rfl) ?_ (Or.inl ⟨?_, ?_⟩) (by assumption) ?_; rotate_left 2; (focus ((simp only [List.getElem?_toArray, List.getElem?_cons_succ, List.getElem?_cons_zero]); first | done | rfl)); (focus (exact fun _ _ _ h => h)); (focus rfl); (focus (intro wz hSw; (try dsimp only at hSw); go_simp; first | done | with_reducible rfl)); try simp only [Act.put, List.setIfInBounds_toArray, List.set_cons_zero, List.set_cons_succ])
          (refine wpAnyH_take (i := 4) (oi := ?_) (v := ?_) ?_ (by kernel_rfl) (by kernel_rfl) (by kernel_rfl) ?_ (Or.inl ⟨?_, ?_⟩) (by assumption) ?_; rotate_left 2; (focus ((simp only [List.getElem?_toArray, List.getElem?_cons_succ, List.getElem?_cons_zero]); first | done | rfl)); (focus (exact fun _ _ _ h => h)); (focus rfl); (focus (intro wz hSw; (try dsimp only at hSw); go_simp; first | done | with_reducible rfl)); try simp only [Act.put, List.setIfInBounds_toArray, List.set_cons_zero, List.set_cons_succ])
          (refine wpAnyH_take (i := 6) (oi := ?_) (v := ?_) ?_ (by kernel_rfl) (by kernel_rfl) (by kernel_rfl) ?_ (Or.inl ⟨?_, ?_⟩) (by assumption) ?_; rotate_left 2; (focus ((simp only [List.getElem?_toArray, List.getElem?_cons_succ, List.getElem?_cons_zero]); first | done | rfl)); (focus (exact fun _ _ _ h => h)); (focus rfl); (focus (intro wz hSw; (try dsimp only at hSw); go_simp; first | done | with_reducible rfl)); try simp only [Act.put, List.setIfInBounds_toArray, List.set_cons_zero, List.set_cons_succ])
          (refine wpAnyH_take (i := 7) (oi := ?_) (v := .agg #[.int .i64 p1, .int .i64 p2]) ?_ (by kernel_rfl) (by kernel_rfl) (by kernel_rfl) ?_ (Or.inl ⟨?_, ?_⟩) (by assumption) ?_; rotate_left; (focus ((simp only [List.getElem?_toArray, List.getElem?_cons_succ, List.getElem?_cons_zero]); first | done | rfl)); (focus (exact fun _ _ _ h => h)); (focus rfl); (focus (intro wz hSw; exact exec_load_any9 (o := _) (ρ := _) wz 72 (.tmp 3) rfl ⟨b3, 0, none⟩ rfl #[.int .i64 p1, .int .i64 p2] _ hSw Try.underlying72 rfl (by kernel_rfl))); try simp only [Act.put, List.setIfInBounds_toArray, List.set_cons_zero, List.set_cons_succ])
          refine wpAnyH_ready (rs := [5, 8]) (by kernel_rfl) (by simp) ?_
          refine AllReadyH.cons (o := ?_) ?_ (fun K hK => ?_) ?_
          rotate_left
          (focus ((simp only [List.getElem?_toArray, List.getElem?_cons_succ, List.getElem?_cons_zero]); first | done | rfl))
          · skip
            have f7 := (HM.out.st.at_ 777).trans HM.out.c.hK
            go_simp
            refine hK.out _ _ HS.out.part (fun hHeld => ?_)
            clear hK K
            try simp only [Act.put, List.setIfInBounds_toArray, List.set_cons_zero, List.set_cons_succ]
            clear f7
            refine wpAnyH_ready (rs := [8]) (by kernel_rfl) (by simp) ?_
            refine AllReadyH.cons (o := ?_) ?_ (fun K hK => ?_) ?_
            rotate_left
            (focus ((simp only [List.getElem?_toArray, List.getElem?_cons_succ, List.getElem?_cons_zero]); first | done | rfl))
            · skip
              go_simp
              go_at_call 53
              have hmk := lmark_any A B CA CB HAB.out.1 HAB.out.2.1 how bm _ vL _ _ vN _ Kc HM.out.c p _ HM.out.st (HAB.out.2.2.1.below HM.out.bel) (HAB.out.2.2.2.1.below HM.out.bel)
              unfold prv at hmk
              rw [He.out.1, He.out.2] at hmk
              refine hmk.mono ?_
              rintro e w11 ⟨rfl, vv⟩
              have HM : Hid (Mk3 W0 A B how bm bM lt vL Kc (met ++ [p]) (met ++ [p]) met (.slice aT2 (q + 1) cT2) R vN ws (.slice aK q cK) (cs.setIfInBounds 518 (.slice aT2 (q + 1) cT2)) w11) := HM.out.keep vv
              have HS : Hid (St w11 72 b3 #[.int .i64 p1, .int .i64 p2]) := HS.out.keep vv
              have HKp : Hid (Kept [] (mblk bm bM (.slice aT q cT) (.slice aK q cK)) w10 w11 ∧ w10.heap.size ≤ w11.heap.size) := ⟨HKp.out.1.below vv, Nat.le_trans HKp.out.2 vv.size⟩
              clear hmk vv
              try go_wp2_with fail
              refine hK.out _ _ HS.out.part (fun hHeld => ?_)
              clear hK K
              try simp only [Act.put, List.setIfInBounds_toArray, List.set_cons_zero, List.set_cons_succ]
              refine wpAnyH_ready (rs := [9]) (by kernel_rfl) (by simp) ?_
              refine AllReadyH.cons (o := ?_) ?_ (fun K hK => ?_) ?_
              rotate_left
              (focus ((simp only [List.getElem?_toArray, List.getElem?_cons_succ, List.getElem?_cons_zero]); first | done | rfl))
              · skip
                go_simp
                have kk := al w11 (.cells #[.int .i64 (mkF how A B p)] 3)
                have HN1 : Hid (∀ j u, [Value.int .i64 (mkF how A B p)][j]? = some u → (w11.alloc (.cells #[.int .i64 (mkF how A B p)] 3)).cell? ((⟨w11.heap.size, 0, none⟩ : Addr).add j) = some u) := cell_one_new _ _ _
                have HM : Hid (Mk3 W0 A B how bm bM lt vL Kc (met ++ [p]) (met ++ [p]) met (.slice aT2 (q + 1) cT2) R vN ws (.slice aK q cK) (cs.setIfInBounds 518 (.slice aT2 (q + 1) cT2)) (w11.alloc (.cells #[.int .i64 (mkF how A B p)] 3))) := HM.out.keep kk
                have HS : Hid (St (w11.alloc (.cells #[.int .i64 (mkF how A B p)] 3)) 72 b3 #[.int .i64 p1, .int .i64 p2]) := HS.out.keep kk
                have HKp : Hid (Kept [] (mblk bm bM (.slice aT q cT) (.slice aK q cK)) w10 (w11.alloc (.cells #[.int .i64 (mkF how A B p)] 3)) ∧ w10.heap.size ≤ (w11.alloc (.cells #[.int .i64 (mkF how A B p)] 3)).heap.size) := ⟨HKp.out.1.below kk, Nat.le_trans HKp.out.2 kk.size⟩
                refine hK.out _ _ HS.out.part (fun hHeld => ?_)
                clear hK K
                try simp only [Act.put, List.setIfInBounds_toArray, List.set_cons_zero, List.set_cons_succ]
                clear kk
                generalize w11.alloc (.cells #[.int .i64 (mkF how A B p)] 3) = W12 at HN1 HM HS HKp hHeld ⊢
                refine wpAnyH_ready (rs := [10]) (by kernel_rfl) (by simp) ?_
                refine AllReadyH.cons (o := ?_) ?_ (fun K hK => ?_) ?_
                rotate_left
                (focus ((simp only [List.getElem?_toArray, List.getElem?_cons_succ, List.getElem?_cons_zero]); first | done | rfl))
                · skip
                  have HL12 : Hid (w10.heap.size ≤ W12.heap.size) := HKp.out.2
                  have hO := HM.out.mks
                  rw [HAB.out.2.2.2.2] at hO
                  refine step_append_at9 (by rfl) _ _ _ (by rfl) W0.heap.size 3 iI (.int .i64 0) 1 8 Try.underlying24 hI hI0 hI1 hI2 (by rfl) (by decide) _ q (ints (met.map (mkF how A B))) (by rfl) hO ⟨w11.heap.size, 0, none⟩ 1 1 [.int .i64 (mkF how A B p)] (by rfl) (by rfl) HN1.out (by intro u hu; simp at hu; subst hu; rfl) (by unfold maxLen; omega) (by omega) HM.out.bel.size ?_
                  intro v13 w13 hown hgrow hat
                  obtain ⟨aK2, cK2, rfl⟩ := ownsRow_slice hown
                  have s13 := HM.out.st.grown_own HM.out.mks (by decide) hgrow
                  have Hst13 := Lib.hid s13
                  have z2 := (s13.at_ 777).trans HM.out.c.hK
                  have z3 := s13.thaw_ 777
                  have hS13 := HS.out.grown_own hO (by decide) hgrow
                  have HMF := Lib.hid (HM.out.mark (p := p) (vK' := .slice aK2 (q + 1) cK2) (by rw [HAB.out.2.2.2.2]; exact hown) hgrow hat)
                  have HKp : Hid (Kept [] (mblk bm bM (.slice aT q cT) (.slice aK q cK)) w10 w13 ∧ w10.heap.size ≤ w13.heap.size) := ⟨HKp.out.1.trans ((Kept.refl _ _ _).grown hgrow (fun g e => Or.inl (mblk_K e))), Nat.le_trans HKp.out.2 hgrow.size⟩
                  have Hat : Hid ((Value.slice aK2 (q + 1) cK2).ownBlock = (Value.slice aK q cK).ownBlock ∨ (Value.slice aK2 (q + 1) cK2).ownBlock = some W12.heap.size) := hat
                  have HS13 := Lib.hid hS13
                  clear hown hgrow hat hO s13 hS13
                  refine hK.out _ _ HS13.out.part (fun hHeld => ?_)
                  clear hK K
                  try simp only [Act.put, List.setIfInBounds_toArray, List.set_cons_zero, List.set_cons_succ]
                  (refine wpAnyH_take (i := 11) (oi := ?_) (v := ?_) ?_ (by kernel_rfl) (by kernel_rfl) (by kernel_rfl) ?_ (Or.inl ⟨?_, ?_⟩) (by assumption) ?_; rotate_left 2; (focus ((simp only [List.getElem?_toArray, List.getElem?_cons_succ, List.getElem?_cons_zero]); first | done | rfl)); (focus (exact fun _ _ _ h => h)); (focus rfl); (focus (intro wz hSw; (try dsimp only at hSw); go_simp; first | done | with_reducible rfl)); try simp only [Act.put, List.setIfInBounds_toArray, List.set_cons_zero, List.set_cons_succ])
                  (refine wpAnyH_take (i := 12) (oi := ?_) (v := ?_) ?_ (by kernel_rfl) (by kernel_rfl) (by kernel_rfl) ?_ (Or.inl ⟨?_, ?_⟩) (by assumption) ?_; rotate_left 2; (focus ((simp only [List.getElem?_toArray, List.getElem?_cons_succ, List.getElem?_cons_zero]); first | done | rfl)); (focus (exact fun _ _ _ h => h)); (focus rfl); (focus (intro wz hSw; (try dsimp only at hSw); go_simp; first | done | with_reducible rfl)); try simp only [Act.put, List.setIfInBounds_toArray, List.set_cons_zero, List.set_cons_succ])
                  (refine wpAnyH_take (i := 13) (oi := ?_) (v := ?_) ?_ (by kernel_rfl) (by kernel_rfl) (by kernel_rfl) ?_ (Or.inl ⟨?_, ?_⟩) (by assumption) ?_; rotate_left 2; (focus ((simp only [List.getElem?_toArray, List.getElem?_cons_succ, List.getElem?_cons_zero]); first | done | rfl)); (focus (exact fun _ _ _ h => h)); (focus rfl); (focus (intro wz hSw; (try dsimp only at hSw); go_simp; first | done | with_reducible rfl)); try simp only [Act.put, List.setIfInBounds_toArray, List.set_cons_zero, List.set_cons_succ])
                  refine wpAnyH_ready (rs := [14]) (by kernel_rfl) (by simp) ?_
                  refine AllReadyH.cons (o := ?_) ?_ (fun K hK => ?_) ?_
                  rotate_left
                  (focus ((simp only [List.getElem?_toArray, List.getElem?_cons_succ, List.getElem?_cons_zero]); first | done | rfl))
                  · skip
                    go_simp
                    have hSx : ∀ j v, (#[Value.int .i64 p1, .int .i64 p2] : Array Value).toList[j]? = some v → (w13.setCell ⟨bm, 777, none⟩ (.slice aK2 (q + 1) cK2)).cell? ((⟨b3, 0, none⟩ : Addr).add j) = some v := (HS13.out.set_far (Hst13.out) (by decide) 777 _).part
                    refine hK.out _ _ hSx (fun hHeld => ?_)
                    clear hK K
                    try simp only [Act.put, List.setIfInBounds_toArray, List.set_cons_zero, List.set_cons_succ]
                    refine wpAnyH_done (by kernel_rfl) ?_ _
                    have HF : Hid (NumP W0 A B how bm bM lt vL Kc met (.slice aT q cT) R vN ws (.slice aK q cK) p w (.returned (.int .i64 ((q : Nat) : Int))) (w13.setCell ⟨bm, 777, none⟩ (.slice aK2 (q + 1) cK2))) := by
                      obtain ⟨h1, h2⟩ := HW10.out (w13.setCell ⟨bm, 777, none⟩ (.slice aK2 (q + 1) cK2)) (HKp.out.1.trans ((Kept.refl _ _ _).setCell _ _ (Or.inl mblk_bm))) (by have := HKp.out.2; simpa [World.setCell] using this)
                      refine ⟨met ++ [p], _, _, _, _, rfl, HMF.out, h1, fun b e => ?_, HaT.out, h2, Or.inr ⟨Hnd.out, q, rfl, ?_, Or.inr ⟨Hnb.out, rfl⟩⟩⟩
                      · rcases Hat.out with e2 | e2
                        · exact Or.inl (by rw [← e2]; exact e)
                        · rw [e2] at e
                          right
                          have := Option.some.inj e
                          have := HWs.out
                          have := HL12.out
                          omega
                      · rw [← HAB.out.2.2.2.2]; simp
                    clear hHeld z2 z3
                    go_wp2_with fail
                    go_ret
                    exact HF.out
                  exact AllReadyH.nil
                exact AllReadyH.nil
              exact AllReadyH.nil
            exact AllReadyH.nil
          refine AllReadyH.cons (o := ?_) ?_ (fun K hK => ?_) ?_
          rotate_left
          (focus ((simp only [List.getElem?_toArray, List.getElem?_cons_succ, List.getElem?_cons_zero]); first | done | rfl))
          · skip
            go_simp
            go_at_call 53
            have hmk := lmark_any A B CA CB HAB.out.1 HAB.out.2.1 how bm _ vL _ _ vN _ Kc HM.out.c p _ HM.out.st (HAB.out.2.2.1.below HM.out.bel) (HAB.out.2.2.2.1.below HM.out.bel)
            unfold prv at hmk
            rw [He.out.1, He.out.2] at hmk
            refine hmk.mono ?_
            rintro e w11 ⟨rfl, vv⟩
            have HM : Hid (Mk3 W0 A B how bm bM lt vL Kc (met ++ [p]) (met ++ [p]) met (.slice aT2 (q + 1) cT2) R vN ws (.slice aK q cK) (cs.setIfInBounds 518 (.slice aT2 (q + 1) cT2)) w11) := HM.out.keep vv
            have HS : Hid (St w11 72 b3 #[.int .i64 p1, .int .i64 p2]) := HS.out.keep vv
            have HKp : Hid (Kept [] (mblk bm bM (.slice aT q cT) (.slice aK q cK)) w10 w11 ∧ w10.heap.size ≤ w11.heap.size) := ⟨HKp.out.1.below vv, Nat.le_trans HKp.out.2 vv.size⟩
            clear hmk vv
            try go_wp2_with fail
            refine hK.out _ _ HS.out.part (fun hHeld => ?_)
            clear hK K
            try simp only [Act.put, List.setIfInBounds_toArray, List.set_cons_zero, List.set_cons_succ]
            refine wpAnyH_ready (rs := [5, 9]) (by kernel_rfl) (by simp) ?_
            refine AllReadyH.cons (o := ?_) ?_ (fun K hK => ?_) ?_
            rotate_left
            (focus ((simp only [List.getElem?_toArray, List.getElem?_cons_succ, List.getElem?_cons_zero]); first | done | rfl))
            · skip
              have f7 := (HM.out.st.at_ 777).trans HM.out.c.hK
              go_simp
              refine hK.out _ _ HS.out.part (fun hHeld => ?_)
              clear hK K
              try simp only [Act.put, List.setIfInBounds_toArray, List.set_cons_zero, List.set_cons_succ]
              clear f7
              refine wpAnyH_ready (rs := [9]) (by kernel_rfl) (by simp) ?_
              refine AllReadyH.cons (o := ?_) ?_ (fun K hK => ?_) ?_
              rotate_left
              (focus ((simp only [List.getElem?_toArray, List.getElem?_cons_succ, List.getElem?_cons_zero]); first | done | rfl))
              · skip
                go_simp
                have kk := al w11 (.cells #[.int .i64 (mkF how A B p)] 3)
                have HN1 : Hid (∀ j u, [Value.int .i64 (mkF how A B p)][j]? = some u → (w11.alloc (.cells #[.int .i64 (mkF how A B p)] 3)).cell? ((⟨w11.heap.size, 0, none⟩ : Addr).add j) = some u) := cell_one_new _ _ _
                have HM : Hid (Mk3 W0 A B how bm bM lt vL Kc (met ++ [p]) (met ++ [p]) met (.slice aT2 (q + 1) cT2) R vN ws (.slice aK q cK) (cs.setIfInBounds 518 (.slice aT2 (q + 1) cT2)) (w11.alloc (.cells #[.int .i64 (mkF how A B p)] 3))) := HM.out.keep kk
                have HS : Hid (St (w11.alloc (.cells #[.int .i64 (mkF how A B p)] 3)) 72 b3 #[.int .i64 p1, .int .i64 p2]) := HS.out.keep kk
                have HKp : Hid (Kept [] (mblk bm bM (.slice aT q cT) (.slice aK q cK)) w10 (w11.alloc (.cells #[.int .i64 (mkF how A B p)] 3)) ∧ w10.heap.size ≤ (w11.alloc (.cells #[.int .i64 (mkF how A B p)] 3)).heap.size) := ⟨HKp.out.1.below kk, Nat.le_trans HKp.out.2 kk.size⟩
                refine hK.out _ _ HS.out.part (fun hHeld => ?_)
                clear hK K
                try simp only [Act.put, List.setIfInBounds_toArray, List.set_cons_zero, List.set_cons_succ]
                clear kk
                generalize w11.alloc (.cells #[.int .i64 (mkF how A B p)] 3) = W12 at HN1 HM HS HKp hHeld ⊢
                refine wpAnyH_ready (rs := [10]) (by kernel_rfl) (by simp) ?_
                refine AllReadyH.cons (o := ?_) ?_ (fun K hK => ?_) ?_
                rotate_left
                (focus ((simp only [List.getElem?_toArray, List.getElem?_cons_succ, List.getElem?_cons_zero]); first | done | rfl))
                · skip
                  have HL12 : Hid (w10.heap.size ≤ W12.heap.size) := HKp.out.2
                  have hO := HM.out.mks
                  rw [HAB.out.2.2.2.2] at hO
                  refine step_append_at9 (by rfl) _ _ _ (by rfl) W0.heap.size 3 iI (.int .i64 0) 1 8 Try.underlying24 hI hI0 hI1 hI2 (by rfl) (by decide) _ q (ints (met.map (mkF how A B))) (by rfl) hO ⟨w11.heap.size, 0, none⟩ 1 1 [.int .i64 (mkF how A B p)] (by rfl) (by rfl) HN1.out (by intro u hu; simp at hu; subst hu; rfl) (by unfold maxLen; omega) (by omega) HM.out.bel.size ?_
                  intro v13 w13 hown hgrow hat
                  obtain ⟨aK2, cK2, rfl⟩ := ownsRow_slice hown
                  have s13 := HM.out.st.grown_own HM.out.mks (by decide) hgrow
                  have Hst13 := Lib.hid s13
                  have z2 := (s13.at_ 777).trans HM.out.c.hK
                  have z3 := s13.thaw_ 777
                  have hS13 := HS.out.grown_own hO (by decide) hgrow
                  have HMF := Lib.hid (HM.out.mark (p := p) (vK' := .slice aK2 (q + 1) cK2) (by rw [HAB.out.2.2.2.2]; exact hown) hgrow hat)
                  have HKp : Hid (Kept [] (mblk bm bM (.slice aT q cT) (.slice aK q cK)) w10 w13 ∧ w10.heap.size ≤ w13.heap.size) := ⟨HKp.out.1.trans ((Kept.refl _ _ _).grown hgrow (fun g e => Or.inl (mblk_K e))), Nat.le_trans HKp.out.2 hgrow.size⟩
                  have Hat : Hid ((Value.slice aK2 (q + 1) cK2).ownBlock = (Value.slice aK q cK).ownBlock ∨ (Value.slice aK2 (q + 1) cK2).ownBlock = some W12.heap.size) := hat
                  have HS13 := Lib.hid hS13
                  clear hown hgrow hat hO s13 hS13
                  refine hK.out _ _ HS13.out.part (fun hHeld => ?_)
                  clear hK K
                  try simp only [Act.put, List.setIfInBounds_toArray, List.set_cons_zero, List.set_cons_succ]
                  (refine wpAnyH_take (i := 11) (oi := ?_) (v := ?_) ?_ (by kernel_rfl) (by kernel_rfl) (by kernel_rfl) ?_ (Or.inl ⟨?_, ?_⟩) (by assumption) ?_; rotate_left 2; (focus ((simp only [List.getElem?_toArray, List.getElem?_cons_succ, List.getElem?_cons_zero]); first | done | rfl)); (focus (exact fun _ _ _ h => h)); (focus rfl); (focus (intro wz hSw; (try dsimp only at hSw); go_simp; first | done | with_reducible rfl)); try simp only [Act.put, List.setIfInBounds_toArray, List.set_cons_zero, List.set_cons_succ])
                  (refine wpAnyH_take (i := 12) (oi := ?_) (v := ?_) ?_ (by kernel_rfl) (by kernel_rfl) (by kernel_rfl) ?_ (Or.inl ⟨?_, ?_⟩) (by assumption) ?_; rotate_left 2; (focus ((simp only [List.getElem?_toArray, List.getElem?_cons_succ, List.getElem?_cons_zero]); first | done | rfl)); (focus (exact fun _ _ _ h => h)); (focus rfl); (focus (intro wz hSw; (try dsimp only at hSw); go_simp; first | done | with_reducible rfl)); try simp only [Act.put, List.setIfInBounds_toArray, List.set_cons_zero, List.set_cons_succ])
                  (refine wpAnyH_take (i := 13) (oi := ?_) (v := ?_) ?_ (by kernel_rfl) (by kernel_rfl) (by kernel_rfl) ?_ (Or.inl ⟨?_, ?_⟩) (by assumption) ?_; rotate_left 2; (focus ((simp only [List.getElem?_toArray, List.getElem?_cons_succ, List.getElem?_cons_zero]); first | done | rfl)); (focus (exact fun _ _ _ h => h)); (focus rfl); (focus (intro wz hSw; (try dsimp only at hSw); go_simp; first | done | with_reducible rfl)); try simp only [Act.put, List.setIfInBounds_toArray, List.set_cons_zero, List.set_cons_succ])
                  refine wpAnyH_ready (rs := [14]) (by kernel_rfl) (by simp) ?_
                  refine AllReadyH.cons (o := ?_) ?_ (fun K hK => ?_) ?_
                  rotate_left
                  (focus ((simp only [List.getElem?_toArray, List.getElem?_cons_succ, List.getElem?_cons_zero]); first | done | rfl))
                  · skip
                    go_simp
                    have hSx : ∀ j v, (#[Value.int .i64 p1, .int .i64 p2] : Array Value).toList[j]? = some v → (w13.setCell ⟨bm, 777, none⟩ (.slice aK2 (q + 1) cK2)).cell? ((⟨b3, 0, none⟩ : Addr).add j) = some v := (HS13.out.set_far (Hst13.out) (by decide) 777 _).part
                    refine hK.out _ _ hSx (fun hHeld => ?_)
                    clear hK K
                    try simp only [Act.put, List.setIfInBounds_toArray, List.set_cons_zero, List.set_cons_succ]
                    refine wpAnyH_done (by kernel_rfl) ?_ _
                    have HF : Hid (NumP W0 A B how bm bM lt vL Kc met (.slice aT q cT) R vN ws (.slice aK q cK) p w (.returned (.int .i64 ((q : Nat) : Int))) (w13.setCell ⟨bm, 777, none⟩ (.slice aK2 (q + 1) cK2))) := by
                      obtain ⟨h1, h2⟩ := HW10.out (w13.setCell ⟨bm, 777, none⟩ (.slice aK2 (q + 1) cK2)) (HKp.out.1.trans ((Kept.refl _ _ _).setCell _ _ (Or.inl mblk_bm))) (by have := HKp.out.2; simpa [World.setCell] using this)
                      refine ⟨met ++ [p], _, _, _, _, rfl, HMF.out, h1, fun b e => ?_, HaT.out, h2, Or.inr ⟨Hnd.out, q, rfl, ?_, Or.inr ⟨Hnb.out, rfl⟩⟩⟩
                      · rcases Hat.out with e2 | e2
                        · exact Or.inl (by rw [← e2]; exact e)
                        · rw [e2] at e
                          right
                          have := Option.some.inj e
                          have := HWs.out
                          have := HL12.out
                          omega
                      · rw [← HAB.out.2.2.2.2]; simp
                    clear hHeld z2 z3
                    go_wp2_with fail
                    go_ret
                    exact HF.out
                  exact AllReadyH.nil
                exact AllReadyH.nil
              exact AllReadyH.nil
            refine AllReadyH.cons (o := ?_) ?_ (fun K hK => ?_) ?_
            rotate_left
            (focus ((simp only [List.getElem?_toArray, List.getElem?_cons_succ, List.getElem?_cons_zero]); first | done | rfl))
            · skip
              go_simp
              have kk := al w11 (.cells #[.int .i64 (mkF how A B p)] 3)
              have HN1 : Hid (∀ j u, [Value.int .i64 (mkF how A B p)][j]? = some u → (w11.alloc (.cells #[.int .i64 (mkF how A B p)] 3)).cell? ((⟨w11.heap.size, 0, none⟩ : Addr).add j) = some u) := cell_one_new _ _ _
              have HM : Hid (Mk3 W0 A B how bm bM lt vL Kc (met ++ [p]) (met ++ [p]) met (.slice aT2 (q + 1) cT2) R vN ws (.slice aK q cK) (cs.setIfInBounds 518 (.slice aT2 (q + 1) cT2)) (w11.alloc (.cells #[.int .i64 (mkF how A B p)] 3))) := HM.out.keep kk
              have HS : Hid (St (w11.alloc (.cells #[.int .i64 (mkF how A B p)] 3)) 72 b3 #[.int .i64 p1, .int .i64 p2]) := HS.out.keep kk
              have HKp : Hid (Kept [] (mblk bm bM (.slice aT q cT) (.slice aK q cK)) w10 (w11.alloc (.cells #[.int .i64 (mkF how A B p)] 3)) ∧ w10.heap.size ≤ (w11.alloc (.cells #[.int .i64 (mkF how A B p)] 3)).heap.size) := ⟨HKp.out.1.below kk, Nat.le_trans HKp.out.2 kk.size⟩
              refine hK.out _ _ HS.out.part (fun hHeld => ?_)
              clear hK K
              try simp only [Act.put, List.setIfInBounds_toArray, List.set_cons_zero, List.set_cons_succ]
              clear kk
              generalize w11.alloc (.cells #[.int .i64 (mkF how A B p)] 3) = W12 at HN1 HM HS HKp hHeld ⊢
              refine wpAnyH_ready (rs := [5]) (by kernel_rfl) (by simp) ?_
              refine AllReadyH.cons (o := ?_) ?_ (fun K hK => ?_) ?_
              rotate_left
              (focus ((simp only [List.getElem?_toArray, List.getElem?_cons_succ, List.getElem?_cons_zero]); first | done | rfl))
              · skip
                have f7 := (HM.out.st.at_ 777).trans HM.out.c.hK
                go_simp
                refine hK.out _ _ HS.out.part (fun hHeld => ?_)
                clear hK K
                try simp only [Act.put, List.setIfInBounds_toArray, List.set_cons_zero, List.set_cons_succ]
                clear f7
                refine wpAnyH_ready (rs := [10]) (by kernel_rfl) (by simp) ?_
                refine AllReadyH.cons (o := ?_) ?_ (fun K hK => ?_) ?_
                rotate_left
                (focus ((simp only [List.getElem?_toArray, List.getElem?_cons_succ, List.getElem?_cons_zero]); first | done | rfl))
                · skip
                  have HL12 : Hid (w10.heap.size ≤ W12.heap.size) := HKp.out.2
                  have hO := HM.out.mks
                  rw [HAB.out.2.2.2.2] at hO
                  refine step_append_at9 (by rfl) _ _ _ (by rfl) W0.heap.size 3 iI (.int .i64 0) 1 8 Try.underlying24 hI hI0 hI1 hI2 (by rfl) (by decide) _ q (ints (met.map (mkF how A B))) (by rfl) hO ⟨w11.heap.size, 0, none⟩ 1 1 [.int .i64 (mkF how A B p)] (by rfl) (by rfl) HN1.out (by intro u hu; simp at hu; subst hu; rfl) (by unfold maxLen; omega) (by omega) HM.out.bel.size ?_
                  intro v13 w13 hown hgrow hat
                  obtain ⟨aK2, cK2, rfl⟩ := ownsRow_slice hown
                  have s13 := HM.out.st.grown_own HM.out.mks (by decide) hgrow
                  have Hst13 := Lib.hid s13
                  have z2 := (s13.at_ 777).trans HM.out.c.hK
                  have z3 := s13.thaw_ 777
                  have hS13 := HS.out.grown_own hO (by decide) hgrow
                  have HMF := Lib.hid (HM.out.mark (p := p) (vK' := .slice aK2 (q + 1) cK2) (by rw [HAB.out.2.2.2.2]; exact hown) hgrow hat)
                  have HKp : Hid (Kept [] (mblk bm bM (.slice aT q cT) (.slice aK q cK)) w10 w13 ∧ w10.heap.size ≤ w13.heap.size) := ⟨HKp.out.1.trans ((Kept.refl _ _ _).grown hgrow (fun g e => Or.inl (mblk_K e))), Nat.le_trans HKp.out.2 hgrow.size⟩
                  have Hat : Hid ((Value.slice aK2 (q + 1) cK2).ownBlock = (Value.slice aK q cK).ownBlock ∨ (Value.slice aK2 (q + 1) cK2).ownBlock = some W12.heap.size) := hat
                  have HS13 := Lib.hid hS13
                  clear hown hgrow hat hO s13 hS13
                  refine hK.out _ _ HS13.out.part (fun hHeld => ?_)
                  clear hK K
                  try simp only [Act.put, List.setIfInBounds_toArray, List.set_cons_zero, List.set_cons_succ]
                  (refine wpAnyH_take (i := 11) (oi := ?_) (v := ?_) ?_ (by kernel_rfl) (by kernel_rfl) (by kernel_rfl) ?_ (Or.inl ⟨?_, ?_⟩) (by assumption) ?_; rotate_left 2; (focus ((simp only [List.getElem?_toArray, List.getElem?_cons_succ, List.getElem?_cons_zero]); first | done | rfl)); (focus (exact fun _ _ _ h => h)); (focus rfl); (focus (intro wz hSw; (try dsimp only at hSw); go_simp; first | done | with_reducible rfl)); try simp only [Act.put, List.setIfInBounds_toArray, List.set_cons_zero, List.set_cons_succ])
                  (refine wpAnyH_take (i := 12) (oi := ?_) (v := ?_) ?_ (by kernel_rfl) (by kernel_rfl) (by kernel_rfl) ?_ (Or.inl ⟨?_, ?_⟩) (by assumption) ?_; rotate_left 2; (focus ((simp only [List.getElem?_toArray, List.getElem?_cons_succ, List.getElem?_cons_zero]); first | done | rfl)); (focus (exact fun _ _ _ h => h)); (focus rfl); (focus (intro wz hSw; (try dsimp only at hSw); go_simp; first | done | with_reducible rfl)); try simp only [Act.put, List.setIfInBounds_toArray, List.set_cons_zero, List.set_cons_succ])
                  (refine wpAnyH_take (i := 13) (oi := ?_) (v := ?_) ?_ (by kernel_rfl) (by kernel_rfl) (by kernel_rfl) ?_ (Or.inl ⟨?_, ?_⟩) (by assumption) ?_; rotate_left 2; (focus ((simp only [List.getElem?_toArray, List.getElem?_cons_succ, List.getElem?_cons_zero]); first | done | rfl)); (focus (exact fun _ _ _ h => h)); (focus rfl); (focus (intro wz hSw; (try dsimp only at hSw); go_simp; first | done | with_reducible rfl)); try simp only [Act.put, List.setIfInBounds_toArray, List.set_cons_zero, List.set_cons_succ])
                  refine wpAnyH_ready (rs := [14]) (by kernel_rfl) (by simp) ?_
                  refine AllReadyH.cons (o := ?_) ?_ (fun K hK => ?_) ?_
                  rotate_left
                  (focus ((simp only [List.getElem?_toArray, List.getElem?_cons_succ, List.getElem?_cons_zero]); first | done | rfl))
                  · skip
                    go_simp
                    have hSx : ∀ j v, (#[Value.int .i64 p1, .int .i64 p2] : Array Value).toList[j]? = some v → (w13.setCell ⟨bm, 777, none⟩ (.slice aK2 (q + 1) cK2)).cell? ((⟨b3, 0, none⟩ : Addr).add j) = some v := (HS13.out.set_far (Hst13.out) (by decide) 777 _).part
                    refine hK.out _ _ hSx (fun hHeld => ?_)
                    clear hK K
                    try simp only [Act.put, List.setIfInBounds_toArray, List.set_cons_zero, List.set_cons_succ]
                    refine wpAnyH_done (by kernel_rfl) ?_ _
                    have HF : Hid (NumP W0 A B how bm bM lt vL Kc met (.slice aT q cT) R vN ws (.slice aK q cK) p w (.returned (.int .i64 ((q : Nat) : Int))) (w13.setCell ⟨bm, 777, none⟩ (.slice aK2 (q + 1) cK2))) := by
                      obtain ⟨h1, h2⟩ := HW10.out (w13.setCell ⟨bm, 777, none⟩ (.slice aK2 (q + 1) cK2)) (HKp.out.1.trans ((Kept.refl _ _ _).setCell _ _ (Or.inl mblk_bm))) (by have := HKp.out.2; simpa [World.setCell] using this)
                      refine ⟨met ++ [p], _, _, _, _, rfl, HMF.out, h1, fun b e => ?_, HaT.out, h2, Or.inr ⟨Hnd.out, q, rfl, ?_, Or.inr ⟨Hnb.out, rfl⟩⟩⟩
                      · rcases Hat.out with e2 | e2
                        · exact Or.inl (by rw [← e2]; exact e)
                        · rw [e2] at e
                          right
                          have := Option.some.inj e
                          have := HWs.out
                          have := HL12.out
                          omega
                      · rw [← HAB.out.2.2.2.2]; simp
                    clear hHeld z2 z3
                    go_wp2_with fail
                    go_ret
                    exact HF.out
                  exact AllReadyH.nil
                exact AllReadyH.nil
              exact AllReadyH.nil
            exact AllReadyH.nil
          exact AllReadyH.nil
      exact AllReadyH.nil
end Go.Proofs.Ytohgbkajnhgnaaa

namespace Go.Proofs.Ytohgbkajnhgnaaa
open Go.RowKit Go.Maps Go.WideElems Go.ChangeMaps Go.MapKept
set_option linter.unusedVariables false
set_option linter.unusedSimpArgs false

theorem zLm_size : (zC 76).size = 778 := by kernel_rfl
theorem zLm_tail : (zC 76)[517]? = some (.slice none 0 0) ∧ (zC 76)[518]? = some (.slice none 0 0) ∧ (zC 76)[776]? = some (.slice none 0 0) ∧ (zC 76)[777]? = some (.slice none 0 0) := ⟨by kernel_rfl, by kernel_rfl, by kernel_rfl, by kernel_rfl⟩
/-- The maker's making. -/
theorem lmk_built (how : Int) (cA cB : Array Value) (ha : cA.size = 258) (hb : cB.size = 258) (bM : Nat) : ∃ cK : Array Value, cK.size = 778 ∧ cK[0]? = some (.int .i64 how) ∧ (∀ j, j < 258 → cK[1 + j]? = cA[j]?) ∧ (∀ j, j < 258 → cK[259 + j]? = cB[j]?) ∧ cK[517]? = some (.slice none 0 0) ∧ cK[518]? = some (.slice none 0 0) ∧ cK[519]? = some (.map (some bM)) ∧ cK[776]? = some (.slice none 0 0) ∧ cK[777]? = some (.slice none 0 0) ∧
    ∀ W, (Instr.build 76 #[(0, .int .i64 how), (1, .agg cA), (2, .agg cB), (5, .map (some bM))]).run Try.prog W = .ok (.agg cK) W := by
  have e2 : Try.prog.built 76 [(0, .int .i64 how), (1, .agg cA), (2, .agg cB), (5, .map (some bM))] = Instr.fill (fun i => #[(0, 1), (1, 258), (259, 258), (517, 1), (518, 1), (519, 1), (520, 258)][i]?) (zC 76) [(0, .int .i64 how), (1, .agg cA), (2, .agg cB), (5, .map (some bM))] := by kernel_rfl
  have hk := zLm_size
  obtain ⟨k1, k2, k3, k4⟩ := zLm_tail
  obtain ⟨a1, a2⟩ := putAt_get (zC 76) #[.int .i64 how] 0 (by rw [hk]; simp)
  rw [fill_put _ _ 0 0 1 (.int .i64 how) _ (by rfl) (by rfl) (by rw [hk]; omega)] at e2
  rw [show (Value.int .i64 how).cells = #[.int .i64 how] from rfl] at e2
  generalize putAt (zC 76) #[.int .i64 how] 0 = c1 at a1 a2 e2
  obtain ⟨b1, b2⟩ := putAt_get c1 cA 1 (by rw [a1, hk, ha]; omega)
  rw [fill_put _ _ 1 1 258 (.agg cA) _ (by rfl) ha (by rw [a1, hk]; omega)] at e2
  rw [show (Value.agg cA).cells = cA from rfl] at e2
  generalize putAt c1 cA 1 = c2 at b1 b2 e2
  obtain ⟨f1, f2⟩ := putAt_get c2 cB 259 (by rw [b1, a1, hk, hb]; omega)
  rw [fill_put _ _ 2 259 258 (.agg cB) _ (by rfl) hb (by rw [b1, a1, hk]; omega)] at e2
  rw [show (Value.agg cB).cells = cB from rfl] at e2
  generalize putAt c2 cB 259 = c3 at f1 f2 e2
  obtain ⟨g1, g2⟩ := putAt_get c3 #[.map (some bM)] 519 (by rw [f1, b1, a1, hk]; simp)
  rw [fill_put _ _ 5 519 1 (.map (some bM)) _ (by rfl) (by rfl) (by rw [f1, b1, a1, hk]; omega)] at e2
  rw [show (Value.map (some bM)).cells = #[.map (some bM)] from rfl] at e2
  generalize putAt c3 #[.map (some bM)] 519 = c4 at g1 g2 e2
  rw [ha] at b2
  rw [hb] at f2
  simp only [List.size_toArray, List.length_cons, List.length_nil] at a2 g2
  refine ⟨c4, by rw [g1, f1, b1, a1, hk], ?_, fun j hj => ?_, fun j hj => ?_, ?_, ?_, ?_, ?_, ?_, fun W => run_build W _ _ _ e2⟩
  · rw [g2, if_neg (by omega), f2, if_neg (by omega), b2, if_neg (by omega), a2, if_pos (by omega)]; rfl
  · rw [g2, if_neg (by omega), f2, if_neg (by omega), b2, if_pos (by omega), show 1 + j - 1 = j by omega]
  · rw [g2, if_neg (by omega), f2, if_pos (by omega), show 259 + j - 259 = j by omega]
  · rw [g2, if_neg (by omega), f2, if_neg (by omega), b2, if_neg (by omega), a2, if_neg (by omega), k1]
  · rw [g2, if_neg (by omega), f2, if_neg (by omega), b2, if_neg (by omega), a2, if_neg (by omega), k2]
  · rw [g2, if_pos (by omega)]; rfl
  · rw [g2, if_neg (by omega), f2, if_neg (by omega), b2, if_neg (by omega), a2, if_neg (by omega), k3]
  · rw [g2, if_neg (by omega), f2, if_neg (by omega), b2, if_neg (by omega), a2, if_neg (by omega), k4]
/-- Cells with others laid over a part of them. -/
def blit9 (cur cs : Array Value) (o : Nat) : Array Value := (cur.toList.take o ++ cs.toList ++ cur.toList.drop (o + cs.size)).toArray
theorem blit9_size (cur cs : Array Value) (o : Nat) (h : o + cs.size ≤ cur.size) : (blit9 cur cs o).size = cur.size := by
  unfold blit9
  simp only [List.size_toArray, List.length_append, List.length_take, List.length_drop, Array.length_toList]
  omega
theorem blit9_get (cur cs : Array Value) (o : Nat) (h : o + cs.size ≤ cur.size) (i : Nat) : (blit9 cur cs o)[i]? = if o ≤ i ∧ i < o + cs.size then cs[i - o]? else cur[i]? := by
  unfold blit9
  have hl : (cur.toList.take o).length = o := by rw [List.length_take, Array.length_toList]; omega
  rw [List.getElem?_toArray]
  by_cases h1 : i < o
  · rw [List.append_assoc, List.getElem?_append_left (by omega), if_neg (by omega), List.getElem?_take, if_pos h1, Array.getElem?_toList]
  · rw [List.append_assoc, List.getElem?_append_right (by omega), hl]
    by_cases h2 : i < o + cs.size
    · rw [List.getElem?_append_left (by rw [Array.length_toList]; omega), if_pos ⟨by omega, h2⟩, Array.getElem?_toList]
    · rw [List.getElem?_append_right (by rw [Array.length_toList]; omega), if_neg (by omega), List.getElem?_drop, Array.length_toList, show o + cs.size + (i - o - cs.size) = i by omega, Array.getElem?_toList]
/-- A store of an array within a variable. -/
theorem wpList_store_part9 {P : Program} {ops : Array Oper} {rest : List Oper} {o : Oper} {a : Act} {w : World} {Q : Exit → Act → World → Prop} (hgd : o.guard = none) (ty : TypeId) (x v : Operand) (ho : o.op = .store ty x v) (g off t : Nat) (old cs : Array Value) (hx : a.eval x = .pointer (some ⟨g, off, none⟩)) (hv : a.eval v = .agg cs)
    (hst : w.heap[g]? = some (.cells old t (0, 0))) (hsz : off + cs.size ≤ old.size) (hi : (P.info? ty).map (·.size) = some cs.size) (h1 : ∀ u ∈ cs.toList, u.oneCell' = true) (h : wpList P ops Q rest (a.put o.dst undef) (w.setRow g (blit9 old cs off))) : wpList P ops Q (o :: rest) a w := by
  have hrun : (storeVar ty ⟨g, off, none⟩ (.agg cs)).run P w = .ok () (w.setRow g (blit9 old cs off)) := by
    have hs : (sizeOf ty).run P w = .ok cs.size w := by
      cases hq : P.info? ty with
      | none => simp [hq] at hi
      | some inf =>
        have : inf.size = cs.size := by simpa [hq] using hi
        simp [sizeOf, typeInfo, hq, this]
    have := run_storeCells_at (P := P) g off t cs.toList 0 old w hst (by simpa using hsz) h1
    unfold storeVar
    simp only [Sem.run_bind, hs, Result.andThen_ok]
    rw [if_neg (show ¬ ((Value.agg cs).cells.size ≠ cs.size) from fun h => h rfl)]
    show (storeCells ⟨g, off, none⟩ cs.toList).run P w = _
    rw [this]
    simp only [Nat.add_zero, Array.length_toList]
    rfl
  exact wpList_plain hgd fun _ hK => by
    unfold Oper.wp execOp
    simp only [ho, hx, hv, Instr.storeAt, Instr.sureAddr, Sem.run_bind, Sem.run_pure, Result.andThen_ok, hrun]
    exact hK _ _ h
end Go.Proofs.Ytohgbkajnhgnaaa

namespace Go.Proofs.Ytohgbkajnhgnaaa
open Go.RowKit Go.Maps Go.WideElems Go.ChangeMaps Go.MapKept
set_option linter.unusedVariables false
set_option linter.unusedSimpArgs false

theorem make_mapP9 (W : World) : (Instr.makeMap 74 none).run Try.prog W = .ok (.map (some W.heap.size)) (W.alloc (.map #[] 0)) := by
  kernel_rfl
/-- The maker as it begins. -/
def NewP (A B : Dd) (how : Int) (w : World) (e : Ending) (w' : World) : Prop :=
  ∃ (bm bM : Nat) (g : Nat → Nat) (m : Nat) (vL : Value) (cs : Array Value), e = .returned (.pointer (some ⟨bm, 0, none⟩)) ∧ (rpl g 256).length = m ∧
    Mk3 w A B how bm bM (rpl g 256) vL g [] [] [] (.slice none 0 0) [] (.slice none 0 0) (fun _ => undef) (.slice none 0 0) cs w' ∧ Num (SmC A.K B.K) 256 g m

set_option maxHeartbeats 1000000 in
set_option maxRecDepth 100000 in
theorem newMk_any (A B : Dd) (how : Int) (w : World) (hdA : DM w A) (hdB : DM w B) :
    Calls Try.prog 44 #[.int .i64 how, .agg A.cD, .agg B.cD] w (NewP A B how w) := by
  have hmm := make_mapP9
  have k0 := al w (.cells A.cD 26)
  have k1 := al (w.alloc (.cells A.cD 26)) (.cells B.cD 26)
  have HB : Hid (DBx ((w.alloc (.cells A.cD 26)).alloc (.cells B.cD 26)) w.heap.size A ∧ DBx ((w.alloc (.cells A.cD 26)).alloc (.cells B.cD 26)) (w.heap.size + 1) B ∧ Below w.heap.size w ((w.alloc (.cells A.cD 26)).alloc (.cells B.cD 26))) := by
    refine ⟨(DBx.new hdA).keep k1, ?_, k0.trans (k1.mono k0.size)⟩
    have := DBx.new (hdB.below k0)
    simpa using this
  clear k0 k1 hdA hdB
  go_enter Try.func44, Try.ntmps44
  go_upto_region 1 with fail
  generalize (w.alloc (.cells A.cD 26)).alloc (.cells B.cD 26) = W1 at HB ⊢
  obtain ⟨b1, hb1⟩ : ∃ b1, w.heap.size + 1 = b1 := ⟨_, rfl⟩
  obtain ⟨b0, hb0⟩ : ∃ b0, w.heap.size = b0 := ⟨_, rfl⟩
  rw [hb1, hb0] at HB
  rw [hb1, hb0]
  have Hb := Lib.hid (And.intro hb0 hb1)
  clear hb0 hb1
  obtain ⟨cK, hcs, hc0, hcA, hcB, hcL, hcT, hcM, hcN, hcK, hbld⟩ := lmk_built how A.cD B.cD HB.out.1.dm.sz HB.out.2.1.dm.sz W1.heap.size
  have k2 := al W1 (.map #[] 0)
  have k3 := al (W1.alloc (.map #[] 0)) (.cells cK 76)
  have hMp : MapN (W1.alloc (.map #[] 0)) 72 W1.heap.size 0 (PmQ []) := MapN.made _ _ _ (fun x y h => by
    obtain ⟨k, s, h1, _⟩ := h
    simp at h1)
  have hSt : St ((W1.alloc (.map #[] 0)).alloc (.cells cK 76)) 76 (W1.heap.size + 1) cK := by
    have := St.new (W1.alloc (.map #[] 0)) 76 cK
    simpa using this
  have H4 : Hid (DBx ((W1.alloc (.map #[] 0)).alloc (.cells cK 76)) b0 A ∧ DBx ((W1.alloc (.map #[] 0)).alloc (.cells cK 76)) b1 B ∧ Below b0 w ((W1.alloc (.map #[] 0)).alloc (.cells cK 76)) ∧ MapN ((W1.alloc (.map #[] 0)).alloc (.cells cK 76)) 72 W1.heap.size 0 (PmQ []) ∧ St ((W1.alloc (.map #[] 0)).alloc (.cells cK 76)) 76 (W1.heap.size + 1) cK) := by
    have hz := HB.out.2.2.size
    have e0 := Hb.out.1
    refine ⟨(HB.out.1.keep k2).keep k3, (HB.out.2.1.keep k2).keep k3, ?_, hMp.same (k3.block _ (by simp)), hSt⟩
    have h1 : Below b0 w W1 := HB.out.2.2
    exact h1.trans ((k2.trans (k3.mono k2.size)).mono (by omega))
  have Hb9 : Hid (b0 ≤ W1.heap.size) := by have hz := HB.out.2.2.size; have e0 := Hb.out.1; exact (by omega : b0 ≤ W1.heap.size)
  clear k2 k3 hMp hSt
  go_upto_region 2 with (first | (refine wpList_load_any9 (by rfl) 26 _ rfl ⟨b0, 0, none⟩ rfl A.cD _ HB.out.1.st.part Try.underlying26 rfl HB.out.1.dm.info ?_) | (refine wpList_load_any9 (by rfl) 26 _ rfl ⟨b1, 0, none⟩ rfl B.cD _ HB.out.2.1.st.part Try.underlying26 rfl HB.out.2.1.dm.info ?_) | (refine wpList_build9 rfl 76 _ rfl #[(0, .int .i64 how), (1, .agg A.cD), (2, .agg B.cD), (5, .map (some W1.heap.size))] (by first | rfl | kernel_rfl | (go_simp; done)) (.agg cK) (hbld _) ?_))
  try simp only [alloc_sz9]
  generalize (W1.alloc (.map #[] 0)).alloc (.cells cK 76) = W4 at H4 ⊢
  obtain ⟨bm, hbm⟩ : ∃ bm, W1.heap.size + 1 = bm := ⟨_, rfl⟩
  obtain ⟨bM, hbM⟩ : ∃ bM, W1.heap.size = bM := ⟨_, rfl⟩
  have Hbm := Lib.hid (And.intro hbm hbM)
  rw [hbm, hbM] at H4
  rw [hbm]
  have hcM' : cK[519]? = some (.map (some bM)) := by rw [hcM, hbM]
  clear hbm hbM hcM hbld
  have HC := Lib.hid (And.intro hcs (And.intro hc0 (And.intro hcA (And.intro hcB (And.intro hcL (And.intro hcT (And.intro hcM' (And.intro hcN hcK))))))))
  have HCo := Lib.hid (common_any A.K B.K HB.out.1.dm.kl HB.out.2.1.dm.kl W4)
  clear hcs hc0 hcA hcB hcL hcT hcM' hcN hcK hmm
  go_wp2_with (first | (refine wpList_load_any9 (by rfl) 22 _ rfl ⟨b0, 0, none⟩ rfl (clsOf A.K) _ H4.out.1.clsPart Try.underlying22 rfl (clsOf_info A.K) ?_) | (refine wpList_load_any9 (by rfl) 22 _ rfl ⟨b1, 0, none⟩ rfl (clsOf B.K) _ H4.out.2.1.clsPart Try.underlying22 rfl (clsOf_info B.K) ?_))
  refine HCo.out.mono ?_
  rintro e w5 ⟨g, m, aL, cL, rfl, hown, hnum, hbel⟩
  have hS5 := H4.out.2.2.2.2.keep hbel
  have hsz := HC.out.1
  have HN5 : Hid (w5.ownsRow w.heap.size 5 1 (.slice aL m cL) m (u8s (rpl g 256)) ∧ (rpl g 256).length = m ∧ MapN w5 72 bM 0 (PmQ []) ∧ Below b0 w w5 ∧ Num (SmC A.K B.K) 256 g m) := by
    have hz := H4.out.2.2.1.size
    refine ⟨ownsRow_base hown ?_, hnum.rpl_all, H4.out.2.2.2.1.same (hbel.block _ H4.out.2.2.2.1.lt), H4.out.2.2.1.trans (hbel.mono ?_), hnum⟩
    · have := HB.out.2.2.size; have := Hb.out; have := Hbm.out; have := Hb9.out
      omega
    · have := Hb.out; have := HB.out.2.2.size; have := Hbm.out
      omega
  have HS5 := Lib.hid hS5
  have HS6 : Hid (St (w5.setRow bm (blit9 cK (clsOf g) 520)) 76 bm (blit9 cK (clsOf g) 520)) := hS5.setRow
  have z2 : (w5.setRow bm (blit9 cK (clsOf g) 520)).cell? ⟨bm, 517, none⟩ = some (.slice none 0 0) := by
    rw [HS6.out.at_, blit9_get _ _ _ (by rw [clsOf_size, hsz]; omega), if_neg (by omega)]
    exact HC.out.2.2.2.2.1
  have z3 := HS6.out.thaw_ 517
  have HF : Hid (NewP A B how w (.returned (.pointer (some ⟨bm, 0, none⟩))) ((w5.setRow bm (blit9 cK (clsOf g) 520)).setCell ⟨bm, 517, none⟩ (.slice aL m cL))) := by
    obtain ⟨hown5, hlen, hmap, hbl, hnm⟩ := HN5.out
    obtain ⟨_, h0, hA, hB, hL, hT, hM, hN, hK⟩ := HC.out
    have eb0 := Hb.out
    have ebm := Hbm.out
    have hb9 := Hb9.out
    have hfit : 520 + (clsOf g).size ≤ cK.size := by rw [clsOf_size, hsz]; omega
    have hother : (w5.setRow bm (blit9 cK (clsOf g) 520)).heap[bM]? = w5.heap[bM]? := setRow_other _ _ _ _ (by omega)
    refine ⟨bm, bM, g, m, .slice aL m cL, (blit9 cK (clsOf g) 520).setIfInBounds 517 (.slice aL m cL), rfl, hlen, ⟨?_, HS6.out.set 517 _, ?_, ?_, World.ownsRow_nil _ _ _ _, (hmap.same hother).set HS6.out, ⟨World.ownsRow_nil _ _ _ _, fun i hi => absurd hi (by simp), fun i j hi => absurd hi (by simp)⟩, World.ownsRow_nil _ _ _ _, fun i hi => absurd hi (by simp), by omega, by omega⟩, hnm⟩
    · rw [eb0.1]
      exact (below_setRow9 hbl (by omega) _).setCell (p := ⟨bm, 517, none⟩) (show b0 ≤ bm by omega) _
    · have hz : (blit9 cK (clsOf g) 520).size = 778 := by rw [blit9_size _ _ _ hfit, hsz]
      refine ⟨by rw [Array.size_setIfInBounds, hz], ?_, fun j hj => ?_, fun j hj => ?_, ?_, ?_, ?_, fun j hj => ?_, ?_, ?_⟩
      · rw [Array.getElem?_setIfInBounds_ne (by omega), blit9_get _ _ _ hfit, if_neg (by rw [clsOf_size]; omega), h0]
      · rw [Array.getElem?_setIfInBounds_ne (by omega), blit9_get _ _ _ hfit, if_neg (by rw [clsOf_size]; omega), hA j hj]
      · rw [Array.getElem?_setIfInBounds_ne (by omega), blit9_get _ _ _ hfit, if_neg (by rw [clsOf_size]; omega), hB j hj]
      · rw [Array.getElem?_setIfInBounds_self_of_lt (by omega)]
      · rw [Array.getElem?_setIfInBounds_ne (by omega), blit9_get _ _ _ hfit, if_neg (by rw [clsOf_size]; omega), hT]
      · rw [Array.getElem?_setIfInBounds_ne (by omega), blit9_get _ _ _ hfit, if_neg (by rw [clsOf_size]; omega), hM]
      · rw [Array.getElem?_setIfInBounds_ne (by omega), blit9_get _ _ _ hfit, if_pos (by rw [clsOf_size]; omega), show 520 + j - 520 = j by omega, clsOf_at _ _ hj]
      · rw [Array.getElem?_setIfInBounds_ne (by omega), blit9_get _ _ _ hfit, if_neg (by rw [clsOf_size]; omega), hN]
      · rw [Array.getElem?_setIfInBounds_ne (by omega), blit9_get _ _ _ hfit, if_neg (by rw [clsOf_size]; omega), hK]
    · rw [hlen]
      exact own_set (own_kept (ts := []) (bs := [bm]) hown5 (kept_setRow9 _ _ _) (by simp) (fun q e h => own_ne hown5 HS5.out (by decide) q e (List.mem_singleton.1 h))) HS6.out (by decide) _ _
  clear hown hnum hbel hS5
  go_wp2_with (first | (refine wpList_store_part9 rfl 22 _ _ rfl bm 520 76 cK (clsOf g) rfl rfl HS5.out (by rw [clsOf_size, hsz]; omega) (clsOf_info g) (clsOf_one _) ?_))
  go_ret
  exact HF.out
end Go.Proofs.Ytohgbkajnhgnaaa
