import Derived.Test.YthidhkaeebakjaaNEnter
import Derived.BigQuiet
import Derived.Deep.QuietTactic
namespace Go.Proofs.Ythidhkaeebakjaa
open Go.RowKit Go.Maps Go.WideElems Go.ChangeMaps Go.MapKept
set_option linter.unusedVariables false
set_option linter.unusedSimpArgs false

/-- A walk that is in the states of l. -/
structure WkA (w V : World) (M bW gF gB gI : Nat) (l : List Nat) (vL v5 vK : Value) (nK : Nat) (xK : List Value) (wr : World) : Prop where
  r : WkR w V M bW gF gB gI (fun x => decide (x ∈ l)) l vL v5 vK nK xK wr
  nd : l.Nodup
  lt : ∀ x ∈ l, x < M
theorem WkA.len {w V wr : World} {M bW gF gB gI nK : Nat} {l : List Nat} {vL v5 vK : Value} {xK : List Value} (h : WkA w V M bW gF gB gI l vL v5 vK nK xK wr) : l.length ≤ M := nodup_below h.nd h.lt
theorem WkA.keep {w V wr w1 : World} {M bW gF gB gI nK : Nat} {l : List Nat} {vL v5 vK : Value} {xK : List Value} (h : WkA w V M bW gF gB gI l vL v5 vK nK xK wr) (k : Below wr.heap.size wr w1) : WkA w V M bW gF gB gI l vL v5 vK nK xK w1 := ⟨h.r.keep k, h.nd, h.lt⟩
/-- Behind an enter. -/
structure Ent (l l' : List Nat) (s : Nat) : Prop where
  mem : ∀ x, x ∈ l' ↔ x ∈ l ∨ x = s
  pre : l <+: l'
def EntP (w V : World) (M bW gF gB gI : Nat) (l : List Nat) (v5 vK : Value) (nK : Nat) (xK : List Value) (s : Nat) (e : Ending) (w' : World) : Prop :=
  ∃ l' vL', e = .returned (.tuple #[]) ∧ WkA w V M bW gF gB gI l' vL' v5 vK nK xK w' ∧ Ent l l' s
theorem enter_wk (w V : World) (M bW gF gB gI : Nat) (l : List Nat) (vL v5 vK : Value) (nK : Nat) (xK : List Value) (wr : World) (h : WkA w V M bW gF gB gI l vL v5 vK nK xK wr) (hM : M ≤ 1000000) (s : Nat) (hs : s < M) :
    Calls Try.prog 33 #[.pointer (some ⟨bW, 0, none⟩), .int .i64 ((s : Nat) : Int)] wr (EntP w V M bW gF gB gI l v5 vK nK xK s) := by
  refine (enter_any w V M bW gF gB gI _ l vL v5 vK nK xK wr h.r hM (Nat.le_trans h.len hM) s hs).mono ?_
  rintro e w' ⟨vL', rfl, h1⟩
  by_cases hm : s ∈ l
  · rw [if_pos (by simpa using hm)] at h1
    refine ⟨l, vL', rfl, ⟨?_, h.nd, h.lt⟩, fun x => ⟨Or.inl, fun h => h.elim id (fun e => e ▸ hm)⟩, List.prefix_refl _⟩
    rwa [show ins (fun x => decide (x ∈ l)) s = fun x => decide (x ∈ l) from by funext j; by_cases e : j = s; subst e; simp [ins, hm]; simp [ins, e]] at h1
  · rw [if_neg (by simpa using hm)] at h1
    refine ⟨l ++ [s], vL', rfl, ⟨?_, ?_, ?_⟩, fun x => by simp, List.prefix_append _ _⟩
    · rwa [show ins (fun x => decide (x ∈ l)) s = fun x => decide (x ∈ l ++ [s]) from by funext j; by_cases e : j = s; subst e; simp [ins]; simp [ins, e]] at h1
    · refine List.nodup_append.2 ⟨h.nd, by simp, fun a ha b hb e => ?_⟩
      rw [List.mem_singleton.1 hb] at e
      exact hm (e ▸ ha)
    · intro x hx
      rcases List.mem_append.1 hx with hx | hx
      · exact h.lt x hx
      · rw [List.mem_singleton.1 hx]; exact hs
/-- All states before number i are done with. -/
def Clo (L : List En) (l : List Nat) (i : Nat) : Prop := ∀ j (h : j < l.length), j < i → ∀ e ∈ L, e.b = true → e.f = l[j] → e.t ∈ l
theorem Clo.pre {L : List En} {l l' : List Nat} {i : Nat} (h : Clo L l i) (hi : i ≤ l.length) (k : l <+: l') : Clo L l' i := by
  intro j hj hji e he hb hf
  have h1 : l[j]'(by omega) = l'[j] := k.getElem (by omega)
  exact k.subset (h j (by omega) hji e he hb (by rw [h1]; exact hf))
def FrPost (w V : World) (M bW gF gB gI : Nat) (L : List En) (l : List Nat) (v5 vK : Value) (nK : Nat) (xK : List Value) (e : Ending) (w' : World) : Prop :=
  ∃ l' vL', e = .returned (.tuple #[]) ∧ WkA w V M bW gF gB gI l' vL' v5 vK nK xK w' ∧ ∀ x, x ∈ l' ↔ FR L (fun y => y ∈ l) x

set_option maxHeartbeats 2000000 in
set_option maxRecDepth 100000 in
theorem followFree_any (w V : World) (cs : Array Value) (M bW gF gB gI : Nat) (vF vB : Nat → Value) (L : List En) (HV : NwAt w cs M bW gF gB gI vF vB L V) (hE : ∀ e ∈ L, e.f < M ∧ e.t < M) (hM : M ≤ 1000000) (hL : L.length ≤ 1000)
    (l : List Nat) (vL v5 vK : Value) (nK : Nat) (xK : List Value) (wr : World) (h : WkA w V M bW gF gB gI l vL v5 vK nK xK wr) :
    Calls Try.prog 34 #[.pointer (some ⟨bW, 0, none⟩)] wr (FrPost w V M bW gF gB gI L l v5 vK nK xK) := by
  have H := Lib.hid (And.intro HV (And.intro hE hL))
  have H0 := Lib.hid h
  clear HV hE hL h
  go_enter Try.func34, Try.ntmps34
  go_wp2_with fail
  go_loopw [2, 4] (fun v _ wq => ∃ (i : Nat) (l1 : List Nat) (vL1 : Value), v = .int .i64 i ∧ i ≤ l1.length ∧ l1.length ≤ M ∧ Hid (WkA w V M bW gF gB gI l1 vL1 v5 vK nK xK wq) ∧ Hid (l <+: l1 ∧ (∀ x ∈ l1, FR L (fun y => y ∈ l) x) ∧ Clo L l1 i)) (fun v _ _ => M + 1 - (intOf v).toNat)
  case atStart => exact ⟨0, l, vL, rfl, Nat.zero_le _, H0.out.len, H0, List.prefix_refl _, fun x hx => .base hx, fun j _ h => absurd h (Nat.not_lt_zero _)⟩
  case round =>
    obtain ⟨i, l1, vL1, rfl, hi, hl1, HA, HC⟩ := hrel
    obtain ⟨aL, cL, rfl⟩ := ownsRow_slice HA.out.r.lst
    obtain ⟨c0, c1, c2, c3, c4⟩ := row5w HA.out.r.sw
    obtain ⟨q, hq⟩ : ∃ q, l1.length = q := ⟨_, rfl⟩
    by_cases hlt : i < l1.length
    · obtain ⟨gl, rfl, _, _, hcl⟩ := ownsRow_read HA.out.r.lst (by omega)
      have d0 := (hcl i (by omega)).1
      rw [nums64_get l1 i hlt] at d0
      have hs := HA.out.lt l1[i] (List.getElem_mem _)
      have HX : Hid (∀ (l2 : List Nat), l1 <+: l2 → (∀ t ∈ rowF L l1[i], t ∈ l2) → Clo L l2 (i + 1)) := by
        intro l2 hp ht j hj hji e he hb hf
        by_cases e1 : j = i
        · subst e1
          have h1 : l1[j] = l2[j] := hp.getElem hlt
          exact ht _ ((rowF_mem L _ _).2 ⟨e, he, hb, by rw [h1]; exact hf, rfl⟩)
        · exact HC.out.2.2.pre (by omega) hp j hj (by omega) e he hb hf
      have HFR : Hid (∀ t ∈ rowF L l1[i], FR L (fun y => y ∈ l) t) := by
        intro t ht
        obtain ⟨e, he, hb, hf, rfl⟩ := (rowF_mem L _ _).1 ht
        exact .step e (HC.out.2.1 _ (List.getElem_mem hlt)) he hb hf rfl
      have HTM : Hid (∀ t ∈ rowF L l1[i], t < M) := by
        intro t ht
        obtain ⟨e, he, hb, hf, rfl⟩ := (rowF_mem L _ _).1 ht
        exact (H.out.2.1 e he).2
      have hfr := WkR.fr H.out.1 HA.out.r.kept
      obtain ⟨aR, cR, hv⟩ := ownsRow_slice (hfr.2.1 l1[i] hs)
      dsimp only at hv
      have k0 := (hfr.cell l1[i] hs).1
      rw [hv] at k0
      have HVS := Lib.hid hv
      generalize l1[i] = st at d0 hs HX HFR HTM k0 HVS hv
      clear hv hfr hcl
      obtain ⟨p, hp⟩ : ∃ p, (rowF L st).length = p := ⟨_, rfl⟩
      have hpl : p ≤ 1000 := by rw [← hp]; exact Nat.le_trans (rowF_len L st) H.out.2.2
      have HP := Lib.hid hp
      rw [hp] at k0
      have HQ := Lib.hid hq
      have i1 : (i : Int) < (q : Int) := by omega
      have i2 : (st : Int) < (M : Int) := by omega
      have i3 : i < q := by omega
      rw [hq] at c3
      clear hp hq hlt hi
      go_wp2_with fail
      go_quiet (fail)
      obtain ⟨wo, hwo⟩ : ∃ wo : World, wr.drewN nq = wo := ⟨_, rfl⟩
      have hB0 : Below wr.heap.size wr wo := by rw [← hwo]; exact below_drewN (Below.refl _ _) _
      have HA0 := Lib.hid (HA.out.keep hB0)
      have HWO := Lib.hid hwo
      clear hwo hB0 c0 c1 c2 c3 c4 d0 k0
      go_wp2_with fail
      rw [HWO.out]
      go_loopw [4, 28] (fun _ v wq => ∃ (k : Nat) (l2 : List Nat) (vL2 : Value), v = .int .i64 k ∧ k ≤ p ∧ Hid (WkA w V M bW gF gB gI l2 vL2 v5 vK nK xK wq) ∧ Hid (l1 <+: l2 ∧ (∀ x ∈ l2, FR L (fun y => y ∈ l) x) ∧ ∀ t ∈ (rowF L st).take k, t ∈ l2)) (fun _ v _ => p - (intOf v).toNat)
      case atStart => exact ⟨0, l1, _, rfl, Nat.zero_le _, HA0, List.prefix_refl _, HC.out.2.1, by simp⟩
      case round =>
        obtain ⟨k, l2, vL2, rfl, hk, HB, HD⟩ := hrel
        clear HA0 HWO
        by_cases hkp : k < p
        · have hkl : k < (rowF L st).length := by rw [HP.out]; exact hkp
          have hfr := WkR.fr H.out.1 HB.out.r.kept
          have hrow := hfr.2.1 st hs
          rw [HVS.out] at hrow
          dsimp only at hrow
          obtain ⟨gr, rfl, _, _, hcr⟩ := ownsRow_read hrow (by omega)
          have d0 := (hcr k (by omega)).1
          rw [nums64_get _ k hkl] at d0
          have htm := HTM.out (rowF L st)[k] (List.getElem_mem _)
          have htf := HFR.out (rowF L st)[k] (List.getElem_mem _)
          have HTK : Hid ((rowF L st).take (k + 1) = (rowF L st).take k ++ [(rowF L st)[k]]) := List.take_succ_eq_append_getElem hkl
          generalize (rowF L st)[k] = t at d0 htm htf HTK
          have HTF := Lib.hid htf
          have i5 : (k : Int) < (p : Int) := by omega
          clear hrow hfr hcr hkl htf
          go_wp2_with fail
          refine (enter_wk w V M bW gF gB gI l2 vL2 v5 vK nK xK wr HB.out hM t htm).mono ?_
          rintro e w2 ⟨l3, vL3, rfl, h3, hent⟩
          have HZ : Hid (l1 <+: l3 ∧ (∀ x ∈ l3, FR L (fun y => y ∈ l) x) ∧ ∀ t ∈ (rowF L st).take (k + 1), t ∈ l3) := by
            refine ⟨HD.out.1.trans hent.pre, fun x hx => ?_, fun y hy => ?_⟩
            · rcases (hent.mem x).1 hx with h | rfl
              · exact HD.out.2.1 x h
              · exact HTF.out
            · rw [HTK.out] at hy
              rcases List.mem_append.1 hy with h | h
              · exact (hent.mem y).2 (Or.inl (HD.out.2.2 y h))
              · exact (hent.mem y).2 (Or.inr (List.mem_singleton.1 h))
          have H3 := Lib.hid h3
          clear h3 hent d0
          go_wp2_with fail
          go_roundw
          case rel => exact ⟨k + 1, l3, vL3, by go_num, by omega, H3, HZ⟩
          case measure => simp [intOf]; omega
        · obtain rfl : k = p := by omega
          have HZ : Hid (l <+: l2 ∧ (∀ x ∈ l2, FR L (fun y => y ∈ l) x) ∧ Clo L l2 (i + 1)) := by
            refine ⟨HC.out.1.trans HD.out.1, HD.out.2.1, HX.out l2 HD.out.1 (fun t ht => HD.out.2.2 t ?_)⟩
            rwa [List.take_of_length_le (by rw [HP.out]; exact Nat.le_refl _)]
          have hl2 := HB.out.len
          have hil : i + 1 ≤ l2.length := by have := HD.out.1.length_le; have := HQ.out; omega
          go_wp2_with fail
          go_roundw
          case rel => exact ⟨i + 1, l2, vL2, by go_num, hil, hl2, HB, HZ⟩
          case measure => simp [intOf]; omega
    · have hiq : i = l1.length := by omega
      have i1 : ¬ ((i : Int) < (q : Int)) := by omega
      rw [hq] at c3
      have HZ : Hid (∀ x, x ∈ l1 ↔ FR L (fun y => y ∈ l) x) := fun x => by
        refine ⟨HC.out.2.1 x, FR.within (C := fun x => x ∈ l1) (fun y hy => HC.out.1.subset hy) (fun e he hb hf => ?_)⟩
        obtain ⟨j, hj, ej⟩ := List.getElem_of_mem hf
        exact HC.out.2.2 j hj (by omega) e he hb ej.symm
      clear hlt hi hiq hq
      go_wp2_with fail
      refine bodyPost_ret (results_none rfl _ _ _) rfl ?_
      exact ⟨l1, _, rfl, HA.out, HZ.out⟩
end Go.Proofs.Ythidhkaeebakjaa
