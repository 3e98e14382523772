import Derived.Test.YthidhkaeebakjaaNFollow
namespace Go.Proofs.Ythidhkaeebakjaa
open Go.RowKit Go.Maps Go.WideElems Go.ChangeMaps Go.MapKept
set_option linter.unusedVariables false
set_option linter.unusedSimpArgs false

theorem own_zero {w : World} {B e n c : Nat} {a : Option Addr} {xs : List Value} (h : w.ownsRow B e 1 (.slice a n c) n xs) : w.ownsRow B e 1 (.slice a 0 c) 0 [] := by
  refine ⟨rfl, ?_⟩
  rcases h.2 with ⟨h1, h2⟩ | ⟨g, cap, cur, h1, h2, h3, h4, h5, h6, h7⟩
  · injection h1 with e1 e2 e3
    subst e1 e3
    exact Or.inl ⟨rfl, rfl⟩
  · injection h1 with e1 e2 e3
    subst e1 e3
    exact Or.inr ⟨g, c, cur, rfl, h2, h3, Nat.zero_le _, h5, h6, rfl⟩
/-- The list begins anew in the spare room; the list before is kept. -/
theorem WkR.swap {w V wr : World} {M bW gF gB gI nS cS : Nat} {P : Nat → Bool} {l : List Nat} {vL v5 : Value} {aS : Option Addr} {xS : List Value} (h : WkR w V M bW gF gB gI P l vL v5 (.slice aS nS cS) nS xS wr) :
    WkR w V M bW gF gB gI P [] (.slice aS 0 cS) v5 vL l.length (nums64 l) (wr.setCell ⟨bW, 3, none⟩ (.slice aS 0 cS)) := by
  refine ⟨h.kept.setCell _ _ (Or.inl (by simp)), h.below.setCell (p := ⟨bW, 3, none⟩) h.lo.1 _, ?_, own_set h.inn h.sw (by decide) _ _, own_set (own_zero h.kp) h.sw (by decide) _ _, own_set h.lst h.sw (by decide) _ _, fun b e1 e2 => h.sep b e2 ?_, h.lo.1, h.lo.2.1, ?_, h.lo.2.2.2⟩
  · have := h.sw.set 3 (.slice aS 0 cS)
    simpa using this
  · cases aS with
    | none => simp [Value.ownBlock] at e1
    | some x => simpa [Value.ownBlock] using e1
  · have := h.lo.2.2.1
    simpa [World.setCell] using this
/-- What was kept is the spare room now. -/
theorem WkR.set5 {w V wr : World} {M bW gF gB gI nK : Nat} {P : Nat → Bool} {l : List Nat} {vL v5 vK : Value} {xK : List Value} (h : WkR w V M bW gF gB gI P l vL v5 vK nK xK wr) :
    WkR w V M bW gF gB gI P l vL vK vK nK xK (wr.setCell ⟨bW, 4, none⟩ vK) := by
  refine ⟨h.kept.setCell _ _ (Or.inl (by simp)), h.below.setCell (p := ⟨bW, 4, none⟩) h.lo.1 _, ?_, own_set h.inn h.sw (by decide) _ _, own_set h.lst h.sw (by decide) _ _, own_set h.kp h.sw (by decide) _ _, h.sep, h.lo.1, h.lo.2.1, ?_, h.lo.2.2.2⟩
  · have := h.sw.set 4 vK
    simpa using this
  · have := h.lo.2.2.1
    simpa [World.setCell] using this
theorem own_edges {w : World} {B n c : Nat} {a : Option Addr} {R : List En} (h : w.ownsRow B 35 7 (.slice a n c) n (egs (R.map En.z))) : EdAt w a (R.map En.z) := by
  intro h0
  have hn : n = R.length := by
    have := h.1
    rw [egs_length, List.length_map] at this
    omega
  obtain ⟨g, e, _, hg, hc⟩ := ownsRow_read h (by simp at h0; omega)
  exact ⟨g, 0, e, hg, fun j hj => by rw [Nat.zero_add]; exact (hc j (by rw [hn]; simpa using hj)).1⟩
def ByPost (w V : World) (M bW gF gB gI : Nat) (L : List En) (l : List Nat) (c : Nat) (e : Ending) (w' : World) : Prop :=
  ∃ l' vL' vK' nK' xK', e = .returned (.tuple #[]) ∧ WkA w V M bW gF gB gI l' vL' vK' vK' nK' xK' w' ∧ ∀ x, x ∈ l' ↔ Mv L (fun y => y ∈ l) c x

set_option maxHeartbeats 2000000 in
set_option maxRecDepth 100000 in
theorem followByte_any (w V : World) (cs : Array Value) (M bW gF gB gI : Nat) (vF vB : Nat → Value) (L : List En) (HV : NwAt w cs M bW gF gB gI vF vB L V) (hE : ∀ e ∈ L, e.f < M ∧ e.t < M) (hM : M ≤ 1000000) (hL : L.length ≤ 1000)
    (l : List Nat) (vL vK : Value) (nK : Nat) (xK : List Value) (wr : World) (h : WkA w V M bW gF gB gI l vL vK vK nK xK wr) (b : Nat) (hb : b < 256) :
    Calls Try.prog 35 #[.pointer (some ⟨bW, 0, none⟩), .int .u8 ((b : Nat) : Int)] wr (ByPost w V M bW gF gB gI L l b) := by
  have H := Lib.hid (And.intro HV (And.intro hE hL))
  have H0 := Lib.hid h
  obtain ⟨aL, cL, rfl⟩ := ownsRow_slice h.r.lst
  obtain ⟨aS, cS, rfl⟩ := ownsRow_slice h.r.kp
  obtain ⟨c0, c1, c2, c3, c4⟩ := row5w h.r.sw
  obtain ⟨q, hq⟩ : ∃ q, l.length = q := ⟨_, rfl⟩
  have hqM : q ≤ M := by rw [← hq]; exact h.len
  rw [hq] at c3
  have HQ := Lib.hid hq
  clear HV hE hL h
  go_enter Try.func35, Try.ntmps35
  go_wp2_with fail
  clear c0 c1 c2 c3 c4
  go_loopw [6, 17] (fun _ v wq => ∃ k : Nat, v = .int .i64 k ∧ k ≤ q ∧ Hid (WkR w V M bW gF gB gI (fun x => decide (x ∈ l.drop k)) l (.slice aL l.length cL) (.slice aS nK cS) (.slice aS nK cS) nK xK wq)) (fun _ v _ => q - (intOf v).toNat)
  case atStart => exact ⟨0, rfl, Nat.zero_le _, H0.out.r⟩
  case round =>
    obtain ⟨k, rfl, hk, HA⟩ := hrel
    obtain ⟨c0, c1, c2, c3, c4⟩ := row5w HA.out.sw
    by_cases hkq : k < q
    · have hkl : k < l.length := by omega
      obtain ⟨gl, rfl, _, _, hcl⟩ := ownsRow_read HA.out.lst (by omega)
      have d0 := (hcl k (by omega)).1
      rw [nums64_get l k hkl] at d0
      have hs := H0.out.lt l[k] (List.getElem_mem _)
      have HD : Hid (l.drop k = l[k] :: l.drop (k + 1)) := List.drop_eq_getElem_cons hkl
      have HND : Hid ((l[k] :: l.drop (k + 1)).Nodup) := by rw [← HD.out]; exact H0.out.nd.sublist (List.drop_sublist _ _)
      generalize l[k] = st at d0 hs HD HND
      obtain ⟨y0, y1⟩ := HA.out.cell st hs
      have HZ : Hid (WkR w V M bW gF gB gI (fun x => decide (x ∈ l.drop (k + 1))) l (.slice (some ⟨gl, 0, none⟩) l.length cL) (.slice aS nK cS) (.slice aS nK cS) nK xK (wr.setCell ⟨gI, st, none⟩ (.bool false))) := by
        have h1 := HA.out.put st hs false
        have e : (fun i => if i = st then false else decide (i ∈ l.drop k)) = fun x => decide (x ∈ l.drop (k + 1)) := by
          funext i
          have hn := (List.nodup_cons.1 HND.out).1
          rw [HD.out]
          by_cases e : i = st
          · subst e; simp [hn]
          · simp [e]
        rwa [e] at h1
      have i2 : (st : Int) < (M : Int) := by omega
      have i5 : (k : Int) < (q : Int) := by omega
      clear hcl hkl
      go_wp2_with fail
      go_roundw
      case rel => exact ⟨k + 1, by go_num, by omega, HZ⟩
      case measure => simp [intOf]; omega
    · obtain rfl : k = q := by omega
      have h1 := HA.out
      rw [show (fun x => decide (x ∈ l.drop k)) = fun x => decide (x ∈ ([] : List Nat)) from by funext x; rw [List.drop_of_length_le (by rw [HQ.out]; exact Nat.le_refl _)]] at h1
      have HS := Lib.hid h1.swap
      have pf := h1.sw.thaw_ 3
      have HQ2 := HQ
      clear h1 hkq hk
      go_wp2_with fail
      clear pf c0 c1 c2 c3 c4
      generalize wr.setCell ⟨bW, 3, none⟩ (.slice aS 0 cS) = W1 at HS ⊢
      have HS1 : Hid (WkA w V M bW gF gB gI [] (.slice aS 0 cS) (.slice aS nK cS) (.slice aL k cL) k (nums64 l) W1) := by
        refine ⟨?_, List.nodup_nil, by simp⟩
        have h1 := HS.out
        rwa [HQ.out] at h1
      clear HS HA
      go_loopw [8, 38] (fun _ v wq => ∃ (i : Nat) (l2 : List Nat) (vL2 : Value), v = .int .i64 i ∧ i ≤ k ∧ Hid (WkA w V M bW gF gB gI l2 vL2 (.slice aS nK cS) (.slice aL k cL) k (nums64 l) wq) ∧ Hid (∀ x, x ∈ l2 ↔ ∃ e ∈ (l.take i).flatMap (rowB L), e.p b = true ∧ e.t = x)) (fun _ v _ => k - (intOf v).toNat)
      case atStart => exact ⟨0, [], _, rfl, Nat.zero_le _, HS1, fun x => by simp⟩
      case round =>
        obtain ⟨i, l2, vL2, rfl, hi, HA, HC⟩ := hrel
        clear HS1
        obtain ⟨c0, c1, c2, c3, c4⟩ := row5w HA.out.r.sw
        by_cases hik : i < k
        · have hil : i < l.length := by rw [HQ.out]; exact hik
          obtain ⟨gl, rfl, _, _, hcl⟩ := ownsRow_read HA.out.r.kp (by omega)
          have d0 := (hcl i (by omega)).1
          rw [nums64_get l i hil] at d0
          have hs := H0.out.lt l[i] (List.getElem_mem _)
          have HT : Hid (l.take (i + 1) = l.take i ++ [l[i]]) := List.take_succ_eq_append_getElem hil
          have hby := WkR.by_ H.out.1 HA.out.r.kept
          obtain ⟨aR, cR, hv⟩ := ownsRow_slice (hby.2.1 l[i] hs)
          dsimp only at hv
          have k0 := (hby.cell l[i] hs).1
          rw [hv] at k0
          have HVS := Lib.hid hv
          generalize l[i] = st at d0 hs HT k0 HVS hv
          obtain ⟨p, hp⟩ : ∃ p, (rowB L st).length = p := ⟨_, rfl⟩
          have hpl : p ≤ 1000 := by rw [← hp]; exact Nat.le_trans (rowB_len L st) H.out.2.2
          have HP := Lib.hid hp
          rw [hp] at k0
          have i2 : (st : Int) < (M : Int) := by omega
          have i5 : (i : Int) < (k : Int) := by omega
          clear hv hby hcl hp hil
          go_wp2_with fail
          clear c0 c1 c2 c3 c4 d0 k0
          go_loopw [10, 50] (fun _ v wq => ∃ (m : Nat) (l3 : List Nat) (vL3 : Value), v = .int .i64 m ∧ m ≤ p ∧ Hid (WkA w V M bW gF gB gI l3 vL3 (.slice aS nK cS) (.slice (some ⟨gl, 0, none⟩) k cL) k (nums64 l) wq) ∧ Hid (∀ x, x ∈ l3 ↔ ∃ e ∈ (l.take i).flatMap (rowB L) ++ (rowB L st).take m, e.p b = true ∧ e.t = x)) (fun _ v _ => p - (intOf v).toNat)
          case atStart => exact ⟨0, l2, _, rfl, Nat.zero_le _, HA, fun x => by rw [HC.out x]; simp⟩
          case round =>
            obtain ⟨m, l3, vL3, rfl, hm, HB, HD⟩ := hrel
            clear HA HC
            by_cases hmp : m < p
            · have hml : m < (rowB L st).length := by rw [HP.out]; exact hmp
              have hrow := (WkR.by_ H.out.1 HB.out.r.kept).2.1 st hs
              rw [HVS.out] at hrow
              dsimp only at hrow
              obtain ⟨ge, off, rfl, hge, e0, e1, e2, e3, e4, e5, e6⟩ := (own_edges hrow).getN m hml
              have htm := (H.out.2.1 (rowB L st)[m] ((rowB_mem L st _).1 (List.getElem_mem _)).1).2
              have HTK : Hid ((rowB L st).take (m + 1) = (rowB L st).take m ++ [(rowB L st)[m]]) := List.take_succ_eq_append_getElem hml
              generalize (rowB L st)[m] = x at e0 e1 e2 e3 e4 e5 e6 htm HTK
              have HB1 := Lib.hid (HB.out.keep (al wr (.cells #[.int .i64 ((x.f : Nat) : Int), .int .i64 ((x.t : Nat) : Int), .int .u64 ((wd x.p 0 : Nat) : Int), .int .u64 ((wd x.p 1 : Nat) : Int), .int .u64 ((wd x.p 2 : Nat) : Int), .int .u64 ((wd x.p 3 : Nat) : Int), .bool x.b] 35)))
              have hE1 := St.new wr 35 #[.int .i64 ((x.f : Nat) : Int), .int .i64 ((x.t : Nat) : Int), .int .u64 ((wd x.p 0 : Nat) : Int), .int .u64 ((wd x.p 1 : Nat) : Int), .int .u64 ((wd x.p 2 : Nat) : Int), .int .u64 ((wd x.p 3 : Nat) : Int), .bool x.b]
              have HE1 := Lib.hid hE1
              obtain ⟨xf, xt, xp, xb⟩ := x
              dsimp only at e0 e1 e2 e3 e4 e5 e6 htm HTK HB1 hE1 HE1
              have HC := Lib.hid (fun W => has_any xp b hb W)
              have i7 : (m : Int) < (p : Int) := by omega
              clear hrow hml hE1
              go_wp2_with fail
              refine (HC.out _).mono ?_
              rintro e w2 ⟨rfl, v2⟩
              have HB2 := Lib.hid (HB1.out.keep v2)
              have f1 : w2.cell? ⟨wr.heap.size, 1, none⟩ = some (.int .i64 ((xt : Nat) : Int)) := (HE1.out.keep v2).at_ 1
              clear v2 HE1 HB1 e0 e1 e2 e3 e4 e5 e6
              rcases hpv : xp b with _ | _
              · have HZ : Hid (∀ x, x ∈ l3 ↔ ∃ e ∈ (l.take i).flatMap (rowB L) ++ (rowB L st).take (m + 1), e.p b = true ∧ e.t = x) := fun y => by
                  rw [HD.out y, HTK.out, ← List.append_assoc]
                  constructor
                  · rintro ⟨e, h1, h2⟩; exact ⟨e, List.mem_append_left _ h1, h2⟩
                  · rintro ⟨e, h1, h2⟩
                    rcases List.mem_append.1 h1 with h | h
                    · exact ⟨e, h, h2⟩
                    · rw [List.mem_singleton.1 h] at h2; exact absurd (hpv.symm.trans h2.1) (by decide)
                clear hpv
                go_wp2_with fail
                go_roundw
                case rel => exact ⟨m + 1, l3, vL3, by go_num, by omega, HB2, HZ⟩
                case measure => simp [intOf]; omega
              · have HPV := Lib.hid hpv
                clear hpv
                go_wp2_with fail
                refine (enter_wk w V M bW gF gB gI l3 vL3 _ _ k _ w2 HB2.out hM xt htm).mono ?_
                rintro e w3 ⟨l4, vL4, rfl, h4, hent⟩
                have HZ : Hid (∀ x, x ∈ l4 ↔ ∃ e ∈ (l.take i).flatMap (rowB L) ++ (rowB L st).take (m + 1), e.p b = true ∧ e.t = x) := fun y => by
                  rw [hent.mem y, HD.out y, HTK.out, ← List.append_assoc]
                  constructor
                  · rintro (⟨e, h1, h2⟩ | rfl)
                    · exact ⟨e, List.mem_append_left _ h1, h2⟩
                    · exact ⟨_, List.mem_append_right _ (List.mem_singleton.2 rfl), HPV.out, rfl⟩
                  · rintro ⟨e, h1, h2⟩
                    rcases List.mem_append.1 h1 with h | h
                    · exact Or.inl ⟨e, h, h2⟩
                    · rw [List.mem_singleton.1 h] at h2; exact Or.inr h2.2.symm
                have H4 := Lib.hid h4
                clear h4 hent f1
                go_wp2_with fail
                go_roundw
                case rel => exact ⟨m + 1, l4, vL4, by go_num, by omega, H4, HZ⟩
                case measure => simp [intOf]; omega
            · obtain rfl : m = p := by omega
              have HZ : Hid (∀ x, x ∈ l3 ↔ ∃ e ∈ (l.take (i + 1)).flatMap (rowB L), e.p b = true ∧ e.t = x) := fun x => by
                rw [HD.out x, HT.out, List.take_of_length_le (l := rowB L st) (by rw [HP.out]; exact Nat.le_refl _), List.flatMap_append]
                simp
              go_wp2_with fail
              go_roundw
              case rel => exact ⟨i + 1, l3, vL3, by go_num, by omega, HB, HZ⟩
              case measure => simp [intOf]; omega
        · obtain rfl : i = k := by omega
          have HZ : Hid (∀ x, x ∈ l2 ↔ Mv L (fun y => y ∈ l) b x) := fun x => by
            rw [HC.out x, List.take_of_length_le (by rw [HQ.out]; exact Nat.le_refl _)]
            constructor
            · rintro ⟨e, h1, h2, h3⟩
              obtain ⟨st, h4, h5⟩ := List.mem_flatMap.1 h1
              obtain ⟨h6, h7, h8⟩ := (rowB_mem L st e).1 h5
              exact ⟨e, h6, h7, h2, by rw [h8]; exact h4, h3⟩
            · rintro ⟨e, h1, h2, h3, h4, h5⟩
              exact ⟨e, List.mem_flatMap.2 ⟨e.f, h4, (rowB_mem L _ e).2 ⟨h1, h2, rfl⟩⟩, h3, h5⟩
          have HF : Hid (WkA w V M bW gF gB gI l2 vL2 (.slice aL i cL) (.slice aL i cL) i (nums64 l) (wr.setCell ⟨bW, 4, none⟩ (.slice aL i cL))) := ⟨HA.out.r.set5, HA.out.nd, HA.out.lt⟩
          have pf := HA.out.r.sw.thaw_ 4
          go_wp2_with fail
          refine bodyPost_ret (results_none rfl _ _ _) rfl ?_
          exact ⟨l2, vL2, _, _, _, rfl, HF.out, HZ.out⟩
end Go.Proofs.Ythidhkaeebakjaa
