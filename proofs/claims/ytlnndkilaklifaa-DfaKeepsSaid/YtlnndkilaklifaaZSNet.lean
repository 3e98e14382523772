import Derived.Test.YtlnndkilaklifaaZClasses
import Derived.Test.YtlnndkilaklifaaZSNetF
import Derived.Deep.RegionWith
import Derived.Deep.AppendLies
import Derived.Deep.RegionHeld3
import Derived.Deep.DeepCutAuto
namespace Go.Proofs.Ytlnndkilaklifaa
open Go.RowKit Go.Maps Go.WideElems Go.ChangeMaps Go.MapKept
set_option linter.unusedVariables false
set_option linter.unusedSimpArgs false

theorem Try.info_step9 : (Try.prog.info? 107).map (fun i => (i.zero, i.size, i.bytes)) = some (some (.agg #[.slice none 0 0, .int .i64 0]), 2, 32) := by kernel_rfl
def NetP (K : Nat → Lit) (mf : Nat → Int) (L : List En) (F : Nat) (w : World) (e : Ending) (w' : World) : Prop :=
  ∃ (bn f0 gM cM gF cF gS cS : Nat) (nm : List Nat) (L' : List En) (aF aS : Nat → Option Addr) (cRF cRS : Nat → Nat) (csA : Array Value), e = .returned (.pointer (some ⟨bn, 0, none⟩)) ∧ Below w.heap.size w w' ∧ NetFr w' w'.heap.size bn gF nm.length cF aF cRF L' ∧
    NetSt w' w'.heap.size bn gS nm.length cS aS cRS (clR (rl K 256)) L' ∧ NetMk w' w'.heap.size bn gM nm.length cM (fun i => mf (nm.getD i 0)) ∧ NetCl w' w'.heap.size bn K csA ∧ w'.cell? ⟨bn, 256, none⟩ = some (.int .i64 ((f0 : Nat) : Int)) ∧
    L = L'.map (En.ren nm) ∧ nm.Nodup ∧ (∀ e ∈ L', e.f < nm.length ∧ e.t < nm.length) ∧ nm[f0]? = some F ∧ nm.length ≤ 2 * L.length + 1 ∧ ∀ x ∈ nm, Src L F F x

set_option maxHeartbeats 2000000 in
set_option maxRecDepth 100000 in
theorem newnet_any (kf bV : Nat) (mf : Nat → Int) (S0 T : Int) (F : Nat) (L : List En) (a : Option Addr) (n c : Nat) (w : World) (HC : ∀ (args : Array Value) (W : World), (callFunc kf args).run Try.prog W = .ok (.enter kf args) W)
    (HM : ∀ W, Below w.heap.size w W → ∀ x, x ≤ 9223372036854775807 → Calls Try.prog kf #[.int .i64 ((x : Nat) : Int), .pointer (some ⟨bV, 0, none⟩)] W fun e w' => e = .returned (.int .i64 (mf x)) ∧ w' = W)
    (hL : EdAt w a (L.map En.z)) (hn : L.length = n) (hmax : n ≤ 30) (hF : F ≤ 9223372036854775807) (hE : ∀ e ∈ L, e.f ≤ 9223372036854775807 ∧ e.t ≤ 9223372036854775807) :
    Calls Try.prog 61 #[.agg #[.int .i64 S0, .slice a n c, .int .i64 ((F : Nat) : Int), .int .i64 T], .func (.func kf) #[] #[.pointer (some ⟨bV, 0, none⟩)]] w (NetP (KOf L) mf L F w) := by
  have hmm := @run_makeMap Try.prog
  have hmf : ∀ (fn : Fn) (first cap : Array Value) (w : World), (Instr.makeFunc fn first cap).run Try.prog w = .ok (.func fn first cap) w := fun _ _ _ _ => rfl
  have HH := Lib.hid (And.intro HC (And.intro HM (And.intro hL (And.intro hn hE))))
  clear HC HM hL hn hE
  go_enter Try.func61, Try.ntmps61
  go_upto_region 1 with fail
  have HI : Hid (∃ W0, (w.alloc (.cells #[.int .i64 S0, .slice a n c, .int .i64 ((F : Nat) : Int), .int .i64 T] 24)).alloc (.cells #[.func (.func kf) #[] #[.pointer (some ⟨bV, 0, none⟩)]] 64) = W0) := ⟨_, rfl⟩
  obtain ⟨W0, hW0⟩ := HI.out
  have h2 : St W0 24 w.heap.size #[.int .i64 S0, .slice a n c, .int .i64 ((F : Nat) : Int), .int .i64 T] := by rw [← hW0]; exact (St.new w _ _).alloc _
  have h3 : St W0 64 (w.heap.size + 1) #[.func (.func kf) #[] #[.pointer (some ⟨bV, 0, none⟩)]] := by
    rw [← hW0]
    have := St.new (w.alloc (.cells #[.int .i64 S0, .slice a n c, .int .i64 ((F : Nat) : Int), .int .i64 T] 24)) 64 #[.func (.func kf) #[] #[.pointer (some ⟨bV, 0, none⟩)]]
    simpa using this
  have hB0 : Below w.heap.size w W0 := by rw [← hW0]; exact (al w _).trans ((al _ _).mono (by simp))
  rw [hW0]
  clear hW0 HI
  have H0 := Lib.hid (And.intro h2 (And.intro h3 hB0))
  obtain ⟨r0, r1, r2, r3⟩ := h2.cells4
  have HSe := Lib.hid (sets_any S0 ((F : Nat) : Int) T a n c (L.map En.z) W0 (HH.out.2.2.1.below hB0) (by rw [List.length_map]; exact HH.out.2.2.2.1) (by omega))
  clear h2 h3 hB0
  go_wp2_with fail
  refine HSe.out.mono ?_
  rintro e w1 ⟨a1, n1, c1, rfl, hl1, hO1, hB1⟩
  have hn1 : n1 ≤ 1000 := by
    have := setsOf_len (L.map En.z)
    rw [List.length_map, HH.out.2.2.2.1] at this
    omega
  subst hl1
  have HCl := Lib.hid (classes_any a1 _ c1 (setF (L.map En.z)) hn1 w1 (sts_sets hO1 rfl))
  have HB1 := Lib.hid hB1
  clear hO1 hB1 r0 r1 r2 r3 HSe hn1
  go_wp2_with fail
  refine HCl.out.mono ?_
  rintro e w3 ⟨csA, rfl, hsA, hvA, hB3⟩
  obtain ⟨cN, hcs, hc1, c256, c257, c258, c259, hbuild⟩ := net_built csA hsA
  have HB3 := Lib.hid (show Below w.heap.size w w3 ∧ St w3 24 w.heap.size #[.int .i64 S0, .slice a n c, .int .i64 ((F : Nat) : Int), .int .i64 T] ∧ St w3 64 (w.heap.size + 1) #[.func (.func kf) #[] #[.pointer (some ⟨bV, 0, none⟩)]] from by
    have hk := HB1.out.trans (hB3.mono HB1.out.size)
    exact ⟨H0.out.2.2.trans (hk.mono H0.out.2.2.size), H0.out.1.keep hk, H0.out.2.1.keep hk⟩)
  have HN := Lib.hid (And.intro hsA (And.intro hvA (And.intro hcs (And.intro hc1 (And.intro c256 (And.intro c257 (And.intro c258 c259)))))))
  clear hsA hvA hB3 hcs hc1 c256 c257 c258 c259 HCl
  go_wp2_with (refine wpList_build9 rfl 88 _ rfl #[(0, .agg csA)] ?hp (.agg cN) ?hb ?_)
  case hb => exact hbuild _
  go_upto_region 4 with fail
  have HA := Lib.hid (NnA.start w w3 w.heap.size (w.heap.size + 1) (.func (.func kf) #[] #[.pointer (some ⟨bV, 0, none⟩)]) mf cN HB3.out.1 HB3.out.1.size HB3.out.2.2 HN.out.2.2.1 HN.out.2.2.2.2.2.1 HN.out.2.2.2.2.2.2.1 HN.out.2.2.2.2.2.2.2)
  have HS2 : Hid (St ((((w3.alloc (.cells cN 88)).alloc (.cells #[.pointer (some ⟨w3.heap.size, 0, none⟩)] 83)).alloc (.map #[] 0)).alloc (.cells #[.map (some (w3.heap.size + 1 + 1))] 101)) 24 w.heap.size #[.int .i64 S0, .slice a n c, .int .i64 ((F : Nat) : Int), .int .i64 T]) := (((HB3.out.2.1.keep (al _ _)).keep (al _ _)).keep (al _ _)).keep (al _ _)
  obtain ⟨bn, hbn⟩ : ∃ bn, w3.heap.size = bn := ⟨_, rfl⟩
  rw [hbn] at HA HS2
  rw [hbn]
  generalize (((w3.alloc (.cells cN 88)).alloc (.cells #[.pointer (some ⟨bn, 0, none⟩)] 83)).alloc (.map #[] 0)).alloc (.cells #[.map (some (bn + 1 + 1))] 101) = W4 at HA HS2 ⊢
  obtain ⟨b5, hb5⟩ : ∃ b5, bn + 1 = b5 := ⟨_, rfl⟩
  obtain ⟨bM, hbM⟩ : ∃ bM, bn + 1 + 1 = bM := ⟨_, rfl⟩
  obtain ⟨b6, hb6⟩ : ∃ b6, bn + 1 + 1 + 1 = b6 := ⟨_, rfl⟩
  obtain ⟨b2, hb2⟩ : ∃ b2, w.heap.size = b2 := ⟨_, rfl⟩
  obtain ⟨b3, hb3⟩ : ∃ b3, w.heap.size + 1 = b3 := ⟨_, rfl⟩
  rw [hb6, hbM, hb5] at HA
  rw [hb6, hb5]
  rw [hb3] at HA
  rw [hb3]
  have hHS := HS2.out
  rw [hb2] at hHS HS2
  have hBd : Below W4.heap.size W4 W4.drew := (Below.refl _ _).drew
  have HAd := Lib.hid (HA.out.keep hBd)
  have HNum := Lib.hid (nnumber_any w w.heap.size bn b3 b5 b6 bM kf bV mf [] cN (.slice none 0 0) (.slice none 0 0) (.slice none 0 0) (fun _ => .slice none 0 0) (fun _ => .slice none 0 0) (fun _ => []) [] W4.drew HH.out.1 HH.out.2.1 HAd.out (by simp) F hF)
  have q2 : W4.drew.cell? ⟨b2, 2, none⟩ = some (.int .i64 ((F : Nat) : Int)) := hHS.at_ 2
  have q5 : W4.drew.cell? ⟨b5, 0, none⟩ = some (.pointer (some ⟨bn, 0, none⟩)) := HA.out.sT.at_ 0
  rw [hb2]
  have HBb := Lib.hid (And.intro hb2 (And.intro hb5 (And.intro hbM (And.intro hb6 hb3))))
  clear hHS hb2 hb5 hbM hb6 hb3 hbn hBd hbuild
  refine wp_region_held_drew (S := fun W' => W'.cell? ⟨b5, 0, none⟩ = some (.pointer (some ⟨bn, 0, none⟩)) ∧ W'.cell? ⟨b2, 2, none⟩ = some (.int .i64 ((F : Nat) : Int))) (by kernel_rfl) ⟨q5, q2⟩ (fun hHeld => ?_)
  (refine wpAnyH_take (i := 0) (oi := ?_) (v := ?_) ?_ (by kernel_rfl) (by kernel_rfl) (by kernel_rfl) ?_ (Or.inl ⟨?_, ?_⟩) (by assumption) ?_; rotate_left 2; (focus ((simp only [List.getElem?_toArray, List.getElem?_cons_zero]); first | done | rfl)); (focus (exact fun _ _ _ h => h)); (focus rfl); (focus (intro wz hSw; (try dsimp only at hSw); go_simp; first | done | with_reducible rfl)); try simp only [Act.put, List.setIfInBounds_toArray, List.set_cons_zero, List.set_cons_succ])
  (refine wpAnyH_take (i := 1) (oi := ?_) (v := ?_) ?_ (by kernel_rfl) (by kernel_rfl) (by kernel_rfl) ?_ (Or.inl ⟨?_, ?_⟩) (by assumption) ?_; rotate_left 2; (focus ((simp only [List.getElem?_toArray, List.getElem?_cons_succ, List.getElem?_cons_zero]); first | done | rfl)); (focus (exact fun _ _ _ h => h)); (focus rfl); (focus (intro wz hSw; (try dsimp only at hSw); go_simp; first | done | with_reducible rfl)); try simp only [Act.put, List.setIfInBounds_toArray, List.set_cons_zero, List.set_cons_succ])
  (refine wpAnyH_take (i := 2) (oi := ?_) (v := ?_) ?_ (by kernel_rfl) (by kernel_rfl) (by kernel_rfl) ?_ (Or.inl ⟨?_, ?_⟩) (by assumption) ?_; rotate_left 2; (focus ((simp only [List.getElem?_toArray, List.getElem?_cons_succ, List.getElem?_cons_zero]); first | done | rfl)); (focus (exact fun _ _ _ h => h)); (focus rfl); (focus (intro wz hSw; (try dsimp only at hSw); go_simp; first | done | with_reducible rfl)); try simp only [Act.put, List.setIfInBounds_toArray, List.set_cons_zero, List.set_cons_succ])
  (refine wpAnyH_take (i := 3) (oi := ?_) (v := ?_) ?_ (by kernel_rfl) (by kernel_rfl) (by kernel_rfl) ?_ (Or.inl ⟨?_, ?_⟩) (by assumption) ?_; rotate_left 2; (focus ((simp only [List.getElem?_toArray, List.getElem?_cons_succ, List.getElem?_cons_zero]); first | done | rfl)); (focus (exact fun _ _ _ h => h)); (focus rfl); (focus (intro wz hSw; (try dsimp only at hSw); go_simp; first | done | with_reducible rfl)); try simp only [Act.put, List.setIfInBounds_toArray, List.set_cons_zero, List.set_cons_succ])
  refine wpAnyH_ready (rs := [4]) (by kernel_rfl) (by simp) ?_
  refine AllReadyH.cons (o := ?_) ?_ (fun K hK => ?_) ?_
  rotate_left
  (focus ((simp only [List.getElem?_toArray, List.getElem?_cons_succ, List.getElem?_cons_zero]); first | done | rfl))
  · skip
    go_simp
    go_at_call 70
    refine HNum.out.mono ?_
    rintro e w5 ⟨f0, nm1, vM1, vF1, vS1, fv1, sv1, rfl, hN1, hk1, hor1, hF1⟩
    have HX := Lib.hid (And.intro hN1 (And.intro hk1 (And.intro hor1 hF1)))
    have hs2w : St w5 24 b2 #[.int .i64 S0, .slice a n c, .int .i64 ((F : Nat) : Int), .int .i64 T] := hF1.st HS2.out.drew (fun e => Or.elim e (fun e => map_ne_st HAd.out.map HS2.out.drew e) (fun e => HAd.out.n.ne_st HS2.out.drew (by decide) (by decide) (by decide) (by decide) (by decide) e))
    have q5' : w5.cell? ⟨b5, 0, none⟩ = some (.pointer (some ⟨bn, 0, none⟩)) := HX.out.1.sT.at_ 0
    have q6 := HX.out.1.n.sn.thaw_ 256
    have q7 : w5.cell? ⟨bn, 256, none⟩ = some (.int .i64 0) := (by rw [HX.out.1.n.sn.at_, Array.getElem?_setIfInBounds_ne (by decide), Array.getElem?_setIfInBounds_ne (by decide), Array.getElem?_setIfInBounds_ne (by decide)]; exact HN.out.2.2.2.2.1)
    have HX2 : Hid (NnA w w.heap.size bn b3 b5 b6 bM (.func (.func kf) #[] #[.pointer (some ⟨bV, 0, none⟩)]) mf nm1 (cN.setIfInBounds 256 (.int .i64 ((f0 : Nat) : Int))) vM1 vF1 vS1 fv1 sv1 (fun _ => []) [] (w5.setCell ⟨bn, 256, none⟩ (.int .i64 ((f0 : Nat) : Int))) ∧ St (w5.setCell ⟨bn, 256, none⟩ (.int .i64 ((f0 : Nat) : Int))) 24 b2 #[.int .i64 S0, .slice a n c, .int .i64 ((F : Nat) : Int), .int .i64 T]) := ⟨HX.out.1.first _, hs2w.set_far HX.out.1.n.sn (by decide) _ _⟩
    have HX1 := Lib.hid HX.out.2
    have q2' : w5.cell? ⟨b2, 2, none⟩ = some (.int .i64 ((F : Nat) : Int)) := hs2w.at_ 2
    clear hN1 hk1 hor1 hF1
    try go_wp2_with fail
    refine hK.out _ _ ⟨q5', q2'⟩ (fun hHeld => ?_)
    clear hK K
    try simp only [Act.put, List.setIfInBounds_toArray, List.set_cons_zero, List.set_cons_succ]
    (refine wpAnyH_take (i := 5) (oi := ?_) (v := ?_) ?_ (by kernel_rfl) (by kernel_rfl) (by kernel_rfl) ?_ (Or.inl ⟨?_, ?_⟩) (by assumption) ?_; rotate_left 2; (focus ((simp only [List.getElem?_toArray, List.getElem?_cons_succ, List.getElem?_cons_zero]); first | done | rfl)); (focus (exact fun _ _ _ h => h)); (focus rfl); (focus (intro wz hSw; (try dsimp only at hSw); go_simp; first | done | with_reducible rfl)); try simp only [Act.put, List.setIfInBounds_toArray, List.set_cons_zero, List.set_cons_succ])
    (refine wpAnyH_take (i := 6) (oi := ?_) (v := ?_) ?_ (by kernel_rfl) (by kernel_rfl) (by kernel_rfl) ?_ (Or.inl ⟨?_, ?_⟩) (by assumption) ?_; rotate_left 2; (focus ((simp only [List.getElem?_toArray, List.getElem?_cons_succ, List.getElem?_cons_zero]); first | done | rfl)); (focus (exact fun _ _ _ h => h)); (focus rfl); (focus (intro wz hSw; (try dsimp only at hSw); go_simp; first | done | with_reducible rfl)); try simp only [Act.put, List.setIfInBounds_toArray, List.set_cons_zero, List.set_cons_succ])
    refine wpAnyH_ready (rs := [7]) (by kernel_rfl) (by simp) ?_
    refine AllReadyH.cons (o := ?_) ?_ (fun K hK => ?_) ?_
    rotate_left
    (focus ((simp only [List.getElem?_toArray, List.getElem?_cons_succ, List.getElem?_cons_zero]); first | done | rfl))
    · skip
      go_simp
      refine hK.out _ _ ⟨HX2.out.1.sT.at_ 0, HX2.out.2.at_ 2⟩ (fun hHeld => ?_)
      clear hK K
      try simp only [Act.put, List.setIfInBounds_toArray, List.set_cons_zero, List.set_cons_succ]
      refine wpAnyH_done (by kernel_rfl) ?_ _
      clear hHeld q2 q5 q5' q6 q7 q2' hs2w HX HNum HAd
      generalize w5.setCell ⟨bn, 256, none⟩ (.int .i64 ((f0 : Nat) : Int)) = W5 at HX2 ⊢
      have s0 : W5.cell? ⟨b5, 0, none⟩ = some (.pointer (some ⟨bn, 0, none⟩)) := HX2.out.1.sT.at_ 0
      have HCs := Lib.hid (csets_any (KOf L) bn csA W5 (HX2.out.1.n.cl HN.out.1 HN.out.2.1 (fun j hj => by rw [Array.getElem?_setIfInBounds_ne (by omega)]; exact HN.out.2.2.2.1 j hj)))
      go_wp2_with fail
      refine HCs.out.mono ?_
      rintro e w6 ⟨b7, b8, bL, aR, cR, rfl, hLs, hB6, hbL⟩
      have HNw : Hid (NwS w w.heap.size b2 b3 b5 b6 b7 b8 bn bM bL (.func (.func kf) #[] #[.pointer (some ⟨bV, 0, none⟩)]) mf #[.int .i64 S0, .slice a n c, .int .i64 ((F : Nat) : Int), .int .i64 T] (cN.setIfInBounds 256 (.int .i64 ((f0 : Nat) : Int))) (rl (KOf L) 256) aR cR L F f0 0 1 0 nm1 vM1 vF1 vS1 fv1 sv1 (fun _ => []) [] [] w6) := by
        have h1 := HX2.out.1.keep hB6
        refine ⟨h1, (hLs _).base HX2.out.1.bel.size, HX2.out.2.keep hB6, fun i hi => StP.nil _ _ _, rfl, fun e he => by simp at he, HX1.out.1, ?_, ?_, ?_⟩
        · rcases HX1.out.2.1 with h | h <;> rw [h] <;> simp
        · have := HX2.out.1.map.lt
          omega
        · exact ext_src HX1.out.2.1 (Or.inl rfl) (fun x hx => by simp at hx)
      have s1 : w6.cell? ⟨b2, 1, none⟩ = some (.slice a n c) := HNw.out.s2.at_ 1
      have hs26 : St w6 24 b2 #[.int .i64 S0, .slice a n c, .int .i64 ((F : Nat) : Int), .int .i64 T] := HNw.out.s2
      clear hLs hB6 hbL s0 HCs HX2 HX1 hs26
      go_wp2_with fail
      clear s1
      go_loopw [10, 11, 12, 32] (fun _ _ _ v wq => ∃ (k nn : Nat) (nm : List Nat) (vM vF vS : Value) (fv sv : Nat → Value) (xs : Nat → List Value) (L' : List En) (DL : List ((Nat → Bool) × Option Addr × Nat)), v = .int .i64 k ∧ k ≤ n ∧ nn ≤ k ∧
        Hid (NwS w w.heap.size b2 b3 b5 b6 b7 b8 bn bM bL (.func (.func kf) #[] #[.pointer (some ⟨bV, 0, none⟩)]) mf #[.int .i64 S0, .slice a n c, .int .i64 ((F : Nat) : Int), .int .i64 T] (cN.setIfInBounds 256 (.int .i64 ((f0 : Nat) : Int))) (rl (KOf L) 256) aR cR L F f0 k (2 * k + 1) nn nm vM vF vS fv sv xs L' DL wq)) (fun _ _ _ v _ => n - (intOf v).toNat)
      case atStart => exact ⟨0, 0, nm1, vM1, vF1, vS1, fv1, sv1, _, [], [], rfl, Nat.zero_le _, Nat.le_refl _, HNw⟩
      case round =>
        clear HNw
        obtain ⟨k, nn, nm, vM, vF, vS, fv, sv, xs, L1, DL, rfl, hk, hnk, HA⟩ := hrel
        by_cases hlt : k < n
        · have hkl : k < L.length := by rw [HH.out.2.2.2.1]; exact hlt
          obtain ⟨ge, off, rfl, hg, c0, c1, c2, c3, c4, c5, c6⟩ := (HH.out.2.2.1.below HA.out.a.bel).getN k hkl
          have HS : Hid (L.take (k + 1) = L.take k ++ [L[k]]) := List.take_succ_eq_append_getElem hkl
          have hx := HH.out.2.2.2.2 L[k] (List.getElem_mem _)
          have HMm : Hid (L[k] ∈ L) := List.getElem_mem _
          generalize L[k] = x at c0 c1 c2 c3 c4 c5 c6 HS hx HMm
          have hal : Below wr.heap.size wr (wr.alloc (.cells #[.int .i64 ((x.f : Nat) : Int), .int .i64 ((x.t : Nat) : Int), .int .u64 ((wd x.p 0 : Nat) : Int), .int .u64 ((wd x.p 1 : Nat) : Int), .int .u64 ((wd x.p 2 : Nat) : Int), .int .u64 ((wd x.p 3 : Nat) : Int), .bool x.b] 43)) := al wr _
          have HA1 := Lib.hid (HA.out.keep hal.drew)
          have HE1 : Hid (St (wr.alloc (.cells #[.int .i64 ((x.f : Nat) : Int), .int .i64 ((x.t : Nat) : Int), .int .u64 ((wd x.p 0 : Nat) : Int), .int .u64 ((wd x.p 1 : Nat) : Int), .int .u64 ((wd x.p 2 : Nat) : Int), .int .u64 ((wd x.p 3 : Nat) : Int), .bool x.b] 43)).drew 43 wr.heap.size #[.int .i64 ((x.f : Nat) : Int), .int .i64 ((x.t : Nat) : Int), .int .u64 ((wd x.p 0 : Nat) : Int), .int .u64 ((wd x.p 1 : Nat) : Int), .int .u64 ((wd x.p 2 : Nat) : Int), .int .u64 ((wd x.p 3 : Nat) : Int), .bool x.b]) := St.new wr _ _
          have d0 : (wr.alloc (.cells #[.int .i64 ((x.f : Nat) : Int), .int .i64 ((x.t : Nat) : Int), .int .u64 ((wd x.p 0 : Nat) : Int), .int .u64 ((wd x.p 1 : Nat) : Int), .int .u64 ((wd x.p 2 : Nat) : Int), .int .u64 ((wd x.p 3 : Nat) : Int), .bool x.b] 43)).drew.cell? ⟨wr.heap.size, 0, none⟩ = some (.int .i64 ((x.f : Nat) : Int)) := HE1.out.at_ 0
          have d1 : (wr.alloc (.cells #[.int .i64 ((x.f : Nat) : Int), .int .i64 ((x.t : Nat) : Int), .int .u64 ((wd x.p 0 : Nat) : Int), .int .u64 ((wd x.p 1 : Nat) : Int), .int .u64 ((wd x.p 2 : Nat) : Int), .int .u64 ((wd x.p 3 : Nat) : Int), .bool x.b] 43)).drew.cell? ⟨wr.heap.size, 1, none⟩ = some (.int .i64 ((x.t : Nat) : Int)) := HE1.out.at_ 1
          have hnl : nm.length ≤ 90000 := by have := HA.out.len; omega
          clear hal hkl
          go_wp2_with fail
          clear c0 c1 c2 c3 c4 c5 c6
          refine wp_region_held_drew (S := fun W' => W'.cell? ⟨wr.heap.size, 0, none⟩ = some (.int .i64 ((x.f : Nat) : Int)) ∧ W'.cell? ⟨wr.heap.size, 1, none⟩ = some (.int .i64 ((x.t : Nat) : Int))) (by kernel_rfl) ⟨d0, d1⟩ (fun hHeld => ?_)
          (refine wpAnyH_take (i := 0) (oi := ?_) (v := ?_) ?_ (by kernel_rfl) (by kernel_rfl) (by kernel_rfl) ?_ (Or.inl ⟨?_, ?_⟩) (by assumption) ?_; rotate_left 2; (focus ((simp only [List.getElem?_toArray, List.getElem?_cons_zero]); first | done | rfl)); (focus (exact fun _ _ _ h => h)); (focus rfl); (focus (intro wz hSw; (try dsimp only at hSw); go_simp; first | done | with_reducible rfl)); try simp only [Act.put, List.setIfInBounds_toArray, List.set_cons_zero, List.set_cons_succ])
          (refine wpAnyH_take (i := 1) (oi := ?_) (v := ?_) ?_ (by kernel_rfl) (by kernel_rfl) (by kernel_rfl) ?_ (Or.inl ⟨?_, ?_⟩) (by assumption) ?_; rotate_left 2; (focus ((simp only [List.getElem?_toArray, List.getElem?_cons_succ, List.getElem?_cons_zero]); first | done | rfl)); (focus (exact fun _ _ _ h => h)); (focus rfl); (focus (intro wz hSw; (try dsimp only at hSw); go_simp; first | done | with_reducible rfl)); try simp only [Act.put, List.setIfInBounds_toArray, List.set_cons_zero, List.set_cons_succ])
          (refine wpAnyH_take (i := 2) (oi := ?_) (v := ?_) ?_ (by kernel_rfl) (by kernel_rfl) (by kernel_rfl) ?_ (Or.inl ⟨?_, ?_⟩) (by assumption) ?_; rotate_left 2; (focus ((simp only [List.getElem?_toArray, List.getElem?_cons_succ, List.getElem?_cons_zero]); first | done | rfl)); (focus (exact fun _ _ _ h => h)); (focus rfl); (focus (intro wz hSw; (try dsimp only at hSw); go_simp; first | done | with_reducible rfl)); try simp only [Act.put, List.setIfInBounds_toArray, List.set_cons_zero, List.set_cons_succ])
          (refine wpAnyH_take (i := 4) (oi := ?_) (v := ?_) ?_ (by kernel_rfl) (by kernel_rfl) (by kernel_rfl) ?_ (Or.inl ⟨?_, ?_⟩) (by assumption) ?_; rotate_left 2; (focus ((simp only [List.getElem?_toArray, List.getElem?_cons_succ, List.getElem?_cons_zero]); first | done | rfl)); (focus (exact fun _ _ _ h => h)); (focus rfl); (focus (intro wz hSw; (try dsimp only at hSw); go_simp; first | done | with_reducible rfl)); try simp only [Act.put, List.setIfInBounds_toArray, List.set_cons_zero, List.set_cons_succ])
          (refine wpAnyH_take (i := 5) (oi := ?_) (v := ?_) ?_ (by kernel_rfl) (by kernel_rfl) (by kernel_rfl) ?_ (Or.inl ⟨?_, ?_⟩) (by assumption) ?_; rotate_left 2; (focus ((simp only [List.getElem?_toArray, List.getElem?_cons_succ, List.getElem?_cons_zero]); first | done | rfl)); (focus (exact fun _ _ _ h => h)); (focus rfl); (focus (intro wz hSw; (try dsimp only at hSw); go_simp; first | done | with_reducible rfl)); try simp only [Act.put, List.setIfInBounds_toArray, List.set_cons_zero, List.set_cons_succ])
          (refine wpAnyH_take (i := 6) (oi := ?_) (v := ?_) ?_ (by kernel_rfl) (by kernel_rfl) (by kernel_rfl) ?_ (Or.inl ⟨?_, ?_⟩) (by assumption) ?_; rotate_left 2; (focus ((simp only [List.getElem?_toArray, List.getElem?_cons_succ, List.getElem?_cons_zero]); first | done | rfl)); (focus (exact fun _ _ _ h => h)); (focus rfl); (focus (intro wz hSw; (try dsimp only at hSw); go_simp; first | done | with_reducible rfl)); try simp only [Act.put, List.setIfInBounds_toArray, List.set_cons_zero, List.set_cons_succ])
          refine wpAnyH_ready (rs := [3]) (by kernel_rfl) (by simp) ?_
          refine AllReadyH.cons (o := ?_) ?_ (fun K hK => ?_) ?_
          rotate_left
          (focus ((simp only [List.getElem?_toArray, List.getElem?_cons_succ, List.getElem?_cons_zero]); first | done | rfl))
          · skip
            go_simp
            go_at_call 70
            refine (nnumber_any w w.heap.size bn b3 b5 b6 bM kf bV mf nm _ vM vF vS fv sv xs L1 (wr.alloc (.cells #[.int .i64 ((x.f : Nat) : Int), .int .i64 ((x.t : Nat) : Int), .int .u64 ((wd x.p 0 : Nat) : Int), .int .u64 ((wd x.p 1 : Nat) : Int), .int .u64 ((wd x.p 2 : Nat) : Int), .int .u64 ((wd x.p 3 : Nat) : Int), .bool x.b] 43)).drew HH.out.1 HH.out.2.1 HA1.out.a hnl x.f hx.1).mono ?_
            rintro e w2 ⟨k1, nm2, vM2, vF2, vS2, fv2, sv2, rfl, hN2, hk2, hor2, hF2⟩
            have HA2 := Lib.hid (And.intro (HA1.out.num hN2 hor2 hF2 (Or.inr (Or.inr ⟨x, HMm.out, Or.inl rfl⟩))) (And.intro (hF2.st HE1.out (fun e => HA1.out.far HE1.out (by decide) (by decide) (by decide) (by decide) (by decide) (Or.inr e))) (And.intro hk2 hor2)))
            clear hN2 hk2 hor2 hF2
            try go_wp2_with fail
            refine hK.out _ _ ⟨HA2.out.2.1.at_ 0, HA2.out.2.1.at_ 1⟩ (fun hHeld => ?_)
            clear hK K
            try simp only [Act.put, List.setIfInBounds_toArray, List.set_cons_zero, List.set_cons_succ]
            refine wpAnyH_ready (rs := [7]) (by kernel_rfl) (by simp) ?_
            refine AllReadyH.cons (o := ?_) ?_ (fun K hK => ?_) ?_
            rotate_left
            (focus ((simp only [List.getElem?_toArray, List.getElem?_cons_succ, List.getElem?_cons_zero]); first | done | rfl))
            · skip
              go_simp
              go_at_call 70
              refine (nnumber_any w w.heap.size bn b3 b5 b6 bM kf bV mf nm2 _ vM2 vF2 vS2 fv2 sv2 xs L1 w2 HH.out.1 HH.out.2.1 HA2.out.1.a (by have := HA2.out.1.len; omega) x.t hx.2).mono ?_
              rintro e w3 ⟨k2, nm3, vM3, vF3, vS3, fv3, sv3, rfl, hN3, hk3, hor3, hF3⟩
              have HA3 := Lib.hid (And.intro (HA2.out.1.num hN3 hor3 hF3 (Or.inr (Or.inr ⟨x, HMm.out, Or.inr rfl⟩))) (And.intro (hF3.st HA2.out.2.1 (fun e => HA2.out.1.far HA2.out.2.1 (by decide) (by decide) (by decide) (by decide) (by decide) (Or.inr e))) (And.intro (ext_at hor3 HA2.out.2.2.1) (And.intro hk3 (show L1.length ≤ 30 from by have := congrArg List.length HA.out.rel; rw [List.length_map] at this; have h2 := List.length_take_le k L; omega)))))
              clear hN3 hk3 hor3 hF3
              try go_wp2_with fail
              refine hK.out _ _ ⟨HA3.out.2.1.at_ 0, HA3.out.2.1.at_ 1⟩ (fun hHeld => ?_)
              clear hK K
              try simp only [Act.put, List.setIfInBounds_toArray, List.set_cons_zero, List.set_cons_succ]
              (refine wpAnyH_take (i := 8) (oi := ?_) (v := ?_) ?_ (by kernel_rfl) (by kernel_rfl) (by kernel_rfl) ?_ (Or.inl ⟨?_, ?_⟩) (by assumption) ?_; rotate_left 2; (focus ((simp only [List.getElem?_toArray, List.getElem?_cons_succ, List.getElem?_cons_zero]); first | done | rfl)); (focus (exact fun _ _ _ h => h)); (focus rfl); (focus (intro wz hSw; (try dsimp only at hSw); go_simp; first | done | with_reducible rfl)); try simp only [Act.put, List.setIfInBounds_toArray, List.set_cons_zero, List.set_cons_succ])
              (refine wpAnyH_take (i := 9) (oi := ?_) (v := ?_) ?_ (by kernel_rfl) (by kernel_rfl) (by kernel_rfl) ?_ (Or.inl ⟨?_, ?_⟩) (by assumption) ?_; rotate_left 2; (focus ((simp only [List.getElem?_toArray, List.getElem?_cons_succ, List.getElem?_cons_zero]); first | done | rfl)); (focus (exact fun _ _ _ h => h)); (focus rfl); (focus (intro wz hSw; (try dsimp only at hSw); go_simp; first | done | with_reducible rfl)); try simp only [Act.put, List.setIfInBounds_toArray, List.set_cons_zero, List.set_cons_succ])
              refine wpAnyH_done (by kernel_rfl) ?_ _
              clear hHeld
              have HK := Lib.hid (And.intro HA3.out.2.2.1 HA3.out.2.2.2.1)
              have hk1l : k1 < nm3.length := (List.getElem?_eq_some_iff.1 HK.out.1).1
              have hk2l : k2 < nm3.length := (List.getElem?_eq_some_iff.1 HK.out.2).1
              have hnpos : 0 < nm3.length := by omega
              have hnm3 : nm3.length ≤ 90000 := by have := HA3.out.1.len; omega
              obtain ⟨z0, z1, z2, z3, z4, z5, z6⟩ := row7e HA3.out.2.1
              obtain ⟨xf, xt, xp, xb⟩ := x
              obtain ⟨be, hbe⟩ : ∃ be, wr.heap.size = be := ⟨_, rfl⟩
              have HE := Lib.hid HA3.out.2.1
              rw [hbe] at z0 z1 z2 z3 z4 z5 z6 HE
              rw [hbe]
              clear d0 d1 HA2 HA1 HE1 HA hnl hbe
              dsimp only at z0 z1 z2 z3 z4 z5 z6 HE HS HK
              rcases xb with _ | _
              · skip
                go_wp2_with fail
                obtain ⟨aS, cS, rfl⟩ := ownsRow_slice HA3.out.1.a.n.st.own
                obtain ⟨gS, rfl, -, -, -⟩ := ownsRow_read HA3.out.1.a.n.st.own hnpos
                obtain ⟨aRw, cRw, hv⟩ := ownsRow_slice (HA3.out.1.a.n.st.row k1 hk1l)
                try dsimp only at hv
                have HA3d := Lib.hid (HA3.out.1.keep (show Below w3.heap.size w3 w3.drew from (Below.refl _ _).drew))
                obtain ⟨p, hp⟩ : ∃ p, (rowB L1 k1).length = p := ⟨_, rfl⟩
                have hpl : p ≤ 30 := by rw [← hp]; exact Nat.le_trans (rowB_len _ _) HA3.out.2.2.2.2
                have rdS : ∀ W : World, W.ownsRow w.heap.size 105 1 (.slice (some ⟨gS, 0, none⟩) nm3.length cS) nm3.length ((List.range nm3.length).map sv3) → W.cell? ⟨gS, k1, none⟩ = some (.slice aRw p cRw) ∧ W.frozen? ⟨gS, k1, none⟩ = false := fun W hW => by
                  obtain ⟨g, e, _, _, hc⟩ := ownsRow_read hW hnpos
                  injection e with e
                  injection e with e
                  subst e
                  obtain ⟨h1, h2⟩ := hc k1 (by omega)
                  exact ⟨by rw [h1]; simp only [List.getElem?_map, List.getElem?_range hk1l, Option.map_some, hv, hp], h2⟩
                have k0 := (rdS _ HA3.out.1.a.n.st.own).1
                have HV := Lib.hid (And.intro hv hp)
                have HRd := Lib.hid rdS
                obtain ⟨q, hq⟩ : ∃ q, nm3.length = q := ⟨_, rfl⟩
                have HQ := Lib.hid hq
                have j1 : (k1 : Int) < (q : Int) := by omega
                have j2 : (0 : Int) ≤ (k1 : Int) := by omega
                obtain ⟨pc, hpc⟩ : ∃ pc, (clR (rl (KOf L) 256) xp).length = pc := ⟨_, rfl⟩
                have HPC := Lib.hid hpc
                have hlr : (rl (KOf L) 256).length ≤ 256 := by rw [rl_len]; exact nrep_le _ _
                have HCl := Lib.hid (ncls_any w.heap.size bn b7 b8 bL nn (rl (KOf L) 256) aR cR _ DL w3.drew HA3d.out.l (fun x hx => HA3d.out.lt x hx) (by omega) hlr xp)
                obtain ⟨i0, hi0, hz0, hz1, hz2⟩ := info_parts Try.info_step9
                have HS0 := Lib.hid (fun (W : World) (h1 : St W 83 b5 #[.pointer (some ⟨bn, 0, none⟩)]) (h2 : W.cell? ⟨bn, 259, none⟩ = some (.slice (some ⟨gS, 0, none⟩) q cS)) (h3 : St W 43 be #[.int .i64 ((xf : Nat) : Int), .int .i64 ((xt : Nat) : Int), .int .u64 ((wd xp 0 : Nat) : Int), .int .u64 ((wd xp 1 : Nat) : Int), .int .u64 ((wd xp 2 : Nat) : Int), .int .u64 ((wd xp 3 : Nat) : Int), .bool false]) => (⟨h1.at_ 0, h2, h3.at_ 2, h3.at_ 3, h3.at_ 4, h3.at_ 5⟩ : W.cell? ⟨b5, 0, none⟩ = some (.pointer (some ⟨bn, 0, none⟩)) ∧ W.cell? ⟨bn, 259, none⟩ = some (.slice (some ⟨gS, 0, none⟩) q cS) ∧ W.cell? ⟨be, 2, none⟩ = some (.int .u64 ((wd xp 0 : Nat) : Int)) ∧ W.cell? ⟨be, 3, none⟩ = some (.int .u64 ((wd xp 1 : Nat) : Int)) ∧ W.cell? ⟨be, 4, none⟩ = some (.int .u64 ((wd xp 2 : Nat) : Int)) ∧ W.cell? ⟨be, 5, none⟩ = some (.int .u64 ((wd xp 3 : Nat) : Int))))
                have hs3 := HA3.out.1.a.sT
                have hc3 : w3.cell? ⟨bn, 259, none⟩ = some (.slice (some ⟨gS, 0, none⟩) q cS) := by rw [← hq]; exact HA3.out.1.a.n.cells.2.2
                clear hv hp rdS hq hpc hlr
                refine wp_region_held_drew (S := fun W' => W'.cell? ⟨b5, 0, none⟩ = some (.pointer (some ⟨bn, 0, none⟩)) ∧ W'.cell? ⟨bn, 259, none⟩ = some (.slice (some ⟨gS, 0, none⟩) q cS) ∧ W'.cell? ⟨be, 2, none⟩ = some (.int .u64 ((wd xp 0 : Nat) : Int)) ∧ W'.cell? ⟨be, 3, none⟩ = some (.int .u64 ((wd xp 1 : Nat) : Int)) ∧ W'.cell? ⟨be, 4, none⟩ = some (.int .u64 ((wd xp 2 : Nat) : Int)) ∧ W'.cell? ⟨be, 5, none⟩ = some (.int .u64 ((wd xp 3 : Nat) : Int))) (by kernel_rfl) (HS0.out _ hs3.drew hc3 HE.out.drew) (fun hHeld => ?_)
                (refine wpAnyH_take (i := 0) (oi := ?_) (v := ?_) ?_ (by kernel_rfl) (by kernel_rfl) (by kernel_rfl) ?_ (Or.inl ⟨?_, ?_⟩) (by assumption) ?_; rotate_left 2; (focus ((simp only [List.getElem?_toArray, List.getElem?_cons_zero]); first | done | rfl)); (focus (exact fun _ _ _ h => h)); (focus rfl); (focus (intro wz hSw; (try dsimp only at hSw); go_simp; first | done | with_reducible rfl)); try simp only [Act.put, List.setIfInBounds_toArray, List.set_cons_zero, List.set_cons_succ])
                (refine wpAnyH_take (i := 1) (oi := ?_) (v := ?_) ?_ (by kernel_rfl) (by kernel_rfl) (by kernel_rfl) ?_ (Or.inl ⟨?_, ?_⟩) (by assumption) ?_; rotate_left 2; (focus ((simp only [List.getElem?_toArray, List.getElem?_cons_succ, List.getElem?_cons_zero]); first | done | rfl)); (focus (exact fun _ _ _ h => h)); (focus rfl); (focus (intro wz hSw; (try dsimp only at hSw); go_simp; first | done | with_reducible rfl)); try simp only [Act.put, List.setIfInBounds_toArray, List.set_cons_zero, List.set_cons_succ])
                (refine wpAnyH_take (i := 2) (oi := ?_) (v := ?_) ?_ (by kernel_rfl) (by kernel_rfl) (by kernel_rfl) ?_ (Or.inl ⟨?_, ?_⟩) (by assumption) ?_; rotate_left 2; (focus ((simp only [List.getElem?_toArray, List.getElem?_cons_succ, List.getElem?_cons_zero]); first | done | rfl)); (focus (exact fun _ _ _ h => h)); (focus rfl); (focus (intro wz hSw; (try dsimp only at hSw); go_simp; first | done | with_reducible rfl)); try simp only [Act.put, List.setIfInBounds_toArray, List.set_cons_zero, List.set_cons_succ])
                (refine wpAnyH_take (i := 3) (oi := ?_) (v := ?_) ?_ (by kernel_rfl) (by kernel_rfl) (by kernel_rfl) ?_ (Or.inl ⟨?_, ?_⟩) (by assumption) ?_; rotate_left 2; (focus ((simp only [List.getElem?_toArray, List.getElem?_cons_succ, List.getElem?_cons_zero]); first | done | rfl)); (focus (exact fun _ _ _ h => h)); (focus rfl); (focus (intro wz hSw; (try dsimp only at hSw); go_simp; first | done | with_reducible rfl)); try simp only [Act.put, List.setIfInBounds_toArray, List.set_cons_zero, List.set_cons_succ])
                (refine wpAnyH_take (i := 4) (oi := ?_) (v := ?_) ?_ (by kernel_rfl) (by kernel_rfl) (by kernel_rfl) ?_ (Or.inl ⟨?_, ?_⟩) (by assumption) ?_; rotate_left 2; (focus ((simp only [List.getElem?_toArray, List.getElem?_cons_succ, List.getElem?_cons_zero]); first | done | rfl)); (focus (exact fun _ _ _ h => h)); (focus rfl); (focus (intro wz hSw; (try dsimp only at hSw); go_simp; first | done | with_reducible rfl)); try simp only [Act.put, List.setIfInBounds_toArray, List.set_cons_zero, List.set_cons_succ])
                (refine wpAnyH_take (i := 5) (oi := ?_) (v := ?_) ?_ (by kernel_rfl) (by kernel_rfl) (by kernel_rfl) ?_ (Or.inl ⟨?_, ?_⟩) (by assumption) ?_; rotate_left 2; (focus ((simp only [List.getElem?_toArray, List.getElem?_cons_succ, List.getElem?_cons_zero]); first | done | rfl)); (focus (exact fun _ _ _ h => h)); (focus rfl); (focus (intro wz hSw; (try dsimp only at hSw); go_simp; first | done | with_reducible rfl)); try simp only [Act.put, List.setIfInBounds_toArray, List.set_cons_zero, List.set_cons_succ])
                (refine wpAnyH_take (i := 6) (oi := ?_) (v := ?_) ?_ (by kernel_rfl) (by kernel_rfl) (by kernel_rfl) ?_ (Or.inl ⟨?_, ?_⟩) (by assumption) ?_; rotate_left 2; (focus ((simp only [List.getElem?_toArray, List.getElem?_cons_succ, List.getElem?_cons_zero]); first | done | rfl)); (focus (exact fun _ _ _ h => h)); (focus rfl); (focus (intro wz hSw; (try dsimp only at hSw); go_simp; first | done | with_reducible rfl)); try simp only [Act.put, List.setIfInBounds_toArray, List.set_cons_zero, List.set_cons_succ])
                (refine wpAnyH_take (i := 7) (oi := ?_) (v := ?_) ?_ (by kernel_rfl) (by kernel_rfl) (by kernel_rfl) ?_ (Or.inl ⟨?_, ?_⟩) (by assumption) ?_; rotate_left 2; (focus ((simp only [List.getElem?_toArray, List.getElem?_cons_succ, List.getElem?_cons_zero]); first | done | rfl)); (focus (exact fun _ _ _ h => h)); (focus rfl); (focus (intro wz hSw; (try dsimp only at hSw); go_simp; first | done | with_reducible rfl)); try simp only [Act.put, List.setIfInBounds_toArray, List.set_cons_zero, List.set_cons_succ])
                (refine wpAnyH_take (i := 8) (oi := ?_) (v := ?_) ?_ (by kernel_rfl) (by kernel_rfl) (by kernel_rfl) ?_ (Or.inl ⟨?_, ?_⟩) (by assumption) ?_; rotate_left 2; (focus ((simp only [List.getElem?_toArray, List.getElem?_cons_succ, List.getElem?_cons_zero]); first | done | rfl)); (focus (exact fun _ _ _ h => h)); (focus rfl); (focus (intro wz hSw; (try dsimp only at hSw); go_simp; first | done | with_reducible rfl)); try simp only [Act.put, List.setIfInBounds_toArray, List.set_cons_zero, List.set_cons_succ])
                (refine wpAnyH_take (i := 9) (oi := ?_) (v := ?_) ?_ (by kernel_rfl) (by kernel_rfl) (by kernel_rfl) ?_ (Or.inl ⟨?_, ?_⟩) (by assumption) ?_; rotate_left 2; (focus ((simp only [List.getElem?_toArray, List.getElem?_cons_succ, List.getElem?_cons_zero]); first | done | rfl)); (focus (exact fun _ _ _ h => h)); (focus rfl); (focus (intro wz hSw; (try dsimp only at hSw); go_simp; first | done | with_reducible rfl)); try simp only [Act.put, List.setIfInBounds_toArray, List.set_cons_zero, List.set_cons_succ])
                (refine wpAnyH_take (i := 10) (oi := ?_) (v := ?_) ?_ (by kernel_rfl) (by kernel_rfl) (by kernel_rfl) ?_ (Or.inl ⟨?_, ?_⟩) (by assumption) ?_; rotate_left 2; (focus ((simp only [List.getElem?_toArray, List.getElem?_cons_succ, List.getElem?_cons_zero]); first | done | rfl)); (focus (exact fun _ _ _ h => h)); (focus rfl); (focus (intro wz hSw; (try dsimp only at hSw); go_simp; first | done | with_reducible rfl)); try simp only [Act.put, List.setIfInBounds_toArray, List.set_cons_zero, List.set_cons_succ])
                (refine wpAnyH_take (i := 12) (oi := ?_) (v := ?_) ?_ (by kernel_rfl) (by kernel_rfl) (by kernel_rfl) ?_ (Or.inl ⟨?_, ?_⟩) (by assumption) ?_; rotate_left 2; (focus ((simp only [List.getElem?_toArray, List.getElem?_cons_succ, List.getElem?_cons_zero]); first | done | rfl)); (focus (exact fun _ _ _ h => h)); (focus rfl); (focus (intro wz hSw; (try dsimp only at hSw); go_simp; first | done | with_reducible rfl)); try simp only [Act.put, List.setIfInBounds_toArray, List.set_cons_zero, List.set_cons_succ])
                (refine wpAnyH_take (i := 13) (oi := ?_) (v := ?_) ?_ (by kernel_rfl) (by kernel_rfl) (by kernel_rfl) ?_ (Or.inl ⟨?_, ?_⟩) (by assumption) ?_; rotate_left 2; (focus ((simp only [List.getElem?_toArray, List.getElem?_cons_succ, List.getElem?_cons_zero]); first | done | rfl)); (focus (exact fun _ _ _ h => h)); (focus rfl); (focus (intro wz hSw; (try dsimp only at hSw); go_simp; first | done | with_reducible rfl)); try simp only [Act.put, List.setIfInBounds_toArray, List.set_cons_zero, List.set_cons_succ])
                (refine wpAnyH_take (i := 14) (oi := ?_) (v := ?_) ?_ (by kernel_rfl) (by kernel_rfl) (by kernel_rfl) ?_ (Or.inl ⟨?_, ?_⟩) (by assumption) ?_; rotate_left 2; (focus ((simp only [List.getElem?_toArray, List.getElem?_cons_succ, List.getElem?_cons_zero]); first | done | rfl)); (focus (exact fun _ _ _ h => h)); (focus rfl); (focus (intro wz hSw; (try dsimp only at hSw); go_simp; first | done | with_reducible rfl)); try simp only [Act.put, List.setIfInBounds_toArray, List.set_cons_zero, List.set_cons_succ])
                (refine wpAnyH_take (i := 16) (oi := ?_) (v := ?_) ?_ (by kernel_rfl) (by kernel_rfl) (by kernel_rfl) ?_ (Or.inl ⟨?_, ?_⟩) (by assumption) ?_; rotate_left 2; (focus ((simp only [List.getElem?_toArray, List.getElem?_cons_succ, List.getElem?_cons_zero]); first | done | rfl)); (focus (exact fun _ _ _ h => h)); (focus rfl); (focus (intro wz hSw; (try dsimp only at hSw); go_simp; first | done | with_reducible rfl)); try simp only [Act.put, List.setIfInBounds_toArray, List.set_cons_zero, List.set_cons_succ])
                refine wpAnyH_ready (rs := [11, 15]) (by kernel_rfl) (by simp) ?_
                refine AllReadyH.cons (o := ?_) ?_ (fun K hK => ?_) ?_
                rotate_left
                (focus ((simp only [List.getElem?_toArray, List.getElem?_cons_succ, List.getElem?_cons_zero]); first | done | rfl))
                · skip
                  go_simp
                  refine hK.out _ _ (HS0.out _ hs3.drew hc3 HE.out.drew) (fun hHeld => ?_)
                  clear hK K
                  try simp only [Act.put, List.setIfInBounds_toArray, List.set_cons_zero, List.set_cons_succ]
                  refine wpAnyH_ready (rs := [15]) (by kernel_rfl) (by simp) ?_
                  refine AllReadyH.cons (o := ?_) ?_ (fun K hK => ?_) ?_
                  rotate_left
                  (focus ((simp only [List.getElem?_toArray, List.getElem?_cons_succ, List.getElem?_cons_zero]); first | done | rfl))
                  · skip
                    go_simp
                    go_at_call 80
                    refine HCl.out.mono ?_
                    rintro e w4 ⟨ac, cc, DL2, rfl, hl4, hI4, hk4, hb4⟩
                    have HA4 := Lib.hid (HA3d.out.cls hl4 hk4 hb4)
                    have HE4 : Hid (St w4 43 be #[.int .i64 ((xf : Nat) : Int), .int .i64 ((xt : Nat) : Int), .int .u64 ((wd xp 0 : Nat) : Int), .int .u64 ((wd xp 1 : Nat) : Int), .int .u64 ((wd xp 2 : Nat) : Int), .int .u64 ((wd xp 3 : Nat) : Int), .bool false]) := st_cls HE.out.drew HA3d.out.l hk4
                    have HI4 := Lib.hid hI4
                    rw [HPC.out]
                    clear hl4 hI4 hk4 hb4
                    have HA5 := Lib.hid (HA4.out.keep (al w4 (.cells #[.slice ac pc cc, .int .i64 ((k2 : Nat) : Int)] 107)))
                    have HE5 := Lib.hid (HE4.out.keep (al w4 (.cells #[.slice ac pc cc, .int .i64 ((k2 : Nat) : Int)] 107)))
                    have hs4 := HA4.out.a.sT
                    have hs5 := HA5.out.a.sT
                    have hc4 : w4.cell? ⟨bn, 259, none⟩ = some (.slice (some ⟨gS, 0, none⟩) q cS) := by rw [← HQ.out]; exact HA4.out.a.n.cells.2.2
                    have hc5 : (w4.alloc (.cells #[.slice ac pc cc, .int .i64 ((k2 : Nat) : Int)] 107)).cell? ⟨bn, 259, none⟩ = some (.slice (some ⟨gS, 0, none⟩) q cS) := by rw [← HQ.out]; exact HA5.out.a.n.cells.2.2
                    have k4 := (HRd.out _ HA4.out.a.n.st.own).1
                    have k5 := (HRd.out _ HA5.out.a.n.st.own).1
                    have hrow := HA5.out.a.n.st.row k1 hk1l
                    rw [HV.out.1, HV.out.2] at hrow
                    have hH2 : w.heap.size ≤ (w4.alloc (.cells #[.slice ac pc cc, .int .i64 ((k2 : Nat) : Int)] 107)).heap.size := HA5.out.a.n.lo.2
                    try go_wp2_with fail
                    refine hK.out _ _ (HS0.out _ hs4 hc4 HE4.out) (fun hHeld => ?_)
                    clear hK K
                    try simp only [Act.put, List.setIfInBounds_toArray, List.set_cons_zero, List.set_cons_succ]
                    (refine wpAnyH_take (i := 17) (oi := ?_) (v := ?_) ?_ (by kernel_rfl) (by kernel_rfl) (by kernel_rfl) ?_ (Or.inl ⟨?_, ?_⟩) (by assumption) ?_; rotate_left 2; (focus ((simp only [List.getElem?_toArray, List.getElem?_cons_succ, List.getElem?_cons_zero]); first | done | rfl)); (focus (exact fun _ _ _ h => h)); (focus rfl); (focus (intro wz hSw; (try dsimp only at hSw); go_simp; first | done | with_reducible rfl)); try simp only [Act.put, List.setIfInBounds_toArray, List.set_cons_zero, List.set_cons_succ])
                    refine wpAnyH_ready (rs := [18]) (by kernel_rfl) (by simp) ?_
                    refine AllReadyH.cons (o := ?_) ?_ (fun K hK => ?_) ?_
                    rotate_left
                    (focus ((simp only [List.getElem?_toArray, List.getElem?_cons_succ, List.getElem?_cons_zero]); first | done | rfl))
                    · skip
                      go_simp
                      refine hK.out _ _ (HS0.out _ hs5 hc5 HE5.out) (fun hHeld => ?_)
                      clear hK K
                      try simp only [Act.put, List.setIfInBounds_toArray, List.set_cons_zero, List.set_cons_succ]
                      refine wpAnyH_ready (rs := [19]) (by kernel_rfl) (by simp) ?_
                      refine AllReadyH.cons (o := ?_) ?_ (fun K hK => ?_) ?_
                      rotate_left
                      (focus ((simp only [List.getElem?_toArray, List.getElem?_cons_succ, List.getElem?_cons_zero]); first | done | rfl))
                      · skip
                        skip
                        refine step_append_lies _ (by rfl) _ _ _ (by rfl) w.heap.size 107 i0 (.agg #[.slice none 0 0, .int .i64 0]) 2 32 Try.underlying105 hi0 hz0 hz1 hz2 (by rfl) (by decide) _ p (xs k1) (by rfl) hrow ⟨w4.heap.size, 0, none⟩ 1 1 (#[.slice ac pc cc, .int .i64 ((k2 : Nat) : Int)]).toList (by rfl) (by rfl) (World.news_of_block (cs := #[.slice ac pc cc, .int .i64 ((k2 : Nat) : Int)]) (t := 107) (fr := (0, 0)) (heap_alloc_new w4 _)) (by simp [Value.oneCell']) (by omega) (by unfold maxLen; omega) (by omega) hH2 (w4.heap.size + 1) (by simp) ?_
                        intro gg cap6 w6 hown6 hgrow6 hat6 hlt6
                        have hrw2 := HA5.out.a.n.st.row k1 hk1l
                        have hg6 := hgrow6
                        rw [show (Value.slice aRw p cRw) = sv3 k1 from by rw [HV.out.1, HV.out.2]] at hg6
                        obtain ⟨hN6, hF6⟩ := HA5.out.a.n.appB (x := ⟨k1, k2, xp, false⟩) rfl hk1l hk2l (v' := (.slice (some ⟨gg, 0, none⟩) (p + 1) cap6)) (p := p) hown6 HV.out.2 hg6 (fun b e => by rw [HV.out.1, HV.out.2]; injection e with e; rw [← e]; rcases hat6 with h | h; exact Or.inl h; exact Or.inr (by rw [h]; simp))
                        have hsT6 := HA5.out.a.sT.grown_own hrw2 (by decide) hg6
                        have hse6 := HE5.out.grown_own hrw2 (by decide) hg6
                        have hsN6 := HA5.out.a.n.sn.grown_own hrw2 (by decide) hg6
                        have hc6 : w6.cell? ⟨bn, 259, none⟩ = some (.slice (some ⟨gS, 0, none⟩) q cS) := by rw [hsN6.at_, ← HA5.out.a.n.sn.at_]; exact hc5
                        have ho6 := own_grown_own HA5.out.a.n.st.own hrw2 (by decide) hg6
                        obtain ⟨t2, t3⟩ := HRd.out _ ho6
                        have hneT : b5 ≠ gS ∧ bn ≠ gS ∧ be ≠ gS := ⟨fun e => own_ne ho6 hsT6 (by decide) gS rfl e.symm, fun e => own_ne ho6 hsN6 (by decide) gS rfl e.symm, fun e => own_ne ho6 hse6 (by decide) gS rfl e.symm⟩
                        have HF : Hid (NwS w w.heap.size b2 b3 b5 b6 b7 b8 bn bM bL (.func (.func kf) #[] #[.pointer (some ⟨bV, 0, none⟩)]) mf #[.int .i64 S0, .slice (some ⟨ge, off, none⟩) n c, .int .i64 ((F : Nat) : Int), .int .i64 T] (cN.setIfInBounds 256 (.int .i64 ((f0 : Nat) : Int))) (rl (KOf L) 256) aR cR L F f0 (k + 1) (2 * (k + 1) + 1) (nn + 1) nm3 vM3 vF3 (.slice (some ⟨gS, 0, none⟩) q cS) fv3 (fun j => if j = k1 then (.slice (some ⟨gg, 0, none⟩) (p + 1) cap6) else sv3 j) (fun j => if j = k1 then xs k1 ++ (#[.slice ac pc cc, .int .i64 ((k2 : Nat) : Int)]).toList else xs j) (L1 ++ [⟨k1, k2, xp, false⟩]) DL2 (w6.setCell ⟨gS, k1, none⟩ (.slice (some ⟨gg, 0, none⟩) (p + 1) cap6))) := by
                          rw [← HQ.out]
                          refine HA5.out.put (x := ⟨xf, xt, xp, false⟩) hN6 hF6 HS.out HK.out.1 HK.out.2 (fun i hi => ?_)
                          rw [rowB_snoc]
                          by_cases e : i = k1
                          · subst e
                            rw [if_pos ⟨rfl, rfl⟩, if_pos rfl]
                            have hI5 := (NtF.keep (B := w.heap.size) (bn := bn) (P := bsL bL bM bn nm3.length vM3 vF3 (.slice (some ⟨gS, 0, none⟩) nm3.length cS) fv3 sv3) (al w4 (.cells #[.slice ac pc cc, .int .i64 ((k2 : Nat) : Int)] 107)) HA4.out.a.n.lo.2).ian HI4.out
                            have := (HA5.out.rows i hi).snoc ⟨i, k2, xp, false⟩ ac cc hI5
                            dsimp only at this
                            rw [HPC.out] at this
                            exact this
                          · rw [if_neg (fun h => e h.2.symm), if_neg e]
                            exact HA5.out.rows i hi
                        refine hK.out _ _ (HS0.out _ hsT6 hc6 hse6) (fun hHeld => ?_)
                        clear hK K hown6 hgrow6 hat6 hlt6 hN6 hF6 hrw2 hg6 ho6 hsN6
                        try simp only [Act.put, List.setIfInBounds_toArray, List.set_cons_zero, List.set_cons_succ]
                        (refine wpAnyH_take (i := 20) (oi := ?_) (v := ?_) ?_ (by kernel_rfl) (by kernel_rfl) (by kernel_rfl) ?_ (Or.inl ⟨?_, ?_⟩) (by assumption) ?_; rotate_left 2; (focus ((simp only [List.getElem?_toArray, List.getElem?_cons_succ, List.getElem?_cons_zero]); first | done | rfl)); (focus (exact fun _ _ _ h => h)); (focus rfl); (focus (intro wz hSw; (try dsimp only at hSw); go_simp; first | done | with_reducible rfl)); try simp only [Act.put, List.setIfInBounds_toArray, List.set_cons_zero, List.set_cons_succ])
                        refine wpAnyH_ready (rs := [21]) (by kernel_rfl) (by simp) ?_
                        refine AllReadyH.cons (o := ?_) ?_ (fun K hK => ?_) ?_
                        rotate_left
                        (focus ((simp only [List.getElem?_toArray, List.getElem?_cons_succ, List.getElem?_cons_zero]); first | done | rfl))
                        · skip
                          go_simp
                          refine hK.out _ _ (HS0.out _ (hsT6.far (p := ⟨gS, k1, none⟩) hneT.1 _) ((cell_far9 _ _ _ hneT.2.1).trans hc6) (hse6.far (p := ⟨gS, k1, none⟩) hneT.2.2 _)) (fun hHeld => ?_)
                          clear hK K
                          try simp only [Act.put, List.setIfInBounds_toArray, List.set_cons_zero, List.set_cons_succ]
                          refine wpAnyH_done (by kernel_rfl) ?_ _
                          clear hsT6 hneT hc6 t2 t3 hHeld hs3 hs4 hs5 hc3 hc4 hc5 k0 k4 k5 hse6
                          go_wp2_with fail
                          go_roundw
                          case rel => exact ⟨k + 1, nn + 1, nm3, _, _, _, _, _, _, _, DL2, by go_num, by omega, by omega, HF⟩
                          case measure => simp [intOf]; omega
                        exact AllReadyH.nil
                      exact AllReadyH.nil
                    exact AllReadyH.nil
                  exact AllReadyH.nil
                refine AllReadyH.cons (o := ?_) ?_ (fun K hK => ?_) ?_
                rotate_left
                (focus ((simp only [List.getElem?_toArray, List.getElem?_cons_succ, List.getElem?_cons_zero]); first | done | rfl))
                · skip
                  go_simp
                  go_at_call 80
                  refine HCl.out.mono ?_
                  rintro e w4 ⟨ac, cc, DL2, rfl, hl4, hI4, hk4, hb4⟩
                  have HA4 := Lib.hid (HA3d.out.cls hl4 hk4 hb4)
                  have HE4 : Hid (St w4 43 be #[.int .i64 ((xf : Nat) : Int), .int .i64 ((xt : Nat) : Int), .int .u64 ((wd xp 0 : Nat) : Int), .int .u64 ((wd xp 1 : Nat) : Int), .int .u64 ((wd xp 2 : Nat) : Int), .int .u64 ((wd xp 3 : Nat) : Int), .bool false]) := st_cls HE.out.drew HA3d.out.l hk4
                  have HI4 := Lib.hid hI4
                  rw [HPC.out]
                  clear hl4 hI4 hk4 hb4
                  have HA5 := Lib.hid (HA4.out.keep (al w4 (.cells #[.slice ac pc cc, .int .i64 ((k2 : Nat) : Int)] 107)))
                  have HE5 := Lib.hid (HE4.out.keep (al w4 (.cells #[.slice ac pc cc, .int .i64 ((k2 : Nat) : Int)] 107)))
                  have hs4 := HA4.out.a.sT
                  have hs5 := HA5.out.a.sT
                  have hc4 : w4.cell? ⟨bn, 259, none⟩ = some (.slice (some ⟨gS, 0, none⟩) q cS) := by rw [← HQ.out]; exact HA4.out.a.n.cells.2.2
                  have hc5 : (w4.alloc (.cells #[.slice ac pc cc, .int .i64 ((k2 : Nat) : Int)] 107)).cell? ⟨bn, 259, none⟩ = some (.slice (some ⟨gS, 0, none⟩) q cS) := by rw [← HQ.out]; exact HA5.out.a.n.cells.2.2
                  have k4 := (HRd.out _ HA4.out.a.n.st.own).1
                  have k5 := (HRd.out _ HA5.out.a.n.st.own).1
                  have hrow := HA5.out.a.n.st.row k1 hk1l
                  rw [HV.out.1, HV.out.2] at hrow
                  have hH2 : w.heap.size ≤ (w4.alloc (.cells #[.slice ac pc cc, .int .i64 ((k2 : Nat) : Int)] 107)).heap.size := HA5.out.a.n.lo.2
                  try go_wp2_with fail
                  refine hK.out _ _ (HS0.out _ hs4 hc4 HE4.out) (fun hHeld => ?_)
                  clear hK K
                  try simp only [Act.put, List.setIfInBounds_toArray, List.set_cons_zero, List.set_cons_succ]
                  (refine wpAnyH_take (i := 17) (oi := ?_) (v := ?_) ?_ (by kernel_rfl) (by kernel_rfl) (by kernel_rfl) ?_ (Or.inl ⟨?_, ?_⟩) (by assumption) ?_; rotate_left 2; (focus ((simp only [List.getElem?_toArray, List.getElem?_cons_succ, List.getElem?_cons_zero]); first | done | rfl)); (focus (exact fun _ _ _ h => h)); (focus rfl); (focus (intro wz hSw; (try dsimp only at hSw); go_simp; first | done | with_reducible rfl)); try simp only [Act.put, List.setIfInBounds_toArray, List.set_cons_zero, List.set_cons_succ])
                  refine wpAnyH_ready (rs := [11, 18]) (by kernel_rfl) (by simp) ?_
                  refine AllReadyH.cons (o := ?_) ?_ (fun K hK => ?_) ?_
                  rotate_left
                  (focus ((simp only [List.getElem?_toArray, List.getElem?_cons_succ, List.getElem?_cons_zero]); first | done | rfl))
                  · skip
                    go_simp
                    refine hK.out _ _ (HS0.out _ hs4 hc4 HE4.out) (fun hHeld => ?_)
                    clear hK K
                    try simp only [Act.put, List.setIfInBounds_toArray, List.set_cons_zero, List.set_cons_succ]
                    refine wpAnyH_ready (rs := [18]) (by kernel_rfl) (by simp) ?_
                    refine AllReadyH.cons (o := ?_) ?_ (fun K hK => ?_) ?_
                    rotate_left
                    (focus ((simp only [List.getElem?_toArray, List.getElem?_cons_succ, List.getElem?_cons_zero]); first | done | rfl))
                    · skip
                      go_simp
                      refine hK.out _ _ (HS0.out _ hs5 hc5 HE5.out) (fun hHeld => ?_)
                      clear hK K
                      try simp only [Act.put, List.setIfInBounds_toArray, List.set_cons_zero, List.set_cons_succ]
                      refine wpAnyH_ready (rs := [19]) (by kernel_rfl) (by simp) ?_
                      refine AllReadyH.cons (o := ?_) ?_ (fun K hK => ?_) ?_
                      rotate_left
                      (focus ((simp only [List.getElem?_toArray, List.getElem?_cons_succ, List.getElem?_cons_zero]); first | done | rfl))
                      · skip
                        skip
                        refine step_append_lies _ (by rfl) _ _ _ (by rfl) w.heap.size 107 i0 (.agg #[.slice none 0 0, .int .i64 0]) 2 32 Try.underlying105 hi0 hz0 hz1 hz2 (by rfl) (by decide) _ p (xs k1) (by rfl) hrow ⟨w4.heap.size, 0, none⟩ 1 1 (#[.slice ac pc cc, .int .i64 ((k2 : Nat) : Int)]).toList (by rfl) (by rfl) (World.news_of_block (cs := #[.slice ac pc cc, .int .i64 ((k2 : Nat) : Int)]) (t := 107) (fr := (0, 0)) (heap_alloc_new w4 _)) (by simp [Value.oneCell']) (by omega) (by unfold maxLen; omega) (by omega) hH2 (w4.heap.size + 1) (by simp) ?_
                        intro gg cap6 w6 hown6 hgrow6 hat6 hlt6
                        have hrw2 := HA5.out.a.n.st.row k1 hk1l
                        have hg6 := hgrow6
                        rw [show (Value.slice aRw p cRw) = sv3 k1 from by rw [HV.out.1, HV.out.2]] at hg6
                        obtain ⟨hN6, hF6⟩ := HA5.out.a.n.appB (x := ⟨k1, k2, xp, false⟩) rfl hk1l hk2l (v' := (.slice (some ⟨gg, 0, none⟩) (p + 1) cap6)) (p := p) hown6 HV.out.2 hg6 (fun b e => by rw [HV.out.1, HV.out.2]; injection e with e; rw [← e]; rcases hat6 with h | h; exact Or.inl h; exact Or.inr (by rw [h]; simp))
                        have hsT6 := HA5.out.a.sT.grown_own hrw2 (by decide) hg6
                        have hse6 := HE5.out.grown_own hrw2 (by decide) hg6
                        have hsN6 := HA5.out.a.n.sn.grown_own hrw2 (by decide) hg6
                        have hc6 : w6.cell? ⟨bn, 259, none⟩ = some (.slice (some ⟨gS, 0, none⟩) q cS) := by rw [hsN6.at_, ← HA5.out.a.n.sn.at_]; exact hc5
                        have ho6 := own_grown_own HA5.out.a.n.st.own hrw2 (by decide) hg6
                        obtain ⟨t2, t3⟩ := HRd.out _ ho6
                        have hneT : b5 ≠ gS ∧ bn ≠ gS ∧ be ≠ gS := ⟨fun e => own_ne ho6 hsT6 (by decide) gS rfl e.symm, fun e => own_ne ho6 hsN6 (by decide) gS rfl e.symm, fun e => own_ne ho6 hse6 (by decide) gS rfl e.symm⟩
                        have HF : Hid (NwS w w.heap.size b2 b3 b5 b6 b7 b8 bn bM bL (.func (.func kf) #[] #[.pointer (some ⟨bV, 0, none⟩)]) mf #[.int .i64 S0, .slice (some ⟨ge, off, none⟩) n c, .int .i64 ((F : Nat) : Int), .int .i64 T] (cN.setIfInBounds 256 (.int .i64 ((f0 : Nat) : Int))) (rl (KOf L) 256) aR cR L F f0 (k + 1) (2 * (k + 1) + 1) (nn + 1) nm3 vM3 vF3 (.slice (some ⟨gS, 0, none⟩) q cS) fv3 (fun j => if j = k1 then (.slice (some ⟨gg, 0, none⟩) (p + 1) cap6) else sv3 j) (fun j => if j = k1 then xs k1 ++ (#[.slice ac pc cc, .int .i64 ((k2 : Nat) : Int)]).toList else xs j) (L1 ++ [⟨k1, k2, xp, false⟩]) DL2 (w6.setCell ⟨gS, k1, none⟩ (.slice (some ⟨gg, 0, none⟩) (p + 1) cap6))) := by
                          rw [← HQ.out]
                          refine HA5.out.put (x := ⟨xf, xt, xp, false⟩) hN6 hF6 HS.out HK.out.1 HK.out.2 (fun i hi => ?_)
                          rw [rowB_snoc]
                          by_cases e : i = k1
                          · subst e
                            rw [if_pos ⟨rfl, rfl⟩, if_pos rfl]
                            have hI5 := (NtF.keep (B := w.heap.size) (bn := bn) (P := bsL bL bM bn nm3.length vM3 vF3 (.slice (some ⟨gS, 0, none⟩) nm3.length cS) fv3 sv3) (al w4 (.cells #[.slice ac pc cc, .int .i64 ((k2 : Nat) : Int)] 107)) HA4.out.a.n.lo.2).ian HI4.out
                            have := (HA5.out.rows i hi).snoc ⟨i, k2, xp, false⟩ ac cc hI5
                            dsimp only at this
                            rw [HPC.out] at this
                            exact this
                          · rw [if_neg (fun h => e h.2.symm), if_neg e]
                            exact HA5.out.rows i hi
                        refine hK.out _ _ (HS0.out _ hsT6 hc6 hse6) (fun hHeld => ?_)
                        clear hK K hown6 hgrow6 hat6 hlt6 hN6 hF6 hrw2 hg6 ho6 hsN6
                        try simp only [Act.put, List.setIfInBounds_toArray, List.set_cons_zero, List.set_cons_succ]
                        (refine wpAnyH_take (i := 20) (oi := ?_) (v := ?_) ?_ (by kernel_rfl) (by kernel_rfl) (by kernel_rfl) ?_ (Or.inl ⟨?_, ?_⟩) (by assumption) ?_; rotate_left 2; (focus ((simp only [List.getElem?_toArray, List.getElem?_cons_succ, List.getElem?_cons_zero]); first | done | rfl)); (focus (exact fun _ _ _ h => h)); (focus rfl); (focus (intro wz hSw; (try dsimp only at hSw); go_simp; first | done | with_reducible rfl)); try simp only [Act.put, List.setIfInBounds_toArray, List.set_cons_zero, List.set_cons_succ])
                        refine wpAnyH_ready (rs := [21]) (by kernel_rfl) (by simp) ?_
                        refine AllReadyH.cons (o := ?_) ?_ (fun K hK => ?_) ?_
                        rotate_left
                        (focus ((simp only [List.getElem?_toArray, List.getElem?_cons_succ, List.getElem?_cons_zero]); first | done | rfl))
                        · skip
                          go_simp
                          refine hK.out _ _ (HS0.out _ (hsT6.far (p := ⟨gS, k1, none⟩) hneT.1 _) ((cell_far9 _ _ _ hneT.2.1).trans hc6) (hse6.far (p := ⟨gS, k1, none⟩) hneT.2.2 _)) (fun hHeld => ?_)
                          clear hK K
                          try simp only [Act.put, List.setIfInBounds_toArray, List.set_cons_zero, List.set_cons_succ]
                          refine wpAnyH_done (by kernel_rfl) ?_ _
                          clear hsT6 hneT hc6 t2 t3 hHeld hs3 hs4 hs5 hc3 hc4 hc5 k0 k4 k5 hse6
                          go_wp2_with fail
                          go_roundw
                          case rel => exact ⟨k + 1, nn + 1, nm3, _, _, _, _, _, _, _, DL2, by go_num, by omega, by omega, HF⟩
                          case measure => simp [intOf]; omega
                        exact AllReadyH.nil
                      exact AllReadyH.nil
                    exact AllReadyH.nil
                  refine AllReadyH.cons (o := ?_) ?_ (fun K hK => ?_) ?_
                  rotate_left
                  (focus ((simp only [List.getElem?_toArray, List.getElem?_cons_succ, List.getElem?_cons_zero]); first | done | rfl))
                  · skip
                    go_simp
                    refine hK.out _ _ (HS0.out _ hs5 hc5 HE5.out) (fun hHeld => ?_)
                    clear hK K
                    try simp only [Act.put, List.setIfInBounds_toArray, List.set_cons_zero, List.set_cons_succ]
                    refine wpAnyH_ready (rs := [11]) (by kernel_rfl) (by simp) ?_
                    refine AllReadyH.cons (o := ?_) ?_ (fun K hK => ?_) ?_
                    rotate_left
                    (focus ((simp only [List.getElem?_toArray, List.getElem?_cons_succ, List.getElem?_cons_zero]); first | done | rfl))
                    · skip
                      go_simp
                      refine hK.out _ _ (HS0.out _ hs5 hc5 HE5.out) (fun hHeld => ?_)
                      clear hK K
                      try simp only [Act.put, List.setIfInBounds_toArray, List.set_cons_zero, List.set_cons_succ]
                      refine wpAnyH_ready (rs := [19]) (by kernel_rfl) (by simp) ?_
                      refine AllReadyH.cons (o := ?_) ?_ (fun K hK => ?_) ?_
                      rotate_left
                      (focus ((simp only [List.getElem?_toArray, List.getElem?_cons_succ, List.getElem?_cons_zero]); first | done | rfl))
                      · skip
                        skip
                        refine step_append_lies _ (by rfl) _ _ _ (by rfl) w.heap.size 107 i0 (.agg #[.slice none 0 0, .int .i64 0]) 2 32 Try.underlying105 hi0 hz0 hz1 hz2 (by rfl) (by decide) _ p (xs k1) (by rfl) hrow ⟨w4.heap.size, 0, none⟩ 1 1 (#[.slice ac pc cc, .int .i64 ((k2 : Nat) : Int)]).toList (by rfl) (by rfl) (World.news_of_block (cs := #[.slice ac pc cc, .int .i64 ((k2 : Nat) : Int)]) (t := 107) (fr := (0, 0)) (heap_alloc_new w4 _)) (by simp [Value.oneCell']) (by omega) (by unfold maxLen; omega) (by omega) hH2 (w4.heap.size + 1) (by simp) ?_
                        intro gg cap6 w6 hown6 hgrow6 hat6 hlt6
                        have hrw2 := HA5.out.a.n.st.row k1 hk1l
                        have hg6 := hgrow6
                        rw [show (Value.slice aRw p cRw) = sv3 k1 from by rw [HV.out.1, HV.out.2]] at hg6
                        obtain ⟨hN6, hF6⟩ := HA5.out.a.n.appB (x := ⟨k1, k2, xp, false⟩) rfl hk1l hk2l (v' := (.slice (some ⟨gg, 0, none⟩) (p + 1) cap6)) (p := p) hown6 HV.out.2 hg6 (fun b e => by rw [HV.out.1, HV.out.2]; injection e with e; rw [← e]; rcases hat6 with h | h; exact Or.inl h; exact Or.inr (by rw [h]; simp))
                        have hsT6 := HA5.out.a.sT.grown_own hrw2 (by decide) hg6
                        have hse6 := HE5.out.grown_own hrw2 (by decide) hg6
                        have hsN6 := HA5.out.a.n.sn.grown_own hrw2 (by decide) hg6
                        have hc6 : w6.cell? ⟨bn, 259, none⟩ = some (.slice (some ⟨gS, 0, none⟩) q cS) := by rw [hsN6.at_, ← HA5.out.a.n.sn.at_]; exact hc5
                        have ho6 := own_grown_own HA5.out.a.n.st.own hrw2 (by decide) hg6
                        obtain ⟨t2, t3⟩ := HRd.out _ ho6
                        have hneT : b5 ≠ gS ∧ bn ≠ gS ∧ be ≠ gS := ⟨fun e => own_ne ho6 hsT6 (by decide) gS rfl e.symm, fun e => own_ne ho6 hsN6 (by decide) gS rfl e.symm, fun e => own_ne ho6 hse6 (by decide) gS rfl e.symm⟩
                        have HF : Hid (NwS w w.heap.size b2 b3 b5 b6 b7 b8 bn bM bL (.func (.func kf) #[] #[.pointer (some ⟨bV, 0, none⟩)]) mf #[.int .i64 S0, .slice (some ⟨ge, off, none⟩) n c, .int .i64 ((F : Nat) : Int), .int .i64 T] (cN.setIfInBounds 256 (.int .i64 ((f0 : Nat) : Int))) (rl (KOf L) 256) aR cR L F f0 (k + 1) (2 * (k + 1) + 1) (nn + 1) nm3 vM3 vF3 (.slice (some ⟨gS, 0, none⟩) q cS) fv3 (fun j => if j = k1 then (.slice (some ⟨gg, 0, none⟩) (p + 1) cap6) else sv3 j) (fun j => if j = k1 then xs k1 ++ (#[.slice ac pc cc, .int .i64 ((k2 : Nat) : Int)]).toList else xs j) (L1 ++ [⟨k1, k2, xp, false⟩]) DL2 (w6.setCell ⟨gS, k1, none⟩ (.slice (some ⟨gg, 0, none⟩) (p + 1) cap6))) := by
                          rw [← HQ.out]
                          refine HA5.out.put (x := ⟨xf, xt, xp, false⟩) hN6 hF6 HS.out HK.out.1 HK.out.2 (fun i hi => ?_)
                          rw [rowB_snoc]
                          by_cases e : i = k1
                          · subst e
                            rw [if_pos ⟨rfl, rfl⟩, if_pos rfl]
                            have hI5 := (NtF.keep (B := w.heap.size) (bn := bn) (P := bsL bL bM bn nm3.length vM3 vF3 (.slice (some ⟨gS, 0, none⟩) nm3.length cS) fv3 sv3) (al w4 (.cells #[.slice ac pc cc, .int .i64 ((k2 : Nat) : Int)] 107)) HA4.out.a.n.lo.2).ian HI4.out
                            have := (HA5.out.rows i hi).snoc ⟨i, k2, xp, false⟩ ac cc hI5
                            dsimp only at this
                            rw [HPC.out] at this
                            exact this
                          · rw [if_neg (fun h => e h.2.symm), if_neg e]
                            exact HA5.out.rows i hi
                        refine hK.out _ _ (HS0.out _ hsT6 hc6 hse6) (fun hHeld => ?_)
                        clear hK K hown6 hgrow6 hat6 hlt6 hN6 hF6 hrw2 hg6 ho6 hsN6
                        try simp only [Act.put, List.setIfInBounds_toArray, List.set_cons_zero, List.set_cons_succ]
                        (refine wpAnyH_take (i := 20) (oi := ?_) (v := ?_) ?_ (by kernel_rfl) (by kernel_rfl) (by kernel_rfl) ?_ (Or.inl ⟨?_, ?_⟩) (by assumption) ?_; rotate_left 2; (focus ((simp only [List.getElem?_toArray, List.getElem?_cons_succ, List.getElem?_cons_zero]); first | done | rfl)); (focus (exact fun _ _ _ h => h)); (focus rfl); (focus (intro wz hSw; (try dsimp only at hSw); go_simp; first | done | with_reducible rfl)); try simp only [Act.put, List.setIfInBounds_toArray, List.set_cons_zero, List.set_cons_succ])
                        refine wpAnyH_ready (rs := [21]) (by kernel_rfl) (by simp) ?_
                        refine AllReadyH.cons (o := ?_) ?_ (fun K hK => ?_) ?_
                        rotate_left
                        (focus ((simp only [List.getElem?_toArray, List.getElem?_cons_succ, List.getElem?_cons_zero]); first | done | rfl))
                        · skip
                          go_simp
                          refine hK.out _ _ (HS0.out _ (hsT6.far (p := ⟨gS, k1, none⟩) hneT.1 _) ((cell_far9 _ _ _ hneT.2.1).trans hc6) (hse6.far (p := ⟨gS, k1, none⟩) hneT.2.2 _)) (fun hHeld => ?_)
                          clear hK K
                          try simp only [Act.put, List.setIfInBounds_toArray, List.set_cons_zero, List.set_cons_succ]
                          refine wpAnyH_done (by kernel_rfl) ?_ _
                          clear hsT6 hneT hc6 t2 t3 hHeld hs3 hs4 hs5 hc3 hc4 hc5 k0 k4 k5 hse6
                          go_wp2_with fail
                          go_roundw
                          case rel => exact ⟨k + 1, nn + 1, nm3, _, _, _, _, _, _, _, DL2, by go_num, by omega, by omega, HF⟩
                          case measure => simp [intOf]; omega
                        exact AllReadyH.nil
                      exact AllReadyH.nil
                    exact AllReadyH.nil
                  exact AllReadyH.nil
                exact AllReadyH.nil
              · skip
                go_wp2_with fail
                obtain ⟨aF, cF, rfl⟩ := ownsRow_slice HA3.out.1.a.n.fr.own
                obtain ⟨gF, rfl, -, -, -⟩ := ownsRow_read HA3.out.1.a.n.fr.own hnpos
                obtain ⟨aRw, cRw, hv⟩ := ownsRow_slice (HA3.out.1.a.n.fr.row k1 hk1l)
                try dsimp only at hv
                have HA4 := Lib.hid (HA3.out.1.keep (show Below w3.heap.size w3 (w3.alloc (.cells #[.int .i64 ((k2 : Nat) : Int)] 3)).drew from (al w3 _).drew))
                have hrow := HA4.out.a.n.fr.row k1 hk1l
                rw [hv] at hrow
                try dsimp only at hrow
                obtain ⟨p, hp⟩ : ∃ p, (rowF L1 k1).length = p := ⟨_, rfl⟩
                have hpl : p ≤ 30 := by rw [← hp]; exact Nat.le_trans (rowF_len _ _) HA3.out.2.2.2.2
                have hgr := HA3.out.1.a.n.fr.own
                have rdF : ∀ W : World, W.ownsRow w.heap.size 25 1 (.slice (some ⟨gF, 0, none⟩) nm3.length cF) nm3.length ((List.range nm3.length).map fv3) → W.cell? ⟨gF, k1, none⟩ = some (.slice aRw p cRw) ∧ W.frozen? ⟨gF, k1, none⟩ = false := fun W hW => by
                  obtain ⟨g, e, _, _, hc⟩ := ownsRow_read hW hnpos
                  injection e with e
                  injection e with e
                  subst e
                  obtain ⟨h1, h2⟩ := hc k1 (by omega)
                  exact ⟨by rw [h1]; simp only [List.getElem?_map, List.getElem?_range hk1l, Option.map_some, hv, hp], h2⟩
                have k0 := (rdF _ HA3.out.1.a.n.fr.own).1
                have m2 := (rdF _ HA4.out.a.n.fr.own).1
                have HV := Lib.hid (And.intro hv hp)
                have HRd := Lib.hid rdF
                obtain ⟨q, hq⟩ : ∃ q, nm3.length = q := ⟨_, rfl⟩
                have HQ := Lib.hid hq
                have j1 : (k1 : Int) < (q : Int) := by omega
                have j2 : (0 : Int) ≤ (k1 : Int) := by omega
                have hH2 : w.heap.size ≤ ((w3.alloc (.cells #[.int .i64 ((k2 : Nat) : Int)] 3)).drew).heap.size := HA4.out.a.n.lo.2
                rw [hp] at hrow
                obtain ⟨i0, hi0, hz0, hz1, hz2⟩ := info_parts Try.info_int9
                have HS0 := Lib.hid (fun (W : World) (h1 : St W 83 b5 #[.pointer (some ⟨bn, 0, none⟩)]) (h2 : W.cell? ⟨bn, 258, none⟩ = some (.slice (some ⟨gF, 0, none⟩) q cF)) => (⟨h1.at_ 0, h2⟩ : W.cell? ⟨b5, 0, none⟩ = some (.pointer (some ⟨bn, 0, none⟩)) ∧ W.cell? ⟨bn, 258, none⟩ = some (.slice (some ⟨gF, 0, none⟩) q cF)))
                have hs3 := HA3.out.1.a.sT
                have hs4 := HA4.out.a.sT
                have hc3 : w3.cell? ⟨bn, 258, none⟩ = some (.slice (some ⟨gF, 0, none⟩) q cF) := by rw [← hq]; exact HA3.out.1.a.n.cells.2.1
                have hc4 : ((w3.alloc (.cells #[.int .i64 ((k2 : Nat) : Int)] 3)).drew).cell? ⟨bn, 258, none⟩ = some (.slice (some ⟨gF, 0, none⟩) q cF) := by rw [← hq]; exact HA4.out.a.n.cells.2.1
                clear hv hp hgr rdF hq
                refine wp_region_held_drew (S := fun W' => W'.cell? ⟨b5, 0, none⟩ = some (.pointer (some ⟨bn, 0, none⟩)) ∧ W'.cell? ⟨bn, 258, none⟩ = some (.slice (some ⟨gF, 0, none⟩) q cF)) (by kernel_rfl) (HS0.out _ hs3.drew hc3) (fun hHeld => ?_)
                (refine wpAnyH_take (i := 0) (oi := ?_) (v := ?_) ?_ (by kernel_rfl) (by kernel_rfl) (by kernel_rfl) ?_ (Or.inl ⟨?_, ?_⟩) (by assumption) ?_; rotate_left 2; (focus ((simp only [List.getElem?_toArray, List.getElem?_cons_zero]); first | done | rfl)); (focus (exact fun _ _ _ h => h)); (focus rfl); (focus (intro wz hSw; (try dsimp only at hSw); go_simp; first | done | with_reducible rfl)); try simp only [Act.put, List.setIfInBounds_toArray, List.set_cons_zero, List.set_cons_succ])
                (refine wpAnyH_take (i := 1) (oi := ?_) (v := ?_) ?_ (by kernel_rfl) (by kernel_rfl) (by kernel_rfl) ?_ (Or.inl ⟨?_, ?_⟩) (by assumption) ?_; rotate_left 2; (focus ((simp only [List.getElem?_toArray, List.getElem?_cons_succ, List.getElem?_cons_zero]); first | done | rfl)); (focus (exact fun _ _ _ h => h)); (focus rfl); (focus (intro wz hSw; (try dsimp only at hSw); go_simp; first | done | with_reducible rfl)); try simp only [Act.put, List.setIfInBounds_toArray, List.set_cons_zero, List.set_cons_succ])
                (refine wpAnyH_take (i := 2) (oi := ?_) (v := ?_) ?_ (by kernel_rfl) (by kernel_rfl) (by kernel_rfl) ?_ (Or.inl ⟨?_, ?_⟩) (by assumption) ?_; rotate_left 2; (focus ((simp only [List.getElem?_toArray, List.getElem?_cons_succ, List.getElem?_cons_zero]); first | done | rfl)); (focus (exact fun _ _ _ h => h)); (focus rfl); (focus (intro wz hSw; (try dsimp only at hSw); go_simp; first | done | with_reducible rfl)); try simp only [Act.put, List.setIfInBounds_toArray, List.set_cons_zero, List.set_cons_succ])
                (refine wpAnyH_take (i := 3) (oi := ?_) (v := ?_) ?_ (by kernel_rfl) (by kernel_rfl) (by kernel_rfl) ?_ (Or.inl ⟨?_, ?_⟩) (by assumption) ?_; rotate_left 2; (focus ((simp only [List.getElem?_toArray, List.getElem?_cons_succ, List.getElem?_cons_zero]); first | done | rfl)); (focus (exact fun _ _ _ h => h)); (focus rfl); (focus (intro wz hSw; (try dsimp only at hSw); go_simp; first | done | with_reducible rfl)); try simp only [Act.put, List.setIfInBounds_toArray, List.set_cons_zero, List.set_cons_succ])
                (refine wpAnyH_take (i := 4) (oi := ?_) (v := ?_) ?_ (by kernel_rfl) (by kernel_rfl) (by kernel_rfl) ?_ (Or.inl ⟨?_, ?_⟩) (by assumption) ?_; rotate_left 2; (focus ((simp only [List.getElem?_toArray, List.getElem?_cons_succ, List.getElem?_cons_zero]); first | done | rfl)); (focus (exact fun _ _ _ h => h)); (focus rfl); (focus (intro wz hSw; (try dsimp only at hSw); go_simp; first | done | with_reducible rfl)); try simp only [Act.put, List.setIfInBounds_toArray, List.set_cons_zero, List.set_cons_succ])
                (refine wpAnyH_take (i := 5) (oi := ?_) (v := ?_) ?_ (by kernel_rfl) (by kernel_rfl) (by kernel_rfl) ?_ (Or.inl ⟨?_, ?_⟩) (by assumption) ?_; rotate_left 2; (focus ((simp only [List.getElem?_toArray, List.getElem?_cons_succ, List.getElem?_cons_zero]); first | done | rfl)); (focus (exact fun _ _ _ h => h)); (focus rfl); (focus (intro wz hSw; (try dsimp only at hSw); go_simp; first | done | with_reducible rfl)); try simp only [Act.put, List.setIfInBounds_toArray, List.set_cons_zero, List.set_cons_succ])
                (refine wpAnyH_take (i := 6) (oi := ?_) (v := ?_) ?_ (by kernel_rfl) (by kernel_rfl) (by kernel_rfl) ?_ (Or.inl ⟨?_, ?_⟩) (by assumption) ?_; rotate_left 2; (focus ((simp only [List.getElem?_toArray, List.getElem?_cons_succ, List.getElem?_cons_zero]); first | done | rfl)); (focus (exact fun _ _ _ h => h)); (focus rfl); (focus (intro wz hSw; (try dsimp only at hSw); go_simp; first | done | with_reducible rfl)); try simp only [Act.put, List.setIfInBounds_toArray, List.set_cons_zero, List.set_cons_succ])
                (refine wpAnyH_take (i := 7) (oi := ?_) (v := ?_) ?_ (by kernel_rfl) (by kernel_rfl) (by kernel_rfl) ?_ (Or.inl ⟨?_, ?_⟩) (by assumption) ?_; rotate_left 2; (focus ((simp only [List.getElem?_toArray, List.getElem?_cons_succ, List.getElem?_cons_zero]); first | done | rfl)); (focus (exact fun _ _ _ h => h)); (focus rfl); (focus (intro wz hSw; (try dsimp only at hSw); go_simp; first | done | with_reducible rfl)); try simp only [Act.put, List.setIfInBounds_toArray, List.set_cons_zero, List.set_cons_succ])
                (refine wpAnyH_take (i := 8) (oi := ?_) (v := ?_) ?_ (by kernel_rfl) (by kernel_rfl) (by kernel_rfl) ?_ (Or.inl ⟨?_, ?_⟩) (by assumption) ?_; rotate_left 2; (focus ((simp only [List.getElem?_toArray, List.getElem?_cons_succ, List.getElem?_cons_zero]); first | done | rfl)); (focus (exact fun _ _ _ h => h)); (focus rfl); (focus (intro wz hSw; (try dsimp only at hSw); go_simp; first | done | with_reducible rfl)); try simp only [Act.put, List.setIfInBounds_toArray, List.set_cons_zero, List.set_cons_succ])
                (refine wpAnyH_take (i := 9) (oi := ?_) (v := ?_) ?_ (by kernel_rfl) (by kernel_rfl) (by kernel_rfl) ?_ (Or.inl ⟨?_, ?_⟩) (by assumption) ?_; rotate_left 2; (focus ((simp only [List.getElem?_toArray, List.getElem?_cons_succ, List.getElem?_cons_zero]); first | done | rfl)); (focus (exact fun _ _ _ h => h)); (focus rfl); (focus (intro wz hSw; (try dsimp only at hSw); go_simp; first | done | with_reducible rfl)); try simp only [Act.put, List.setIfInBounds_toArray, List.set_cons_zero, List.set_cons_succ])
                (refine wpAnyH_take (i := 10) (oi := ?_) (v := ?_) ?_ (by kernel_rfl) (by kernel_rfl) (by kernel_rfl) ?_ (Or.inl ⟨?_, ?_⟩) (by assumption) ?_; rotate_left 2; (focus ((simp only [List.getElem?_toArray, List.getElem?_cons_succ, List.getElem?_cons_zero]); first | done | rfl)); (focus (exact fun _ _ _ h => h)); (focus rfl); (focus (intro wz hSw; (try dsimp only at hSw); go_simp; first | done | with_reducible rfl)); try simp only [Act.put, List.setIfInBounds_toArray, List.set_cons_zero, List.set_cons_succ])
                (refine wpAnyH_take (i := 12) (oi := ?_) (v := ?_) ?_ (by kernel_rfl) (by kernel_rfl) (by kernel_rfl) ?_ (Or.inl ⟨?_, ?_⟩) (by assumption) ?_; rotate_left 2; (focus ((simp only [List.getElem?_toArray, List.getElem?_cons_succ, List.getElem?_cons_zero]); first | done | rfl)); (focus (exact fun _ _ _ h => h)); (focus rfl); (focus (intro wz hSw; (try dsimp only at hSw); go_simp; first | done | with_reducible rfl)); try simp only [Act.put, List.setIfInBounds_toArray, List.set_cons_zero, List.set_cons_succ])
                refine wpAnyH_ready (rs := [11, 13]) (by kernel_rfl) (by simp) ?_
                refine AllReadyH.cons (o := ?_) ?_ (fun K hK => ?_) ?_
                rotate_left
                (focus ((simp only [List.getElem?_toArray, List.getElem?_cons_succ, List.getElem?_cons_zero]); first | done | rfl))
                · skip
                  go_simp
                  refine hK.out _ _ (HS0.out _ hs3.drew hc3) (fun hHeld => ?_)
                  clear hK K
                  try simp only [Act.put, List.setIfInBounds_toArray, List.set_cons_zero, List.set_cons_succ]
                  refine wpAnyH_ready (rs := [13]) (by kernel_rfl) (by simp) ?_
                  refine AllReadyH.cons (o := ?_) ?_ (fun K hK => ?_) ?_
                  rotate_left
                  (focus ((simp only [List.getElem?_toArray, List.getElem?_cons_succ, List.getElem?_cons_zero]); first | done | rfl))
                  · skip
                    go_simp
                    refine hK.out _ _ (HS0.out _ hs4 hc4) (fun hHeld => ?_)
                    clear hK K
                    try simp only [Act.put, List.setIfInBounds_toArray, List.set_cons_zero, List.set_cons_succ]
                    refine wpAnyH_ready (rs := [14]) (by kernel_rfl) (by simp) ?_
                    refine AllReadyH.cons (o := ?_) ?_ (fun K hK => ?_) ?_
                    rotate_left
                    (focus ((simp only [List.getElem?_toArray, List.getElem?_cons_succ, List.getElem?_cons_zero]); first | done | rfl))
                    · skip
                      skip
                      refine step_append_lies _ (by rfl) _ _ _ (by rfl) w.heap.size 3 i0 (.int .i64 0) 1 8 Try.underlying25 hi0 hz0 hz1 hz2 (by rfl) (by decide) _ p (nums64 (rowF L1 k1)) (by rfl) hrow ⟨w3.heap.size, 0, none⟩ 1 1 (#[.int .i64 ((k2 : Nat) : Int)]).toList (by rfl) (by rfl) (World.news_of_block (cs := #[.int .i64 ((k2 : Nat) : Int)]) (t := 3) (fr := (0, 0)) (heap_alloc_new w3 _)) (by simp [Value.oneCell']) (by omega) (by unfold maxLen; omega) (by omega) hH2 (w3.heap.size + 1) (by simp) ?_
                      intro gg cap6 w6 hown6 hgrow6 hat6 hlt6
                      have hrw2 := HA4.out.a.n.fr.row k1 hk1l
                      have hg6 := hgrow6
                      rw [show (Value.slice aRw p cRw) = fv3 k1 from by rw [HV.out.1, HV.out.2]] at hg6
                      obtain ⟨hN6, hF6⟩ := HA4.out.a.n.appF (x := ⟨k1, k2, xp, true⟩) rfl hk1l hk2l (v' := (.slice (some ⟨gg, 0, none⟩) (p + 1) cap6)) (p := p) hown6 HV.out.2 hg6 (fun b e => by rw [HV.out.1, HV.out.2]; injection e with e; rw [← e]; rcases hat6 with h | h; exact Or.inl h; exact Or.inr (by rw [h]; simp))
                      have hsT6 := HA4.out.a.sT.grown_own hrw2 (by decide) hg6
                      have hsN6 := HA4.out.a.n.sn.grown_own hrw2 (by decide) hg6
                      have hc6 : w6.cell? ⟨bn, 258, none⟩ = some (.slice (some ⟨gF, 0, none⟩) q cF) := by rw [hsN6.at_, ← HA4.out.a.n.sn.at_]; exact hc4
                      have ho6 := own_grown_own HA4.out.a.n.fr.own hrw2 (by decide) hg6
                      obtain ⟨t2, t3⟩ := HRd.out _ ho6
                      have hneT : b5 ≠ gF ∧ bn ≠ gF := ⟨fun e => own_ne ho6 hsT6 (by decide) gF rfl e.symm, fun e => own_ne ho6 hsN6 (by decide) gF rfl e.symm⟩
                      have HF : Hid (NwS w w.heap.size b2 b3 b5 b6 b7 b8 bn bM bL (.func (.func kf) #[] #[.pointer (some ⟨bV, 0, none⟩)]) mf #[.int .i64 S0, .slice (some ⟨ge, off, none⟩) n c, .int .i64 ((F : Nat) : Int), .int .i64 T] (cN.setIfInBounds 256 (.int .i64 ((f0 : Nat) : Int))) (rl (KOf L) 256) aR cR L F f0 (k + 1) (2 * (k + 1) + 1) nn nm3 vM3 (.slice (some ⟨gF, 0, none⟩) q cF) vS3 (fun j => if j = k1 then (.slice (some ⟨gg, 0, none⟩) (p + 1) cap6) else fv3 j) sv3 xs (L1 ++ [⟨k1, k2, xp, true⟩]) DL (w6.setCell ⟨gF, k1, none⟩ (.slice (some ⟨gg, 0, none⟩) (p + 1) cap6))) := by
                        rw [← HQ.out]
                        exact HA4.out.put (x := ⟨xf, xt, xp, true⟩) hN6 hF6 HS.out HK.out.1 HK.out.2 (fun i hi => by rw [rowB_snoc, if_neg (by simp)]; exact HA4.out.rows i hi)
                      refine hK.out _ _ (HS0.out _ hsT6 hc6) (fun hHeld => ?_)
                      clear hK K hown6 hgrow6 hat6 hlt6 hN6 hF6 hrw2 hg6 ho6 hsN6
                      try simp only [Act.put, List.setIfInBounds_toArray, List.set_cons_zero, List.set_cons_succ]
                      (refine wpAnyH_take (i := 15) (oi := ?_) (v := ?_) ?_ (by kernel_rfl) (by kernel_rfl) (by kernel_rfl) ?_ (Or.inl ⟨?_, ?_⟩) (by assumption) ?_; rotate_left 2; (focus ((simp only [List.getElem?_toArray, List.getElem?_cons_succ, List.getElem?_cons_zero]); first | done | rfl)); (focus (exact fun _ _ _ h => h)); (focus rfl); (focus (intro wz hSw; (try dsimp only at hSw); go_simp; first | done | with_reducible rfl)); try simp only [Act.put, List.setIfInBounds_toArray, List.set_cons_zero, List.set_cons_succ])
                      refine wpAnyH_ready (rs := [16]) (by kernel_rfl) (by simp) ?_
                      refine AllReadyH.cons (o := ?_) ?_ (fun K hK => ?_) ?_
                      rotate_left
                      (focus ((simp only [List.getElem?_toArray, List.getElem?_cons_succ, List.getElem?_cons_zero]); first | done | rfl))
                      · skip
                        go_simp
                        refine hK.out _ _ (HS0.out _ (hsT6.far (p := ⟨gF, k1, none⟩) hneT.1 _) ((cell_far9 _ _ _ hneT.2).trans hc6)) (fun hHeld => ?_)
                        clear hK K
                        try simp only [Act.put, List.setIfInBounds_toArray, List.set_cons_zero, List.set_cons_succ]
                        refine wpAnyH_done (by kernel_rfl) ?_ _
                        clear hsT6 hneT hc6 t2 t3 hHeld hs3 hs4 hc3 hc4
                        go_wp2_with fail
                        go_roundw
                        case rel => exact ⟨k + 1, nn, nm3, _, _, _, _, _, _, _, DL, by go_num, by omega, by omega, HF⟩
                        case measure => simp [intOf]; omega
                      exact AllReadyH.nil
                    exact AllReadyH.nil
                  exact AllReadyH.nil
                refine AllReadyH.cons (o := ?_) ?_ (fun K hK => ?_) ?_
                rotate_left
                (focus ((simp only [List.getElem?_toArray, List.getElem?_cons_succ, List.getElem?_cons_zero]); first | done | rfl))
                · skip
                  go_simp
                  refine hK.out _ _ (HS0.out _ hs4 hc4) (fun hHeld => ?_)
                  clear hK K
                  try simp only [Act.put, List.setIfInBounds_toArray, List.set_cons_zero, List.set_cons_succ]
                  refine wpAnyH_ready (rs := [11]) (by kernel_rfl) (by simp) ?_
                  refine AllReadyH.cons (o := ?_) ?_ (fun K hK => ?_) ?_
                  rotate_left
                  (focus ((simp only [List.getElem?_toArray, List.getElem?_cons_succ, List.getElem?_cons_zero]); first | done | rfl))
                  · skip
                    go_simp
                    refine hK.out _ _ (HS0.out _ hs4 hc4) (fun hHeld => ?_)
                    clear hK K
                    try simp only [Act.put, List.setIfInBounds_toArray, List.set_cons_zero, List.set_cons_succ]
                    refine wpAnyH_ready (rs := [14]) (by kernel_rfl) (by simp) ?_
                    refine AllReadyH.cons (o := ?_) ?_ (fun K hK => ?_) ?_
                    rotate_left
                    (focus ((simp only [List.getElem?_toArray, List.getElem?_cons_succ, List.getElem?_cons_zero]); first | done | rfl))
                    · skip
                      skip
                      refine step_append_lies _ (by rfl) _ _ _ (by rfl) w.heap.size 3 i0 (.int .i64 0) 1 8 Try.underlying25 hi0 hz0 hz1 hz2 (by rfl) (by decide) _ p (nums64 (rowF L1 k1)) (by rfl) hrow ⟨w3.heap.size, 0, none⟩ 1 1 (#[.int .i64 ((k2 : Nat) : Int)]).toList (by rfl) (by rfl) (World.news_of_block (cs := #[.int .i64 ((k2 : Nat) : Int)]) (t := 3) (fr := (0, 0)) (heap_alloc_new w3 _)) (by simp [Value.oneCell']) (by omega) (by unfold maxLen; omega) (by omega) hH2 (w3.heap.size + 1) (by simp) ?_
                      intro gg cap6 w6 hown6 hgrow6 hat6 hlt6
                      have hrw2 := HA4.out.a.n.fr.row k1 hk1l
                      have hg6 := hgrow6
                      rw [show (Value.slice aRw p cRw) = fv3 k1 from by rw [HV.out.1, HV.out.2]] at hg6
                      obtain ⟨hN6, hF6⟩ := HA4.out.a.n.appF (x := ⟨k1, k2, xp, true⟩) rfl hk1l hk2l (v' := (.slice (some ⟨gg, 0, none⟩) (p + 1) cap6)) (p := p) hown6 HV.out.2 hg6 (fun b e => by rw [HV.out.1, HV.out.2]; injection e with e; rw [← e]; rcases hat6 with h | h; exact Or.inl h; exact Or.inr (by rw [h]; simp))
                      have hsT6 := HA4.out.a.sT.grown_own hrw2 (by decide) hg6
                      have hsN6 := HA4.out.a.n.sn.grown_own hrw2 (by decide) hg6
                      have hc6 : w6.cell? ⟨bn, 258, none⟩ = some (.slice (some ⟨gF, 0, none⟩) q cF) := by rw [hsN6.at_, ← HA4.out.a.n.sn.at_]; exact hc4
                      have ho6 := own_grown_own HA4.out.a.n.fr.own hrw2 (by decide) hg6
                      obtain ⟨t2, t3⟩ := HRd.out _ ho6
                      have hneT : b5 ≠ gF ∧ bn ≠ gF := ⟨fun e => own_ne ho6 hsT6 (by decide) gF rfl e.symm, fun e => own_ne ho6 hsN6 (by decide) gF rfl e.symm⟩
                      have HF : Hid (NwS w w.heap.size b2 b3 b5 b6 b7 b8 bn bM bL (.func (.func kf) #[] #[.pointer (some ⟨bV, 0, none⟩)]) mf #[.int .i64 S0, .slice (some ⟨ge, off, none⟩) n c, .int .i64 ((F : Nat) : Int), .int .i64 T] (cN.setIfInBounds 256 (.int .i64 ((f0 : Nat) : Int))) (rl (KOf L) 256) aR cR L F f0 (k + 1) (2 * (k + 1) + 1) nn nm3 vM3 (.slice (some ⟨gF, 0, none⟩) q cF) vS3 (fun j => if j = k1 then (.slice (some ⟨gg, 0, none⟩) (p + 1) cap6) else fv3 j) sv3 xs (L1 ++ [⟨k1, k2, xp, true⟩]) DL (w6.setCell ⟨gF, k1, none⟩ (.slice (some ⟨gg, 0, none⟩) (p + 1) cap6))) := by
                        rw [← HQ.out]
                        exact HA4.out.put (x := ⟨xf, xt, xp, true⟩) hN6 hF6 HS.out HK.out.1 HK.out.2 (fun i hi => by rw [rowB_snoc, if_neg (by simp)]; exact HA4.out.rows i hi)
                      refine hK.out _ _ (HS0.out _ hsT6 hc6) (fun hHeld => ?_)
                      clear hK K hown6 hgrow6 hat6 hlt6 hN6 hF6 hrw2 hg6 ho6 hsN6
                      try simp only [Act.put, List.setIfInBounds_toArray, List.set_cons_zero, List.set_cons_succ]
                      (refine wpAnyH_take (i := 15) (oi := ?_) (v := ?_) ?_ (by kernel_rfl) (by kernel_rfl) (by kernel_rfl) ?_ (Or.inl ⟨?_, ?_⟩) (by assumption) ?_; rotate_left 2; (focus ((simp only [List.getElem?_toArray, List.getElem?_cons_succ, List.getElem?_cons_zero]); first | done | rfl)); (focus (exact fun _ _ _ h => h)); (focus rfl); (focus (intro wz hSw; (try dsimp only at hSw); go_simp; first | done | with_reducible rfl)); try simp only [Act.put, List.setIfInBounds_toArray, List.set_cons_zero, List.set_cons_succ])
                      refine wpAnyH_ready (rs := [16]) (by kernel_rfl) (by simp) ?_
                      refine AllReadyH.cons (o := ?_) ?_ (fun K hK => ?_) ?_
                      rotate_left
                      (focus ((simp only [List.getElem?_toArray, List.getElem?_cons_succ, List.getElem?_cons_zero]); first | done | rfl))
                      · skip
                        go_simp
                        refine hK.out _ _ (HS0.out _ (hsT6.far (p := ⟨gF, k1, none⟩) hneT.1 _) ((cell_far9 _ _ _ hneT.2).trans hc6)) (fun hHeld => ?_)
                        clear hK K
                        try simp only [Act.put, List.setIfInBounds_toArray, List.set_cons_zero, List.set_cons_succ]
                        refine wpAnyH_done (by kernel_rfl) ?_ _
                        clear hsT6 hneT hc6 t2 t3 hHeld hs3 hs4 hc3 hc4
                        go_wp2_with fail
                        go_roundw
                        case rel => exact ⟨k + 1, nn, nm3, _, _, _, _, _, _, _, DL, by go_num, by omega, by omega, HF⟩
                        case measure => simp [intOf]; omega
                      exact AllReadyH.nil
                    exact AllReadyH.nil
                  exact AllReadyH.nil
                exact AllReadyH.nil
            exact AllReadyH.nil
          exact AllReadyH.nil
        · obtain rfl : k = n := by omega
          have s0 : wr.cell? ⟨b5, 0, none⟩ = some (.pointer (some ⟨bn, 0, none⟩)) := HA.out.a.sT.at_ 0
          have HF : Hid (NetP (KOf L) mf L F w (.returned (.pointer (some ⟨bn, 0, none⟩))) wr) := by
            have hrel2 := HA.out.rel
            rw [show L.take k = L by rw [← HH.out.2.2.2.1]; exact List.take_length] at hrel2
            have hpos : 0 < nm.length := by
              have := (List.getElem?_eq_some_iff.1 HA.out.hf).1
              omega
            have hgl : ∀ i (h : i < nm.length), nm.getD i 0 = nm[i] := fun i h => by simp [List.getD, h]
            obtain ⟨gM, cM, gF, cF, gS, cS, h1, h2, h3⟩ := HA.out.a.n.net (mk := fun i => mf (nm.getD i 0)) hpos HA.out.rows (fun i hi => by simp [hi])
            refine ⟨bn, f0, gM, cM, gF, cF, gS, cS, nm, L1, _, _, _, _, csA, rfl, HA.out.a.bel, h1, h2, h3, HA.out.a.n.cl HN.out.1 HN.out.2.1 (fun j hj => by rw [Array.getElem?_setIfInBounds_ne (by omega)]; exact HN.out.2.2.2.1 j hj), ?_, hrel2, HA.out.a.nd, HA.out.bd, HA.out.hf, by have := HA.out.len; have := HH.out.2.2.2.1; omega, HA.out.src⟩
            rw [HA.out.a.n.sn.at_, Array.getElem?_setIfInBounds_ne (by decide), Array.getElem?_setIfInBounds_ne (by decide), Array.getElem?_setIfInBounds_ne (by decide), Array.getElem?_setIfInBounds_self_of_lt (by rw [HN.out.2.2.1]; decide)]
          go_wp2_with fail
          go_ret
          exact HF.out
    exact AllReadyH.nil
  exact AllReadyH.nil
end Go.Proofs.Ytlnndkilaklifaa
