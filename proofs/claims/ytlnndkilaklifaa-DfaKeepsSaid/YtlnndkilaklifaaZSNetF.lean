import Derived.Test.YtlnndkilaklifaaZSBuild
import Derived.Test.YtlnndkilaklifaaZSReps
namespace Go.Proofs.Ytlnndkilaklifaa
open Go.RowKit Go.Maps Go.WideElems Go.ChangeMaps Go.MapKept
set_option linter.unusedVariables false
set_option linter.unusedSimpArgs false

/-- The keys of an automaton's bytes. -/
def KOf (L : List En) : Nat → Lit := keyLit (setF (L.map En.z)) (setsOf (L.map En.z)).length
def CsetsP (K : Nat → Lit) (w : World) (e : Ending) (w' : World) : Prop :=
  ∃ (b7 b8 bL : Nat) (aR : Option Addr) (cR : Nat), e = .returned (.func (.func 80) #[] #[.pointer (some ⟨b8, 0, none⟩), .pointer (some ⟨b7, 0, none⟩)]) ∧ (∀ P, LsA w.heap.size b7 b8 bL 0 (rl K 256) aR cR P [] w') ∧ Below w.heap.size w w' ∧ w.heap.size ≤ bL

set_option maxRecDepth 100000 in
theorem csets_any (K : Nat → Lit) (bn : Nat) (cs : Array Value) (w : World) (h : NetCl w w.heap.size bn K cs) : Calls Try.prog 72 #[.pointer (some ⟨bn, 0, none⟩)] w (CsetsP K w) := by
  have HF := Lib.hid (firstBytes_any K w.heap.size bn cs w h)
  have hmf : ∀ (fn : Fn) (first cap : Array Value) (w : World), (Instr.makeFunc fn first cap).run Try.prog w = .ok (.func fn first cap) w := fun _ _ _ _ => rfl
  have hmm := @run_makeMap Try.prog
  clear h
  go_enter Try.func72, Try.ntmps72
  go_wp2_with fail
  refine HF.out.mono ?_
  rintro e w2 ⟨a, c, rfl, hO, hB⟩
  have HZ : Hid (CsetsP K w (.returned (.func (.func 80) #[] #[.pointer (some ⟨w2.heap.size + 1 + 1, 0, none⟩), .pointer (some ⟨w2.heap.size, 0, none⟩)])) (((w2.alloc (.cells #[.slice a (nrep K 256) c] 91)).alloc (.map #[] 0)).alloc (.cells #[.map (some (w2.heap.size + 1))] 116))) := by
    have k1 := al w2 (.cells #[.slice a (nrep K 256) c] 91)
    have k2 := al (w2.alloc (.cells #[.slice a (nrep K 256) c] 91)) (.map #[] 0)
    have k3 := al ((w2.alloc (.cells #[.slice a (nrep K 256) c] 91)).alloc (.map #[] 0)) (.cells #[.map (some (w2.heap.size + 1))] 116)
    have hlen : (rl K 256).length = nrep K 256 := rl_len K 256
    have hs := hB.size
    refine ⟨w2.heap.size, w2.heap.size + 1 + 1, w2.heap.size + 1, a, c, rfl, fun P => ⟨?_, ?_, ?_, ?_, fun d hd => by simp at hd, ⟨by omega, by simp; omega⟩, fun x hx => ?_⟩, ?_, by omega⟩
    · rw [hlen]; exact ((St.new w2 _ _).keep k2).keep k3
    · have := St.new ((w2.alloc (.cells #[.slice a (nrep K 256) c] 91)).alloc (.map #[] 0)) 116 #[.map (some (w2.heap.size + 1))]
      simpa using this
    · rw [hlen]; exact ownsRow_keep (ownsRow_keep (ownsRow_keep hO k1) k2) k3
    · have h1 : MapEx ((w2.alloc (.cells #[.slice a (nrep K 256) c] 91)).alloc (.map #[] 0)) 41 (w2.heap.size + 1) 0 (LQ (rl K 256) []) := by
        have := MapEx.made (w2.alloc (.cells #[.slice a (nrep K 256) c] 91)) 41 (LQ (rl K 256) []) (fun x y ⟨d, hd, _⟩ => by simp at hd)
        simpa using this
      exact h1.same (k3.block _ h1.lt)
    · obtain ⟨c, hc, rfl⟩ := List.getElem_of_mem hx
      exact (rl_at K 256 c hc).2
    · exact ((hB.trans (k1.mono hs)).trans (k2.mono (by simp; omega))).trans (k3.mono (by simp; omega))
  clear hO hB
  go_wp2_with fail
  go_ret
  exact HZ.out
/-- What a value is made of. -/
def vA (v : Value) : Option Addr := match v with | .slice a _ _ => a | _ => none
def vC (v : Value) : Nat := match v with | .slice _ _ c => c | _ => 0
theorem NtA.first {w : World} {B bn Mm Mf Ms : Nat} {cs : Array Value} {mks : List Int} {vM vF vS : Value} {fv sv : Nat → Value} {xs : Nat → List Value} {L : List En} (h : NtA B bn Mm Mf Ms cs mks vM vF vS fv sv xs L w) (u : Value) :
    NtA B bn Mm Mf Ms (cs.setIfInBounds 256 u) mks vM vF vS fv sv xs L (w.setCell ⟨bn, 256, none⟩ u) ∧ NtF B bn (bsN bn Mf Ms vM vF vS fv sv) (bsN bn Mf Ms vM vF vS fv sv) w (w.setCell ⟨bn, 256, none⟩ u) := by
  have hk : Kept [] [bn] w (w.setCell ⟨bn, 256, none⟩ u) := (Kept.refl _ _ _).setCell _ _ (Or.inl (by simp))
  have hne : ∀ {t s n : Nat} {v : Value} {ys : List Value}, w.ownsRow B t s v n ys → t ≠ 88 → ∀ b, v.ownBlock = some b → b ∉ [bn] := fun ho ht b e hm => own_ne ho h.sn ht b e (List.mem_singleton.1 hm)
  refine ⟨⟨?_, by simp [h.sz], own_kept h.om hk (by simp) (hne h.om (by decide)), h.fr.kept hk (hne h.fr.own (by decide)) (fun i hi => hne (h.fr.row i hi) (by decide)), h.st.kept hk (hne h.st.own (by decide)) (fun i hi => hne (h.st.row i hi) (by decide)), h.sep, ⟨h.lo.1, by simpa [World.size_setCell] using h.lo.2⟩, h.hE, h.hx⟩,
    ⟨⟨[bn], hk, fun x hx => Or.inl (Or.inl (List.mem_singleton.1 hx))⟩, fun x hx => Or.inl hx, (Below.refl _ _).setCell (p := ⟨bn, 256, none⟩) h.lo.1 u⟩⟩
  have := h.sn.set 256 u
  rwa [Array.setIfInBounds_comm vS u (by decide), Array.setIfInBounds_comm vF u (by decide), Array.setIfInBounds_comm vM u (by decide)] at this
/-- The net that was made, as the maker reads it. -/
theorem NtA.net {w : World} {B bn M : Nat} {cs : Array Value} {mks : List Int} {vM vF vS : Value} {fv sv : Nat → Value} {xs : Nat → List Value} {L : List En} {P : Nat → Prop} {cl : (Nat → Bool) → List Nat} {mk : Nat → Int} (h : NtA B bn M M M cs mks vM vF vS fv sv xs L w) (hM : 0 < M) (hr : ∀ i, i < M → StP w P cl (rowB L i) (xs i)) (hmk : ∀ i, i < M → mks[i]? = some (mk i)) :
    ∃ gM cM gF cF gS cS, NetFr w w.heap.size bn gF M cF (fun i => vA (fv i)) (fun i => vC (fv i)) L ∧ NetSt w w.heap.size bn gS M cS (fun i => vA (sv i)) (fun i => vC (sv i)) cl L ∧ NetMk w w.heap.size bn gM M cM mk := by
  obtain ⟨aM, cM, rfl⟩ := ownsRow_slice h.om
  obtain ⟨aF, cF, rfl⟩ := ownsRow_slice h.fr.own
  obtain ⟨aS, cS, rfl⟩ := ownsRow_slice h.st.own
  obtain ⟨gM, rfl, _, hgM, hcM⟩ := ownsRow_read h.om hM
  obtain ⟨gF, rfl, _, hgF, hcF⟩ := ownsRow_read h.fr.own hM
  obtain ⟨gS, rfl, _, hgS, hcS⟩ := ownsRow_read h.st.own hM
  obtain ⟨c0, c1, c2⟩ := h.cells
  have hbn := h.sn.lt
  refine ⟨gM, cM, gF, cF, gS, cS, ⟨⟨hbn, hgF⟩, c1, fun i hi => ?_, fun i hi h0 => ?_⟩, ⟨⟨hbn, hgS⟩, c2, fun i hi => ?_, fun i hi h0 => ?_⟩, ⟨⟨hbn, hgM⟩, c0, fun i hi => ?_⟩⟩
  · rw [(hcF i (by omega)).1]
    obtain ⟨a, c, e⟩ := ownsRow_slice (h.fr.row i hi)
    simp [hi, e, vA, vC]
  · have ho := h.fr.row i hi
    obtain ⟨a, c, e⟩ := ownsRow_slice ho
    rw [e] at ho
    obtain ⟨g, rfl, _, hg, hc⟩ := ownsRow_read ho h0
    refine ⟨g, 0, by simp [e, vA], hg, fun j hj => ?_⟩
    rw [Nat.zero_add, (hc j (by omega)).1, nums64_get _ j hj]
  · rw [(hcS i (by omega)).1]
    obtain ⟨a, c, e⟩ := ownsRow_slice (h.st.row i hi)
    simp [hi, e, vA, vC]
  · have ho := h.st.row i hi
    obtain ⟨a, c, e⟩ := ownsRow_slice ho
    rw [e] at ho
    obtain ⟨g, rfl, _, hg, hc⟩ := ownsRow_read ho h0
    refine ⟨g, 0, by simp [e, vA], hg, fun k hk => ?_⟩
    obtain ⟨a', c', h1, h2, h3⟩ := (hr i hi).2 k hk
    refine ⟨a', c', by rw [Nat.zero_add, (hc (k * 2) (by omega)).1, h1], by rw [Nat.zero_add, (hc (k * 2 + 1) (by omega)).1, h2], fun h4 => ?_⟩
    obtain ⟨g', off, e1, e2, _, e3⟩ := h3 h4
    exact ⟨g', off, e1, e2, e3⟩
  · rw [(hcM i (by omega)).1]
    simp only [ints, List.getElem?_map, hmk i hi, Option.map_some]
theorem cell_far9 (w : World) (p : Addr) (u : Value) {g i : Nat} (h : g ≠ p.block) : (w.setCell p u).cell? ⟨g, i, none⟩ = w.cell? ⟨g, i, none⟩ := by
  have e := Below.heap_setCell w p u g h
  simp only [World.cell?, e]
theorem set_same9 (cs : Array Value) (i : Nat) (v : Value) (h : cs[i]? = some v) : cs.setIfInBounds i v = cs := by
  apply Array.ext_getElem?
  intro j
  by_cases e : i = j
  · subst e
    rw [Array.getElem?_setIfInBounds_self_of_lt (Array.getElem?_eq_some_iff.1 h).1, h]
  · rw [Array.getElem?_setIfInBounds_ne e]
theorem LsA.base {B B' b7 b8 bL n : Nat} {lr : List Nat} {aR : Option Addr} {cR : Nat} {P : Nat → Prop} {DL : List ((Nat → Bool) × Option Addr × Nat)} {w : World} (h : LsA B' b7 b8 bL n lr aR cR P DL w) (hb : B ≤ B') : LsA B b7 b8 bL n lr aR cR P DL w :=
  ⟨h.s7, h.s8, ownsRow_base h.row hb, h.map, h.at_, ⟨Nat.le_trans hb h.lo.1, Nat.le_trans hb h.lo.2⟩, h.lr⟩
theorem NnA.first {V w : World} {B bn b3 b5 b6 bM : Nat} {fn : Value} {mf : Nat → Int} {nm : List Nat} {cs : Array Value} {vM vF vS : Value} {fv sv : Nat → Value} {xs : Nat → List Value} {L : List En} (h : NnA V B bn b3 b5 b6 bM fn mf nm cs vM vF vS fv sv xs L w) (u : Value) :
    NnA V B bn b3 b5 b6 bM fn mf nm (cs.setIfInBounds 256 u) vM vF vS fv sv xs L (w.setCell ⟨bn, 256, none⟩ u) := by
  obtain ⟨h1, h2⟩ := h.n.first u
  exact ⟨h1, h.sM.set_far h.n.sn (by decide) _ _, h.sT.set_far h.n.sn (by decide) _ _, h.sF.set_far h.n.sn (by decide) _ _, h.map.set h.n.sn, h.nd, h.le, h.bM, h.bel.trans h2.below⟩
/-- The net's beginning. -/
theorem NnA.start (V w3 : World) (B b3 : Nat) (fn : Value) (mf : Nat → Int) (cN : Array Value) (hb : Below B V w3) (hB : B ≤ w3.heap.size) (h3 : St w3 64 b3 #[fn]) (hs : cN.size = 260) (h7 : cN[257]? = some (.slice none 0 0)) (h8 : cN[258]? = some (.slice none 0 0)) (h9 : cN[259]? = some (.slice none 0 0)) :
    NnA V B w3.heap.size b3 (w3.heap.size + 1) (w3.heap.size + 1 + 1 + 1) (w3.heap.size + 1 + 1) fn mf [] cN (.slice none 0 0) (.slice none 0 0) (.slice none 0 0) (fun _ => .slice none 0 0) (fun _ => .slice none 0 0) (fun _ => []) []
      ((((w3.alloc (.cells cN 88)).alloc (.cells #[.pointer (some ⟨w3.heap.size, 0, none⟩)] 83)).alloc (.map #[] 0)).alloc (.cells #[.map (some (w3.heap.size + 1 + 1))] 101)) := by
  have k1 := al w3 (.cells cN 88)
  have k2 := al (w3.alloc (.cells cN 88)) (.cells #[.pointer (some ⟨w3.heap.size, 0, none⟩)] 83)
  have k3 := al ((w3.alloc (.cells cN 88)).alloc (.cells #[.pointer (some ⟨w3.heap.size, 0, none⟩)] 83)) (.map #[] 0)
  have k4 := al (((w3.alloc (.cells cN 88)).alloc (.cells #[.pointer (some ⟨w3.heap.size, 0, none⟩)] 83)).alloc (.map #[] 0)) (.cells #[.map (some (w3.heap.size + 1 + 1))] 101)
  have e0 : ((cN.setIfInBounds 257 (.slice none 0 0)).setIfInBounds 258 (.slice none 0 0)).setIfInBounds 259 (.slice none 0 0) = cN := by rw [set_same9 cN 257 _ h7, set_same9 cN 258 _ h8, set_same9 cN 259 _ h9]
  refine ⟨⟨?_, hs, World.ownsRow_nil _ _ _ _, ⟨World.ownsRow_nil _ _ _ _, fun i hi => by simp at hi, fun i j hi => by simp at hi⟩, ⟨World.ownsRow_nil _ _ _ _, fun i hi => by simp at hi, fun i j hi => by simp at hi⟩, fun i hi => by simp at hi, ⟨hB, by simp; omega⟩, fun e he => by simp at he, fun i hi => rfl⟩, ?_, ?_, ?_, ?_, List.nodup_nil, fun x hx => by simp at hx, by omega, ?_⟩
  · rw [e0]; exact (((St.new w3 88 cN).keep k2).keep k3).keep k4
  · have := St.new (((w3.alloc (.cells cN 88)).alloc (.cells #[.pointer (some ⟨w3.heap.size, 0, none⟩)] 83)).alloc (.map #[] 0)) 101 #[.map (some (w3.heap.size + 1 + 1))]
    simpa using this
  · have := ((St.new (w3.alloc (.cells cN 88)) 83 #[.pointer (some ⟨w3.heap.size, 0, none⟩)]).keep k3).keep k4
    simpa using this
  · exact (((h3.keep k1).keep k2).keep k3).keep k4
  · have h1 : MapEx (((w3.alloc (.cells cN 88)).alloc (.cells #[.pointer (some ⟨w3.heap.size, 0, none⟩)] 83)).alloc (.map #[] 0)) 3 (w3.heap.size + 1 + 1) 0 (NmQ []) := by
      have := MapEx.made ((w3.alloc (.cells cN 88)).alloc (.cells #[.pointer (some ⟨w3.heap.size, 0, none⟩)] 83)) 3 (NmQ []) (fun x y ⟨k, s, h, _⟩ => by simp at h)
      simpa using this
    exact h1.same (k4.block _ h1.lt)
  · exact (((hb.trans (k1.mono hB)).trans (k2.mono (by simp; omega))).trans (k3.mono (by simp; omega))).trans (k4.mono (by simp; omega))
theorem NtA.cl {w : World} {B bn Mm Mf Ms : Nat} {cs csA : Array Value} {K : Nat → Lit} {mks : List Int} {vM vF vS : Value} {fv sv : Nat → Value} {xs : Nat → List Value} {L : List En} (h : NtA B bn Mm Mf Ms cs mks vM vF vS fv sv xs L w) (hs : csA.size = 256) (hv : ∀ j, j < 256 → csA[j]? = some (.int .u8 ((cls K j : Nat) : Int))) (hc : ∀ j, j < 256 → cs[j]? = csA[j]?) : NetCl w w.heap.size bn K csA :=
  ⟨h.sn.lt, hs, hv, fun j v hj => by
    have hj2 : j < 256 := by
      have := (List.getElem?_eq_some_iff.1 hj).1
      simpa [hs] using this
    have e : (⟨bn, 0, none⟩ : Addr).add j = ⟨bn, j, none⟩ := by unfold Addr.add; split <;> simp_all
    rw [e, h.sn.at_, Array.getElem?_setIfInBounds_ne (by omega), Array.getElem?_setIfInBounds_ne (by omega), Array.getElem?_setIfInBounds_ne (by omega), hc j hj2, ← Array.getElem?_toList, hj]⟩
end Go.Proofs.Ytlnndkilaklifaa
