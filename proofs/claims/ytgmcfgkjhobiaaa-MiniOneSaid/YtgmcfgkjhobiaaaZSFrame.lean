import Derived.Test.YtgmcfgkjhobiaaaZClasses
import Derived.Test.YtgmcfgkjhobiaaaZNNew
import Derived.Test.YtgmcfgkjhobiaaaZSClose
import Derived.Test.YtgmcfgkjhobiaaaZSLeadN
import Derived.Test.YtgmcfgkjhobiaaaZSVar
import Derived.Deep.RegionWith
import Derived.Deep.AppendLies
import Derived.Deep.RegionHeld3
import Derived.Deep.DeepCutAuto
import Derived.BigQuiet
import Derived.Deep.QuietTactic
import Derived.Maps.AppendAt
namespace Go.Proofs.Ytgmcfgkjhobiaaa
open Go.ChangeShapes Go.WideShapes Go.ChangeAt Go.RowKit Go.Deep
set_option linter.unusedVariables false
set_option maxRecDepth 100000

theorem add_mid9 (b o j : Nat) : (⟨b, o, none⟩ : Addr).add j = ⟨b, o + j, none⟩ := by unfold Addr.add; split <;> simp_all


end Go.Proofs.Ytgmcfgkjhobiaaa

namespace Go.Proofs.Ytgmcfgkjhobiaaa
open Go.ChangeShapes Go.WideShapes Go.ChangeAt Go.RowKit Go.Deep
set_option linter.unusedVariables false
set_option maxRecDepth 100000

/-- Numbers that came in. -/
theorem open_ints9 {H : Type} {enc : TypeId × Value → H} {w : World} {base fuel : Nat} {spare : Nat → Bool} {held : Bool} {a : Option Addr} {len cap : Nat} {x : DataW H × List MemPlace}
    (h : DataW.trod enc Try.prog w base spare held fuel 24 [.slice a len cap] = some x) : (∃ g : Nat → Int, ZAt w a len g) ∧ len ≤ cap ∧ cap ≤ maxLen := by
  rcases open_slice Try.underlying24 h with ⟨hcs, _⟩ | ⟨ad, l, c, m, n, D, Pl, hcs, hb, hl, hm, hmm, hx, hi⟩
  · simp at hcs
    obtain ⟨rfl, rfl, rfl⟩ := hcs
    exact ⟨⟨fun _ => 0, fun h => absurd h (by omega)⟩, Nat.le_refl _, by unfold maxLen; omega⟩
  · simp at hcs
    obtain ⟨rfl, rfl, rfl⟩ := hcs
    have h1 : Try.prog.cellsOf 3 = 1 := by kernel_rfl
    have hp : ∀ i, i < len → ∃ p : Int, w.cell? (ad.add i) = some (.int .i64 p) := by
      intro i him
      obtain ⟨cs', hc, ht⟩ := hi i (by rw [hmm]; split <;> omega)
      rw [h1] at hc
      obtain ⟨_, hcl, hat⟩ := World.cells?_some hc
      obtain ⟨b, e, _⟩ := DataW.trod_int Try.underlying3 ht
      have h2 := hat 0 (by omega)
      rw [Go.Deep.add_add, e] at h2
      exact ⟨b, by simpa using h2⟩
    obtain ⟨b, off, spot⟩ := ad
    obtain ⟨G, hs⟩ : ∃ G : Nat → Int, ∀ i, i < len → w.cell? ((⟨b, off, spot⟩ : Addr).add i) = some (.int .i64 (G i)) :=
      ⟨fun i => if h : i < len then Classical.choose (hp i h) else 0, fun i h => by
        have := Classical.choose_spec (hp i h)
        simp only [dif_pos h]
        exact this⟩
    refine ⟨⟨G, fun h0 => ?_⟩, hl, hm⟩
    have hspot : spot = none := by
      have := hs 0 h0
      simpa [Addr.add] using World.cell?_spot this
    subst hspot
    refine ⟨b, off, rfl, ?_, fun j hj => ?_⟩
    · have := hs 0 h0
      by_cases hb : b < w.heap.size
      · exact hb
      · rw [add_mid9] at this
        simp [World.cell?, Array.getElem?_eq_none (by omega : w.heap.size ≤ b)] at this
    · have := hs j hj
      rwa [add_mid9] at this
end Go.Proofs.Ytgmcfgkjhobiaaa

namespace Go.Proofs.Ytgmcfgkjhobiaaa
open Go.RowKit Go.Maps Go.WideElems Go.ChangeMaps Go.MapKept
set_option linter.unusedVariables false
set_option linter.unusedSimpArgs false


end Go.Proofs.Ytgmcfgkjhobiaaa

namespace Go.Proofs.Ytgmcfgkjhobiaaa
open Go.RowKit Go.Maps Go.WideElems Go.ChangeMaps Go.MapKept
set_option linter.unusedVariables false
set_option linter.unusedSimpArgs false



end Go.Proofs.Ytgmcfgkjhobiaaa

namespace Go.Proofs.Ytgmcfgkjhobiaaa
set_option linter.unusedVariables false
set_option linter.unusedSimpArgs false

theorem cls_inj9 (K : Nat → Lit) {x y : Nat} (h : cls K x = cls K y) : K x = K y := by
  have hx : cls K (fst K x) = cls K x := by unfold cls; rw [fst_fst]
  have hy : cls K (fst K y) = cls K y := by unfold cls; rw [fst_fst]
  have e : fst K x = fst K y := by
    rcases Nat.lt_trichotomy (fst K x) (fst K y) with h1 | h1 | h1
    · have h2 := cls_lt K (fst K x) (fst K y) h1
      have h3 : nrep K (fst K y) = cls K y := rfl
      omega
    · exact h1
    · have h2 := cls_lt K (fst K y) (fst K x) h1
      have h3 : nrep K (fst K x) = cls K x := rfl
      omega
  rw [← (fst_spec K x).2.1, ← (fst_spec K y).2.1, e]
noncomputable def rpO (K : Nat → Lit) (c : Nat) : Nat := (rl K 256).getD c 0
/-- A class's byte stands for all of the class. -/
theorem rep_key (K : Nat → Lit) (b : Nat) (hb : b < 256) : cls K b < (rl K 256).length ∧ K (rpO K (cls K b)) = K b := by
  have h1 := cls_lt K b 256 hb
  have h2 : cls K b < (rl K 256).length := by rw [rl_len]; omega
  refine ⟨h2, cls_inj9 K ?_⟩
  have : rpO K (cls K b) = (rl K 256)[cls K b] := by simp [rpO, List.getD_eq_getElem?_getD, h2]
  rw [this]
  exact (rl_at K 256 (cls K b) h2).1
theorem KOf_eq (L : List En) {x y : Nat} (h : KOf L x = KOf L y) : ∀ e ∈ L, e.b = false → e.p x = e.p y := by
  intro e he hb
  have h1 := (keyLit_eq _ _ _ _).1 h
  have hm : e.p ∈ setsOf (L.map En.z) := by
    unfold setsOf
    exact List.mem_map.2 ⟨e.z, List.mem_filter.2 ⟨List.mem_map.2 ⟨e, he, rfl⟩, by simp [En.z, hb]⟩, rfl⟩
  obtain ⟨i, hi, e1⟩ := List.getElem_of_mem hm
  have h2 := h1 i hi
  have h3 : setF (L.map En.z) i = e.p := by simp [setF, List.getD_eq_getElem?_getD, hi, e1]
  rw [h3] at h2
  exact h2
theorem rep_p (L : List En) (b : Nat) (hb : b < 256) : ∀ e ∈ L, e.b = false → e.p (rpO (KOf L) (cls (KOf L) b)) = e.p b := KOf_eq L (rep_key (KOf L) b hb).2
theorem Mv.byte {L : List En} {A : Nat → Prop} {c d : Nat} (h : ∀ e ∈ L, e.b = false → e.p c = e.p d) (x : Nat) : Mv L A c x ↔ Mv L A d x :=
  ⟨fun ⟨e, h1, h2, h3, h4, h5⟩ => ⟨e, h1, h2, by rw [← h e h1 h2]; exact h3, h4, h5⟩, fun ⟨e, h1, h2, h3, h4, h5⟩ => ⟨e, h1, h2, by rw [h e h1 h2]; exact h3, h4, h5⟩⟩
theorem Mv.none {L : List En} {A : Nat → Prop} (h : ∀ x, ¬ A x) (c x : Nat) : ¬ Mv L A c x := fun ⟨e, _, _, _, h4, _⟩ => h _ h4
/-- By names. -/
theorem Least.nam {nm : List Nat} (hn : nm.Nodup) {mf : Nat → Int} {A' A : Nat → Prop} (h : Nam nm A' A) {r : Int} (hr : Least (fun i => mf (nm.getD i 0)) A' r) : Least mf A r := by
  rcases hr with ⟨h1, h2⟩ | ⟨h1, ⟨x, hx, h2⟩, h3⟩
  · refine Or.inl ⟨h1, fun x hx => ?_⟩
    obtain ⟨i, hi, rfl⟩ := (h.2 x).1 hx
    exact h2 i hi
  · refine Or.inr ⟨h1, ⟨nm.getD x 0, (h.2 _).2 ⟨x, hx, rfl⟩, h2⟩, fun y hy => ?_⟩
    obtain ⟨i, hi, rfl⟩ := (h.2 y).1 hy
    exact h3 i hi
theorem Least.empty {mf : Nat → Int} {A : Nat → Prop} {r : Int} (h : Least mf A r) (he : ∀ x, ¬ A x) : r = -1 := by
  rcases h with ⟨h1, _⟩ | ⟨_, ⟨x, hx, _⟩, _⟩
  · exact h1
  · exact absurd hx (he x)
/-- Where a class leads. -/
def TTo (L : List En) (M : Nat) (rp : Nat → Nat) (f : Nat → Bool) (c x : Nat) : Prop := FR L (Mv L (fun y => y < M ∧ f y = true) (rp c)) x
/-- The names of a net's states, and its run. -/
structure Made (L : List En) (F : Nat) (nm : List Nat) (L' : List En) (f0 : Nat) (s0 : Nat → Bool) (k : Nat) (R : List (List Int)) (SS : List (Nat → Bool)) : Prop where
  ren : L = L'.map (En.ren nm)
  nd : nm.Nodup
  bd : ∀ e ∈ L', e.f < nm.length ∧ e.t < nm.length
  hf : nm[f0]? = some F
  src : ∀ x ∈ nm, Src L F F x
  st : ∀ x, x < nm.length → (s0 x = true ↔ FR L' (fun y => y = f0) x)
  run : RunD nm.length (rl (KOf L) 256).length (TTo L' nm.length (rpO (KOf L))) [s0] k R SS
theorem Made.rep {L : List En} {F f0 k : Nat} {nm : List Nat} {L' : List En} {s0 : Nat → Bool} {R : List (List Int)} {SS : List (Nat → Bool)} (h : Made L F nm L' f0 s0 k R SS) (b : Nat) (hb : b < 256) : ∀ e ∈ L', e.b = false → e.p (rpO (KOf L) (cls (KOf L) b)) = e.p b := by
  intro e he h2
  have h3 : e.ren nm ∈ L := by rw [h.ren]; exact List.mem_map.2 ⟨e, he, rfl⟩
  exact rep_p L b hb (e.ren nm) h3 h2
/-- What a state says of a text. -/
def Says (M : Nat) (SS : List (Nat → Bool)) (A : Nat → Prop) (a : Int) : Prop := (a = -1 ∧ ∀ x, ¬ A x) ∨ ∃ (j : Nat) (h : j < SS.length), a = ((j : Nat) : Int) ∧ ∀ x, x < M → (SS[j] x = true ↔ A x)
theorem Made.start {L : List En} {F f0 k : Nat} {nm : List Nat} {L' : List En} {s0 : Nat → Bool} {R : List (List Int)} {SS : List (Nat → Bool)} (h : Made L F nm L' f0 s0 k R SS) (z : Nat → Nat) : Says nm.length SS (RunP L' f0 z 0) 0 := by
  have hp := h.run.pre
  have h0 : 0 < SS.length := Nat.lt_of_lt_of_le (by simp) hp.length_le
  have h1 : s0 = SS[0] := by
    have := hp.getElem (i := 0) (by simp)
    simpa using this
  exact Or.inr ⟨0, h0, rfl, fun x hx => by rw [← h1]; exact h.st x hx⟩
/-- A step. -/
theorem Made.step {L : List En} {F f0 k : Nat} {nm : List Nat} {L' : List En} {s0 : Nat → Bool} {R : List (List Int)} {SS : List (Nat → Bool)} (h : Made L F nm L' f0 s0 k R SS) (hk : SS.length = k) (z : Nat → Nat) (t j : Nat) (hz : z t < 256) (hs : Says nm.length SS (RunP L' f0 z t) ((j : Nat) : Int)) :
    ∃ (hj : j < R.length) (hc : cls (KOf L) (z t) < R[j].length), Says nm.length SS (RunP L' f0 z (t + 1)) R[j][cls (KOf L) (z t)] := by
  have hRl := h.run.len
  obtain ⟨hc1, _⟩ := rep_key (KOf L) (z t) hz
  rcases hs with ⟨h1, _⟩ | ⟨j', hj', e, hS⟩
  · omega
  · have e2 : j' = j := by omega
    subst e2
    have hjR : j' < R.length := by omega
    have hrow := h.run.rowlen R[j'] (List.getElem_mem hjR)
    refine ⟨hjR, by omega, ?_⟩
    obtain ⟨hs2, ht⟩ := h.run.tells j' hjR
    have htc := ht (cls (KOf L) (z t)) (by omega)
    have hA : ∀ x, TTo L' nm.length (rpO (KOf L)) SS[j'] (cls (KOf L) (z t)) x ↔ RunP L' f0 z (t + 1) x := by
      intro x
      show FR L' _ x ↔ FR L' _ x
      refine FR.congr (fun y => ?_) x
      rw [Mv.byte (h.rep (z t) hz) y]
      refine Mv.congr (fun w => ⟨fun hw => (hS w hw.1).1 hw.2, fun hw => ?_⟩) _ y
      have hlt : w < nm.length := RunP.lt (f := f0) (List.getElem?_eq_some_iff.1 h.hf).1 (fun e he => (h.bd e he).2) t hw
      exact ⟨hlt, (hS w hlt).2 hw⟩
    rcases htc with ⟨h1, h2⟩ | ⟨_, j2, hj2, h1, h2⟩
    · refine Or.inl ⟨h1, fun x hx => ?_⟩
      have hlt : x < nm.length := RunP.lt (f := f0) (List.getElem?_eq_some_iff.1 h.hf).1 (fun e he => (h.bd e he).2) (t + 1) hx
      exact h2 x hlt ((hA x).2 hx)
    · exact Or.inr ⟨j2, hj2, h1, fun x hx => (h2 x hx).trans (hA x)⟩
theorem RunP.dead {L : List En} {f : Nat} {z : Nat → Nat} {t : Nat} (h : ∀ x, ¬ RunP L f z t x) : ∀ x, ¬ RunP L f z (t + 1) x := fun x => FR.none (Mv.none h (z t)) x
theorem Made.names {L : List En} {F f0 k : Nat} {nm : List Nat} {L' : List En} {s0 : Nat → Bool} {R : List (List Int)} {SS : List (Nat → Bool)} (h : Made L F nm L' f0 s0 k R SS) (z : Nat → Nat) (m : Nat) : Nam nm (RunP L' f0 z m) (RunP L F z m) := by
  have := Nam.run h.nd h.bd (List.getElem?_eq_some_iff.1 h.hf).1 z m
  rw [← h.ren] at this
  have e : nm.getD f0 0 = F := by simp [List.getD_eq_getElem?_getD, h.hf]
  rwa [e] at this
/-- The mark that is told is the text's. -/
theorem Made.mark {L : List En} {F f0 k : Nat} {nm : List Nat} {L' : List En} {s0 : Nat → Bool} {R : List (List Int)} {SS : List (Nat → Bool)} (h : Made L F nm L' f0 s0 k R SS) {mf : Nat → Int} {z : Nat → Nat} {m j : Nat} (hj : j < SS.length) {r : Int} (hs : Says nm.length SS (RunP L' f0 z m) ((j : Nat) : Int))
    (hr : Least (fun i => mf (nm.getD i 0)) (fun x => x < nm.length ∧ SS[j] x = true) r) : Least mf (RunP L F z m) r := by
  rcases hs with ⟨h1, _⟩ | ⟨j', hj', e, hS⟩
  · omega
  · have e2 : j' = j := by omega
    subst e2
    refine Least.nam h.nd (h.names z m) (hr.congr (fun x => ⟨fun hx => (hS x hx.1).1 hx.2, fun hx => ?_⟩))
    have hlt : x < nm.length := RunP.lt (f := f0) (List.getElem?_eq_some_iff.1 h.hf).1 (fun e he => (h.bd e he).2) m hx
    exact ⟨hlt, (hS x hlt).2 hx⟩
/-- No set but the start that no class leads to. -/
theorem Add1.src {M : Nat} {S : Nat → Prop} {SS S' : List (Nat → Bool)} {r : Int} (h : Add1 M S SS r S') : ∀ i (hi : i < S'.length), SS.length ≤ i → (∃ x, x < M ∧ S x) ∧ ∀ x, x < M → (S'[i] x = true ↔ S x) := by
  intro i hi hl
  rcases h with ⟨_, _, rfl⟩ | ⟨h0, j, _, ⟨hj, hjs⟩, rfl | ⟨f, rfl, rfl, _⟩⟩
  · omega
  · omega
  · have : i = SS.length := by simp at hi; omega
    subst this
    exact ⟨h0, hjs⟩
theorem RowD.src {M : Nat} {T : Nat → Nat → Prop} {SS S' : List (Nat → Bool)} {c : Nat} {row : List Int} (h : RowD M T SS c row S') : ∀ i (hi : i < S'.length), SS.length ≤ i → ∃ d, d < c ∧ (∃ x, x < M ∧ T d x) ∧ ∀ x, x < M → (S'[i] x = true ↔ T d x) := by
  induction h with
  | zero => intro i hi hl; omega
  | @succ c row S1 S2 r h0 h1 ih =>
    intro i hi hl
    by_cases e : i < S1.length
    · obtain ⟨d, hd, h2, h3⟩ := ih i e hl
      refine ⟨d, by omega, h2, fun x hx => ?_⟩
      rw [← h1.pre.getElem e]
      exact h3 x hx
    · obtain ⟨h2, h3⟩ := h1.src i hi (by omega)
      exact ⟨c, by omega, h2, h3⟩
theorem RunD.src {M C : Nat} {T : (Nat → Bool) → Nat → Nat → Prop} {S0 S' : List (Nat → Bool)} {k : Nat} {R : List (List Int)} (h : RunD M C T S0 k R S') : ∀ i (hi : i < S'.length), S0.length ≤ i → ∃ (i' : Nat) (hi' : i' < S'.length) (d : Nat), i' < i ∧ d < C ∧ (∃ x, x < M ∧ T S'[i'] d x) ∧ ∀ x, x < M → (S'[i] x = true ↔ T S'[i'] d x) := by
  induction h with
  | zero => intro i hi hl; omega
  | @succ k R row S1 S2 h0 hk h1 ih =>
    intro i hi hl
    by_cases e : i < S1.length
    · obtain ⟨i', hi', d, hlt, hd, h2, h3⟩ := ih i e hl
      refine ⟨i', Nat.lt_of_lt_of_le hi' h1.pre.length_le, d, hlt, hd, ?_, fun x hx => ?_⟩
      · rw [← h1.pre.getElem hi']; exact h2
      · rw [← h1.pre.getElem e, ← h1.pre.getElem hi']
        exact h3 x hx
    · obtain ⟨d, hd, h2, h3⟩ := h1.src i hi (by omega)
      refine ⟨k, Nat.lt_of_lt_of_le hk h1.pre.length_le, d, by omega, hd, ?_, fun x hx => ?_⟩
      · rw [← h1.pre.getElem hk]; exact h2
      · rw [← h1.pre.getElem hk]
        exact h3 x hx
end Go.Proofs.Ytgmcfgkjhobiaaa

namespace Go.Proofs.Ytgmcfgkjhobiaaa
open Go.RowKit Go.Maps Go.WideElems Go.ChangeMaps Go.MapKept
set_option linter.unusedVariables false
set_option linter.unusedSimpArgs false

/-- A deterministic automaton in memory. -/
structure DfaAt (w : World) (cD : Array Value) (K : Nat → Lit) (R : List (List Int)) (ms : List Int) (C : Nat) : Prop where
  cl : ∀ j, j < 256 → cD[j]? = some (.int .u8 ((cls K j : Nat) : Int))
  nx : ∃ vN gs, cD[256]? = some vN ∧ NxAt w 0 [] vN C gs R
  mks : ∃ vK, cD[257]? = some vK ∧ w.ownsRow 0 3 1 vK ms.length (ints ms)
  rl : ∀ r ∈ R, r.length = C
theorem DfaAt.keep {w w' : World} {cD : Array Value} {K : Nat → Lit} {R : List (List Int)} {ms : List Int} {C : Nat} (h : DfaAt w cD K R ms C) (k : Below w.heap.size w w') : DfaAt w' cD K R ms C := by
  obtain ⟨vN, gs, h1, h2⟩ := h.nx
  obtain ⟨vK, h3, h4⟩ := h.mks
  exact ⟨h.cl, ⟨vN, gs, h1, h2.keep k⟩, ⟨vK, h3, ownsRow_keep h4 k⟩, h.rl⟩
theorem kept_setRow9 (w : World) (b : Nat) (cs : Array Value) : Kept [] [b] w (w.setRow b cs) := fun k o hk _ hn => by
  rw [setRow_other w b k cs (by simpa using hn)]
  exact hk
theorem DfaAt.setRow {w : World} {cD : Array Value} {K : Nat → Lit} {R : List (List Int)} {ms : List Int} {C b : Nat} {old cs : Array Value} (h : DfaAt w cD K R ms C) (hb : St w 26 b old) : DfaAt (w.setRow b cs) cD K R ms C := by
  obtain ⟨vN, gs, h1, h2⟩ := h.nx
  obtain ⟨vK, h3, h4⟩ := h.mks
  have k := kept_setRow9 w b cs
  refine ⟨h.cl, ⟨vN, gs, h1, ⟨own_kept h2.own k (by simp) (fun g e hm => own_ne h2.own hb (by decide) g e (List.mem_singleton.1 hm)), h2.len, fun i hi hi' => ⟨(h2.row i hi hi').1.kept k (by simp) (fun hm => (h2.row i hi hi').1.ne hb (by decide) (List.mem_singleton.1 hm)), by simp⟩⟩⟩,
    ⟨vK, h3, own_kept h4 k (by simp) (fun g e hm => own_ne h4 hb (by decide) g e (List.mem_singleton.1 hm))⟩, h.rl⟩
theorem DfaAt.rows {w : World} {cD : Array Value} {K : Nat → Lit} {R : List (List Int)} {ms : List Int} {C : Nat} (h : DfaAt w cD K R ms C) : ∃ a c A, cD[256]? = some (.slice a R.length c) ∧ ZsAt w a R.length A (fun _ => C) (fun _ => C) (fun i x => (R.getD i []).getD x 0) := by
  obtain ⟨vN, gs, h1, h2⟩ := h.nx
  have hN := h2.own
  obtain ⟨aN, cN, rfl⟩ := ownsRow_slice hN
  refine ⟨aN, cN, fun i => some ⟨gs.getD i 0, 0, none⟩, h1, fun h0 => ?_⟩
  obtain ⟨g, rfl, _, hg, hc⟩ := ownsRow_read hN h0
  refine ⟨g, 0, rfl, hg, fun i hi => ?_⟩
  have hig : i < gs.length := by rw [h2.len]; exact hi
  obtain ⟨hs, _⟩ := h2.row i hig hi
  have hrl := h.rl _ (List.getElem_mem hi)
  refine ⟨?_, fun h1 => ⟨gs.getD i 0, 0, rfl, ?_, fun j hj => ?_⟩⟩
  · rw [Nat.zero_add, (hc i (by omega)).1]
    simp [List.getD_eq_getElem?_getD, hig]
  · have := hs.lt
    simpa [List.getD_eq_getElem?_getD, hig] using this
  · have hgi : gs.getD i 0 = gs[i] := by simp [List.getD_eq_getElem?_getD, hig]
    rw [Nat.zero_add, hgi, hs.at_]
    have hj2 : j < R[i].length := by rw [hrl]; exact hj
    simp [ints, List.getD_eq_getElem?_getD, hi, hj2]
theorem DfaAt.marks {w : World} {cD : Array Value} {K : Nat → Lit} {R : List (List Int)} {ms : List Int} {C : Nat} (h : DfaAt w cD K R ms C) : ∃ a c, cD[257]? = some (.slice a ms.length c) ∧ ZAt w a ms.length (fun i => ms.getD i 0) := by
  obtain ⟨vK, h3, h4⟩ := h.mks
  obtain ⟨a, c, rfl⟩ := ownsRow_slice h4
  refine ⟨a, c, h3, fun h0 => ?_⟩
  obtain ⟨g, rfl, _, hg, hc⟩ := ownsRow_read h4 h0
  refine ⟨g, 0, rfl, hg, fun j hj => ?_⟩
  rw [Nat.zero_add, (hc j (by omega)).1]
  simp [ints, List.getD_eq_getElem?_getD, hj]
def DetP (L : List En) (F : Nat) (mf : Nat → Int) (w : World) (e : Ending) (w' : World) : Prop :=
  ∃ (cD : Array Value) (er : Int) (nm : List Nat) (L' : List En) (f0 : Nat) (s0 : Nat → Bool) (k : Nat) (R : List (List Int)) (SS : List (Nat → Bool)), e = .returned (.tuple #[.agg cD, .int .i64 er]) ∧ Below w.heap.size w w' ∧ Made L F nm L' f0 s0 k R SS ∧ cD.size = 258 ∧ (∀ v ∈ cD.toList, v.oneCell' = true) ∧
    ((er = 6 ∧ 2000 < SS.length ∧ cD = zC 26) ∨ (er = 0 ∧ SS.length = k ∧ k ≤ 2000 ∧ ∃ ms, DfaAt w' cD (KOf L) R ms (rl (KOf L) 256).length ∧ ms.length = k ∧ ∀ j (h : j < SS.length) (h2 : j < ms.length), Least (fun i => mf (nm.getD i 0)) (fun x => x < nm.length ∧ SS[j] x = true) ms[j]))
theorem Add1.start {M : Nat} {S : Nat → Prop} {SS' : List (Nat → Bool)} {r : Int} (h : Add1 M S [] r SS') (h0 : ∃ x, x < M ∧ S x) : ∃ f, SS' = [f] ∧ ∀ x, x < M → (f x = true ↔ S x) := by
  rcases h with ⟨h1, _, _⟩ | ⟨_, j, _, ⟨hj, hjs⟩, rfl | ⟨f, rfl, rfl, _⟩⟩
  · obtain ⟨x, hx, hs⟩ := h0
    exact absurd hs (h1 x hx)
  · simp at hj
  · exact ⟨f, rfl, fun x hx => hjs x hx⟩

end Go.Proofs.Ytgmcfgkjhobiaaa

namespace Go.Proofs.Ytgmcfgkjhobiaaa
open Go.RowKit
set_option linter.unusedVariables false
set_option linter.unusedSimpArgs false

end Go.Proofs.Ytgmcfgkjhobiaaa

namespace Go.Proofs.Ytgmcfgkjhobiaaa
open Go.RowKit Go.Maps Go.WideElems Go.ChangeMaps Go.MapKept
set_option linter.unusedVariables false
set_option linter.unusedSimpArgs false

/-- The answer, put into another variable. -/
theorem DetP.put {L : List En} {F : Nat} {mf : Nat → Int} {w W0 w' : World} {cD : Array Value} {er : Int} {nm : List Nat} {L' : List En} {f0 k : Nat} {s0 : Nat → Bool} {R : List (List Int)} {SS : List (Nat → Bool)} {b4 : Nat}
    (hB : Below w.heap.size w W0) (h1 : Below W0.heap.size W0 w') (h2 : Made L F nm L' f0 s0 k R SS) (h3 : cD.size = 258) (h4 : ∀ v ∈ cD.toList, v.oneCell' = true)
    (h5 : (er = 6 ∧ 2000 < SS.length ∧ cD = zC 26) ∨ (er = 0 ∧ SS.length = k ∧ k ≤ 2000 ∧ ∃ ms, DfaAt w' cD (KOf L) R ms (rl (KOf L) 256).length ∧ ms.length = k ∧ ∀ j (h : j < SS.length) (h2 : j < ms.length), Least (fun i => mf (nm.getD i 0)) (fun x => x < nm.length ∧ SS[j] x = true) ms[j]))
    (hst : St w' 26 b4 (zC 26)) (hb4 : w.heap.size ≤ b4) : DetP L F mf w (.returned (.tuple #[.agg cD, .int .i64 er])) (w'.setRow b4 cD) := by
  refine ⟨cD, er, nm, L', f0, s0, k, R, SS, rfl, below_setRow9 (hB.trans (h1.mono hB.size)) hb4 _, h2, h3, h4, ?_⟩
  rcases h5 with h | ⟨e1, e2, e3, ms, h6, h7, h8⟩
  · exact Or.inl h
  · exact Or.inr ⟨e1, e2, e3, ms, h6.setRow hst, h7, h8⟩

end Go.Proofs.Ytgmcfgkjhobiaaa

namespace Go.Proofs.Ytgmcfgkjhobiaaa
open Go.RowKit Go.Maps Go.WideElems Go.ChangeMaps Go.MapKept
set_option linter.unusedVariables false
set_option linter.unusedSimpArgs false


end Go.Proofs.Ytgmcfgkjhobiaaa

namespace Go.Proofs.Ytgmcfgkjhobiaaa
open Go.RowKit Go.Maps Go.WideElems Go.ChangeMaps Go.MapKept
set_option linter.unusedVariables false
set_option linter.unusedSimpArgs false

/-- What a making's names, and its run, are. -/
structure MadeW (L : List En) (F : Nat) (nm : List Nat) (L' : List En) (f0 : Nat) (s0 : Nat → Bool) (k : Nat) (R : List (List Int)) (SS : List (Nat → Bool)) : Prop where
  ren : L = L'.map (En.ren nm)
  nd : nm.Nodup
  bd : ∀ e ∈ L', e.f < nm.length ∧ e.t < nm.length
  hf : nm[f0]? = some F
  st : ∀ x, x < nm.length → (s0 x = true ↔ FR L' (fun y => y = f0) x)
  run : RunD nm.length (rl (KOf L) 256).length (TTo L' nm.length (rpO (KOf L))) [s0] k R SS
theorem Made.w {L : List En} {F f0 k : Nat} {nm : List Nat} {L' : List En} {s0 : Nat → Bool} {R : List (List Int)} {SS : List (Nat → Bool)} (h : Made L F nm L' f0 s0 k R SS) : MadeW L F nm L' f0 s0 k R SS := ⟨h.ren, h.nd, h.bd, h.hf, h.st, h.run⟩
/-- What a making ends in. -/
def Alt (mf : Nat → Int) (nm : List Nat) (L : List En) (k : Nat) (R : List (List Int)) (SS : List (Nat → Bool)) (W : World) (cD : Array Value) (er : Int) : Prop :=
  (er = 6 ∧ 2000 < SS.length ∧ cD = zC 26) ∨ (er = 0 ∧ SS.length = k ∧ k ≤ 2000 ∧ ∃ ms, DfaAt W cD (KOf L) R ms (rl (KOf L) 256).length ∧ ms.length = k ∧ ∀ j (h : j < SS.length) (h2 : j < ms.length), Least (fun i => mf (nm.getD i 0)) (fun x => x < nm.length ∧ SS[j] x = true) ms[j])
theorem Alt.keep {mf : Nat → Int} {nm : List Nat} {L : List En} {k : Nat} {R : List (List Int)} {SS : List (Nat → Bool)} {W W' : World} {cD : Array Value} {er : Int} (h : Alt mf nm L k R SS W cD er) (b : Below W.heap.size W W') : Alt mf nm L k R SS W' cD er := by
  rcases h with h | ⟨e1, e2, e3, ms, h6, h7⟩
  · exact Or.inl h
  · exact Or.inr ⟨e1, e2, e3, ms, h6.keep b, h7⟩
theorem Alt.setRow {mf : Nat → Int} {nm : List Nat} {L : List En} {k b : Nat} {R : List (List Int)} {SS : List (Nat → Bool)} {W : World} {cD old cs : Array Value} {er : Int} (h : Alt mf nm L k R SS W cD er) (hb : St W 26 b old) : Alt mf nm L k R SS (W.setRow b cs) cD er := by
  rcases h with h | ⟨e1, e2, e3, ms, h6, h7⟩
  · exact Or.inl h
  · exact Or.inr ⟨e1, e2, e3, ms, h6.setRow hb, h7⟩
end Go.Proofs.Ytgmcfgkjhobiaaa

namespace Go.Proofs.Ytgmcfgkjhobiaaa
open Go.RowKit Go.Maps Go.WideElems Go.ChangeMaps Go.MapKept
set_option linter.unusedVariables false
set_option linter.unusedSimpArgs false

/-- A row is put behind. -/
theorem GridOw.pushRow {w w' : World} {B ts te sz M : Nat} {v v' u : Value} {vs : Nat → Value} {len : Nat → Nat} {xs : Nat → List Value} (h : GridOw w B ts te sz v M vs len xs) (ht : te ≠ ts) (hu : w.ownsRow B te sz u (len M) (xs M)) (hs : ∀ i, i < M → ∀ b, (vs i).ownBlock = some b → u.ownBlock ≠ some b)
    (ho : w'.ownsRow B ts 1 v' (M + 1) ((List.range M).map vs ++ [u])) (hg : w.grownBy w' v.ownBlock) : GridOw w' B ts te sz v' (M + 1) (fun j => if j = M then u else vs j) len xs := by
  refine ⟨?_, fun i hi => ?_, fun i j hi hj hij b => ?_⟩
  · have e : (List.range (M + 1)).map (fun j => if j = M then u else vs j) = (List.range M).map vs ++ [u] := by
      rw [List.range_succ, List.map_append]
      congr 1
      · refine List.map_congr_left fun j hj => ?_
        have : j < M := by simpa using hj
        rw [if_neg (by omega)]
      · simp
    rw [e]
    exact ho
  · by_cases e : i = M
    · subst e
      simp only [if_pos rfl]
      exact own_grown hu hg (fun b e1 e2 => own_kinds hu h.own ht b e1 e2.symm)
    · simp only [if_neg e]
      exact own_grown (h.row i (by omega)) hg (fun b e1 e2 => own_kinds (h.row i (by omega)) h.own ht b e1 e2.symm)
  · by_cases e1 : i = M
    · by_cases e2 : j = M
      · omega
      · simp only [if_pos e1, if_neg e2]
        intro e3 e4
        exact hs j (by omega) b e4 e3
    · by_cases e2 : j = M
      · simp only [if_neg e1, if_pos e2]
        exact hs i (by omega) b
      · simp only [if_neg e1, if_neg e2]
        exact h.sep i j (by omega) (by omega) hij b

end Go.Proofs.Ytgmcfgkjhobiaaa

namespace Go.Proofs.Ytgmcfgkjhobiaaa
open Go.RowKit Go.Maps Go.WideElems Go.ChangeMaps Go.MapKept
set_option linter.unusedVariables false
set_option linter.unusedSimpArgs false

theorem ints_snoc9 (l : List Int) (x : Int) : ints (l ++ [x]) = ints l ++ [.int .i64 x] := by simp [ints]
theorem own_lt9 {w : World} {B t s n : Nat} {v : Value} {xs : List Value} (ho : w.ownsRow B t s v n xs) : ∀ g, v.ownBlock = some g → g < w.heap.size := fun g e => by
  obtain ⟨c, fz, hc⟩ := own_kind ho g e
  exact (Array.getElem?_eq_some_iff.1 hc).1
def noF : Nat → Bool := fun _ => false
/-- What the reference's Of holds: rows of truths, rows of places, marks, the row under way; z parts the row's block from the elder ones. -/
structure RoAt (W0 : World) (z N C : Nat) (rp : List Nat) (vP vR : Value) (SS : List (Nat → Bool)) (vs : Nat → Value) (vN : Value) (R : List (List Int)) (ws : Nat → Value) (vO : Value) (ms : List Int) (vW : Value) (row : List Int) (w : World) : Prop where
  bel : Below W0.heap.size W0 w
  rows : GridOw w W0.heap.size 48 4 1 vR SS.length vs (fun _ => N) (fun j => bls (SS.getD j noF) N)
  next : GridOw w W0.heap.size 24 3 1 vN R.length ws (fun _ => C) (fun j => ints (R.getD j []))
  reps : w.ownsRow W0.heap.size 3 1 vP rp.length (nums64 rp)
  out : w.ownsRow W0.heap.size 3 1 vO ms.length (ints ms)
  row : w.ownsRow z 3 1 vW row.length (ints row)
  sepO : ∀ i, i < R.length → ∀ b, (ws i).ownBlock = some b → vO.ownBlock ≠ some b
  sepP : ∀ b, vP.ownBlock = some b → vO.ownBlock ≠ some b
  ltO : ∀ b, vO.ownBlock = some b → b < z
  ltP : ∀ b, vP.ownBlock = some b → b < z
  ltN : ∀ i, i < R.length → ∀ b, (ws i).ownBlock = some b → b < z
  hz : W0.heap.size ≤ z ∧ z ≤ w.heap.size
section
variable {W0 : World} {z N C : Nat} {rp : List Nat} {vP vR : Value} {SS : List (Nat → Bool)} {vs : Nat → Value} {vN : Value} {R : List (List Int)} {ws : Nat → Value} {vO : Value} {ms : List Int} {vW : Value} {row : List Int} {w : World}
theorem RoAt.keep {w1 : World} (h : RoAt W0 z N C rp vP vR SS vs vN R ws vO ms vW row w) (k : Below w.heap.size w w1) : RoAt W0 z N C rp vP vR SS vs vN R ws vO ms vW row w1 :=
  ⟨h.bel.trans (k.mono h.bel.size), h.rows.keep k, h.next.keep k, ownsRow_keep h.reps k, ownsRow_keep h.out k, ownsRow_keep h.row k, h.sepO, h.sepP, h.ltO, h.ltP, h.ltN, h.hz.1, by have := k.size; have := h.hz.2; omega⟩
theorem GridOw.grown9 {w w' : World} {B ts te sz M : Nat} {v : Value} {vs : Nat → Value} {len : Nat → Nat} {xs : Nat → List Value} {b : Option Nat} (h : GridOw w B ts te sz v M vs len xs) (hg : w.grownBy w' b) (h1 : ∀ g, v.ownBlock = some g → some g ≠ b) (h2 : ∀ i, i < M → ∀ g, (vs i).ownBlock = some g → some g ≠ b) : GridOw w' B ts te sz v M vs len xs :=
  ⟨own_grown h.own hg h1, fun i hi => own_grown (h.row i hi) hg (h2 i hi), h.sep⟩
/-- A mark is put behind. -/
theorem RoAt.mark {w' : World} {vO' : Value} {m : Int} {q : Nat} (h : RoAt W0 z N C rp vP vR SS vs vN R ws vO ms vW row w) (hq : ms.length = q)
    (ho : w'.ownsRow W0.heap.size 3 1 vO' (q + 1) (ints ms ++ [.int .i64 m])) (hg : w.grownBy w' vO.ownBlock) (hat : vO'.ownBlock = vO.ownBlock ∨ vO'.ownBlock = some w.heap.size) :
    RoAt W0 w'.heap.size N C rp vP vR SS vs vN R ws vO' (ms ++ [m]) (.slice none 0 0) [] w' := by
  subst hq
  have hs := hg.size
  have hz := h.hz
  have new : ∀ {g : Nat}, g < w.heap.size → vO.ownBlock ≠ some g → vO'.ownBlock ≠ some g := fun {g} hlt hne => by
    rcases hat with e | e
    · rw [e]; exact hne
    · rw [e]; intro e2; simp at e2; omega
  refine ⟨below_grown_own h.bel h.out h.bel.size hg, ?_, ?_, own_grown h.reps hg (fun b e e2 => h.sepP b e e2.symm), ?_, World.ownsRow_nil _ _ _ _, fun i hi b e => new (own_lt9 (h.next.row i hi) b e) (h.sepO i hi b e), fun b e => new (own_lt9 h.reps b e) (h.sepP b e), fun b e => own_lt9 ho b e, fun b e => by have := h.ltP b e; omega, fun i hi b e => by have := h.ltN i hi b e; omega, by omega, Nat.le_refl _⟩
  · exact h.rows.grown9 hg (fun g e e2 => own_kinds h.rows.own h.out (by decide) g e e2.symm) (fun i hi g e e2 => own_kinds (h.rows.row i hi) h.out (by decide) g e e2.symm)
  · exact h.next.grown9 hg (fun g e e2 => own_kinds h.next.own h.out (by decide) g e e2.symm) (fun i hi g e e2 => h.sepO i hi g e e2.symm)
  · rw [ints_snoc9, List.length_append]
    exact ho
/-- A place is put behind the row. -/
theorem RoAt.place {w' : World} {vW' : Value} {m : Int} {q : Nat} (h : RoAt W0 z N C rp vP vR SS vs vN R ws vO ms vW row w) (hq : row.length = q)
    (ho : w'.ownsRow z 3 1 vW' (q + 1) (ints row ++ [.int .i64 m])) (hg : w.grownBy w' vW.ownBlock) :
    RoAt W0 z N C rp vP vR SS vs vN R ws vO ms vW' (row ++ [m]) w' := by
  subst hq
  have hs := hg.size
  have hz := h.hz
  have far : ∀ {g : Nat}, g < z → some g ≠ vW.ownBlock := fun {g} hlt e => by have := own_above h.row g e.symm; omega
  refine ⟨below_grown_own h.bel (ownsRow_base h.row hz.1) h.bel.size hg, ?_, ?_, own_grown h.reps hg (fun b e => far (h.ltP b e)), own_grown h.out hg (fun b e => far (h.ltO b e)), ?_, h.sepO, h.sepP, h.ltO, h.ltP, h.ltN, hz.1, by omega⟩
  · exact h.rows.grown9 hg (fun g e e2 => own_kinds h.rows.own h.row (by decide) g e e2.symm) (fun i hi g e e2 => own_kinds (h.rows.row i hi) h.row (by decide) g e e2.symm)
  · exact h.next.grown9 hg (fun g e e2 => own_kinds h.next.own h.row (by decide) g e e2.symm) (fun i hi g e => far (h.ltN i hi g e))
  · rw [ints_snoc9, List.length_append]
    exact ho
/-- A set is put behind. -/
theorem RoAt.set {w' : World} {vR' u : Value} {f : Nat → Bool} {q : Nat} (h : RoAt W0 z N C rp vP vR SS vs vN R ws vO ms vW row w) (hq : SS.length = q)
    (hu : w.ownsRow W0.heap.size 4 1 u N (bls f N)) (hs : ∀ i, i < SS.length → ∀ b, (vs i).ownBlock = some b → u.ownBlock ≠ some b)
    (ho : w'.ownsRow W0.heap.size 48 1 vR' (q + 1) ((List.range q).map vs ++ [u])) (hg : w.grownBy w' vR.ownBlock) :
    RoAt W0 z N C rp vP vR' (SS ++ [f]) (fun j => if j = q then u else vs j) vN R ws vO ms vW row w' := by
  subst hq
  have hsz := hg.size
  have hz := h.hz
  refine ⟨below_grown_own h.bel h.rows.own h.bel.size hg, ?_, ?_, own_grown h.reps hg (fun b e e2 => own_kinds h.reps h.rows.own (by decide) b e e2.symm), own_grown h.out hg (fun b e e2 => own_kinds h.out h.rows.own (by decide) b e e2.symm), own_grown h.row hg (fun b e e2 => own_kinds h.row h.rows.own (by decide) b e e2.symm), h.sepO, h.sepP, h.ltO, h.ltP, h.ltN, hz.1, by omega⟩
  · have h1 : GridOw w W0.heap.size 48 4 1 vR SS.length vs (fun _ => N) (fun j => bls ((SS ++ [f]).getD j noF) N) := h.rows.congr (fun i hi => ⟨rfl, by simp [List.getD_eq_getElem?_getD, List.getElem?_append_left hi]⟩)
    have h2 := h1.pushRow (v' := vR') (u := u) (w' := w') (by decide) (by simpa [List.getD_eq_getElem?_getD] using hu) hs ho hg
    rw [List.length_append]
    exact h2
  · exact h.next.grown9 hg (fun g e e2 => own_kinds h.next.own h.rows.own (by decide) g e e2.symm) (fun i hi g e e2 => own_kinds (h.next.row i hi) h.rows.own (by decide) g e e2.symm)
/-- A row is put behind. -/
theorem RoAt.done {w' : World} {vN' : Value} {q : Nat} (h : RoAt W0 z N C rp vP vR SS vs vN R ws vO ms vW row w) (hC : row.length = C) (hq : R.length = q)
    (ho : w'.ownsRow W0.heap.size 24 1 vN' (q + 1) ((List.range q).map ws ++ [vW])) (hg : w.grownBy w' vN.ownBlock) :
    RoAt W0 w'.heap.size N C rp vP vR SS vs vN' (R ++ [row]) (fun j => if j = q then vW else ws j) vO ms (.slice none 0 0) [] w' := by
  subst hq
  have hsz := hg.size
  have hz := h.hz
  have far : ∀ {g : Nat}, g < z → vW.ownBlock ≠ some g := fun {g} hlt e => by have := own_above h.row g e; omega
  have lt := own_lt9 h.row
  refine ⟨below_grown_own h.bel h.next.own h.bel.size hg, ?_, ?_, own_grown h.reps hg (fun b e e2 => own_kinds h.reps h.next.own (by decide) b e e2.symm), own_grown h.out hg (fun b e e2 => own_kinds h.out h.next.own (by decide) b e e2.symm), World.ownsRow_nil _ _ _ _, fun i hi b e => ?_, h.sepP, fun b e => by have := h.ltO b e; omega, fun b e => by have := h.ltP b e; omega, fun i hi b e => ?_, by omega, Nat.le_refl _⟩
  · exact h.rows.grown9 hg (fun g e e2 => own_kinds h.rows.own h.next.own (by decide) g e e2.symm) (fun i hi g e e2 => own_kinds (h.rows.row i hi) h.next.own (by decide) g e e2.symm)
  · have h1 : GridOw w W0.heap.size 24 3 1 vN R.length ws (fun _ => C) (fun j => ints ((R ++ [row]).getD j [])) := h.next.congr (fun i hi => ⟨rfl, by simp [List.getD_eq_getElem?_getD, List.getElem?_append_left hi]⟩)
    have h2 := h1.pushRow (v' := vN') (u := vW) (w' := w') (by decide) (by rw [← hC]; simpa [List.getD_eq_getElem?_getD] using ownsRow_base h.row hz.1) (fun i hi b e => far (h.ltN i hi b e)) ho hg
    rw [List.length_append]
    exact h2
  · intro e2
    by_cases e1 : i = R.length
    · rw [if_pos e1] at e
      exact far (h.ltO b e2) e
    · rw [if_neg e1] at e
      exact h.sepO i (by simp at hi; omega) b e e2
  · by_cases e1 : i = R.length
    · rw [if_pos e1] at e
      have := lt b e
      omega
    · rw [if_neg e1] at e
      have := h.ltN i (by simp at hi; omega) b e
      omega
end
end Go.Proofs.Ytgmcfgkjhobiaaa

namespace Go.Proofs.Ytgmcfgkjhobiaaa
open Go.RowKit Go.Maps Go.WideElems Go.ChangeMaps Go.MapKept
set_option linter.unusedVariables false
set_option linter.unusedSimpArgs false

/-- The reference's run, at its row i. -/
structure RoM (L : List En) (N F : Nat) (mf : Nat → Int) (s0 : Nat → Bool) (i s : Nat) (SS : List (Nat → Bool)) (R : List (List Int)) (ms : List Int) : Prop where
  ls : SS.length = s
  lR : R.length = i
  lm : ms.length = i
  st : ∀ x, s0 x = true ↔ FR L (fun y => y = F) x
  run : RunD N (rl (KOf L) 256).length (TTo L N (rpO (KOf L))) [s0] i R SS
  lst : ∀ j (h : j < SS.length) (h2 : j < ms.length), Least mf (fun x => x < N ∧ SS[j] x = true) ms[j]
/-- A set is looked for. -/
def Fnd (N : Nat) (SS : List (Nat → Bool)) (f : Nat → Bool) (r : Int) (j : Nat) : Prop :=
  (r = -1 ∧ ∀ i (h : i < SS.length), i < j → ¬ ∀ x, x < N → SS[i] x = f x) ∨ ((∃ x, x < N ∧ f x = true) ∧ ∃ (p : Nat) (h : p < SS.length), r = ((p : Nat) : Int) ∧ ∀ x, x < N → SS[p] x = f x)
theorem Fnd.next {N : Nat} {SS : List (Nat → Bool)} {f : Nat → Bool} {j : Nat} (h : Fnd N SS f (-1) j) (hj : j < SS.length) (hn : ¬ ∀ x, x < N → SS[j] x = f x) : Fnd N SS f (-1) (j + 1) := by
  rcases h with ⟨_, h⟩ | ⟨_, p, _, e, _⟩
  · refine Or.inl ⟨rfl, fun i hi hij => ?_⟩
    by_cases e : i = j
    · subst e; exact hn
    · exact h i hi (by omega)
  · omega
/-- What is found is added. -/
theorem Fnd.has {N : Nat} {SS : List (Nat → Bool)} {f : Nat → Bool} {r : Int} {j : Nat} {S : Nat → Prop} (h : Fnd N SS f r j) (h0 : 0 ≤ r) (hf : ∀ x, x < N → (f x = true ↔ S x)) : Add1 N S SS r SS := by
  rcases h with ⟨e, _⟩ | ⟨⟨x, hx, hfx⟩, p, hp, e, hq⟩
  · omega
  · exact Or.inr ⟨⟨x, hx, (hf x hx).1 hfx⟩, p, e, ⟨hp, fun y hy => by rw [hq y hy]; exact hf y hy⟩, Or.inl rfl⟩
theorem Fnd.none {N : Nat} {SS : List (Nat → Bool)} {f : Nat → Bool} {S : Nat → Prop} (hn : ¬ ∃ x, x < N ∧ f x = true) (hf : ∀ x, x < N → (f x = true ↔ S x)) : Add1 N S SS (-1) SS :=
  Or.inl ⟨fun x hx hS => hn ⟨x, hx, (hf x hx).2 hS⟩, rfl, rfl⟩
theorem Fnd.add {N : Nat} {SS : List (Nat → Bool)} {f : Nat → Bool} {q : Nat} {S : Nat → Prop} (h : Fnd N SS f (-1) q) (hq : SS.length = q) (he : ∃ x, x < N ∧ f x = true) (hf : ∀ x, x < N → (f x = true ↔ S x)) : Add1 N S SS ((q : Nat) : Int) (SS ++ [f]) := by
  subst hq
  obtain ⟨x, hx, hfx⟩ := he
  rcases h with ⟨_, h⟩ | ⟨_, p, _, e, _⟩
  · refine Or.inr ⟨⟨x, hx, (hf x hx).1 hfx⟩, SS.length, rfl, ⟨by simp, fun y hy => by rw [List.getElem_concat_length rfl]; exact hf y hy⟩, Or.inr ⟨f, rfl, rfl, fun i hi => ?_⟩⟩
    refine Classical.byContradiction fun hne => h i hi hi fun y hy => Classical.byContradiction fun hn => hne ⟨y, hy, hn⟩
  · omega
theorem RoM.start {L : List En} {N F : Nat} {mf : Nat → Int} {s0 : Nat → Bool} (h : ∀ x, s0 x = true ↔ FR L (fun y => y = F) x) : RoM L N F mf s0 0 1 [s0] [] [] :=
  ⟨rfl, rfl, rfl, h, .zero, fun j h h2 => by simp at h2⟩
theorem RoM.step {L : List En} {N F : Nat} {mf : Nat → Int} {s0 : Nat → Bool} {i s s2 : Nat} {SS SS2 : List (Nat → Bool)} {R : List (List Int)} {ms : List Int} (h : RoM L N F mf s0 i s SS R ms) (hi : i < s) {row : List Int} {r : Int} (hr : Least mf (fun x => x < N ∧ SS.getD i noF x = true) r)
    (hd : RowD N (TTo L N (rpO (KOf L)) (SS.getD i noF)) SS (rl (KOf L) 256).length row SS2) (h2 : SS2.length = s2) : RoM L N F mf s0 (i + 1) s2 SS2 (R ++ [row]) (ms ++ [r]) := by
  have hl : i < SS.length := by rw [h.ls]; exact hi
  have e1 : SS.getD i noF = SS[i] := by simp [List.getD_eq_getElem?_getD, hl]
  rw [e1] at hr hd
  refine ⟨h2, by simp [h.lR], by simp [h.lm], h.st, .succ h.run hl hd, fun j hj hj2 => ?_⟩
  have hp := hd.pre
  by_cases e : j < ms.length
  · have hj3 : j < SS.length := by rw [h.lm] at e; omega
    rw [List.getElem_append_left e, ← hp.getElem hj3]
    exact h.lst j hj3 e
  · have e3 : j = ms.length := by simp at hj2; omega
    have e2 : j = i := by rw [e3, h.lm]
    subst e2
    rw [← hp.getElem hl]
    have e4 : (ms ++ [r])[j]'hj2 = r := by simp [e3]
    rw [e4]
    exact hr
end Go.Proofs.Ytgmcfgkjhobiaaa

namespace Go.Proofs.Ytgmcfgkjhobiaaa
open Go.RowKit Go.Maps Go.WideElems Go.ChangeMaps Go.MapKept
set_option linter.unusedVariables false
set_option linter.unusedSimpArgs false

def slA : Value → Option Addr
  | .slice a _ _ => a
  | _ => none
def slC : Value → Nat
  | .slice _ _ c => c
  | _ => 0
/-- Rows of numbers that were built, as they are read. -/
theorem GridOw.zs {w : World} {B k c C : Nat} {a : Option Addr} {ws : Nat → Value} {R : List (List Int)} (h : GridOw w B 24 3 1 (.slice a k c) k ws (fun _ => C) (fun j => ints (R.getD j []))) (hk : R.length = k) (hl : ∀ r ∈ R, r.length = C) :
    ZsAt w a k (fun i => slA (ws i)) (fun i => slC (ws i)) (fun _ => C) (fun i x => (R.getD i []).getD x 0) := by
  intro h0
  obtain ⟨g, rfl, _, hg, hc⟩ := ownsRow_read h.own h0
  refine ⟨g, 0, rfl, hg, fun i hi => ?_⟩
  obtain ⟨ai, ci, e⟩ := ownsRow_slice (h.row i hi)
  have hr := h.row i hi
  refine ⟨?_, fun h1 => ?_⟩
  · rw [Nat.zero_add, (hc i (by omega)).1]
    simp [hi, e, slA, slC]
  · rw [e] at hr
    obtain ⟨g2, e2, _, hg2, hc2⟩ := ownsRow_read hr h1
    refine ⟨g2, 0, by simp [e, slA, e2], hg2, fun j hj => ?_⟩
    rw [Nat.zero_add, (hc2 j (by simpa using hj)).1]
    have hi2 : i < R.length := by omega
    have hj2 : j < R[i].length := by rw [hl _ (List.getElem_mem hi2)]; exact hj
    simp [ints, List.getD_eq_getElem?_getD, hi2, hj2]
theorem own_zat {w : World} {B n c : Nat} {a : Option Addr} {l : List Int} (h : w.ownsRow B 3 1 (.slice a n c) n (ints l)) (hl : l.length = n) : ZAt w a n (fun i => l.getD i 0) := by
  intro h0
  obtain ⟨g, rfl, _, hg, hc⟩ := ownsRow_read h h0
  refine ⟨g, 0, rfl, hg, fun j hj => ?_⟩
  rw [Nat.zero_add, (hc j (by omega)).1]
  have hj2 : j < l.length := by omega
  simp [ints, List.getD_eq_getElem?_getD, hj2]
/-- The reference's run is a making. -/
theorem RoM.made {L : List En} {N F T : Nat} {mf : Nat → Int} {s0 : Nat → Bool} {i s : Nat} {SS : List (Nat → Bool)} {R : List (List Int)} {ms : List Int} (hO : Ok L N F T) (h : RoM L N F mf s0 i s SS R ms) : MadeW L F (List.range N) L F s0 i R SS := by
  refine ⟨?_, List.nodup_range, fun e he => by simpa using hO.e e he, by simp [hO.f], fun x _ => h.st x, by simpa only [List.length_range] using h.run⟩
  have e1 : ∀ e ∈ L, En.ren (List.range N) e = e := fun e he => by
    obtain ⟨h1, h2⟩ := hO.e e he
    cases e
    simp only [En.ren, List.getD_eq_getElem?_getD] at h1 h2 ⊢
    simp [h1, h2]
  rw [List.map_congr_left e1, List.map_id']
end Go.Proofs.Ytgmcfgkjhobiaaa
