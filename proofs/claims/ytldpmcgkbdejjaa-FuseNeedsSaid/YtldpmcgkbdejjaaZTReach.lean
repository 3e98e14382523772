import Derived.Test.YtldpmcgkbdejjaaZSLeadN
import Derived.Test.YtldpmcgkbdejjaaZTFrame
import Derived.Test.YtldpmcgkbdejjaaZTRefW
namespace Go.Proofs.Ytldpmcgkbdejjaa
open Go.RowKit Go.Maps Go.WideElems Go.ChangeMaps Go.MapKept
set_option linter.unusedVariables false
set_option linter.unusedSimpArgs false

theorem make_row10 (N : Nat) (hN : N ≤ 2147483647) (W : World) : (Instr.makeSlice 24 (.int .i64 ((N : Nat) : Int)) (.int .i64 ((N : Nat) : Int))).run Try.prog W = .ok (.slice (some ⟨W.heap.size, 0, none⟩) N N) (W.alloc (.cells (madeCells #[.int .i64 0] N) 3)) := by
  have := run_make_row' (P := Try.prog) 24 3 (.int .i64 0) 8 Try.underlying24 Try.info_int9 rfl .i64 .i64 N (by omega) (by omega) W
  simpa using this
theorem ints_set9 (row : List Int) (m k : Nat) (v : Int) (h : row.length = k) (hk : k < m) : (ints (row ++ List.replicate (m - k) 0)).set k (.int .i64 v) = ints ((row ++ [v]) ++ List.replicate (m - (k + 1)) 0) := by
  have e : List.replicate (m - k) (0 : Int) = 0 :: List.replicate (m - (k + 1)) 0 := by
    rw [show m - k = (m - (k + 1)) + 1 by omega, List.replicate_succ]
  rw [e]
  subst h
  simp [ints, List.set_append]
def mvF (z : Nat → Int) (fn : Nat → Int) (i : Nat) : Int := if z i = -1 then -1 else fn (z i).toNat
def MvPost (m : Nat) (r : Nat → Int) (w : World) (e : Ending) (w' : World) : Prop :=
  ∃ (a : Option Addr) (c : Nat), e = .returned (.slice a m c) ∧ w'.ownsRow w.heap.size 3 1 (.slice a m c) m (ints ((List.range m).map r)) ∧ Below w.heap.size w w'

set_option maxHeartbeats 1000000 in
set_option maxRecDepth 100000 in
theorem tmoved_any (kf bV n : Nat) (fn : Nat → Int) (m c : Nat) (a : Option Addr) (z : Nat → Int) (w : World) (HC : ∀ (args : Array Value) (W : World), (callFunc kf args).run Try.prog W = .ok (.enter kf args) W)
    (HM : ∀ W, Below w.heap.size w W → ∀ x, x < n → Calls Try.prog kf #[.int .i64 ((x : Nat) : Int), .pointer (some ⟨bV, 0, none⟩)] W fun e w' => e = .returned (.int .i64 (fn x)) ∧ w' = W)
    (hm : m ≤ 1000) (hz : ZAt w a m z) (hb : ∀ i, i < m → -1 ≤ z i ∧ z i < (n : Int)) (hn : n ≤ 1000000) :
    Calls Try.prog 43 #[.slice a m c, .func (.func kf) #[] #[.pointer (some ⟨bV, 0, none⟩)]] w (MvPost m (mvF z fn) w) := by
  have hmk := make_row10 m (by omega)
  have HX := Lib.hid (And.intro HM (And.intro hz hb))
  have HO := Lib.hid (made_own w w.heap.size m 3 (.int .i64 0) (Nat.le_refl _) (by unfold maxLen; omega))
  have HB0 := Lib.hid (al w (.cells (madeCells #[.int .i64 0] m) 3))
  clear HM hz hb
  go_enter Try.func43, Try.ntmps43
  go_wp2_with fail
  obtain ⟨g, hg⟩ : ∃ g, w.heap.size = g := ⟨_, rfl⟩
  have HO2 : Hid ((w.alloc (.cells (madeCells #[.int .i64 0] m) 3)).ownsRow g 3 1 (.slice (some ⟨g, 0, none⟩) m m) m (ints ([] ++ List.replicate (m - 0) 0)) ∧ Below g w (w.alloc (.cells (madeCells #[.int .i64 0] m) 3))) := by
    rw [← hg]
    refine ⟨?_, HB0.out⟩
    have := HO.out
    simpa [ints] using this
  rw [hg]
  generalize w.alloc (.cells (madeCells #[.int .i64 0] m) 3) = W1 at HO2 ⊢
  have Hg := Lib.hid hg
  clear HO HB0 hg
  go_loopw [6, 7, 13] (fun _ _ v wr => ∃ (k : Nat), v = .int .i64 k ∧ k ≤ m ∧ Hid (wr.ownsRow g 3 1 (.slice (some ⟨g, 0, none⟩) m m) m (ints ((List.range k).map (mvF z fn) ++ List.replicate (m - k) 0)) ∧ Below g w wr)) (fun _ _ v _ => m - (intOf v).toNat)
  case atStart => exact ⟨0, rfl, by omega, HO2⟩
  case round =>
    clear HO2
    obtain ⟨k, rfl, hk, HA⟩ := hrel
    by_cases hlt : k < m
    · have hBw : Below w.heap.size w wr := by rw [Hg.out]; exact HA.out.2
      obtain ⟨gA, oA, rfl, hgA, cA0⟩ := HX.out.2.1 (by omega)
      have cA := (hBw.cell (p := ⟨gA, oA + k, none⟩) hgA).trans (cA0 k hlt)
      have hzb := HX.out.2.2 k hlt
      obtain ⟨g', e', _, _, hc'⟩ := ownsRow_read HA.out.1 (by omega)
      obtain rfl : g' = g := by
        injection e' with e'
        injection e' with e' _
        exact e'.symm
      obtain ⟨y0, y1⟩ := hc' k (by omega)
      have hlen : ((List.range k).map (mvF z fn)).length = k := by simp
      have y2 : (ints ((List.range k).map (mvF z fn) ++ List.replicate (m - k) 0))[k]? = some (.int .i64 0) := by
        have : 0 < m - k := by omega
        simp [ints, List.getElem?_append, this]
      rw [y2] at y0
      have HP1 : Hid ((wr.setCell ⟨g', k, none⟩ (.int .i64 (-1))).ownsRow g' 3 1 (.slice (some ⟨g', 0, none⟩) m m) m (ints (((List.range k).map (mvF z fn) ++ [-1]) ++ List.replicate (m - (k + 1)) 0)) ∧ Below g' w (wr.setCell ⟨g', k, none⟩ (.int .i64 (-1)))) := by
        refine ⟨?_, HA.out.2.setCell (p := ⟨g', k, none⟩) (Nat.le_refl _) _⟩
        have := own_put HA.out.1 k hlt (.int .i64 (-1))
        rwa [ints_set9 _ m k _ hlen hlt] at this
      have HMv : Hid (∀ v, mvF z fn k = v → (List.range (k + 1)).map (mvF z fn) = (List.range k).map (mvF z fn) ++ [v]) := fun v h => by
        rw [List.range_succ, List.map_append, List.map_singleton, h]
      have HFn : Hid ((z k = -1 → mvF z fn k = -1) ∧ ∀ x : Nat, z k = (x : Int) → mvF z fn k = fn x) := ⟨fun h => by simp [mvF, h], fun x h => by
        unfold mvF
        rw [if_neg (by omega), h]
        rfl⟩
      have HLen := Lib.hid hlen
      have i1 : (k : Int) < (m : Int) := by omega
      have HZx := Lib.hid HX.out.1
      try dsimp only at cA
      clear cA0 hc' e' y2 hlen
      generalize z k = t at cA hzb HFn
      go_upto_region 6 with fail
      generalize wr.setCell ⟨g', k, none⟩ (.int .i64 (-1)) = W5 at HP1 ⊢
      clear y0 y1 cA hBw
      by_cases ht : t = -1
      · subst ht
        have HZ := Lib.hid (HMv.out (-1) (HFn.out.1 rfl))
        go_wp2_with fail
        go_roundw
        case rel => exact ⟨k + 1, by go_num, by omega, by rw [HZ.out]; exact HP1⟩
        case measure => simp [intOf]; omega
      · obtain ⟨x, rfl⟩ : ∃ x : Nat, t = (x : Int) := ⟨t.toNat, by omega⟩
        have hxn : x < n := by omega
        have hx2 : ((x : Int) != (-1 : Int)) = true := by first | (simp; done) | (simp; omega)
        have HCa := Lib.hid (HZx.out W5 (by rw [Hg.out]; exact HP1.out.2) x hxn)
        have HZ := Lib.hid (HMv.out (fn x) (HFn.out.2 x rfl))
        generalize fn x = r at HCa HZ
        go_wp2_with fail
        refine HCa.out.mono ?_
        rintro e w6 ⟨rfl, rfl⟩
        obtain ⟨g2, e2, _, _, hc2⟩ := ownsRow_read HP1.out.1 (by omega)
        obtain rfl : g2 = g' := by
          injection e2 with e2
          injection e2 with e2 _
          exact e2.symm
        obtain ⟨y0, y1⟩ := hc2 k (by omega)
        have y2 : (ints (((List.range k).map (mvF z fn) ++ [-1]) ++ List.replicate (m - (k + 1)) 0))[k]? = some (.int .i64 (-1)) := by
          simp [ints, List.getElem?_append]
        rw [y2] at y0
        have HP2 : Hid ((w6.setCell ⟨g2, k, none⟩ (.int .i64 r)).ownsRow g2 3 1 (.slice (some ⟨g2, 0, none⟩) m m) m (ints (((List.range k).map (mvF z fn) ++ [r]) ++ List.replicate (m - (k + 1)) 0)) ∧ Below g2 w (w6.setCell ⟨g2, k, none⟩ (.int .i64 r))) := by
          refine ⟨?_, HP1.out.2.setCell (p := ⟨g2, k, none⟩) (Nat.le_refl _) _⟩
          have := own_put HP1.out.1 k hlt (.int .i64 r)
          have e3 : (ints (((List.range k).map (mvF z fn) ++ [-1]) ++ List.replicate (m - (k + 1)) 0)).set k (.int .i64 r) = ints (((List.range k).map (mvF z fn) ++ [r]) ++ List.replicate (m - (k + 1)) 0) := by
            have hl := HLen.out
            rw [← ints_set9 _ m k (-1) hl hlt, List.set_set, ints_set9 _ m k r hl hlt]
          rwa [e3] at this
        clear hc2 e2 y2
        go_wp2_with fail
        go_roundw
        case rel => exact ⟨k + 1, by go_num, by omega, by rw [HZ.out]; exact HP2⟩
        case measure => simp [intOf]; omega
    · obtain rfl : k = m := by omega
      have HF : Hid (MvPost k (mvF z fn) w (.returned (.slice (some ⟨g, 0, none⟩) k k)) wr) := by
        refine ⟨_, _, rfl, ?_, by rw [Hg.out]; exact HA.out.2⟩
        have := HA.out.1
        rw [Nat.sub_self, List.replicate_zero, List.append_nil, ← Hg.out] at this
        rw [← Hg.out]
        exact this
      go_wp2_with fail
      go_ret
      exact HF.out
end Go.Proofs.Ytldpmcgkbdejjaa

namespace Go.Proofs.Ytldpmcgkbdejjaa
open Go.RowKit Go.Maps Go.WideElems Go.ChangeMaps Go.MapKept
set_option linter.unusedVariables false
set_option linter.unusedSimpArgs false

set_option maxHeartbeats 1000000 in
set_option maxRecDepth 100000 in
theorem endsWith_any (l : List Nat) (s q c : Nat) (a : Option Addr) (hq : l.length = q) (hq2 : q ≤ 1000000) (w : World) (hL : LAt w a l) :
    Calls Try.prog 70 #[.slice a q c, .int .i64 ((s : Nat) : Int)] w (TruPost (l.getLast? = some s) w) := by
  have HL := Lib.hid (And.intro hL hq)
  clear hL hq
  go_enter Try.func70, Try.ntmps70
  rcases q with _ | q
  · have HZ : Hid (l.getLast? ≠ some s) := by
      show ¬ _ = _
      rw [List.eq_nil_of_length_eq_zero HL.out.2]
      intro h
      cases h
    go_wp2_with fail
    go_ret
    exact ⟨false, rfl, ⟨(fun h => by cases h), (fun h => absurd h HZ.out)⟩, Below.refl _ _⟩
  · have hne : l.length = q + 1 := HL.out.2
    obtain ⟨g, o, rfl, _, c0⟩ := HL.out.1 (by omega)
    have c1 := c0 q (by omega)
    have hl2 : l.getLast? = some (l.getD q 0) := by
      rw [List.getLast?_eq_getElem?, hne]
      have : q < l.length := by omega
      simp [List.getD_eq_getElem?_getD, this]
    have HS : Hid (l.getLast? = some s ↔ l.getD q 0 = s) := by
      show _ ↔ _
      rw [hl2]; simp
    clear c0 hl2 hne
    dsimp only at c1
    generalize l.getD q 0 = t at c1 HS
    have i1 : ((q : Int) + 1) - 1 = (q : Int) := by omega
    have i2 : (0 : Int) < (q : Int) + 1 := by omega
    have i3 : (q : Int) < (q : Int) + 1 := by omega
    by_cases e : t = s
    · subst e
      have HZ := Lib.hid (HS.out.2 rfl)
      go_wp2_with fail
      try go_quiet (fail)
      try go_wp2_with fail
      go_ret
      exact ⟨true, rfl, ⟨(fun _ => HZ.out), (fun _ => rfl)⟩, by first | exact Below.refl _ _ | exact (Below.refl _ _).drew⟩
    · have HZ : Hid (¬ l.getLast? = some s) := fun h => e (HS.out.1 h)
      have i4 : ((t : Int) == (s : Int)) = false := by simp; omega
      go_wp2_with fail
      try go_quiet (fail)
      try go_wp2_with fail
      go_ret
      exact ⟨false, rfl, ⟨(fun h => by cases h), (fun h => absurd h HZ.out)⟩, by first | exact Below.refl _ _ | exact (Below.refl _ _).drew⟩

/-- The lists of those that lead to a state, so far. -/
structure SrI (D : Dd) (f c : Nat) (tg : Nat → List Nat) : Prop where
  mem : ∀ t, t < D.n → ∀ x, x ∈ tg t ↔ (x < f ∧ Ed D x t) ∨ (x = f ∧ f < D.n ∧ ∃ c', c' < c ∧ D.nx f c' = (t : Int))
  inc : ∀ t, t < D.n → (tg t).Pairwise (· < ·)
theorem last_of_inc {l : List Nat} {f : Nat} (hp : l.Pairwise (· < ·)) (hle : ∀ x ∈ l, x ≤ f) : l.getLast? = some f ↔ f ∈ l := by
  constructor
  · intro h
    exact List.mem_of_getLast? h
  · intro h
    obtain ⟨i, hi, e⟩ := List.getElem_of_mem h
    have hlast : i = l.length - 1 := by
      refine Classical.byContradiction fun hne => ?_
      have h2 := (List.pairwise_iff_getElem.1 hp) i (i + 1) hi (by omega) (by omega)
      have h3 := hle l[i + 1] (List.getElem_mem (by omega))
      omega
    rw [List.getLast?_eq_getElem?]
    rw [← hlast, List.getElem?_eq_getElem hi, e]
theorem inc_len {l : List Nat} {n : Nat} (hp : l.Pairwise (· < ·)) (hlt : ∀ x ∈ l, x < n) : l.length ≤ n :=
  nodup_below (hp.imp fun h => by omega) hlt
theorem SrI.start (D : Dd) : SrI D 0 0 (fun _ => []) := ⟨fun t ht x => ⟨fun h => by simp at h, fun h => by rcases h with h | ⟨_, _, c', h, _⟩ <;> omega⟩, fun t ht => List.Pairwise.nil⟩
theorem SrI.le {D : Dd} {f c : Nat} {tg : Nat → List Nat} (h : SrI D f c tg) {t : Nat} (ht : t < D.n) : ∀ x ∈ tg t, x ≤ f := fun x hx => by
  rcases (h.mem t ht x).1 hx with h1 | h1
  · omega
  · omega
/-- The state itself stands there, or not. -/
theorem SrI.has {D : Dd} {f c : Nat} {tg : Nat → List Nat} (h : SrI D f c tg) {t : Nat} (ht : t < D.n) : (tg t).getLast? = some f ↔ f ∈ tg t := last_of_inc (h.inc t ht) (h.le ht)
theorem SrI.skip {D : Dd} {f c : Nat} {tg : Nat → List Nat} (h : SrI D f c tg) (hx : D.nx f c < 0 ∨ ∃ t : Nat, D.nx f c = (t : Int) ∧ t < D.n ∧ f ∈ tg t) : SrI D f (c + 1) tg := by
  refine ⟨fun t ht x => ?_, h.inc⟩
  rw [h.mem t ht]
  constructor
  · rintro (h1 | ⟨h1, h2, c', h3, h4⟩)
    · exact Or.inl h1
    · exact Or.inr ⟨h1, h2, c', by omega, h4⟩
  · rintro (h1 | ⟨h1, h2, c', h3, h4⟩)
    · exact Or.inl h1
    · by_cases e : c' = c
      · subst e
        rcases hx with hx | ⟨t', e', ht', hm⟩
        · omega
        · have : t' = t := by omega
          subst this
          have := (h.mem t' ht f).1 hm
          subst h1
          exact this
      · exact Or.inr ⟨h1, h2, c', by omega, h4⟩
theorem SrI.put {D : Dd} {f c t : Nat} {tg : Nat → List Nat} (h : SrI D f c tg) (hf : f < D.n) (hx : D.nx f c = (t : Int)) (ht : t < D.n) (hm : f ∉ tg t) : SrI D f (c + 1) (fun j => if j = t then tg t ++ [f] else tg j) := by
  refine ⟨fun t' ht' x => ?_, fun t' ht' => ?_⟩
  · by_cases e : t' = t
    · subst e
      show x ∈ (if t' = t' then tg t' ++ [f] else tg t') ↔ _
      rw [if_pos rfl, List.mem_append, List.mem_singleton, h.mem t' ht']
      constructor
      · rintro ((h1 | ⟨h1, h2, c', h3, h4⟩) | h1)
        · exact Or.inl h1
        · exact Or.inr ⟨h1, h2, c', by omega, h4⟩
        · exact Or.inr ⟨h1, hf, c, by omega, hx⟩
      · rintro (h1 | ⟨h1, h2, c', h3, h4⟩)
        · exact Or.inl (Or.inl h1)
        · exact Or.inr h1
    · simp only [if_neg e]
      rw [h.mem t' ht']
      constructor
      · rintro (h1 | ⟨h1, h2, c', h3, h4⟩)
        · exact Or.inl h1
        · exact Or.inr ⟨h1, h2, c', by omega, h4⟩
      · rintro (h1 | ⟨h1, h2, c', h3, h4⟩)
        · exact Or.inl h1
        · by_cases e2 : c' = c
          · subst e2; omega
          · exact Or.inr ⟨h1, h2, c', by omega, h4⟩
  · by_cases e : t' = t
    · subst e
      show List.Pairwise _ (if t' = t' then tg t' ++ [f] else tg t')
      rw [if_pos rfl, List.pairwise_append]
      refine ⟨h.inc t' ht', by simp, fun a ha b hb => ?_⟩
      rw [List.mem_singleton.1 hb]
      have h1 := h.le ht' a ha
      have h2 : a ≠ f := fun e => by rw [e] at ha; exact hm ha
      omega
    · simp only [if_neg e]
      exact h.inc t' ht'
theorem SrI.row {D : Dd} {f c C : Nat} {tg : Nat → List Nat} (h : SrI D f c tg) (hf : f < D.n) (hc : D.len f = c) : SrI D (f + 1) 0 tg := by
  refine ⟨fun t ht x => ?_, h.inc⟩
  rw [h.mem t ht]
  constructor
  · rintro (h1 | ⟨h1, h2, c', h3, h4⟩)
    · exact Or.inl ⟨by omega, h1.2⟩
    · subst h1
      exact Or.inl ⟨by omega, hf, c', by omega, h4⟩
  · rintro (⟨h1, h2⟩ | ⟨_, _, c', h3, _⟩)
    · by_cases e : x = f
      · subst e
        obtain ⟨_, c', h3, h4⟩ := h2
        exact Or.inr ⟨rfl, hf, c', by omega, h4⟩
      · exact Or.inl ⟨by omega, h2⟩
    · omega
def SrcPost (D : Dd) (w : World) (e : Ending) (w' : World) : Prop :=
  ∃ (g : Nat) (A : Nat → Option Addr) (Cp : Nat → Nat) (tg : Nat → List Nat), e = .returned (.slice (some ⟨g, 0, none⟩) D.n D.n) ∧ ZsAt w' (some ⟨g, 0, none⟩) D.n A Cp (fun i => (tg i).length) (fun i c => (((tg i).getD c 0 : Nat) : Int)) ∧ SrI D D.n 0 tg ∧ Below w.heap.size w w'
theorem TgAt.zs {w3 wq : World} {B gT C : Nat} {vs : Nat → Value} {tg : Nat → List Nat} (h : TgAt w3 B gT C vs tg wq) : ZsAt wq (some ⟨gT, 0, none⟩) C (fun i => slA (vs i)) (fun i => slC (vs i)) (fun i => (tg i).length) (fun i c => (((tg i).getD c 0 : Nat) : Int)) := by
  intro h0
  have hlt : gT < wq.heap.size := by
    have := (h.grid.cell 0 h0).1
    by_cases hb : gT < wq.heap.size
    · exact hb
    · simp [World.cell?, Array.getElem?_eq_none (by omega : wq.heap.size ≤ gT)] at this
  refine ⟨gT, 0, rfl, hlt, fun i hi => ?_⟩
  obtain ⟨ai, ci, e⟩ := ownsRow_slice (h.grid.2.1 i hi)
  have hr := h.grid.2.1 i hi
  refine ⟨?_, ?_⟩
  · rw [Nat.zero_add, (h.grid.cell i hi).1]
    simp [e, slA, slC]
  · show ZAt wq (slA (vs i)) _ _
    rw [e] at hr ⊢
    exact own_lat hr rfl

set_option maxHeartbeats 2000000 in
set_option maxRecDepth 100000 in
theorem sources_any (D : Dd) (C : Nat) (w : World) (hD : DM w D) (hR : DR D C) :
    Calls Try.prog 64 #[.agg D.cD] w (SrcPost D w) := by
  have hmk := make_ints D.n (by have := hR.n2; omega)
  have hn2 := hR.n2
  have hn1 := hR.n1
  have hC6 := (hR.c256 hD.kl).2
  have HB := Lib.hid (And.intro (DBx.new hD) (And.intro (al w (.cells D.cD 26)) hR))
  obtain ⟨iI, hI, hI0, hI1, hI2⟩ := info_parts Try.info_int9
  clear hD hR
  go_enter Try.func64, Try.ntmps64
  go_upto_region 1 with fail
  generalize w.alloc (.cells D.cD 26) = W0 at HB ⊢
  obtain ⟨b0, hb0⟩ : ∃ b0, w.heap.size = b0 := ⟨_, rfl⟩
  rw [hb0] at HB
  rw [hb0]
  have Hb0 := Lib.hid hb0
  clear hb0
  have f1 := HB.out.1.f1
  have hT0 : TgAt (W0.alloc (.cells (madeCells #[.slice none 0 0] D.n) 24)) W0.heap.size W0.heap.size D.n (fun _ => .slice none 0 0) (fun _ => []) (W0.alloc (.cells (madeCells #[.slice none 0 0] D.n) 24)) := TgAt.made W0 W0.heap.size D.n _ (Nat.le_refl _) (Below.refl _ _)
  have HT0 := Lib.hid hT0
  have HK0 := Lib.hid (al W0 (.cells (madeCells #[.slice none 0 0] D.n) 24))
  clear hT0
  go_upto_region 2 with fail
  obtain ⟨gT, hgT⟩ : ∃ gT, W0.heap.size = gT := ⟨_, rfl⟩
  have HgT := Lib.hid hgT
  rw [hgT] at HT0
  rw [hgT]
  generalize W0.alloc (.cells (madeCells #[.slice none 0 0] D.n) 24) = W1 at HT0 HK0 ⊢
  clear hgT f1
  have HBx1 := Lib.hid (HB.out.1.keep HK0.out)
  have f1 := HBx1.out.f1
  obtain ⟨gN, oN, eN, hgN, cN0⟩ := HBx1.out.dm.rN (by omega)
  rw [eN] at f1
  have HeN := Lib.hid eN
  have HcN := Lib.hid cN0
  clear eN cN0
  go_wp2_with fail
  clear f1
  go_loopw [4, 5, 7, 15, 22] (fun _ _ _ v _ wr => ∃ (f : Nat) (vs : Nat → Value) (tg : Nat → List Nat), v = .int .i64 f ∧ f ≤ D.n ∧ Hid (TgAt W1 gT gT D.n vs tg wr ∧ SrI D f 0 tg)) (fun _ _ _ v _ _ => D.n - (intOf v).toNat)
  case atStart => exact ⟨0, _, _, rfl, by omega, ⟨HT0.out, SrI.start D⟩⟩
  case round =>
    clear HT0
    obtain ⟨f, vs, tg, rfl, hf, HX⟩ := hrel
    by_cases hlt : f < D.n
    · have hb1 : gN < gT := by
        obtain ⟨g, o, e, hg, _⟩ := HB.out.1.dm.rN (by omega)
        rw [HeN.out] at e
        injection e with e
        injection e with e _
        rw [HgT.out] at hg
        omega
      have cN := (HX.out.1.below.cell (p := ⟨gN, oN + f, none⟩) hb1).trans (HcN.out f hlt).1
      have HZn : Hid (ZAt W0 (D.A f) (D.len f) (D.nx f)) := by
        obtain ⟨_, _, _, _, c9⟩ := HB.out.1.dm.rN (by omega)
        exact (c9 f hlt).2
      have hlen := HB.out.2.2.len f hlt
      rw [hlen] at cN
      rw [hlen] at HZn
      have HLen := Lib.hid hlen
      have i1 : (f : Int) < (D.n : Int) := by omega
      try dsimp only at cN
      clear hlen hb1
      go_wp2_with fail
      clear cN
      go_loopw [7, 22] (fun _ v wr => ∃ (c : Nat) (vs : Nat → Value) (tg : Nat → List Nat), v = .int .i64 c ∧ c ≤ C ∧ Hid (TgAt W1 gT gT D.n vs tg wr ∧ SrI D f c tg)) (fun _ v _ => C - (intOf v).toNat)
      case atStart => exact ⟨0, vs, tg, rfl, by omega, HX⟩
      case round =>
        clear HX
        obtain ⟨c, vs, tg, rfl, hc, HX⟩ := hrel
        have HBW : Hid (Below W0.heap.size W0 wr) := by
          have h := HX.out.1.below
          rw [← HgT.out] at h
          exact HK0.out.trans h
        by_cases hlc : c < C
        · obtain ⟨gA, oA, eA, _, cA0⟩ := (HZn.out.below HBW.out) (by omega)
          have cA := cA0 c hlc
          have hb := HB.out.2.2.nx f c hlt hlc
          have HSk := Lib.hid (fun h => HX.out.2.skip h)
          have HPu := Lib.hid (fun (t : Nat) h1 h2 h3 => HX.out.2.put (t := t) hlt h1 h2 h3)
          have i2 : (c : Int) < (C : Int) := by omega
          rw [eA]
          have HeA := Lib.hid eA
          clear cA0 eA
          generalize D.nx f c = t at cA hb HSk HPu
          by_cases ht : t = -1
          · subst ht
            have HZ := Lib.hid (HSk.out (Or.inl (by omega)))
            go_wp2_with fail
            go_roundw
            case rel => exact ⟨c + 1, vs, tg, by go_num, by omega, ⟨HX.out.1, HZ.out⟩⟩
            case measure => simp [intOf]; omega
          · obtain ⟨u, rfl⟩ : ∃ u : Nat, t = (u : Int) := ⟨t.toNat, by omega⟩
            have hu : u < D.n := by omega
            have i3 : (u : Int) < (D.n : Int) := by omega
            have ht2 : ((u : Int) != (-1 : Int)) = true := by first | (simp; done) | (simp; omega)
            obtain ⟨y0, y1⟩ := HX.out.1.grid.cell u hu
            have hro := HX.out.1.grid.2.1 u hu
            obtain ⟨au, cu, hvu⟩ := ownsRow_slice hro
            have hll : (tg u).length ≤ D.n := inc_len (HX.out.2.inc u hu) (fun x hx => by have := HX.out.2.le hu x hx; omega)
            rw [hvu] at y0
            have hro2 := hro
            rw [hvu] at hro2
            have HEn := Lib.hid (endsWith_any (tg u) f (tg u).length cu au rfl (by omega) wr (own_lat hro2 rfl))
            have Hvu := Lib.hid hvu
            clear hro hro2 hvu ht
            obtain ⟨q, hq⟩ : ∃ q, (tg u).length = q := ⟨_, rfl⟩
            have Hq := Lib.hid hq
            dsimp only at y0
            rw [hq] at y0 HEn hll
            clear hq
            go_wp2_with fail
            refine HEn.out.mono ?_
            rintro e w5 ⟨b, rfl, hbo, k5⟩
            have HT5 := Lib.hid (HX.out.1.keep k5)
            have Hbo : Hid (b = true ↔ f ∈ tg u) := by
              show _ ↔ _
              rw [hbo, HX.out.2.has hu]
            clear hbo k5 HEn y0 y1
            rcases b with _ | _
            · have HN : Hid (f ∉ tg u) := fun h => by have := Hbo.out.2 h; cases this
              have HZ := Lib.hid (HPu.out u rfl hu HN.out)
              obtain ⟨y0, y1⟩ := HT5.out.grid.cell u hu
              rw [Hvu.out] at y0
              have hO := HT5.out.grid.2.1 u hu
              dsimp only at hO y0
              rw [Hvu.out, Hq.out] at hO
              rw [Hq.out] at y0
              go_wp2_with (at_builtin; refine wpList_append_own_at _ rfl _ _ 24 rfl W1.heap.size 3 iI (.int .i64 0) 1 8 Try.underlying24 hI hI0 hI1 hI2 rfl (by decide) _ _ _ rfl (hO.alloc _) ⟨w5.heap.size, 0, none⟩ 1 1 [.int .i64 ((f : Nat) : Int)] rfl rfl (cell_one_new _ _ _) ?d2 ?d3 ?d4 ?d5 ?_)
              case d2 => first | (intro u hu; simp at hu; subst hu; rfl) | rfl
              case d3 => unfold maxLen; omega
              case d4 => omega
              case d5 => have := HT5.out.below.size; simp; omega
              intro v6 w6 hown6 hgrow6 _ hat6
              have kk := al w5 (.cells #[.int .i64 ((f : Nat) : Int)] 3)
              have HT6 := Lib.hid ((HT5.out.keep kk).app hu Hq.out (v' := v6) (t := f) (by exact hown6) (by rw [Hvu.out, Hq.out]; exact hgrow6) (fun b e => by
                rcases hat6 with h | h
                · rw [h] at e
                  refine Or.inl ?_
                  rw [Hvu.out, Hq.out]
                  exact e
                · rw [h] at e
                  refine Or.inr ?_
                  simp at e
                  simp
                  omega))
              obtain ⟨a6, c6, rfl⟩ := ownsRow_slice hown6
              have hg6 := hgrow6
              obtain ⟨z0, z1⟩ : w6.cell? ⟨gT, u, none⟩ = some (vs u) ∧ w6.frozen? ⟨gT, u, none⟩ = false := by
                have hgr := (HT5.out.keep kk).grid
                have hs := hgr.1.grown_own (hgr.2.1 u hu) (by decide) (by rw [Hvu.out, Hq.out]; exact hg6)
                exact ⟨by rw [hs.at_]; simp [hu], hs.thaw_ u⟩
              clear hown6 hgrow6 hat6 hO kk hg6 y0 y1
              go_wp2_with fail
              go_roundw
              case rel => exact ⟨c + 1, _, _, by go_num, by omega, ⟨HT6.out, HZ.out⟩⟩
              case measure => simp [intOf]; omega
            · have HZ := Lib.hid (HSk.out (Or.inr ⟨u, rfl, hu, Hbo.out.1 rfl⟩))
              go_wp2_with fail
              go_roundw
              case rel => exact ⟨c + 1, vs, tg, by go_num, by omega, ⟨HT5.out, HZ.out⟩⟩
              case measure => simp [intOf]; omega
        · obtain rfl : c = C := by omega
          have HZ := Lib.hid (HX.out.2.row (C := c) hlt HLen.out)
          go_wp2_with fail
          go_roundw
          case rel => exact ⟨f + 1, vs, tg, by go_num, by omega, ⟨HX.out.1, HZ.out⟩⟩
          case measure => simp [intOf]; omega
    · obtain rfl : f = D.n := by omega
      have HF : Hid (SrcPost D w (.returned (.slice (some ⟨gT, 0, none⟩) D.n D.n)) wr) := by
        refine ⟨gT, _, _, tg, rfl, HX.out.1.zs, HX.out.2, ?_⟩
        have h := HX.out.1.below
        rw [← HgT.out] at h
        have h0 := HB.out.2.1
        rw [← Hb0.out] at h0
        exact h0.trans ((HK0.out.trans h).mono h0.size)
      go_wp2_with fail
      go_ret
      exact HF.out
end Go.Proofs.Ytldpmcgkbdejjaa

namespace Go.Proofs.Ytldpmcgkbdejjaa
open Go.RowKit Go.Maps Go.WideElems Go.ChangeMaps Go.MapKept
set_option linter.unusedVariables false
set_option linter.unusedSimpArgs false

theorem we_ed {D : Dd} {C s : Nat} (hR : DR D C) (hs : s < D.n) (x : Nat) : Rch (WE (rowsF D.len D.nx)) (fun y => y ∈ [s]) x ↔ Rch (Ed D) (fun y => y = s) x := by
  have mem : ∀ x y, WE (rowsF D.len D.nx) x y ↔ ∃ c, c < D.len x ∧ D.nx x c = (y : Int) := fun x y => by
    unfold WE rowsF
    simp
  constructor
  · intro h
    have : Rch (Ed D) (fun y => y = s) x ∧ x < D.n := by
      induction h with
      | base h =>
        have e := List.mem_singleton.1 h
        subst e
        exact ⟨.base rfl, hs⟩
      | step _ e ih =>
        have h2 : Ed D _ _ := ⟨ih.2, (mem _ _).1 e⟩
        exact ⟨.step ih.1 h2, hR.ed _ _ h2⟩
    exact this.1
  · intro h
    induction h with
    | base h => subst h; exact .base (by simp)
    | step _ e ih => exact .step ih ((mem _ _).2 e.2)

set_option maxHeartbeats 2000000 in
set_option maxRecDepth 100000 in
theorem reached_any (D : Dd) (C : Nat) (s : Int) (w : World) (hD : DM w D) (hR : DR D C) :
    Calls Try.prog 47 #[.agg D.cD, .int .i64 s] w (BlPost D.n (RcI D s) w) := by
  have hmk := make_bl D.n (by have := hR.n2; omega)
  have hn2 := hR.n2
  have hn1 := hR.n1
  have hC6 := (hR.c256 hD.kl).2
  have HB := Lib.hid (And.intro (DBx.new hD) (And.intro (al w (.cells D.cD 26)) hR))
  clear hD hR
  go_enter Try.func47, Try.ntmps47
  go_upto_region 1 with fail
  generalize w.alloc (.cells D.cD 26) = W0 at HB ⊢
  obtain ⟨b0, hb0⟩ : ∃ b0, w.heap.size = b0 := ⟨_, rfl⟩
  rw [hb0] at HB
  rw [hb0]
  have Hb0 := Lib.hid hb0
  have hb9 : b0 ≤ W0.heap.size := by have := HB.out.2.1.size; omega
  clear hb0
  have HRy := Lib.hid (right_yes D C HB.out.2.2 W0 HB.out.1.dm)
  go_wp2_with (refine wpList_load_any9 (by rfl) 26 _ rfl ⟨b0, 0, none⟩ rfl D.cD _ HB.out.1.st.part Try.underlying26 rfl HB.out.1.dm.info ?_)
  refine HRy.out.mono ?_
  rintro e w1 ⟨rfl, b1⟩
  have H1 := Lib.hid (And.intro (HB.out.1.keep b1) (HB.out.2.1.trans (b1.mono hb9)))
  have hb1 : b0 ≤ w1.heap.size := by have := b1.size; omega
  have HEx := Lib.hid (exists_any D s w1 H1.out.1.dm)
  clear b1 HRy
  go_wp2_with (refine wpList_load_any9 (by rfl) 26 _ rfl ⟨b0, 0, none⟩ rfl D.cD _ H1.out.1.st.part Try.underlying26 rfl H1.out.1.dm.info ?_)
  refine HEx.out.mono ?_
  rintro e w2 ⟨rfl, b2⟩
  have H2 := Lib.hid (And.intro (H1.out.1.keep b2) (H1.out.2.trans (b2.mono hb1)))
  have hb2 : b0 ≤ w2.heap.size := by have := b2.size; omega
  have HFin : Hid (∀ W', Below w2.heap.size w2 W' → Below w.heap.size w W') := fun W' h => by
    rw [Hb0.out]
    exact H2.out.2.trans (h.mono hb2)
  have hw2 : Hid (w.heap.size ≤ w2.heap.size) := by show _ ≤ _; rw [Hb0.out]; exact hb2
  have f1 := H2.out.1.f1
  clear b2 HEx
  by_cases hs : 0 ≤ s ∧ s < (D.n : Int)
  rotate_left
  · have HZ : Hid (decide (0 ≤ s ∧ s < (D.n : Int)) = false) := by show _ = _; simp; omega
    have HO := Lib.hid (OB.made w2 D.n (by unfold maxLen; omega))
    rw [HZ.out]
    have HF : Hid (BlPost D.n (RcI D s) w (.returned (.slice (some ⟨w2.heap.size, 0, none⟩) D.n D.n)) (w2.alloc (.cells (madeCells #[.bool false] D.n) 4))) :=
      ⟨fun _ => false, _, _, rfl, ownsRow_base HO.out.own hw2.out, fun x hx => ⟨(fun h => by cases h), (fun h => absurd ⟨h.1, h.2.1⟩ hs)⟩, HFin.out _ HO.out.bel⟩
    clear HO
    go_wp2_with fail
    go_ret
    exact HF.out
  · obtain ⟨t, rfl⟩ : ∃ t : Nat, s = (t : Int) := ⟨s.toNat, by omega⟩
    have ht : t < D.n := by omega
    have HZ : Hid (decide (0 ≤ ((t : Nat) : Int) ∧ ((t : Nat) : Int) < (D.n : Int)) = true) := by show _ = _; simp; omega
    rw [HZ.out]
    clear hs
    have HSo : Hid (∀ W', Below w2.heap.size w2 W' → Below w2.heap.size w2 W' ∧ DBx W' b0 D ∧ W'.cell? ⟨b0, 256, none⟩ = some (.slice D.aN D.n D.cN)) := fun W' h => ⟨h, H2.out.1.keep h, (H2.out.1.keep h).f1⟩
    clear f1
    go_upto_region 5 with fail
    refine wp_region_held_drew (S := fun W' => Below w2.heap.size w2 W' ∧ DBx W' b0 D ∧ W'.cell? ⟨b0, 256, none⟩ = some (.slice D.aN D.n D.cN)) (by kernel_rfl) (HSo.out _ (Below.refl _ _).drew) (fun hHeld => ?_)
    (refine wpAnyH_take (i := 0) (oi := ?_) (v := ?_) ?_ (by kernel_rfl) (by kernel_rfl) (by kernel_rfl) ?_ (Or.inl ⟨?_, ?_⟩) (by assumption) ?_; rotate_left 2; (focus ((simp only [List.getElem?_toArray, List.getElem?_cons_zero]); first | done | rfl)); (focus (exact fun _ _ _ h => h)); (focus rfl); (focus (intro wz hSw; (try dsimp only at hSw); go_simp; first | done | with_reducible rfl)); try simp only [Act.put, List.setIfInBounds_toArray, List.set_cons_zero, List.set_cons_succ])
    (refine wpAnyH_take (i := 1) (oi := ?_) (v := ?_) ?_ (by kernel_rfl) (by kernel_rfl) (by kernel_rfl) ?_ (Or.inl ⟨?_, ?_⟩) (by assumption) ?_; rotate_left 2; (focus ((simp only [List.getElem?_toArray, List.getElem?_cons_succ, List.getElem?_cons_zero]); first | done | rfl)); (focus (exact fun _ _ _ h => h)); (focus rfl); (focus (intro wz hSw; (try dsimp only at hSw); go_simp; first | done | with_reducible rfl)); try simp only [Act.put, List.setIfInBounds_toArray, List.set_cons_zero, List.set_cons_succ])
    (refine wpAnyH_take (i := 2) (oi := ?_) (v := ?_) ?_ (by kernel_rfl) (by kernel_rfl) (by kernel_rfl) ?_ (Or.inl ⟨?_, ?_⟩) (by assumption) ?_; rotate_left 2; (focus ((simp only [List.getElem?_toArray, List.getElem?_cons_succ, List.getElem?_cons_zero]); first | done | rfl)); (focus (exact fun _ _ _ h => h)); (focus rfl); (focus (intro wz hSw; (try dsimp only at hSw); go_simp; first | done | with_reducible rfl)); try simp only [Act.put, List.setIfInBounds_toArray, List.set_cons_zero, List.set_cons_succ])
    (refine wpAnyH_take (i := 3) (oi := ?_) (v := ?_) ?_ (by kernel_rfl) (by kernel_rfl) (by kernel_rfl) ?_ (Or.inl ⟨?_, ?_⟩) (by assumption) ?_; rotate_left 2; (focus ((simp only [List.getElem?_toArray, List.getElem?_cons_succ, List.getElem?_cons_zero]); first | done | rfl)); (focus (exact fun _ _ _ h => h)); (focus rfl); (focus (intro wz hSw; (try dsimp only at hSw); go_simp; first | done | with_reducible rfl)); try simp only [Act.put, List.setIfInBounds_toArray, List.set_cons_zero, List.set_cons_succ])
    (refine wpAnyH_take (i := 4) (oi := ?_) (v := ?_) ?_ (by kernel_rfl) (by kernel_rfl) (by kernel_rfl) ?_ (Or.inl ⟨?_, ?_⟩) (by assumption) ?_; rotate_left 2; (focus ((simp only [List.getElem?_toArray, List.getElem?_cons_succ, List.getElem?_cons_zero]); first | done | rfl)); (focus (exact fun _ _ _ h => h)); (focus rfl); (focus (intro wz hSw; (try dsimp only at hSw); go_simp; first | done | with_reducible rfl)); try simp only [Act.put, List.setIfInBounds_toArray, List.set_cons_zero, List.set_cons_succ])
    (refine wpAnyH_take (i := 5) (oi := ?_) (v := ?_) ?_ (by kernel_rfl) (by kernel_rfl) (by kernel_rfl) ?_ (Or.inl ⟨?_, ?_⟩) (by assumption) ?_; rotate_left 2; (focus ((simp only [List.getElem?_toArray, List.getElem?_cons_succ, List.getElem?_cons_zero]); first | done | rfl)); (focus (exact fun _ _ _ h => h)); (focus rfl); (focus (intro wz hSw; (try dsimp only at hSw); go_simp; first | done | with_reducible rfl)); try simp only [Act.put, List.setIfInBounds_toArray, List.set_cons_zero, List.set_cons_succ])
    refine wpAnyH_ready (rs := [6]) (by kernel_rfl) (by simp) ?_
    refine AllReadyH.cons (o := ?_) ?_ (fun K hK => ?_) ?_
    rotate_left
    (focus ((simp only [List.getElem?_toArray, List.getElem?_cons_succ, List.getElem?_cons_zero]); first | done | rfl))
    · skip
      go_simp
      have kk := al w2.drew (.cells #[.int .i64 ((t : Nat) : Int)] 3)
      have hbn : Below w2.heap.size w2 ((w2.alloc (.cells #[.int .i64 ((t : Nat) : Int)] 3)).drew) := hHeld.1.trans (kk.mono hHeld.1.size)
      have HL6 : Hid (LAt (w2.alloc (.cells #[.int .i64 ((t : Nat) : Int)] 3)).drew (some ⟨w2.heap.size, 0, none⟩) [t]) := own_lat (own_lit w2.drew w2.drew.heap.size 3 1 #[.int .i64 ((t : Nat) : Int)] 1 rfl (Nat.le_refl _) (by decide)) rfl
      clear kk
      refine hK.out _ _ (HSo.out _ hbn) (fun hHeld => ?_)
      generalize (w2.alloc (.cells #[.int .i64 ((t : Nat) : Int)] 3)).drew = W6 at HL6 hHeld ⊢
      clear hK K hbn
      try simp only [Act.put, List.setIfInBounds_toArray, List.set_cons_zero, List.set_cons_succ]
      refine wpAnyH_ready (rs := [7]) (by kernel_rfl) (by simp) ?_
      refine AllReadyH.cons (o := ?_) ?_ (fun K hK => ?_) ?_
      rotate_left
      (focus ((simp only [List.getElem?_toArray, List.getElem?_cons_succ, List.getElem?_cons_zero]); first | done | rfl))
      · skip
        go_simp
        go_at_call 63
        refine (walk_any D.n D.cN D.aN D.A D.Cp D.len D.nx [t] (some ⟨w2.heap.size, 0, none⟩) 1 1 (by omega) (fun i hi => by rw [HB.out.2.2.len i hi]; omega) (fun i c hi hc => HB.out.2.2.nx i c hi (by rw [← HB.out.2.2.len i hi]; exact hc)) rfl (by simp) (fun x hx => by rw [List.mem_singleton.1 hx]; exact ht) W6 hHeld.2.1.dm.rN HL6.out (fun h => by cases h) (fun ad h => by injection h with h; rw [← h])).mono ?_
        rintro e w7 ⟨l, i, ad, c, rfl, ho7, hl3, hl1, hin, hl2, b7⟩
        have hbn : Below w2.heap.size w2 w7 := hHeld.1.trans (b7.mono hHeld.1.size)
        have HW7 := Lib.hid (And.intro ho7 hbn)
        clear ho7 b7
        try go_wp2_with fail
        refine hK.out _ _ (HSo.out _ hbn) (fun hHeld => ?_)
        clear hK K hbn
        try simp only [Act.put, List.setIfInBounds_toArray, List.set_cons_zero, List.set_cons_succ]
        refine wpAnyH_ready (rs := [8]) (by kernel_rfl) (by simp) ?_
        refine AllReadyH.cons (o := ?_) ?_ (fun K hK => ?_) ?_
        rotate_left
        (focus ((simp only [List.getElem?_toArray, List.getElem?_cons_succ, List.getElem?_cons_zero]); first | done | rfl))
        · skip
          go_simp
          go_at_call 62
          refine (flags_any D.n l ad i c hl1 (by omega) (by omega) hl2 _ (own_lat HW7.out.1 hl1)).mono ?_
          rintro e w8 ⟨f8, a8, c8, rfl, ho8, hf8, b8⟩
          have hbn : Below w2.heap.size w2 w8 := HW7.out.2.trans (b8.mono HW7.out.2.size)
          have hsz7 := HW7.out.2.size
          have HF : Hid (BlPost D.n (RcI D ((t : Nat) : Int)) w (.returned (.slice a8 D.n c8)) w8) := ⟨f8, a8, c8, rfl, ownsRow_base ho8 (Nat.le_trans hw2.out hsz7), fun x hx => by
            rw [hf8 x hx]
            show x ∈ l ↔ _
            rw [hl3, wkN_mem _ _ (by rw [← hl3]; exact hl1), we_ed HB.out.2.2 ht]
            exact ⟨fun h => ⟨by omega, by omega, by simpa using h⟩, fun h => by simpa using h.2.2⟩, HFin.out _ hbn⟩
          clear ho8 hf8 b8
          try go_wp2_with fail
          refine hK.out _ _ (HSo.out _ hbn) (fun hHeld => ?_)
          clear hK K hbn
          try simp only [Act.put, List.setIfInBounds_toArray, List.set_cons_zero, List.set_cons_succ]
          (refine wpAnyH_take (i := 9) (oi := ?_) (v := ?_) ?_ (by kernel_rfl) (by kernel_rfl) (by kernel_rfl) ?_ (Or.inl ⟨?_, ?_⟩) (by assumption) ?_; rotate_left 2; (focus ((simp only [List.getElem?_toArray, List.getElem?_cons_succ, List.getElem?_cons_zero]); first | done | rfl)); (focus (exact fun _ _ _ h => h)); (focus rfl); (focus (intro wz hSw; (try dsimp only at hSw); go_simp; first | done | with_reducible rfl)); try simp only [Act.put, List.setIfInBounds_toArray, List.set_cons_zero, List.set_cons_succ])
          refine wpAnyH_done (by kernel_rfl) ?_ _
          clear hHeld
          go_wp2_with fail
          go_ret
          exact HF.out
        exact AllReadyH.nil
      exact AllReadyH.nil
    exact AllReadyH.nil
theorem own_none {w : World} {B q c : Nat} {a : Option Addr} {xs : List Value} (h : w.ownsRow B 3 1 (.slice a q c) q xs) (ha : a = none) : q = 0 ∧ c = 0 := by
  subst ha
  rcases h.2 with ⟨h1, h2⟩ | ⟨g, cap, cur, hv, _⟩
  · injection h1 with _ h3 h4
    exact ⟨h3, h4⟩
  · injection hv with h1 _ _
    cases h1
theorem own_spot {w : World} {B q c : Nat} {a : Option Addr} {ad : Addr} {xs : List Value} (h : w.ownsRow B 3 1 (.slice a q c) q xs) (ha : a = some ad) : ad.spot = none := by
  subst ha
  rcases h.2 with ⟨h1, h2⟩ | ⟨g, cap, cur, hv, _⟩
  · injection h1 with h3 _ _
    cases h3
  · injection hv with h1 _ _
    injection h1 with h1
    rw [h1]
theorem src_len {D : Dd} {tg : Nat → List Nat} (h : SrI D D.n 0 tg) (i : Nat) (hi : i < D.n) : (tg i).length ≤ D.n := inc_len (h.inc i hi) (fun x hx => by
  rcases (h.mem i hi x).1 hx with h1 | ⟨_, _, c', h3, _⟩
  · exact h1.1
  · omega)
theorem src_lt {D : Dd} {tg : Nat → List Nat} (h : SrI D D.n 0 tg) (i c : Nat) (hi : i < D.n) (hc : c < (tg i).length) : -1 ≤ (((tg i).getD c 0 : Nat) : Int) ∧ (((tg i).getD c 0 : Nat) : Int) < (D.n : Int) := by
  have e : (tg i).getD c 0 = (tg i)[c] := by simp [List.getD_eq_getElem?_getD, hc]
  rw [e]
  rcases (h.mem i hi _).1 (List.getElem_mem hc) with h1 | ⟨_, _, c', h3, _⟩
  · have := h1.1; omega
  · omega
theorem src_alv {D : Dd} {C : Nat} {tg : Nat → List Nat} {l : List Nat} (hR : DR D C) (h : SrI D D.n 0 tg) (hl : ∀ x, x ∈ l ↔ x < D.n ∧ 0 ≤ D.q x) (x : Nat) (hx : x < D.n) : Rch (WE (rowsF (fun i => (tg i).length) (fun i c => (((tg i).getD c 0 : Nat) : Int)))) (fun y => y ∈ l) x ↔ Alv D x := by
  have mem : ∀ x y, WE (rowsF (fun i => (tg i).length) (fun i c => (((tg i).getD c 0 : Nat) : Int))) x y ↔ y ∈ tg x := fun x y => by
    unfold WE rowsF
    constructor
    · intro h
      obtain ⟨c, hc, e⟩ := List.mem_map.1 h
      have hc2 : c < (tg x).length := by simpa using hc
      have e2 : (tg x).getD c 0 = (tg x)[c] := by simp [List.getD_eq_getElem?_getD, hc2]
      have e1 : (((tg x).getD c 0 : Nat) : Int) = (y : Int) := e
      have e3 : (tg x)[c] = y := by rw [← e2]; omega
      rw [← e3]; exact List.getElem_mem hc2
    · intro h
      obtain ⟨c, hc, e⟩ := List.getElem_of_mem h
      refine List.mem_map.2 ⟨c, by simpa using hc, ?_⟩
      simp [List.getD_eq_getElem?_getD, hc, e]
  have ed : ∀ x, x < D.n → ∀ y, y ∈ tg x ↔ Ed D y x := fun x hx y => by
    rw [h.mem x hx]
    constructor
    · rintro (h1 | ⟨_, _, c', h3, _⟩)
      · exact h1.2
      · omega
    · exact fun h1 => Or.inl ⟨h1.1, h1⟩
  have e1 : Rch (WE (rowsF (fun i => (tg i).length) (fun i c => (((tg i).getD c 0 : Nat) : Int)))) (fun y => y ∈ l) x ↔ Rch (fun a b => Ed D b a) (fun y => y < D.n ∧ 0 ≤ D.q y) x := by
    constructor
    · intro h
      have : Rch (fun a b => Ed D b a) (fun y => y < D.n ∧ 0 ≤ D.q y) x ∧ x < D.n := by
        clear hx
        induction h with
        | base h => exact ⟨.base ((hl _).1 h), ((hl _).1 h).1⟩
        | step _ e ih =>
          have h2 := (ed _ ih.2 _).1 ((mem _ _).1 e)
          exact ⟨.step ih.1 h2, h2.1⟩
      exact this.1
    · intro h
      have : Rch (WE (rowsF (fun i => (tg i).length) (fun i c => (((tg i).getD c 0 : Nat) : Int)))) (fun y => y ∈ l) x ∧ x < D.n := by
        clear hx
        induction h with
        | base h => exact ⟨.base ((hl _).2 h), h.1⟩
        | step _ e ih => exact ⟨.step ih.1 ((mem _ _).2 ((ed _ ih.2 _).2 e)), e.1⟩
      exact this.1
  rw [e1, rch_back]
  constructor
  · rintro ⟨k, h1, h2⟩; exact ⟨k, h1, h2.2⟩
  · rintro ⟨k, h1, h2⟩
    exact ⟨k, h1, Rch.lt (fun y hy => by rw [hy]; exact hx) hR.ed h1, h2⟩

set_option maxHeartbeats 2000000 in
set_option maxRecDepth 100000 in
theorem alive_any (D : Dd) (C : Nat) (w : World) (hD : DM w D) (hR : DR D C) :
    Calls Try.prog 41 #[.agg D.cD] w (BlPost D.n (Alv D) w) := by
  have hn2 := hR.n2
  have hn1 := hR.n1
  have hmn := hR.m
  have hC6 := (hR.c256 hD.kl).2
  have HB := Lib.hid (And.intro (DBx.new hD) (And.intro (al w (.cells D.cD 26)) hR))
  obtain ⟨iI, hI, hI0, hI1, hI2⟩ := info_parts Try.info_int9
  clear hD hR
  go_enter Try.func41, Try.ntmps41
  go_upto_region 1 with fail
  generalize w.alloc (.cells D.cD 26) = W0 at HB ⊢
  obtain ⟨b0, hb0⟩ : ∃ b0, w.heap.size = b0 := ⟨_, rfl⟩
  rw [hb0] at HB
  rw [hb0]
  have Hb0 := Lib.hid hb0
  have hb9 : b0 ≤ W0.heap.size := by have := HB.out.2.1.size; omega
  clear hb0
  have HRy := Lib.hid (right_yes D C HB.out.2.2 W0 HB.out.1.dm)
  go_wp2_with (refine wpList_load_any9 (by rfl) 26 _ rfl ⟨b0, 0, none⟩ rfl D.cD _ HB.out.1.st.part Try.underlying26 rfl HB.out.1.dm.info ?_)
  refine HRy.out.mono ?_
  rintro e w2 ⟨rfl, b1⟩
  have H2 := Lib.hid (And.intro (HB.out.1.keep b1) (HB.out.2.1.trans (b1.mono hb9)))
  have hb2 : b0 ≤ w2.heap.size := by have := b1.size; omega
  clear b1 HRy
  have HFin : Hid (∀ W', Below w2.heap.size w2 W' → Below w.heap.size w W') := fun W' h => by
    rw [Hb0.out]
    exact H2.out.2.trans (h.mono hb2)
  have hw2 : Hid (w.heap.size ≤ w2.heap.size) := by show _ ≤ _; rw [Hb0.out]; exact hb2
  have f2 := H2.out.1.f2
  obtain ⟨gM, oM, eM, hgM, cM0⟩ := H2.out.1.dm.rM (by omega)
  rw [eM, hmn] at f2
  have HcM := Lib.hid cM0
  have HeM := Lib.hid eM
  have Hmn := Lib.hid hmn
  clear eM cM0 hmn
  go_wp2_with fail
  clear f2
  go_loopw [3, 4, 5, 12] (fun v3 _ _ v wr => ∃ (k p : Nat) (l : List Nat) (a : Option Addr) (c : Nat), v = .int .i64 k ∧ k ≤ D.n ∧ p ≤ k ∧ v3 = .slice a p c ∧ Hid (l.length = p ∧ l.Nodup ∧ (∀ x, x ∈ l ↔ x < k ∧ 0 ≤ D.q x) ∧ wr.ownsRow w2.heap.size 3 1 (.slice a p c) p (nums64 l) ∧ Below w2.heap.size w2 wr)) (fun _ _ _ v _ => D.n - (intOf v).toNat)
  case atStart => exact ⟨0, 0, [], none, 0, rfl, by omega, by omega, rfl, ⟨rfl, by simp, fun x => by simp, World.ownsRow_nil _ _ _ _, Below.refl _ _⟩⟩
  case round =>
    obtain ⟨k, p, l, a, c, rfl, hk, hp, rfl, HX⟩ := hrel
    by_cases hlt : k < D.n
    · have cM := (HX.out.2.2.2.2.cell (p := ⟨gM, oM + k, none⟩) hgM).trans (HcM.out k (by rw [Hmn.out]; exact hlt))
      have hq := HB.out.2.2.q k hlt
      have i1 : (k : Int) < (D.n : Int) := by omega
      have HS : Hid (∀ l', (l' = l ∧ D.q k < 0) ∨ (l' = l ++ [k] ∧ 0 ≤ D.q k) → l'.Nodup ∧ ∀ x, x ∈ l' ↔ x < k + 1 ∧ 0 ≤ D.q x) := fun l' h => by
        rcases h with ⟨rfl, h⟩ | ⟨rfl, h⟩
        · refine ⟨HX.out.2.1, fun x => ?_⟩
          rw [HX.out.2.2.1]
          constructor
          · rintro ⟨h1, h2⟩; exact ⟨by omega, h2⟩
          · rintro ⟨h1, h2⟩
            by_cases e : x = k
            · subst e; omega
            · exact ⟨by omega, h2⟩
        · refine ⟨?_, fun x => ?_⟩
          · rw [List.nodup_append]
            exact ⟨HX.out.2.1, by simp, fun a ha b hb e => by
              rw [List.mem_singleton.1 hb] at e
              rw [e] at ha
              have := ((HX.out.2.2.1 k).1 ha).1
              omega⟩
          · rw [List.mem_append, List.mem_singleton, HX.out.2.2.1]
            constructor
            · rintro (⟨h1, h2⟩ | h1)
              · exact ⟨by omega, h2⟩
              · subst h1; exact ⟨by omega, h⟩
            · rintro ⟨h1, h2⟩
              by_cases e : x = k
              · exact Or.inr e
              · exact Or.inl ⟨by omega, h2⟩
      try dsimp only at cM
      generalize D.q k = y at cM hq HS
      by_cases hy : y = -1
      · subst hy
        have HZ := Lib.hid (HS.out l (Or.inl ⟨rfl, by omega⟩))
        go_wp2_with fail
        go_roundw
        case rel => exact ⟨k + 1, p, l, a, c, by go_num, by omega, by omega, rfl, ⟨HX.out.1, HZ.out.1, HZ.out.2, HX.out.2.2.2.1, HX.out.2.2.2.2⟩⟩
        case measure => simp [intOf]; omega
      · have HZ := Lib.hid (HS.out (l ++ [k]) (Or.inr ⟨rfl, by omega⟩))
        have hy2 : (y != (-1 : Int)) = true := by simp [hy]
        have hO := HX.out.2.2.2.1
        go_wp2_with (at_builtin; refine wpList_append_own_at _ rfl _ _ 24 rfl w2.heap.size 3 iI (.int .i64 0) 1 8 Try.underlying24 hI hI0 hI1 hI2 rfl (by decide) _ _ _ rfl (hO.alloc _) ⟨wr.heap.size, 0, none⟩ 1 1 [.int .i64 ((k : Nat) : Int)] rfl rfl (cell_one_new _ _ _) ?d2 ?d3 ?d4 ?d5 ?_)
        case d2 => first | (intro u hu; simp at hu; subst hu; rfl) | rfl
        case d3 => unfold maxLen; omega
        case d4 => omega
        case d5 => have := HX.out.2.2.2.2.size; simp; omega
        intro v5 w5 hown5 hgrow5 _ hat5
        obtain ⟨a5, c5, rfl⟩ := ownsRow_slice hown5
        have hs2 := HX.out.2.2.2.2.size
        have kk := al wr (.cells #[.int .i64 ((k : Nat) : Int)] 3)
        have HY : Hid (w5.ownsRow w2.heap.size 3 1 (.slice a5 (p + 1) c5) (p + 1) (nums64 (l ++ [k])) ∧ Below w2.heap.size w2 w5) := ⟨by rw [nums64_snoc]; exact hown5, below_grown_own (HX.out.2.2.2.2.trans (kk.mono hs2)) (hO.alloc _) (Nat.le_trans hs2 kk.size) hgrow5⟩
        clear hown5 hgrow5 hat5 hO kk
        go_wp2_with fail
        go_roundw
        case rel => exact ⟨k + 1, p + 1, l ++ [k], a5, c5, by go_num, by omega, by omega, rfl, ⟨by rw [List.length_append, HX.out.1]; rfl, HZ.out.1, HZ.out.2, HY.out.1, HY.out.2⟩⟩
        case measure => simp [intOf]; omega
    · obtain rfl : k = D.n := by omega
      have HBW := Lib.hid (H2.out.1.keep HX.out.2.2.2.2)
      have HFw := Lib.hid (fun (W' : World) (h : Below wr.heap.size wr W') => HFin.out W' (HX.out.2.2.2.2.trans (h.mono HX.out.2.2.2.2.size)))
      have hww : Hid (w.heap.size ≤ wr.heap.size) := Nat.le_trans hw2.out HX.out.2.2.2.2.size
      have HSo : Hid (∀ W', Below wr.heap.size wr W' → Below wr.heap.size wr W' ∧ DBx W' b0 D ∧ W'.cell? ⟨b0, 256, none⟩ = some (.slice D.aN D.n D.cN)) := fun W' h => ⟨h, HBW.out.keep h, (HBW.out.keep h).f1⟩
      go_upto_region 10 with fail
      refine wp_region_held_drew (S := fun W' => Below wr.heap.size wr W' ∧ DBx W' b0 D ∧ W'.cell? ⟨b0, 256, none⟩ = some (.slice D.aN D.n D.cN)) (by kernel_rfl) (HSo.out _ (Below.refl _ _).drew) (fun hHeld => ?_)
      (refine wpAnyH_take (i := 0) (oi := ?_) (v := ?_) ?_ (by kernel_rfl) (by kernel_rfl) (by kernel_rfl) ?_ (Or.inl ⟨?_, ?_⟩) (by assumption) ?_; rotate_left 2; (focus ((simp only [List.getElem?_toArray, List.getElem?_cons_zero]); first | done | rfl)); (focus (exact fun _ _ _ h => h)); (focus rfl); (focus (intro wz hSw; (try dsimp only at hSw); go_simp; first | done | with_reducible rfl)); try simp only [Act.put, List.setIfInBounds_toArray, List.set_cons_zero, List.set_cons_succ])
      (refine wpAnyH_take (i := 1) (oi := ?_) (v := ?_) ?_ (by kernel_rfl) (by kernel_rfl) (by kernel_rfl) ?_ (Or.inl ⟨?_, ?_⟩) (by assumption) ?_; rotate_left 2; (focus ((simp only [List.getElem?_toArray, List.getElem?_cons_succ, List.getElem?_cons_zero]); first | done | rfl)); (focus (exact fun _ _ _ h => h)); (focus rfl); (focus (intro wz hSw; (try dsimp only at hSw); go_simp; first | done | with_reducible rfl)); try simp only [Act.put, List.setIfInBounds_toArray, List.set_cons_zero, List.set_cons_succ])
      (refine wpAnyH_take (i := 2) (oi := ?_) (v := ?_) ?_ (by kernel_rfl) (by kernel_rfl) (by kernel_rfl) ?_ (Or.inl ⟨?_, ?_⟩) (by assumption) ?_; rotate_left 2; (focus ((simp only [List.getElem?_toArray, List.getElem?_cons_succ, List.getElem?_cons_zero]); first | done | rfl)); (focus (exact fun _ _ _ h => h)); (focus rfl); (focus (intro wz hSw; (try dsimp only at hSw); go_simp; first | done | with_reducible rfl)); try simp only [Act.put, List.setIfInBounds_toArray, List.set_cons_zero, List.set_cons_succ])
      (refine wpAnyH_take (i := 3) (oi := ?_) (v := .agg D.cD) ?_ (by kernel_rfl) (by kernel_rfl) (by kernel_rfl) ?_ (Or.inl ⟨?_, ?_⟩) (by assumption) ?_; rotate_left; (focus ((simp only [List.getElem?_toArray, List.getElem?_cons_succ, List.getElem?_cons_zero]); first | done | rfl)); (focus (exact fun _ _ _ h => h)); (focus rfl); (focus (intro wz hSw; exact exec_load_any9 (o := _) (ρ := _) wz 26 (.tmp 1) rfl ⟨b0, 0, none⟩ rfl D.cD _ (DBx.st (And.left (And.right hSw))).part Try.underlying26 rfl (DBx.dm (And.left (And.right hSw))).info)); try simp only [Act.put, List.setIfInBounds_toArray, List.set_cons_zero, List.set_cons_succ])
      (refine wpAnyH_take (i := 5) (oi := ?_) (v := ?_) ?_ (by kernel_rfl) (by kernel_rfl) (by kernel_rfl) ?_ (Or.inl ⟨?_, ?_⟩) (by assumption) ?_; rotate_left 2; (focus ((simp only [List.getElem?_toArray, List.getElem?_cons_succ, List.getElem?_cons_zero]); first | done | rfl)); (focus (exact fun _ _ _ h => h)); (focus rfl); (focus (intro wz hSw; (try dsimp only at hSw); go_simp; first | done | with_reducible rfl)); try simp only [Act.put, List.setIfInBounds_toArray, List.set_cons_zero, List.set_cons_succ])
      refine wpAnyH_ready (rs := [4]) (by kernel_rfl) (by simp) ?_
      refine AllReadyH.cons (o := ?_) ?_ (fun K hK => ?_) ?_
      rotate_left
      (focus ((simp only [List.getElem?_toArray, List.getElem?_cons_succ, List.getElem?_cons_zero]); first | done | rfl))
      · skip
        go_simp
        go_at_call 64
        refine (sources_any D C _ hHeld.2.1.dm HB.out.2.2).mono ?_
        rintro e w5 ⟨gS, AS, CS, tg, rfl, hS5, hSr, b5⟩
        have hB5 : Below wr.heap.size wr w5 := hHeld.1.trans (b5.mono hHeld.1.size)
        clear b5
        try go_wp2_with fail
        refine hK.out _ _ (HSo.out _ hB5) (fun hHeld => ?_)
        clear hK K
        try simp only [Act.put, List.setIfInBounds_toArray, List.set_cons_zero, List.set_cons_succ]
        refine wpAnyH_ready (rs := [6]) (by kernel_rfl) (by simp) ?_
        refine AllReadyH.cons (o := ?_) ?_ (fun K hK => ?_) ?_
        rotate_left
        (focus ((simp only [List.getElem?_toArray, List.getElem?_cons_succ, List.getElem?_cons_zero]); first | done | rfl))
        · skip
          go_simp
          go_at_call 63
          refine (walk_any D.n D.n (some ⟨gS, 0, none⟩) AS CS (fun i => (tg i).length) (fun i c => (((tg i).getD c 0 : Nat) : Int)) l a p c (by omega) (fun i hi => by have := src_len hSr i hi; omega) (fun i c hi hc => src_lt hSr i c hi hc) HX.out.1 HX.out.2.1 (fun x hx => ((HX.out.2.2.1 x).1 hx).1) w5 hS5 (LAt.below (own_lat HX.out.2.2.2.1 HX.out.1) hB5) (fun h => own_none HX.out.2.2.2.1 h) (fun ad h => own_spot HX.out.2.2.2.1 h)).mono ?_
          rintro e w7 ⟨l9, i, ad, c9, rfl, ho7, hl3, hl1, hin, hl2, b7⟩
          have hbn : Below wr.heap.size wr w7 := hB5.trans (b7.mono hB5.size)
          have HW7 := Lib.hid (And.intro ho7 hbn)
          clear ho7 b7
          try go_wp2_with fail
          refine hK.out _ _ (HSo.out _ hbn) (fun hHeld => ?_)
          clear hK K hbn
          try simp only [Act.put, List.setIfInBounds_toArray, List.set_cons_zero, List.set_cons_succ]
          refine wpAnyH_ready (rs := [7]) (by kernel_rfl) (by simp) ?_
          refine AllReadyH.cons (o := ?_) ?_ (fun K hK => ?_) ?_
          rotate_left
          (focus ((simp only [List.getElem?_toArray, List.getElem?_cons_succ, List.getElem?_cons_zero]); first | done | rfl))
          · skip
            go_simp
            go_at_call 62
            refine (flags_any D.n l9 ad i c9 hl1 (by omega) (by omega) hl2 _ (own_lat HW7.out.1 hl1)).mono ?_
            rintro e w8 ⟨f8, a8, c8, rfl, ho8, hf8, b8⟩
            have hbn : Below wr.heap.size wr w8 := HW7.out.2.trans (b8.mono HW7.out.2.size)
            have hsz7 := HW7.out.2.size
            have HF : Hid (BlPost D.n (Alv D) w (.returned (.slice a8 D.n c8)) w8) := ⟨f8, a8, c8, rfl, ownsRow_base ho8 (Nat.le_trans hww.out hsz7), fun x hx => by
              rw [hf8 x hx]
              show x ∈ l9 ↔ _
              rw [hl3, wkN_mem _ _ (by rw [← hl3]; exact hl1)]
              exact src_alv HB.out.2.2 hSr (fun y => HX.out.2.2.1 y) x hx, HFw.out _ hbn⟩
            clear ho8 hf8 b8
            try go_wp2_with fail
            refine hK.out _ _ (HSo.out _ hbn) (fun hHeld => ?_)
            clear hK K hbn
            try simp only [Act.put, List.setIfInBounds_toArray, List.set_cons_zero, List.set_cons_succ]
            (refine wpAnyH_take (i := 8) (oi := ?_) (v := ?_) ?_ (by kernel_rfl) (by kernel_rfl) (by kernel_rfl) ?_ (Or.inl ⟨?_, ?_⟩) (by assumption) ?_; rotate_left 2; (focus ((simp only [List.getElem?_toArray, List.getElem?_cons_succ, List.getElem?_cons_zero]); first | done | rfl)); (focus (exact fun _ _ _ h => h)); (focus rfl); (focus (intro wz hSw; (try dsimp only at hSw); go_simp; first | done | with_reducible rfl)); try simp only [Act.put, List.setIfInBounds_toArray, List.set_cons_zero, List.set_cons_succ])
            refine wpAnyH_done (by kernel_rfl) ?_ _
            clear hHeld
            go_wp2_with fail
            go_ret
            exact HF.out
          exact AllReadyH.nil
        exact AllReadyH.nil
      exact AllReadyH.nil
end Go.Proofs.Ytldpmcgkbdejjaa
