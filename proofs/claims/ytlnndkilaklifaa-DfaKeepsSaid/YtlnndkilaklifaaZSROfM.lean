import Derived.Test.YtlnndkilaklifaaZNRRun
import Derived.Test.YtlnndkilaklifaaZSAlike
import Derived.Test.YtlnndkilaklifaaZSReps
import Derived.BigQuiet
import Derived.Deep.QuietTactic
import Derived.Maps.AppendAt
import Derived.Deep.RegionWith
namespace Go.Proofs.Ytlnndkilaklifaa
open Go.RowKit Go.Maps Go.WideElems Go.ChangeMaps Go.MapKept
set_option linter.unusedVariables false
set_option linter.unusedSimpArgs false

/-- A row is put behind. -/
theorem GridOw.pushRow {w w' : World} {B ts te sz M : Nat} {v v' u : Value} {vs : Nat → Value} {len : Nat → Nat} {xs : Nat → List Value} (h : GridOw w B ts te sz v M vs len xs) (ht : te ≠ ts) (hu : w.ownsRow B te sz u (len M) (xs M)) (hs : ∀ i, i < M → ∀ b, (vs i).ownBlock = some b → u.ownBlock ≠ some b)
    (ho : w'.ownsRow B ts 1 v' (M + 1) ((List.range M).map vs ++ [u])) (hg : w.grownBy w' v.ownBlock) : GridOw w' B ts te sz v' (M + 1) (fun j => if j = M then u else vs j) len xs := by
  refine ⟨?_, fun i hi => ?_, fun i j hi hj hij b => ?_⟩
  · have e : (List.range (M + 1)).map (fun j => if j = M then u else vs j) = (List.range M).map vs ++ [u] := by
      rw [List.range_succ, List.map_append]
      congr 1
      · refine List.map_congr_left fun j hj => ?_
        have : j < M := by simpa using hj
        rw [if_neg (by omega)]
      · simp
    rw [e]
    exact ho
  · by_cases e : i = M
    · subst e
      simp only [if_pos rfl]
      exact own_grown hu hg (fun b e1 e2 => own_kinds hu h.own ht b e1 e2.symm)
    · simp only [if_neg e]
      exact own_grown (h.row i (by omega)) hg (fun b e1 e2 => own_kinds (h.row i (by omega)) h.own ht b e1 e2.symm)
  · by_cases e1 : i = M
    · by_cases e2 : j = M
      · omega
      · simp only [if_pos e1, if_neg e2]
        intro e3 e4
        exact hs j (by omega) b e4 e3
    · by_cases e2 : j = M
      · simp only [if_neg e1, if_pos e2]
        exact hs i (by omega) b
      · simp only [if_neg e1, if_neg e2]
        exact h.sep i j (by omega) (by omega) hij b

set_option maxHeartbeats 1000000 in
set_option maxRecDepth 100000 in
theorem rsame06_any (n c1 c2 : Nat) (a1 a2 : Option Addr) (f g : Nat → Bool) (hn : n ≤ 1000000) (w : World) (h1 : BAt w a1 n f) (h2 : BAt w a2 n g) :
    Calls Try.prog 22 #[.slice a1 n c1, .slice a2 n c2] w (TruPost (∀ x, x < n → f x = g x) w) := by
  have H := Lib.hid (And.intro h1 h2)
  clear h1 h2
  go_enter Try.func22, Try.ntmps22
  go_wp2_with fail
  go_loopw [5] (fun v wr => ∃ k : Nat, v = .int .i64 k ∧ k ≤ n ∧ Hid (Below w.heap.size w wr ∧ ∀ x, x < k → f x = g x)) (fun v _ => n - (intOf v).toNat)
  case atStart => exact ⟨0, rfl, Nat.zero_le _, Below.refl _ _, fun x hx => by omega⟩
  case round =>
    obtain ⟨k, rfl, hk, HL⟩ := hrel
    by_cases hlt : k < n
    · obtain ⟨g1, o1, rfl, _, q1⟩ := (H.out.1.below HL.out.1) (by omega)
      obtain ⟨g2, o2, rfl, _, q2⟩ := (H.out.2.below HL.out.1) (by omega)
      have d1 := q1 k hlt
      have d2 := q2 k hlt
      have i1 : (k : Int) < (n : Int) := by omega
      have HS : Hid (f k = g k → ∀ x, x < k + 1 → f x = g x) := fun h x hx => by
        by_cases e : x = k
        · rw [e]; exact h
        · exact HL.out.2 x (by omega)
      have HB := Lib.hid HL.out.1
      have HN : Hid (f k ≠ g k → ¬ ∀ x, x < n → f x = g x) := fun h h2 => h (h2 k hlt)
      generalize f k = x1 at d1 HS HN
      generalize g k = x2 at d2 HS HN
      clear q1 q2
      rcases x1 with _ | _ <;> rcases x2 with _ | _
      · have HZ := Lib.hid (HS.out rfl)
        go_wp2_with fail
        go_quiet (fail)
        go_wp2_with fail
        go_roundw
        case rel => exact ⟨k + 1, by go_num, by omega, below_drewN HB.out _, HZ.out⟩
        case measure => simp [intOf]; omega
      · have HZ := Lib.hid (HN.out (by decide))
        go_wp2_with fail
        go_quiet (fail)
        go_wp2_with fail
        go_ret
        exact ⟨false, rfl, ⟨(fun h => by cases h), (fun h => absurd h HZ.out)⟩, below_drewN HB.out _⟩
      · have HZ := Lib.hid (HN.out (by decide))
        go_wp2_with fail
        go_quiet (fail)
        go_wp2_with fail
        go_ret
        exact ⟨false, rfl, ⟨(fun h => by cases h), (fun h => absurd h HZ.out)⟩, below_drewN HB.out _⟩
      · have HZ := Lib.hid (HS.out rfl)
        go_wp2_with fail
        go_quiet (fail)
        go_wp2_with fail
        go_roundw
        case rel => exact ⟨k + 1, by go_num, by omega, below_drewN HB.out _, HZ.out⟩
        case measure => simp [intOf]; omega
    · obtain rfl : k = n := by omega
      go_wp2_with fail
      go_ret
      exact ⟨true, rfl, ⟨(fun _ => HL.out.2), (fun _ => rfl)⟩, HL.out.1⟩
end Go.Proofs.Ytlnndkilaklifaa

namespace Go.Proofs.Ytlnndkilaklifaa
open Go.RowKit Go.Maps Go.WideElems Go.ChangeMaps Go.MapKept
set_option linter.unusedVariables false
set_option linter.unusedSimpArgs false

theorem ints_snoc9 (l : List Int) (x : Int) : ints (l ++ [x]) = ints l ++ [.int .i64 x] := by simp [ints]
theorem ints_len9 (l : List Int) : (ints l).length = l.length := by simp [ints]
theorem own_lt9 {w : World} {B t s n : Nat} {v : Value} {xs : List Value} (ho : w.ownsRow B t s v n xs) : ∀ g, v.ownBlock = some g → g < w.heap.size := fun g e => by
  obtain ⟨c, fz, hc⟩ := own_kind ho g e
  exact (Array.getElem?_eq_some_iff.1 hc).1
def noF : Nat → Bool := fun _ => false
/-- What the reference's Of holds: rows of truths, rows of places, marks, the row under way; z parts the row's block from the elder ones. -/
structure RoAt (W0 : World) (z N C : Nat) (rp : List Nat) (vP vR : Value) (SS : List (Nat → Bool)) (vs : Nat → Value) (vN : Value) (R : List (List Int)) (ws : Nat → Value) (vO : Value) (ms : List Int) (vW : Value) (row : List Int) (w : World) : Prop where
  bel : Below W0.heap.size W0 w
  rows : GridOw w W0.heap.size 49 4 1 vR SS.length vs (fun _ => N) (fun j => bls (SS.getD j noF) N)
  next : GridOw w W0.heap.size 25 3 1 vN R.length ws (fun _ => C) (fun j => ints (R.getD j []))
  reps : w.ownsRow W0.heap.size 3 1 vP rp.length (nums64 rp)
  out : w.ownsRow W0.heap.size 3 1 vO ms.length (ints ms)
  row : w.ownsRow z 3 1 vW row.length (ints row)
  sepO : ∀ i, i < R.length → ∀ b, (ws i).ownBlock = some b → vO.ownBlock ≠ some b
  sepP : ∀ b, vP.ownBlock = some b → vO.ownBlock ≠ some b
  ltO : ∀ b, vO.ownBlock = some b → b < z
  ltP : ∀ b, vP.ownBlock = some b → b < z
  ltN : ∀ i, i < R.length → ∀ b, (ws i).ownBlock = some b → b < z
  hz : W0.heap.size ≤ z ∧ z ≤ w.heap.size
section
variable {W0 : World} {z N C : Nat} {rp : List Nat} {vP vR : Value} {SS : List (Nat → Bool)} {vs : Nat → Value} {vN : Value} {R : List (List Int)} {ws : Nat → Value} {vO : Value} {ms : List Int} {vW : Value} {row : List Int} {w : World}
theorem RoAt.keep {w1 : World} (h : RoAt W0 z N C rp vP vR SS vs vN R ws vO ms vW row w) (k : Below w.heap.size w w1) : RoAt W0 z N C rp vP vR SS vs vN R ws vO ms vW row w1 :=
  ⟨h.bel.trans (k.mono h.bel.size), h.rows.keep k, h.next.keep k, ownsRow_keep h.reps k, ownsRow_keep h.out k, ownsRow_keep h.row k, h.sepO, h.sepP, h.ltO, h.ltP, h.ltN, h.hz.1, by have := k.size; have := h.hz.2; omega⟩
theorem GridOw.grown9 {w w' : World} {B ts te sz M : Nat} {v : Value} {vs : Nat → Value} {len : Nat → Nat} {xs : Nat → List Value} {b : Option Nat} (h : GridOw w B ts te sz v M vs len xs) (hg : w.grownBy w' b) (h1 : ∀ g, v.ownBlock = some g → some g ≠ b) (h2 : ∀ i, i < M → ∀ g, (vs i).ownBlock = some g → some g ≠ b) : GridOw w' B ts te sz v M vs len xs :=
  ⟨own_grown h.own hg h1, fun i hi => own_grown (h.row i hi) hg (h2 i hi), h.sep⟩
/-- A mark is put behind. -/
theorem RoAt.mark {w' : World} {vO' : Value} {m : Int} {q : Nat} (h : RoAt W0 z N C rp vP vR SS vs vN R ws vO ms vW row w) (hq : ms.length = q)
    (ho : w'.ownsRow W0.heap.size 3 1 vO' (q + 1) (ints ms ++ [.int .i64 m])) (hg : w.grownBy w' vO.ownBlock) (hat : vO'.ownBlock = vO.ownBlock ∨ vO'.ownBlock = some w.heap.size) :
    RoAt W0 w'.heap.size N C rp vP vR SS vs vN R ws vO' (ms ++ [m]) (.slice none 0 0) [] w' := by
  subst hq
  have hs := hg.size
  have hz := h.hz
  have new : ∀ {g : Nat}, g < w.heap.size → vO.ownBlock ≠ some g → vO'.ownBlock ≠ some g := fun {g} hlt hne => by
    rcases hat with e | e
    · rw [e]; exact hne
    · rw [e]; intro e2; simp at e2; omega
  refine ⟨below_grown_own h.bel h.out h.bel.size hg, ?_, ?_, own_grown h.reps hg (fun b e e2 => h.sepP b e e2.symm), ?_, World.ownsRow_nil _ _ _ _, fun i hi b e => new (own_lt9 (h.next.row i hi) b e) (h.sepO i hi b e), fun b e => new (own_lt9 h.reps b e) (h.sepP b e), fun b e => own_lt9 ho b e, fun b e => by have := h.ltP b e; omega, fun i hi b e => by have := h.ltN i hi b e; omega, by omega, Nat.le_refl _⟩
  · exact h.rows.grown9 hg (fun g e e2 => own_kinds h.rows.own h.out (by decide) g e e2.symm) (fun i hi g e e2 => own_kinds (h.rows.row i hi) h.out (by decide) g e e2.symm)
  · exact h.next.grown9 hg (fun g e e2 => own_kinds h.next.own h.out (by decide) g e e2.symm) (fun i hi g e e2 => h.sepO i hi g e e2.symm)
  · rw [ints_snoc9, List.length_append]
    exact ho
/-- A place is put behind the row. -/
theorem RoAt.place {w' : World} {vW' : Value} {m : Int} {q : Nat} (h : RoAt W0 z N C rp vP vR SS vs vN R ws vO ms vW row w) (hq : row.length = q)
    (ho : w'.ownsRow z 3 1 vW' (q + 1) (ints row ++ [.int .i64 m])) (hg : w.grownBy w' vW.ownBlock) :
    RoAt W0 z N C rp vP vR SS vs vN R ws vO ms vW' (row ++ [m]) w' := by
  subst hq
  have hs := hg.size
  have hz := h.hz
  have far : ∀ {g : Nat}, g < z → some g ≠ vW.ownBlock := fun {g} hlt e => by have := own_above h.row g e.symm; omega
  refine ⟨below_grown_own h.bel (ownsRow_base h.row hz.1) h.bel.size hg, ?_, ?_, own_grown h.reps hg (fun b e => far (h.ltP b e)), own_grown h.out hg (fun b e => far (h.ltO b e)), ?_, h.sepO, h.sepP, h.ltO, h.ltP, h.ltN, hz.1, by omega⟩
  · exact h.rows.grown9 hg (fun g e e2 => own_kinds h.rows.own h.row (by decide) g e e2.symm) (fun i hi g e e2 => own_kinds (h.rows.row i hi) h.row (by decide) g e e2.symm)
  · exact h.next.grown9 hg (fun g e e2 => own_kinds h.next.own h.row (by decide) g e e2.symm) (fun i hi g e => far (h.ltN i hi g e))
  · rw [ints_snoc9, List.length_append]
    exact ho
/-- A set is put behind. -/
theorem RoAt.set {w' : World} {vR' u : Value} {f : Nat → Bool} {q : Nat} (h : RoAt W0 z N C rp vP vR SS vs vN R ws vO ms vW row w) (hq : SS.length = q)
    (hu : w.ownsRow W0.heap.size 4 1 u N (bls f N)) (hs : ∀ i, i < SS.length → ∀ b, (vs i).ownBlock = some b → u.ownBlock ≠ some b)
    (ho : w'.ownsRow W0.heap.size 49 1 vR' (q + 1) ((List.range q).map vs ++ [u])) (hg : w.grownBy w' vR.ownBlock) :
    RoAt W0 z N C rp vP vR' (SS ++ [f]) (fun j => if j = q then u else vs j) vN R ws vO ms vW row w' := by
  subst hq
  have hsz := hg.size
  have hz := h.hz
  refine ⟨below_grown_own h.bel h.rows.own h.bel.size hg, ?_, ?_, own_grown h.reps hg (fun b e e2 => own_kinds h.reps h.rows.own (by decide) b e e2.symm), own_grown h.out hg (fun b e e2 => own_kinds h.out h.rows.own (by decide) b e e2.symm), own_grown h.row hg (fun b e e2 => own_kinds h.row h.rows.own (by decide) b e e2.symm), h.sepO, h.sepP, h.ltO, h.ltP, h.ltN, hz.1, by omega⟩
  · have h1 : GridOw w W0.heap.size 49 4 1 vR SS.length vs (fun _ => N) (fun j => bls ((SS ++ [f]).getD j noF) N) := h.rows.congr (fun i hi => ⟨rfl, by simp [List.getD_eq_getElem?_getD, List.getElem?_append_left hi]⟩)
    have h2 := h1.pushRow (v' := vR') (u := u) (w' := w') (by decide) (by simpa [List.getD_eq_getElem?_getD] using hu) hs ho hg
    rw [List.length_append]
    exact h2
  · exact h.next.grown9 hg (fun g e e2 => own_kinds h.next.own h.rows.own (by decide) g e e2.symm) (fun i hi g e e2 => own_kinds (h.next.row i hi) h.rows.own (by decide) g e e2.symm)
/-- A row is put behind. -/
theorem RoAt.done {w' : World} {vN' : Value} {q : Nat} (h : RoAt W0 z N C rp vP vR SS vs vN R ws vO ms vW row w) (hC : row.length = C) (hq : R.length = q)
    (ho : w'.ownsRow W0.heap.size 25 1 vN' (q + 1) ((List.range q).map ws ++ [vW])) (hg : w.grownBy w' vN.ownBlock) :
    RoAt W0 w'.heap.size N C rp vP vR SS vs vN' (R ++ [row]) (fun j => if j = q then vW else ws j) vO ms (.slice none 0 0) [] w' := by
  subst hq
  have hsz := hg.size
  have hz := h.hz
  have far : ∀ {g : Nat}, g < z → vW.ownBlock ≠ some g := fun {g} hlt e => by have := own_above h.row g e; omega
  have lt := own_lt9 h.row
  refine ⟨below_grown_own h.bel h.next.own h.bel.size hg, ?_, ?_, own_grown h.reps hg (fun b e e2 => own_kinds h.reps h.next.own (by decide) b e e2.symm), own_grown h.out hg (fun b e e2 => own_kinds h.out h.next.own (by decide) b e e2.symm), World.ownsRow_nil _ _ _ _, fun i hi b e => ?_, h.sepP, fun b e => by have := h.ltO b e; omega, fun b e => by have := h.ltP b e; omega, fun i hi b e => ?_, by omega, Nat.le_refl _⟩
  · exact h.rows.grown9 hg (fun g e e2 => own_kinds h.rows.own h.next.own (by decide) g e e2.symm) (fun i hi g e e2 => own_kinds (h.rows.row i hi) h.next.own (by decide) g e e2.symm)
  · have h1 : GridOw w W0.heap.size 25 3 1 vN R.length ws (fun _ => C) (fun j => ints ((R ++ [row]).getD j [])) := h.next.congr (fun i hi => ⟨rfl, by simp [List.getD_eq_getElem?_getD, List.getElem?_append_left hi]⟩)
    have h2 := h1.pushRow (v' := vN') (u := vW) (w' := w') (by decide) (by rw [← hC]; simpa [List.getD_eq_getElem?_getD] using ownsRow_base h.row hz.1) (fun i hi b e => far (h.ltN i hi b e)) ho hg
    rw [List.length_append]
    exact h2
  · intro e2
    by_cases e1 : i = R.length
    · rw [if_pos e1] at e
      exact far (h.ltO b e2) e
    · rw [if_neg e1] at e
      exact h.sepO i (by simp at hi; omega) b e e2
  · by_cases e1 : i = R.length
    · rw [if_pos e1] at e
      have := lt b e
      omega
    · rw [if_neg e1] at e
      have := h.ltN i (by simp at hi; omega) b e
      omega
/-- A row's cell. -/
theorem RoAt.rowCell {aR : Option Addr} {q cR : Nat} (h : RoAt W0 z N C rp vP (.slice aR q cR) SS vs vN R ws vO ms vW row w) (hq : SS.length = q) (i : Nat) (hi : i < q) :
    ∃ gR ai ci, aR = some ⟨gR, 0, none⟩ ∧ w.cell? ⟨gR, i, none⟩ = some (.slice ai N ci) ∧ BAt w ai N (SS.getD i noF) := by
  subst hq
  obtain ⟨gR, rfl, _, _, hc⟩ := ownsRow_read h.rows.own (by omega)
  obtain ⟨ai, ci, e⟩ := ownsRow_slice (h.rows.row i hi)
  have hr := h.rows.row i hi
  rw [e] at hr
  refine ⟨gR, ai, ci, rfl, ?_, bls_at hr⟩
  rw [(hc i (by omega)).1]
  simp [hi, e]
theorem RoAt.repCell {aP : Option Addr} {q cP : Nat} (h : RoAt W0 z N C rp (.slice aP q cP) vR SS vs vN R ws vO ms vW row w) (hq : rp.length = q) (i : Nat) (hi : i < q) :
    ∃ gP, aP = some ⟨gP, 0, none⟩ ∧ w.cell? ⟨gP, i, none⟩ = some (.int .i64 ((rp.getD i 0 : Nat) : Int)) := by
  subst hq
  obtain ⟨gP, rfl, _, _, hc⟩ := ownsRow_read h.reps (by omega)
  refine ⟨gP, rfl, ?_⟩
  rw [(hc i (by omega)).1, nums64_get _ i hi]
  simp [List.getD_eq_getElem?_getD, hi]
end
end Go.Proofs.Ytlnndkilaklifaa

namespace Go.Proofs.Ytlnndkilaklifaa
open Go.RowKit Go.Maps Go.WideElems Go.ChangeMaps Go.MapKept
set_option linter.unusedVariables false
set_option linter.unusedSimpArgs false

theorem Try.info_bools9 : (Try.prog.info? 49).map (fun i => (i.zero, i.size, i.bytes)) = some (some (.slice none 0 0), 1, 24) := by kernel_rfl
/-- The reference's run, at its row i. -/
structure RoM (L : List En) (N F : Nat) (mf : Nat → Int) (s0 : Nat → Bool) (i s : Nat) (SS : List (Nat → Bool)) (R : List (List Int)) (ms : List Int) : Prop where
  ls : SS.length = s
  lR : R.length = i
  lm : ms.length = i
  st : ∀ x, s0 x = true ↔ FR L (fun y => y = F) x
  run : RunD N (rl (KOf L) 256).length (TTo L N (rpO (KOf L))) [s0] i R SS
  lst : ∀ j (h : j < SS.length) (h2 : j < ms.length), Least mf (fun x => x < N ∧ SS[j] x = true) ms[j]
/-- A set is looked for. -/
def Fnd (N : Nat) (SS : List (Nat → Bool)) (f : Nat → Bool) (r : Int) (j : Nat) : Prop :=
  (r = -1 ∧ ∀ i (h : i < SS.length), i < j → ¬ ∀ x, x < N → SS[i] x = f x) ∨ ((∃ x, x < N ∧ f x = true) ∧ ∃ (p : Nat) (h : p < SS.length), r = ((p : Nat) : Int) ∧ ∀ x, x < N → SS[p] x = f x)
theorem Fnd.next {N : Nat} {SS : List (Nat → Bool)} {f : Nat → Bool} {j : Nat} (h : Fnd N SS f (-1) j) (hj : j < SS.length) (hn : ¬ ∀ x, x < N → SS[j] x = f x) : Fnd N SS f (-1) (j + 1) := by
  rcases h with ⟨_, h⟩ | ⟨_, p, _, e, _⟩
  · refine Or.inl ⟨rfl, fun i hi hij => ?_⟩
    by_cases e : i = j
    · subst e; exact hn
    · exact h i hi (by omega)
  · omega
/-- What is found is added. -/
theorem Fnd.has {N : Nat} {SS : List (Nat → Bool)} {f : Nat → Bool} {r : Int} {j : Nat} {S : Nat → Prop} (h : Fnd N SS f r j) (h0 : 0 ≤ r) (hf : ∀ x, x < N → (f x = true ↔ S x)) : Add1 N S SS r SS := by
  rcases h with ⟨e, _⟩ | ⟨⟨x, hx, hfx⟩, p, hp, e, hq⟩
  · omega
  · exact Or.inr ⟨⟨x, hx, (hf x hx).1 hfx⟩, p, e, ⟨hp, fun y hy => by rw [hq y hy]; exact hf y hy⟩, Or.inl rfl⟩
theorem Fnd.none {N : Nat} {SS : List (Nat → Bool)} {f : Nat → Bool} {S : Nat → Prop} (hn : ¬ ∃ x, x < N ∧ f x = true) (hf : ∀ x, x < N → (f x = true ↔ S x)) : Add1 N S SS (-1) SS :=
  Or.inl ⟨fun x hx hS => hn ⟨x, hx, (hf x hx).2 hS⟩, rfl, rfl⟩
theorem Fnd.add {N : Nat} {SS : List (Nat → Bool)} {f : Nat → Bool} {q : Nat} {S : Nat → Prop} (h : Fnd N SS f (-1) q) (hq : SS.length = q) (he : ∃ x, x < N ∧ f x = true) (hf : ∀ x, x < N → (f x = true ↔ S x)) : Add1 N S SS ((q : Nat) : Int) (SS ++ [f]) := by
  subst hq
  obtain ⟨x, hx, hfx⟩ := he
  rcases h with ⟨_, h⟩ | ⟨_, p, _, e, _⟩
  · refine Or.inr ⟨⟨x, hx, (hf x hx).1 hfx⟩, SS.length, rfl, ⟨by simp, fun y hy => by rw [List.getElem_concat_length rfl]; exact hf y hy⟩, Or.inr ⟨f, rfl, rfl, fun i hi => ?_⟩⟩
    refine Classical.byContradiction fun hne => h i hi hi fun y hy => Classical.byContradiction fun hn => hne ⟨y, hy, hn⟩
  · omega
theorem Fnd.neg {N : Nat} {SS : List (Nat → Bool)} {f : Nat → Bool} {r : Int} {j : Nat} (h : Fnd N SS f r j) (hn : ¬ ∃ x, x < N ∧ f x = true) : r = -1 := by
  rcases h with ⟨e, _⟩ | ⟨h1, _⟩
  · exact e
  · exact absurd h1 hn
def RofPost (L : List En) (N F : Nat) (mf : Nat → Int) (w : World) (e : Ending) (w' : World) : Prop :=
  Below w.heap.size w w' ∧ (e = .returned (.tuple #[.slice none 0 0, .slice none 0 0]) ∨ ∃ (aN aO : Option Addr) (cN cO k s B : Nat) (R : List (List Int)) (SS : List (Nat → Bool)) (ws : Nat → Value) (ms : List Int) (s0 : Nat → Bool),
    e = .returned (.tuple #[.slice aN k cN, .slice aO k cO]) ∧ 0 < k ∧ k ≤ 300 ∧ RoM L N F mf s0 k k SS R ms ∧ GridOw w' B 25 3 1 (.slice aN k cN) k ws (fun _ => (rl (KOf L) 256).length) (fun j => ints (R.getD j [])) ∧ w'.ownsRow B 3 1 (.slice aO k cO) k (ints ms))
theorem RoM.start {L : List En} {N F : Nat} {mf : Nat → Int} {s0 : Nat → Bool} (h : ∀ x, s0 x = true ↔ FR L (fun y => y = F) x) : RoM L N F mf s0 0 1 [s0] [] [] :=
  ⟨rfl, rfl, rfl, h, .zero, fun j h h2 => by simp at h2⟩
theorem RoM.step {L : List En} {N F : Nat} {mf : Nat → Int} {s0 : Nat → Bool} {i s s2 : Nat} {SS SS2 : List (Nat → Bool)} {R : List (List Int)} {ms : List Int} (h : RoM L N F mf s0 i s SS R ms) (hi : i < s) {row : List Int} {r : Int} (hr : Least mf (fun x => x < N ∧ SS.getD i noF x = true) r)
    (hd : RowD N (TTo L N (rpO (KOf L)) (SS.getD i noF)) SS (rl (KOf L) 256).length row SS2) (h2 : SS2.length = s2) : RoM L N F mf s0 (i + 1) s2 SS2 (R ++ [row]) (ms ++ [r]) := by
  have hl : i < SS.length := by rw [h.ls]; exact hi
  have e1 : SS.getD i noF = SS[i] := by simp [List.getD_eq_getElem?_getD, hl]
  rw [e1] at hr hd
  refine ⟨h2, by simp [h.lR], by simp [h.lm], h.st, .succ h.run hl hd, fun j hj hj2 => ?_⟩
  have hp := hd.pre
  by_cases e : j < ms.length
  · have hj3 : j < SS.length := by rw [h.lm] at e; omega
    rw [List.getElem_append_left e, ← hp.getElem hj3]
    exact h.lst j hj3 e
  · have e3 : j = ms.length := by simp at hj2; omega
    have e2 : j = i := by rw [e3, h.lm]
    subst e2
    rw [← hp.getElem hl]
    have e4 : (ms ++ [r])[j]'hj2 = r := by simp [e3]
    rw [e4]
    exact hr
end Go.Proofs.Ytlnndkilaklifaa

namespace Go.Proofs.Ytlnndkilaklifaa
open Go.RowKit Go.Maps Go.WideElems Go.ChangeMaps Go.MapKept
set_option linter.unusedVariables false
set_option linter.unusedSimpArgs false

/-- The bytes that stand for their classes stand for themselves. -/
theorem rl_fst (K : Nat → Lit) (k : Nat) : ∀ x ∈ rl K k, fst K x = x := by
  induction k with
  | zero => intro x hx; simp [rl] at hx
  | succ k ih =>
    intro x hx
    by_cases e : fst K k = k
    · rw [(rl_rep K k).1 e] at hx
      rcases List.mem_append.1 hx with h | h
      · exact ih x h
      · rw [List.mem_singleton.1 h]; exact e
    · rw [(rl_rep K k).2 e] at hx
      exact ih x hx
theorem rpO_fst (K : Nat → Lit) (b : Nat) (hb : b < 256) : rpO K (cls K b) = fst K b := by
  obtain ⟨h1, h2⟩ := rep_key K b hb
  have e : rpO K (cls K b) ∈ rl K 256 := by
    unfold rpO
    simp only [List.getD_eq_getElem?_getD, List.getElem?_eq_getElem h1, Option.getD_some]
    exact List.getElem_mem h1
  rw [← rl_fst K 256 _ e]
  exact (fst_same K b _ h2).symm
def slA : Value → Option Addr
  | .slice a _ _ => a
  | _ => none
def slC : Value → Nat
  | .slice _ _ c => c
  | _ => 0
/-- Rows of numbers that were built, as they are read. -/
theorem GridOw.zs {w : World} {B k c C : Nat} {a : Option Addr} {ws : Nat → Value} {R : List (List Int)} (h : GridOw w B 25 3 1 (.slice a k c) k ws (fun _ => C) (fun j => ints (R.getD j []))) (hk : R.length = k) (hl : ∀ r ∈ R, r.length = C) :
    ZsAt w a k (fun i => slA (ws i)) (fun i => slC (ws i)) (fun _ => C) (fun i x => (R.getD i []).getD x 0) := by
  intro h0
  obtain ⟨g, rfl, _, hg, hc⟩ := ownsRow_read h.own h0
  refine ⟨g, 0, rfl, hg, fun i hi => ?_⟩
  obtain ⟨ai, ci, e⟩ := ownsRow_slice (h.row i hi)
  have hr := h.row i hi
  refine ⟨?_, fun h1 => ?_⟩
  · rw [Nat.zero_add, (hc i (by omega)).1]
    simp [hi, e, slA, slC]
  · rw [e] at hr
    obtain ⟨g2, e2, _, hg2, hc2⟩ := ownsRow_read hr h1
    refine ⟨g2, 0, by simp [e, slA, e2], hg2, fun j hj => ?_⟩
    rw [Nat.zero_add, (hc2 j (by simpa using hj)).1]
    have hi2 : i < R.length := by omega
    have hj2 : j < R[i].length := by rw [hl _ (List.getElem_mem hi2)]; exact hj
    simp [ints, List.getD_eq_getElem?_getD, hi2, hj2]
theorem own_zat {w : World} {B n c : Nat} {a : Option Addr} {l : List Int} (h : w.ownsRow B 3 1 (.slice a n c) n (ints l)) (hl : l.length = n) : ZAt w a n (fun i => l.getD i 0) := by
  intro h0
  obtain ⟨g, rfl, _, hg, hc⟩ := ownsRow_read h h0
  refine ⟨g, 0, rfl, hg, fun j hj => ?_⟩
  rw [Nat.zero_add, (hc j (by omega)).1]
  have hj2 : j < l.length := by omega
  simp [ints, List.getD_eq_getElem?_getD, hj2]
/-- The reference's run is a making. -/
theorem RoM.made {L : List En} {N F T : Nat} {mf : Nat → Int} {s0 : Nat → Bool} {i s : Nat} {SS : List (Nat → Bool)} {R : List (List Int)} {ms : List Int} (hO : Ok L N F T) (h : RoM L N F mf s0 i s SS R ms) : MadeW L F (List.range N) L F s0 i R SS := by
  refine ⟨?_, List.nodup_range, fun e he => by simpa using hO.e e he, by simp [hO.f], fun x _ => h.st x, by simpa only [List.length_range] using h.run⟩
  have e1 : ∀ e ∈ L, En.ren (List.range N) e = e := fun e he => by
    obtain ⟨h1, h2⟩ := hO.e e he
    cases e
    simp only [En.ren, List.getD_eq_getElem?_getD] at h1 h2 ⊢
    simp [h1, h2]
  rw [List.map_congr_left e1, List.map_id']
theorem byN_range {N : Nat} {f : Nat → Bool} (x : Nat) : ByN (List.range N) f x ↔ x < N ∧ f x = true := by
  constructor
  · rintro ⟨i, ⟨h1, h2⟩, h3⟩
    have h4 : i < N := by simpa using h1
    have : i = x := by rw [← h3]; simp [List.getD_eq_getElem?_getD, h4]
    subst this
    exact ⟨h4, h2⟩
  · rintro ⟨h1, h2⟩
    exact ⟨x, ⟨by simpa using h1, h2⟩, by simp [List.getD_eq_getElem?_getD, h1]⟩
/-- The answer is the reference's. -/
theorem alt_ref {mf : Nat → Int} {L : List En} {N F T f1 k1 k2 : Nat} {nm1 : List Nat} {L1 : List En} {s1 s2 : Nat → Bool} {R1 R2 : List (List Int)} {SS1 SS2 : List (Nat → Bool)} {ms2 : List Int} {W : World} {cD : Array Value} {er : Int} (hO : Ok L N F T) (h1 : MadeW L F nm1 L1 f1 s1 k1 R1 SS1)
    (a1 : Alt mf nm1 L k1 R1 SS1 W cD er) (h2 : RoM L N F mf s2 k2 k2 SS2 R2 ms2) (hk2 : k2 ≤ 300) : er = 0 ∧ ∃ ms, DfaAt W cD (KOf L) R2 ms (rl (KOf L) 256).length ∧ ms.length = k2 ∧ ∀ x, x < k2 → ms.getD x 0 = ms2.getD x 0 := by
  have g2 := h2.made hO
  have big : 2000 < SS1.length → False := fun hb => by
    have hS2 := h2.ls
    by_cases e : k1 ≤ k2
    · obtain ⟨R3, S3, g3, g4, _⟩ := h2.run.cut k1 e
      have hs := (made_side h1 g2 h1.run (by simpa only [List.length_range] using g3)).2.1
      have := g4.length_le
      omega
    · obtain ⟨R3, S3, g3, _, g5⟩ := h1.run.cut k2 (by omega)
      have hs := (made_side h1 g2 g3 g2.run).2.1
      have := g5 (by omega)
      omega
  rcases a1 with ⟨_, hb, _⟩ | ⟨e1, hk1, hk1', ms1, D1, ml1, lm1⟩
  · exact (big hb).elim
  · have hS2 := h2.ls
    have hk : k1 = k2 := by
      refine Classical.byContradiction fun hne => ?_
      by_cases e : k1 < k2
      · obtain ⟨R3, S3, g3, _, g5⟩ := h2.run.cut k1 (by omega)
        have hs := (made_side h1 g2 h1.run (by simpa only [List.length_range] using g3)).2.1
        have := g5 e
        omega
      · obtain ⟨R3, S3, g3, _, g5⟩ := h1.run.cut k2 (by omega)
        have hs := (made_side h1 g2 g3 g2.run).2.1
        have := g5 (by omega)
        omega
    subst hk
    obtain ⟨hR, hside⟩ := made_side h1 g2 h1.run g2.run
    subst hR
    refine ⟨e1, ms1, D1, ml1, fun x hx => ?_⟩
    have hlm := h2.lm
    have x1 : x < ms1.length := by omega
    have x2 : x < ms2.length := by omega
    have q1 := Least.nam h1.nd (byN_nam nm1 SS1[x]) (lm1 x (by omega) x1)
    have q2 := h2.lst x (by omega) x2
    have := q1.uniq (q2.congr (fun y => by rw [hside.2 x (by omega) (by omega) y, byN_range]))
    simpa [List.getD_eq_getElem?_getD, x1, x2] using this
end Go.Proofs.Ytlnndkilaklifaa
