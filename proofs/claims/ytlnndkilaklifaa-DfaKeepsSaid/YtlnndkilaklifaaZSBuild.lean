import Derived.Test.YtlnndkilaklifaaZSNetE
namespace Go.Proofs.Ytlnndkilaklifaa
open Go.RowKit Go.Maps Go.WideElems Go.ChangeMaps Go.MapKept
set_option linter.unusedVariables false
set_option linter.unusedSimpArgs false

/-- Cells are put into others. -/
def putAt (cells vs : Array Value) (off : Nat) : Array Value := vs.zipIdx.foldl (fun cs (c, j) => cs.setIfInBounds (off + j) c) cells
theorem putL (l : List Value) (off : Nat) : ∀ (k : Nat) (cells : Array Value), ((l.zipIdx k).foldl (fun (cs : Array Value) (x : Value × Nat) => cs.setIfInBounds (off + x.2) x.1) cells).size = cells.size ∧
    ∀ i, ((l.zipIdx k).foldl (fun (cs : Array Value) (x : Value × Nat) => cs.setIfInBounds (off + x.2) x.1) cells)[i]? = if off + k ≤ i ∧ i < off + k + l.length ∧ i < cells.size then l[i - (off + k)]? else cells[i]? := by
  induction l with
  | nil => intro k cells; exact ⟨rfl, fun i => by rw [if_neg (by simp; omega)]; rfl⟩
  | cons v l ih =>
    intro k cells
    rw [List.zipIdx_cons, List.foldl_cons]
    obtain ⟨h1, h2⟩ := ih (k + 1) (cells.setIfInBounds (off + k) v)
    refine ⟨by rw [h1]; simp, fun i => ?_⟩
    rw [h2 i, Array.size_setIfInBounds]
    by_cases e : i = off + k
    · subst e
      rw [if_neg (by omega)]
      by_cases hlt : off + k < cells.size
      · rw [if_pos ⟨Nat.le_refl _, by simp, hlt⟩, Array.getElem?_setIfInBounds_self_of_lt hlt]
        simp
      · rw [if_neg (by omega), Array.getElem?_eq_none_iff.2 (by simp; omega), Array.getElem?_eq_none_iff.2 (by omega)]
    · by_cases hc : off + (k + 1) ≤ i ∧ i < off + (k + 1) + l.length ∧ i < cells.size
      · rw [if_pos hc, if_pos ⟨by omega, by simp; omega, hc.2.2⟩]
        have : i - (off + k) = (i - (off + (k + 1))) + 1 := by omega
        rw [this, List.getElem?_cons_succ]
      · rw [if_neg hc, Array.getElem?_setIfInBounds_ne (by omega)]
        rw [if_neg (by simp only [List.length_cons]; omega)]
theorem putAt_get (cells vs : Array Value) (off : Nat) (h : off + vs.size ≤ cells.size) : (putAt cells vs off).size = cells.size ∧ ∀ i, (putAt cells vs off)[i]? = if off ≤ i ∧ i < off + vs.size then vs[i - off]? else cells[i]? := by
  have e : putAt cells vs off = (vs.toList.zipIdx 0).foldl (fun (cs : Array Value) (x : Value × Nat) => cs.setIfInBounds (off + x.2) x.1) cells := by
    unfold putAt
    rw [← Array.foldl_toList, Array.toList_zipIdx]
  obtain ⟨h1, h2⟩ := putL vs.toList off 0 cells
  rw [e]
  refine ⟨h1, fun i => ?_⟩
  rw [h2 i, Nat.add_zero]
  by_cases hc : off ≤ i ∧ i < off + vs.size
  · rw [if_pos hc, if_pos ⟨hc.1, by simpa using hc.2, by omega⟩, Array.getElem?_toList]
  · rw [if_neg hc, if_neg (fun h3 => hc ⟨h3.1, by simpa using h3.2.1⟩)]
theorem fill_put (place : Nat → Option (Nat × Nat)) (cells : Array Value) (i off size : Nat) (v : Value) (rest : List (Nat × Value)) (hp : place i = some (off, size)) (hv : v.cells.size = size) (hs : off + size ≤ cells.size) :
    Instr.fill place cells ((i, v) :: rest) = Instr.fill place (putAt cells v.cells off) rest := by
  rw [Instr.fill, hp]
  simp only [hv]
  rw [if_neg (by simp; omega)]
  rfl
/-- The zero of a type, in cells. -/
noncomputable def zC (t : TypeId) : Array Value := match Try.prog.info? t with
  | some it => match it.zero with | some z => z.cells | none => #[]
  | none => #[]
theorem zNet_size : (zC 88).size = 260 := by kernel_rfl
theorem zNet_tail : (zC 88)[256]? = some (.int .i64 0) ∧ (zC 88)[257]? = some (.slice none 0 0) ∧ (zC 88)[258]? = some (.slice none 0 0) ∧ (zC 88)[259]? = some (.slice none 0 0) := ⟨by kernel_rfl, by kernel_rfl, by kernel_rfl, by kernel_rfl⟩
theorem net_built (csA : Array Value) (hs : csA.size = 256) : ∃ cN : Array Value, cN.size = 260 ∧ (∀ j, j < 256 → cN[j]? = csA[j]?) ∧ cN[256]? = some (.int .i64 0) ∧ cN[257]? = some (.slice none 0 0) ∧ cN[258]? = some (.slice none 0 0) ∧ cN[259]? = some (.slice none 0 0) ∧
    ∀ W, (Instr.build 88 #[(0, .agg csA)]).run Try.prog W = .ok (.agg cN) W := by
  have e : Try.prog.built 88 [(0, .agg csA)] = Instr.fill (fun i => #[(0, 256), (256, 1), (257, 1), (258, 1), (259, 1)][i]?) (zC 88) [(0, .agg csA)] := by kernel_rfl
  have hz := zNet_size
  obtain ⟨p1, p2⟩ := putAt_get (zC 88) csA 0 (by rw [hz]; omega)
  rw [fill_put _ _ 0 0 256 (.agg csA) [] (by rfl) hs (by rw [hz]; omega)] at e
  obtain ⟨z0, z1, z2, z3⟩ := zNet_tail
  refine ⟨putAt (zC 88) csA 0, by rw [p1, hz], fun j hj => by rw [p2, if_pos ⟨by omega, by omega⟩]; rfl, ?_, ?_, ?_, ?_, fun W => run_build W _ _ _ e⟩
  · rw [p2, if_neg (by omega), z0]
  · rw [p2, if_neg (by omega), z1]
  · rw [p2, if_neg (by omega), z2]
  · rw [p2, if_neg (by omega), z3]
theorem zDfa_size : (zC 30).size = 258 := by kernel_rfl
theorem zDfa_tail : (zC 30)[256]? = some (.slice none 0 0) ∧ (zC 30)[257]? = some (.slice none 0 0) := ⟨by kernel_rfl, by kernel_rfl⟩
theorem zMk_size : (zC 93).size = 263 := by kernel_rfl
theorem zMk_tail : (zC 93)[259]? = some (.slice none 0 0) ∧ (zC 93)[262]? = some (.slice none 0 0) := ⟨by kernel_rfl, by kernel_rfl⟩
/-- The maker's making. -/
theorem mk_built (csA : Array Value) (hs : csA.size = 256) : ∃ cD : Array Value, cD.size = 258 ∧ (∀ W, (Instr.build 30 #[(0, .agg csA)]).run Try.prog W = .ok (.agg cD) W) ∧
    ∀ (bn bM gI m : Nat), ∃ cK : Array Value, cK.size = 263 ∧ cK[0]? = some (.pointer (some ⟨bn, 0, none⟩)) ∧ (∀ j, j < 256 → cK[1 + j]? = csA[j]?) ∧ cK[257]? = some (.slice none 0 0) ∧ cK[258]? = some (.slice none 0 0) ∧ cK[259]? = some (.slice none 0 0) ∧ cK[260]? = some (.map (some bM)) ∧ cK[261]? = some (.slice (some ⟨gI, 0, none⟩) m m) ∧ cK[262]? = some (.slice none 0 0) ∧
    ∀ W, (Instr.build 93 #[(0, .pointer (some ⟨bn, 0, none⟩)), (1, .agg cD), (3, .map (some bM)), (4, .slice (some ⟨gI, 0, none⟩) m m)]).run Try.prog W = .ok (.agg cK) W := by
  have e : Try.prog.built 30 [(0, .agg csA)] = Instr.fill (fun i => #[(0, 256), (256, 1), (257, 1)][i]?) (zC 30) [(0, .agg csA)] := by kernel_rfl
  have hz := zDfa_size
  obtain ⟨p1, p2⟩ := putAt_get (zC 30) csA 0 (by rw [hz]; omega)
  rw [fill_put _ _ 0 0 256 (.agg csA) [] (by rfl) hs (by rw [hz]; omega)] at e
  obtain ⟨d1, d2⟩ := zDfa_tail
  refine ⟨putAt (zC 30) csA 0, by rw [p1, hz], fun W => run_build W _ _ _ e, ?_⟩
  have q1 : ∀ j, j < 256 → (putAt (zC 30) csA 0)[j]? = csA[j]? := fun j hj => by rw [p2, if_pos ⟨by omega, by omega⟩]; rfl
  have q2 : (putAt (zC 30) csA 0)[256]? = some (.slice none 0 0) := by rw [p2, if_neg (by omega), d1]
  have q3 : (putAt (zC 30) csA 0)[257]? = some (.slice none 0 0) := by rw [p2, if_neg (by omega), d2]
  have q4 : (putAt (zC 30) csA 0).size = 258 := by rw [p1, hz]
  generalize putAt (zC 30) csA 0 = cD at q1 q2 q3 q4 ⊢
  intro bn bM gI m
  have e2 : Try.prog.built 93 [(0, .pointer (some ⟨bn, 0, none⟩)), (1, .agg cD), (3, .map (some bM)), (4, .slice (some ⟨gI, 0, none⟩) m m)] = Instr.fill (fun i => #[(0, 1), (1, 258), (259, 1), (260, 1), (261, 1), (262, 1)][i]?) (zC 93) [(0, .pointer (some ⟨bn, 0, none⟩)), (1, .agg cD), (3, .map (some bM)), (4, .slice (some ⟨gI, 0, none⟩) m m)] := by kernel_rfl
  have hk := zMk_size
  obtain ⟨k1, k2⟩ := zMk_tail
  obtain ⟨a1, a2⟩ := putAt_get (zC 93) #[.pointer (some ⟨bn, 0, none⟩)] 0 (by rw [hk]; simp)
  rw [fill_put _ _ 0 0 1 (.pointer (some ⟨bn, 0, none⟩)) _ (by rfl) (by rfl) (by rw [hk]; omega)] at e2
  rw [show (Value.pointer (some ⟨bn, 0, none⟩)).cells = #[.pointer (some ⟨bn, 0, none⟩)] from rfl] at e2
  generalize putAt (zC 93) #[.pointer (some ⟨bn, 0, none⟩)] 0 = c1 at a1 a2 e2
  obtain ⟨b1, b2⟩ := putAt_get c1 cD 1 (by rw [a1, hk, q4]; omega)
  rw [fill_put _ _ 1 1 258 (.agg cD) _ (by rfl) q4 (by rw [a1, hk]; omega)] at e2
  rw [show (Value.agg cD).cells = cD from rfl] at e2
  generalize putAt c1 cD 1 = c2 at b1 b2 e2
  obtain ⟨f1, f2⟩ := putAt_get c2 #[.map (some bM)] 260 (by rw [b1, a1, hk]; simp)
  rw [fill_put _ _ 3 260 1 (.map (some bM)) _ (by rfl) (by rfl) (by rw [b1, a1, hk]; omega)] at e2
  rw [show (Value.map (some bM)).cells = #[.map (some bM)] from rfl] at e2
  generalize putAt c2 #[.map (some bM)] 260 = c3 at f1 f2 e2
  obtain ⟨g1, g2⟩ := putAt_get c3 #[.slice (some ⟨gI, 0, none⟩) m m] 261 (by rw [f1, b1, a1, hk]; simp)
  rw [fill_put _ _ 4 261 1 (.slice (some ⟨gI, 0, none⟩) m m) _ (by rfl) (by rfl) (by rw [f1, b1, a1, hk]; omega)] at e2
  rw [show (Value.slice (some ⟨gI, 0, none⟩) m m).cells = #[.slice (some ⟨gI, 0, none⟩) m m] from rfl] at e2
  generalize putAt c3 #[.slice (some ⟨gI, 0, none⟩) m m] 261 = c4 at g1 g2 e2
  rw [q4] at b2
  simp only [List.size_toArray, List.length_cons, List.length_nil] at a2 f2 g2
  refine ⟨c4, by rw [g1, f1, b1, a1, hk], ?_, fun j hj => ?_, ?_, ?_, ?_, ?_, ?_, ?_, fun W => run_build W _ _ _ e2⟩
  · rw [g2, if_neg (by omega), f2, if_neg (by omega), b2, if_neg (by omega), a2, if_pos (by omega)]; rfl
  · rw [g2, if_neg (by omega), f2, if_neg (by omega), b2, if_pos (by omega)]
    have : 1 + j - 1 = j := by omega
    rw [this, q1 j hj]
  · rw [g2, if_neg (by omega), f2, if_neg (by omega), b2, if_pos (by omega)]; exact q2
  · rw [g2, if_neg (by omega), f2, if_neg (by omega), b2, if_pos (by omega)]; exact q3
  · rw [g2, if_neg (by omega), f2, if_neg (by omega), b2, if_neg (by omega), a2, if_neg (by omega), k1]
  · rw [g2, if_neg (by omega), f2, if_pos (by omega)]; rfl
  · rw [g2, if_pos (by omega)]; rfl
  · rw [g2, if_neg (by omega), f2, if_neg (by omega), b2, if_neg (by omega), a2, if_neg (by omega), k2]
/-- A value is built, by a law of one's own. -/
theorem wpList_build9 {P : Program} {ops : Array Oper} {rest : List Oper} {o : Oper} {a : Act} {w : World} {Q : Exit → Act → World → Prop} (hgd : o.guard = none) (t : TypeId) (parts : Array (Nat × Operand)) (ho : o.op = .build t parts) (ps : Array (Nat × Value)) (hp : (parts.map fun (i, x) => (i, a.eval x)) = ps) (v : Value)
    (hb : (Instr.build t ps).run P w = .ok v w) (h : wpList P ops Q rest (a.put o.dst v) w) : wpList P ops Q (o :: rest) a w :=
  wpList_plain hgd fun _ hK => by
    unfold Oper.wp execOp
    simp only [ho, hp, Sem.run_bind, hb, Result.andThen_ok]
    exact hK _ _ h
theorem step_build9 {P : Program} {ops : Array Oper} {o : Oper} {a : Act} {w : World} {K : Act → World → Prop} {Q : Exit → Act → World → Prop} {E : Prop} (hgd : o.guard = none) (t : TypeId) (parts : Array (Nat × Operand)) (ho : o.op = .build t parts) (ps : Array (Nat × Value)) (hp : (parts.map fun (i, x) => (i, a.eval x)) = ps) (v : Value)
    (hb : (Instr.build t ps).run P w = .ok v w) (h : K (a.put o.dst v) w) : if Region.wanted o (yielded ops a.tmps) = true then Oper.wp P o a w K Q else E := by
  have hw : Region.wanted o (yielded ops a.tmps) = true := by simp [Region.wanted, hgd]
  rw [if_pos hw]
  unfold Oper.wp execOp
  simp only [ho, hp, Sem.run_bind, hb, Result.andThen_ok]
  exact h
end Go.Proofs.Ytlnndkilaklifaa
