import Derived.Test.YthidhkaeebakjaaNUMath
import Derived.Test.YthidhkaeebakjaaNNarrow
import Derived.Laws.CopyOwn
namespace Go.Proofs.Ythidhkaeebakjaa
open Go.RowKit
set_option linter.unusedVariables false
set_option linter.unusedSimpArgs false

/-- copy of elements of several cells that fills a row. -/
theorem run_copy_full (P : Program) (w : World) (dT sT ty elem : TypeId) (size : Nat) (g n dCap sCap : Nat) (sp : Option Addr) (cur : Array Value) (t : TypeId) (cs : List Value)
    (hu : P.underlying dT = some (.slice elem)) (hs : (P.info? elem).map (·.size) = some size)
    (hg : w.heap[g]? = some (.cells cur t (0, 0))) (hn : cs.length = n * size) (hcur : cur.size = cs.length)
    (hsrc : 0 < n → ∃ ad, sp = some ad ∧ ∀ j v, cs[j]? = some v → w.cell? (ad.add j) = some v) (h1 : ∀ v ∈ cs, v.oneCell' = true) :
    (Builtin.copy_ #[dT, sT] ty #[.slice (some ⟨g, 0, none⟩) n dCap, .slice sp n sCap]).run P w = .ok (goInt n) (w.setRow g cs.toArray) := by
  have hst := run_storeCells_at P g 0 t cs 0 cur w hg (by omega) h1
  have hst2 : (cur.toList.take (0 + 0) ++ cs ++ cur.toList.drop (0 + 0 + cs.length)).toArray = cs.toArray := by
    rw [List.drop_eq_nil_of_le (by simp [hcur])]
    simp
  rw [hst2] at hst
  cases hq : P.info? elem with
  | none => simp [hq] at hs
  | some i =>
    have hi : i.size = size := by simpa [hq] using hs
    have hmin : Nat.min n n = n := Nat.min_self n
    match sp, hsrc with
    | some a, hsrc =>
      have hl : (loadCells a (n * size)).run P w = .ok cs.toArray w := by
        by_cases h0 : 0 < n
        · obtain ⟨ad, e, hsrc⟩ := hsrc h0
          injection e with e
          subst e
          rw [← hn]
          exact run_loadCells_list (P := P) w a cs hsrc
        · obtain rfl : n = 0 := by omega
          have : cs = [] := List.eq_nil_of_length_eq_zero (by omega)
          subst this
          have := run_loadCells_list (P := P) w a [] (by simp)
          simpa using this
      simp [Builtin.copy_, run_underlying hu, Builtin.lenOf, Builtin.firstCells, sizeOf, typeInfo, hq, hi, hmin, hl, hst]
    | none, hsrc =>
      obtain rfl : n = 0 := by
        by_cases h0 : 0 < n
        · obtain ⟨ad, e, _⟩ := hsrc h0
          cases e
        · omega
      have : cs = [] := List.eq_nil_of_length_eq_zero (by omega)
      subst this
      simp [Builtin.copy_, run_underlying hu, Builtin.lenOf, Builtin.firstCells, sizeOf, typeInfo, hq, hi, hst]
theorem wpList_copy_full {P : Program} {w : World} {ops : Array Oper} {rest : List Oper} {o : Oper} {a : Act} {Q : Exit → Act → World → Prop} (hgd : o.guard = none) (d s : Operand) (dT sT : TypeId)
    (ho : o.op = .call { callee := .builtin .copy, args := #[d, s], argTypes := #[dT, sT] }) (elem : TypeId) (size : Nat) (hu : P.underlying dT = some (.slice elem)) (hsz : (P.info? elem).map (·.size) = some size)
    (g n dCap sCap : Nat) (sp : Option Addr) (hd : a.eval d = .slice (some ⟨g, 0, none⟩) n dCap) (hs : a.eval s = .slice sp n sCap)
    (cur : Array Value) (t : TypeId) (hg : w.heap[g]? = some (.cells cur t (0, 0))) (cs : List Value) (hn : cs.length = n * size) (hcur : cur.size = cs.length)
    (hsrc : 0 < n → ∃ ad, sp = some ad ∧ ∀ j v, cs[j]? = some v → w.cell? (ad.add j) = some v) (h1 : ∀ v ∈ cs, v.oneCell' = true)
    (h : wpList P ops Q rest (a.put o.dst (goInt n)) (w.setRow g cs.toArray)) : wpList P ops Q (o :: rest) a w := by
  refine wpList_plain hgd fun K hK => ?_
  have hrun := run_copy_full P w dT sT o.type elem size g n dCap sCap sp cur t cs hu hsz hg hn hcur hsrc h1
  unfold Oper.wp
  simp [execOp, ho, resolve, invoke, builtin, hd, hs, hrun, Result.andThen]
  exact hK _ _ h

/-- A row that fills its block. -/
theorem own_full {w : World} {base e g n size : Nat} {xs : List Value} (h : w.ownsRow base e size (.slice (some ⟨g, 0, none⟩) n n) n xs) : w.heap[g]? = some (.cells xs.toArray e (0, 0)) ∧ base ≤ g ∧ n ≤ maxLen ∧ xs.length = n * size := by
  rcases h.2 with ⟨h1, _⟩ | ⟨g', cap, cur, h1, h2, h3, h4, h5, h6, h7⟩
  · cases h1
  · injection h1 with e1 _ e3
    injection e1 with e1
    injection e1 with e1
    subst e1 e3
    have e : cur = xs.toArray := by
      apply Array.toList_inj.1
      rw [← h7, List.take_of_length_le (by simp [h6])]
    subst e
    exact ⟨h3, h2, h5, by simpa using h6⟩
/-- .. with other cells. -/
theorem own_refill {w : World} {base e g n size : Nat} {xs ys : List Value} (h : w.ownsRow base e size (.slice (some ⟨g, 0, none⟩) n n) n xs) (hy : ys.length = n * size) : (w.setRow g ys.toArray).ownsRow base e size (.slice (some ⟨g, 0, none⟩) n n) n ys := by
  obtain ⟨h1, h2, h3, h4⟩ := own_full h
  exact ⟨hy, Or.inr ⟨g, n, ys.toArray, rfl, h2, setRow_heap w g _ _ e _ h1, Nat.le_refl _, h3, by simpa using hy, by rw [List.take_of_length_le (by simp [hy])]⟩⟩
/-- A cell of a row turns. -/
theorem own_putn {w : World} {base e g n c size : Nat} {xs : List Value} (h : w.ownsRow base e size (.slice (some ⟨g, 0, none⟩) n c) n xs) (j : Nat) (hj : j < n * size) (u : Value) : (w.setCell ⟨g, j, none⟩ u).ownsRow base e size (.slice (some ⟨g, 0, none⟩) n c) n (xs.set j u) := by
  refine ⟨by rw [List.length_set]; exact h.1, ?_⟩
  rcases h.2 with ⟨h1, _⟩ | ⟨g', cap, cur, h1, h2, h3, h4, h5, h6, h7⟩
  · cases h1
  · injection h1 with e1 _ e3
    injection e1 with e1
    injection e1 with e1
    subst e1 e3
    refine Or.inr ⟨g, c, cur.setIfInBounds j u, rfl, h2, heap_setCell_same w g j cur e u h3, h4, h5, by simpa using h6, ?_⟩
    rw [Array.toList_setIfInBounds, ← h7]
    rw [List.take_set]
theorem egs_one (l : List Eg) : ∀ v ∈ egs l, v.oneCell' = true := by
  intro v hv
  simp only [egs, List.mem_flatMap] at hv
  obtain ⟨x, _, hx⟩ := hv
  simp only [egCells, List.mem_cons, List.not_mem_nil, or_false] at hx
  rcases hx with rfl | rfl | rfl | rfl | rfl | rfl | rfl <;> rfl
theorem egs_set (l : List Eg) (i : Nat) (x : Eg) (h : i < l.length) (hp : x.p = l[i].p) (hb : x.b = l[i].b) : egs (l.set i x) = ((egs l).set (i * 7) (.int .i64 x.f)).set (i * 7 + 1) (.int .i64 x.t) := by
  induction l generalizing i with
  | nil => simp at h
  | cons y l ih =>
    match i, h, hp, hb with
    | 0, _, hp, hb =>
      simp only [List.getElem_cons_zero] at hp hb
      simp [egs, egCells, hp, hb]
    | i + 1, h, hp, hb =>
      have := ih i (by simpa using h) (by simpa using hp) (by simpa using hb)
      show egCells y ++ egs (l.set i x) = _
      rw [this]
      show _ = List.set (List.set (egCells y ++ egs l) ((i + 1) * 7) _) ((i + 1) * 7 + 1) _
      rw [show (i + 1) * 7 = i * 7 + 7 by omega]
      simp [egCells]
/-- The first k edges are moved. -/
def mx (o : Nat) (L : List En) (k : Nat) : List En := (L.take k).map (En.by o) ++ L.drop k
theorem mx_len (o : Nat) (L : List En) (k : Nat) : (mx o L k).length = L.length := by simp [mx]; omega
theorem mx_at (o : Nat) (L : List En) (k : Nat) (h : k < L.length) : (mx o L k)[k]'(by rw [mx_len]; exact h) = L[k] := by
  unfold mx
  rw [List.getElem_append_right (by simp; omega)]
  simp [Nat.min_eq_left (Nat.le_of_lt h)]
theorem mx_set (o : Nat) (L : List En) (k : Nat) (h : k < L.length) : (mx o L k).set k (L[k].by o) = mx o L (k + 1) := by
  have hl : ((L.take k).map (En.by o)).length = k := by simp; omega
  have h1 : (mx o L k).set k (L[k].by o) = (L.take k).map (En.by o) ++ (L.drop k).set 0 (L[k].by o) := by
    unfold mx
    rw [List.set_append_right _ _ (by omega), hl, Nat.sub_self]
  rw [h1, List.drop_eq_getElem_cons h, List.set_cons_zero]
  unfold mx
  rw [List.take_succ_eq_append_getElem h, List.map_append, List.append_assoc]
  rfl
end Go.Proofs.Ythidhkaeebakjaa
