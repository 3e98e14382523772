import Derived.Test.YtkdhdlokilgccaaZDOutAll
import Derived.Maps.RangeWalk
namespace Go.Proofs.Ytkdhdlokilgccaa
open Go.RowKit Go.Maps Go.WideElems Go.ChangeMaps Go.MapKept
set_option linter.unusedVariables false

/-! ### A walk through the map of a tree -/
/-- The walk has come by the tails V. -/
def Vis (w : World) (H bL r M : Nat) (f : Nat → Option (List Nat)) (V : List Nat) : Prop :=
  LgAt w H bL M f ∧ (∃ es clock, w.heap[bL]? = some (.map es clock) ∧ es.size = M) ∧ V.Nodup ∧ (∀ k, k ∈ V → ∃ l, f k = some l) ∧
    ∃ (D : DataW Value) (left : Lit → Bool) (cnt : Nat), w.ranges Try.prog 3 anyR bL r M D left cnt ∧ (∀ k, k ∈ V → left (.int .i64 ((k : Nat) : Int)) = false) ∧ ∀ (k : Nat) (l : List Nat), f k = some l → k ∉ V → left (.int .i64 ((k : Nat) : Int)) = true
/-- How many entries a tree's map has, and that all of them are told. -/
theorem LgAt.exact {w : World} {H bL n : Nat} {f : Nat → Option (List Nat)} (h : LgAt w H bL n f) : ∃ M, M ≤ n ∧ LgAt w H bL M f ∧ ∃ es clock, w.heap[bL]? = some (.map es clock) ∧ es.size = M := by
  obtain ⟨es, clock, hb, F, hs, rest⟩ := h
  exact ⟨es.size, hs, ⟨es, clock, hb, F, Nat.le_refl _, rest⟩, es, clock, hb, rfl⟩
/-- All that have come by are as many as there are. -/
theorem Vis.count {w : World} {H bL r M : Nat} {f : Nat → Option (List Nat)} {V : List Nat} (h : Vis w H bL r M f V) (hall : ∀ k l, f k = some l → k ∈ V) : V.length = M := by
  obtain ⟨⟨es, clock, hb, F, hs, hq, ha, _⟩, ⟨es2, clock2, hb2, hsz⟩, hnd, hV, _⟩ := h
  rw [hb] at hb2
  injection Option.some.inj hb2 with e1 e2
  subst e1
  have h1 : (es.toList.map (·.key)).Nodup := F.stamped.2.2
  have h2 : (V.map fun k => Value.int .i64 ((k : Nat) : Int)).Nodup := List.pairwise_map.2 (hnd.imp (fun hne e => hne (key_inj e)))
  have h3 := h1.length_le_of_subset (l₂ := V.map fun k => Value.int .i64 ((k : Nat) : Int)) (fun x hx => by
    obtain ⟨e, he, rfl⟩ := List.mem_map.1 hx
    obtain ⟨k, l, h3, h4, _⟩ := hq e he
    exact List.mem_map.2 ⟨k, hall k l h4, h3.symm⟩)
  have h4 := h2.length_le_of_subset (l₂ := es.toList.map (·.key)) (fun x hx => by
    obtain ⟨k, hk, rfl⟩ := List.mem_map.1 hx
    obtain ⟨l, hl⟩ := hV k hk
    obtain ⟨e, he, hek⟩ := ha k l hl
    exact List.mem_map.2 ⟨e, he, hek⟩)
  simp at h3 h4
  omega
theorem any_rd (e : MapEntry) {kl : Lit} (h : keyOf Try.prog 3 e.key = some kl) : rg Try.prog 3 anyR e = (kl, .held e.val) :=
  WideElems.rg_of (show WideElems.rd Try.prog 3 anyR e = some (kl, .held e.val) by unfold WideElems.rd anyR; rw [h]; rfl)
/-- The walk begins. -/
theorem Vis.start {w w0 : World} {H bL M : Nat} {f : Nat → Option (List Nat)} (h : LgAt w H bL M f) (hb : ∃ es clock, w.heap[bL]? = some (.map es clock) ∧ es.size = M) (hk : ∀ k l, f k = some l → k ≤ 400000) {D : DataW Value} (hown : w.ownsMap Try.prog 3 anyR bL M D)
    (hr : w0.ranges Try.prog 3 anyR bL w.heap.size M D (Maps.has D) (Maps.size D)) (hg : w.grownBy w0 none) : Vis w0 H bL w.heap.size M f [] := by
  have hK : Kept [] [] w w0 := fun i o hi _ _ => (hg.block i (Array.getElem?_eq_some_iff.1 hi).1 (by simp)).trans hi
  have hl0 := h.lt
  refine ⟨h.kept hK (by simp) (by simp), ?_, List.nodup_nil, by simp, D, _, _, hr, by simp, fun k l hf _ => ?_⟩
  · obtain ⟨es, clock, h1, h2⟩ := hb
    exact ⟨es, clock, (hg.block bL hl0 (by simp)).trans h1, h2⟩
  · obtain ⟨es, clock, h1, F, hs, hq, ha, _⟩ := h
    obtain ⟨es2, clock2, h2, F2, _, hD⟩ := hown
    rw [h1] at h2
    injection Option.some.inj h2 with e1 e2
    subst e1
    obtain ⟨e, he, hek⟩ := ha k l hf
    have hkey := int_key k (by have := hk k l hf; omega)
    rw [← hek] at hkey
    subst hD
    exact List.any_eq_true.2 ⟨rg Try.prog 3 anyR e, mem_sorted.2 (List.mem_map.2 ⟨e, he, rfl⟩), by rw [any_rd e hkey]; exact WideAt.sameKey_self trivial⟩
/-- What comes by. -/
theorem Vis.come {w : World} {H bL r M : Nat} {f : Nat → Option (List Nat)} {D : DataW Value} {left : Lit → Bool} {cnt : Nat} (h : LgAt w H bL M f) (hk : ∀ k l, f k = some l → k ≤ 400000) (hr : w.ranges Try.prog 3 anyR bL r M D left cnt)
    {key v : Value} {kl : Lit} {y : DataW Value × List MemPlace} (hkey : keyOf Try.prog 3 key = some kl) (hlk : left kl = true) (hv : anyR v = some y) (hat : ∀ zd, D.atKey kl zd = y.1) :
    ∃ (k : Nat) (l : List Nat), key = .int .i64 ((k : Nat) : Int) ∧ kl = .int .i64 ((k : Nat) : Int) ∧ f k = some l ∧ w.ownsRow H 3 1 v l.length (nums64 l) := by
  obtain ⟨es, clock, h1, F, hs, hq, ha, _⟩ := h
  obtain ⟨es2, clock2, since, seen, c0, h2, F2, _, hD, _, _, _, _, hl2, _⟩ := hr
  rw [h1] at h2
  injection Option.some.inj h2 with e1 e2
  subst e1
  obtain ⟨e, he, hek⟩ := hl2 kl hlk
  obtain ⟨k, l, h3, h4, h5⟩ := hq e he
  have hke := int_key k (by have := hk k l h4; omega)
  have hke' : keyOf Try.prog 3 e.key = some (.int .i64 ((k : Nat) : Int)) := by rw [h3]; exact hke
  rw [any_rd e hke'] at hek
  have hkl : (Lit.int .i64 ((k : Nat) : Int)) = kl := hek
  subst hkl
  obtain ⟨x, hx, hx2, _⟩ := Maps.keyOf_int_inv Try.underlying3 hkey
  injection hx2 with _ hx3
  subst hx3
  have hva := (WideShapes.atKey_sorted (es.toList.map (rg Try.prog 3 anyR)) (Maps.fit_rising law_int F) (.int .i64 ((k : Nat) : Int)) trivial).2 (rg Try.prog 3 anyR e) (List.mem_map.2 ⟨e, he, rfl⟩) (by rw [any_rd e hke']) (.held v)
  rw [← hD, hat, any_rd e hke'] at hva
  have hy : y.1 = .held v := by
    have : some (DataW.held v, ([] : List MemPlace)) = some y := hv
    rw [← Option.some.inj this]
  rw [hy] at hva
  injection hva with hva
  exact ⟨k, l, hx, rfl, h4, by rw [hva]; exact h5⟩
/-- 'range' over a tree's map. -/
theorem tree_range (w : World) {ops : Array Oper} {rest : List Oper} {o : Oper} {a : Act} {Q : Exit → Act → World → Prop} (hg : o.guard = none) (m : Operand) (hop : o.op = Op.range 131 m) {H bL M : Nat} {f : Nat → Option (List Nat)}
    (hm : a.eval m = .map (some bL)) (h : LgAt w H bL M f) (hb : ∃ es clock, w.heap[bL]? = some (.map es clock) ∧ es.size = M) (hk : ∀ k l, f k = some l → k ≤ 400000)
    (hK : ∀ w', Vis w' H bL w.heap.size M f [] → w.grownBy w' none → w'.heap.size = w.heap.size + 1 → wpList Try.prog ops Q rest (a.put o.dst (.pointer (some ⟨w.heap.size, 0, none⟩))) w') :
    wpList Try.prog ops Q (o :: rest) a w := by
  obtain ⟨es, clock, h1, F, hs, hr⟩ := id h
  refine wpList_range_own w hg m _ hop _ _ law_int Try.underlying131 anyR bL M (.map ((es.toList.map (rg Try.prog 3 anyR)).foldr DataW.insert [])) hm ⟨es, clock, h1, F, hs, rfl⟩ (fun w' h2 h3 h4 => ?_)
  exact hK w' (Vis.start h hb hk ⟨es, clock, h1, F, hs, rfl⟩ h2 h3) h3 h4
/-- The walk's step. -/
theorem tree_next (w : World) {ops : Array Oper} {rest : List Oper} {o : Oper} {a : Act} {Q : Exit → Act → World → Prop} (hg : o.guard = none) (it : Operand) (hop : o.op = Op.next it false) {H bL r M : Nat} {f : Nat → Option (List Nat)} {V : List Nat}
    (hit : a.eval it = .pointer (some ⟨r, 0, none⟩)) (h : Vis w H bL r M f V) (hk : ∀ k l, f k = some l → k ≤ 400000)
    (hDone : (∀ k l, f k = some l → k ∈ V) → wpList Try.prog ops Q rest (a.put o.dst (.tuple #[.bool false])) w)
    (hMore : ∀ (k : Nat) (l : List Nat) (p : Option Addr) (c : Nat) (w' : World), f k = some l → k ∉ V → k ≤ 400000 → Vis w' H bL r M f (V ++ [k]) → w'.rangeLeft bL r < w.rangeLeft bL r → w.grownBy w' (some r) → w'.heap.size = w.heap.size →
      (Instr.entry (.pointer (some ⟨r, 0, none⟩))).run Try.prog w' = .ok (.tuple #[.int .i64 ((k : Nat) : Int), .slice p l.length c]) w' → wpList Try.prog ops Q rest (a.put o.dst (.tuple #[.bool true, .int .i64 ((k : Nat) : Int), .slice p l.length c])) w') :
    wpList Try.prog ops Q (o :: rest) a w := by
  obtain ⟨hlg, hex, hnd, hV, D, left, cnt, hr, hin, hout⟩ := h
  refine wpList_next_ranges w hg it hop _ law_int anyR (Value.int .i64) id (fun key kl hkey => by obtain ⟨x, hx, _⟩ := Maps.keyOf_int_inv Try.underlying3 hkey; exact ⟨x, hx⟩) (fun v y _ => ⟨v, rfl⟩) bL r M D left cnt hit hr (fun _ hno => ?_) ?_
  · refine hDone (fun k l hf => Classical.byContradiction fun hkn => ?_)
    have := hout k l hf hkn
    rw [hno] at this
    cases this
  · intro x v kl y w' cnt' hkey hlk hv hat hr' hlt hg' hs' hen
    obtain ⟨k, l, e1, e2, hf, hrow⟩ := Vis.come hlg hk hr hkey hlk hv hat
    injection e1 with _ e1
    subst e1 e2
    obtain ⟨p, c, hvs⟩ := ownsRow_slice hrow
    have hvs' : v = .slice p l.length c := hvs
    subst hvs'
    have hkV : k ∉ V := fun hm => by rw [hin k hm] at hlk; cases hlk
    have hrne := hr.ne
    have hK : Kept [] [r] w w' := fun i o hi _ hb => (hg'.block i (Array.getElem?_eq_some_iff.1 hi).1 (fun e => hb (by injection e with e; simp [e]))).trans hi
    have hbl : w'.heap[bL]? = w.heap[bL]? := hg'.block bL hlg.lt (fun e => by injection e with e; exact hrne e.symm)
    have hiter : ∃ s0 s1 s2, w.heap[r]? = some (.mapIter (some bL) s0 s1 s2) := by
      obtain ⟨_, _, s0, s1, s2, _, _, _, _, h9, _⟩ := hr
      exact ⟨s0, s1, s2, h9⟩
    refine hMore k l p c w' hf hkV (hk k l hf) ⟨hlg.kept hK (by simpa using fun e => hrne e.symm) (fun g c' fz hc hm => ?_), by rw [hbl]; exact hex, ?_, fun j hj => ?_, D, _, cnt', hr', fun j hj => ?_, fun j l' hj hjn => ?_⟩ (by rw [hr'.left_eq, hr.left_eq]; exact hlt) hg' hs' hen
    · rw [List.mem_singleton.1 hm] at hc
      obtain ⟨s0, s1, s2, h9⟩ := hiter
      rw [h9] at hc
      cases hc
    · exact List.nodup_append.2 ⟨hnd, by simp, fun a ha b hb e => by rw [List.mem_singleton.1 hb] at e; exact hkV (e ▸ ha)⟩
    · rcases List.mem_append.1 hj with h | h
      · exact hV j h
      · rw [List.mem_singleton.1 h]; exact ⟨l, hf⟩
    · rcases List.mem_append.1 hj with h | h
      · simp [hin j h]
      · rw [List.mem_singleton.1 h]
        simp [Lit.sameKey]
    · have h1 := hout j l' hj (fun h => hjn (List.mem_append_left _ h))
      have h2 : j ≠ k := fun e => hjn (List.mem_append_right _ (List.mem_singleton.2 e))
      have h3 : (Lit.int .i64 ((j : Nat) : Int)).sameKey (.int .i64 ((k : Nat) : Int)) = false := by
        cases h4 : (Lit.int .i64 ((j : Nat) : Int)).sameKey (.int .i64 ((k : Nat) : Int))
        · rfl
        · have := WideAt.sameKey_eq h4
          obtain ⟨_, h5⟩ := Lit.int.inj this
          exact absurd (by omega) h2
      simp [h1, h3]

/-! ### How many pieces that makes -/
noncomputable def gp (E : List Ex) (T : List Tl) (f : Nat → Option (List Nat)) (ll : List Nat) (n : Nat) : Nat := (if n = 0 then 0 else hsz E T n) + optv f ll n
theorem sum_over (N : Nat) (V : List Nat) (hnd : V.Nodup) (hlt : ∀ k, k ∈ V → k < N) (v : Nat → Nat) : sumTo N (fun m => if m ∈ V then v m else 0) = (V.map v).sum := by
  have h1 : ∀ m, m < N → (if m ∈ V then v m else 0) = (V.map (fun c => if m = c then v c else 0)).sum := fun m _ => by
    by_cases hm : m ∈ V
    · rw [if_pos hm]
      have h2 : (V.map (fun c => if m = c then v c else 0)) = V.map (fun c => if m = c then v m else 0) := List.map_congr_left (fun c _ => by
        by_cases e : m = c
        · rw [if_pos e, if_pos e, e]
        · rw [if_neg e, if_neg e])
      rw [h2, sum_one V hnd (fun c => m = c) (v m) m hm (fun x _ => eq_comm)]
    · rw [if_neg hm]
      have h2 : (V.map (fun c => if m = c then v c else 0)) = V.map (fun c => if m = c then 0 else 0) := List.map_congr_left (fun c hc => by
        have e : m ≠ c := fun e => hm (e ▸ hc)
        rw [if_neg e, if_neg e])
      rw [h2]
      exact (sum_none V (fun c => m = c) 0 (fun x hx e => hm (e ▸ hx))).symm
  rw [sumTo_congr h1, sumTo_list]
  congr 1
  exact List.map_congr_left (fun c hc => sumTo_one N c (hlt c hc) (fun _ => v c))
theorem hsz_zero (E : List Ex) (T : List Tl) : hsz E T 0 = 0 := by
  unfold hsz
  rw [dif_neg]
  rintro ⟨u, τ, h⟩
  cases h
  omega
theorem vv_gp (E : List Ex) (T : List Tl) (f : Nat → Option (List Nat)) (ll : List Nat) (n : Nat) : vv E T f ll n = gp E T f ll n + 1 := by
  unfold vv gp
  by_cases h : n = 0
  · subst h; rw [if_pos rfl, hsz_zero]; omega
  · rw [if_neg h]; omega
theorem sum_gp (E : List Ex) (T : List Tl) (f : Nat → Option (List Nat)) (ll V : List Nat) : (V.map (vv E T f ll)).sum = (V.map (gp E T f ll)).sum + V.length := by
  induction V with
  | nil => rfl
  | cons n V ih => simp only [List.map_cons, List.sum_cons, List.length_cons, ih, vv_gp]; omega
open Classical in
/-- All planted tails, counted. -/
theorem sub_zero {E : List Ex} {T : List Tl} {f : Nat → Option (List Nat)} {L : Nat → Prop} (hg : Good T f L) (htd : ∀ i, i < T.length → ∃ τ, TD E T i τ) (ll V : List Nat) (hnd : V.Nodup) (hV : ∀ k, k ∈ V → ∃ l, f k = some l) (hall : ∀ k l, f k = some l → k ∈ V) :
    subSum E T f (vv E T f ll) 0 = (V.map (vv E T f ll)).sum := by
  have hlt : ∀ k, k ∈ V → k < T.length := fun k hk => by obtain ⟨l, hl⟩ := hV k hk; exact hg.lt k l hl
  rw [← sum_over T.length V hnd hlt]
  unfold subSum
  refine sumTo_congr (fun m hm => ?_)
  by_cases hk : m ∈ V
  · obtain ⟨τ, hτ⟩ := htd m hm
    have : Sub E T f 0 m := ⟨hV m hk, τ, [], .nil (by omega), by rw [List.append_nil]; exact hτ⟩
    rw [if_pos this, if_pos hk]
  · rw [if_neg hk, if_neg]
    rintro ⟨⟨l, hl⟩, _⟩
    exact hk (hall m l hl)
theorem gp_le {E : List Ex} {F : List Fa} (hI : Inv E F) (T : List Tl) (f : Nat → Option (List Nat)) (ll : List Nat) (n : Nat) : gp E T f ll n ≤ 401 := by
  have := vv_le hI T f ll n
  have := vv_gp E T f ll n
  omega
theorem sum_le_len (V : List Nat) (g : Nat → Nat) (b : Nat) (h : ∀ n, g n ≤ b) : (V.map g).sum ≤ V.length * b := by
  induction V with
  | nil => simp
  | cons n V ih => simp only [List.map_cons, List.sum_cons, List.length_cons, Nat.succ_mul]; have := h n; omega
end Go.Proofs.Ytkdhdlokilgccaa

namespace Go.Proofs.Ytkdhdlokilgccaa
open Go.RowKit Go.Maps Go.WideElems Go.ChangeMaps Go.MapKept
set_option linter.unusedVariables false

/-- How many pieces an expression of a tree has. -/
def PcPost (W0 : World) (kr bl bt bL : Nat) (E : List Ex) (T : List Tl) (ll : List Nat) (f : Nat → Option (List Nat)) (e : Ending) (w' : World) : Prop :=
  ∃ n : Nat, e = .returned (.int .i64 ((n : Nat) : Int)) ∧ TrAt W0 w' kr bl bt bL T f (.slice none 0 0) [] ∧ ∀ (l0 : List Nat) (u : Rx), f 0 = some l0 → AheadT E T f ll 0 l0 u → n = u.flat.length
/-- The base of the count. -/
def pbase (M : Nat) : Nat := if 1 < M then M - 2 else 1
theorem pieces_eq {W0 : World} {B kr : Nat} {cur : Array Value} {E : List Ex} {F : List Fa} {T : List Tl} {b1 b2 n0 : Nat} {S : List (List Rx)} {bl : Nat} {ll : List Nat} {m : Nat} {vA vI : Value} {f : Nat → Option (List Nat)} (hO : Out W0 B kr cur E F T b1 b2 n0 S bl ll m vA vI f) {V : List Nat} (hnd : V.Nodup) (hV : ∀ k, k ∈ V → ∃ l, f k = some l) (hall : ∀ k l, f k = some l → k ∈ V)
    (l0 : List Nat) (u : Rx) (hl0 : f 0 = some l0) (hu : AheadT E T f ll 0 l0 u) : pbase V.length + (V.map (gp E T f ll)).sum = u.flat.length := by
  obtain ⟨_, _, h1, h2⟩ := hu
  by_cases hn : l0 = []
  · rw [h1 hn]
    have hz : ∀ k, k ∈ V → k = 0 := fun k hk => Classical.byContradiction fun hk0 => by
      obtain ⟨l, hl⟩ := hV k hk
      exact hO.good.top k l hl hk0 l0 hl0 hn
    have hlen : V.length = 1 := by
      have h3 := hnd.length_le_of_subset (l₂ := [0]) (fun k hk => List.mem_singleton.2 (hz k hk))
      have h4 := List.length_pos_of_mem (hall 0 l0 hl0)
      simp at h3
      omega
    obtain ⟨k, hk⟩ := List.length_eq_one_iff.1 hlen
    have hk0 := hz k (by rw [hk]; simp)
    subst hk0
    rw [hk]
    have : gp E T f ll 0 = 0 := by
      unfold gp optv
      rw [if_pos rfl, if_neg (fun h => h.1 (by rw [hl0, hn]))]
    simp [this, pbase]
  · have h3 := h2 hn
    have h4 := hO.kids hl0
    rw [sub_zero hO.good (fun i hi => (hO.rd.si.td i hi).imp fun _ h => h.1) ll V hnd hV hall, sum_gp] at h4
    have h5 : vv E T f ll 0 = 1 + optv f ll 0 := by unfold vv; rw [hsz_zero]
    have h6 : 1 < V.length := by
      cases l0 with
      | nil => exact absurd rfl hn
      | cons c l0 =>
        obtain ⟨_, hc0, l', hl'⟩ := hO.good.down 0 _ hl0 c List.mem_cons_self
        have h7 := (show ([0, c] : List Nat).Nodup from List.nodup_cons.2 ⟨fun h => by rw [List.mem_singleton] at h; omega, by simp⟩).length_le_of_subset (l₂ := V) (fun k hk => by
          simp at hk
          rcases hk with rfl | rfl
          · exact hall 0 _ hl0
          · exact hall _ _ hl')
        simp at h7
        omega
    unfold pbase
    rw [if_pos h6]
    omega

set_option maxHeartbeats 2000000 in
set_option maxRecDepth 100000 in
theorem pieces_any {W0 : World} {B kr : Nat} {cur : Array Value} {E : List Ex} {F : List Fa} {T : List Tl} {b1 b2 n0 : Nat} {S : List (List Rx)} {bl : Nat} {ll : List Nat} {m : Nat} {vA vI : Value} {f : Nat → Option (List Nat)} (hO : Out W0 B kr cur E F T b1 b2 n0 S bl ll m vA vI f) (bt bL : Nat) (w : World) (hTr : TrAt W0 w kr bl bt bL T f (.slice none 0 0) []) :
    Calls Try.prog 38 #[.pointer (some ⟨bt, 0, none⟩)] w (PcPost W0 kr bl bt bL E T ll f) := by
  obtain ⟨l0, hl0⟩ := hO.good.root
  have hTl := hO.rd.si.tlen
  obtain ⟨M, hM, hlg, hex⟩ := hTr.lg.exact
  have hk4 : ∀ k l, f k = some l → k ≤ 400000 := fun k l h => by have := hO.good.lt k l h; omega
  have hM0 : 0 < M := by
    obtain ⟨es, clock, hb, hsz⟩ := hex
    obtain ⟨es2, clock2, hb2, _, _, _, ha, _⟩ := hlg
    rw [hb] at hb2
    injection Option.some.inj hb2 with e1 e2
    subst e1
    obtain ⟨e, he, _⟩ := ha 0 l0 hl0
    rw [← hsz, ← Array.length_toList]
    exact List.length_pos_of_mem he
  obtain ⟨t0, t1, t2, t3⟩ := row4t hTr.st
  have hlen : ∃ es clock, w.heap[bL]? = some (.map es clock) ∧ es.size = M := hex
  obtain ⟨es, clock, hb, hsz⟩ := hlen
  have hlenr : ∀ ty, (Builtin.len_ #[131] ty #[.map (some bL)]).run Try.prog w = .ok (.int .i64 ((M : Nat) : Int)) w := fun ty => by
    rw [run_len_map w 131 ty bL es clock Try.underlying131 hb, hsz]; rfl
  have HT := Lib.hid (And.intro hTr (And.intro hlg (And.intro hex hk4)))
  have HO := Lib.hid hO
  have hpos : (0 : Int) < (M : Int) - 1 ∨ ¬ (0 : Int) < (M : Int) - 1 := Classical.em _
  clear hTr hlg hex hk4 hO hl0 hb hsz
  go_enter Try.func38, Try.ntmps38
  rcases hpos with hM1 | hM1
  · have hM2 : 1 < M := by omega
    have hM3 : M ≤ 400000 := by omega
    have hpb : pbase M = M - 2 := by unfold pbase; rw [if_pos hM2]
    go_wp2_with (first | (at_range; refine tree_range _ rfl _ rfl rfl HT.out.2.1 HT.out.2.2.1 HT.out.2.2.2 ?_; intro w0 hv0 hg0 hs0) | fail)
    have hTr0 : TrAt W0 w0 kr bl bt bL T f (.slice none 0 0) [] := HT.out.1.keep ⟨hg0.os, hg0.tape, hg0.output, hg0.size, fun i hi => hg0.block i hi (by simp)⟩
    have H0 := Lib.hid (And.intro hTr0 hv0)
    clear hTr0 hv0
    have hbr : bt < w.heap.size := HT.out.1.st.lt
    have hWr : W0.heap.size ≤ w.heap.size := HT.out.1.below.size
    generalize w.heap.size = r at H0 hbr hWr ⊢
    go_frame
    rw [show decide ((1 : Int) < (M : Int)) = true from decide_eq_true (by omega)]
    go_loopw [3] (fun tv wr => ∃ (V : List Nat) (N : Nat), tv = .int .i64 ((N : Nat) : Int) ∧ N ≤ 400000000 ∧ Hid (pbase M + (V.map (gp E T f ll)).sum = N ∧ TrAt W0 wr kr bl bt bL T f (.slice none 0 0) [] ∧ Vis wr W0.heap.size bL r M f V)) (fun _ wr => wr.rangeLeft bL r)
    case atStart => exact ⟨[], pbase M, by rw [hpb]; go_num, by rw [hpb]; omega, Lib.hid ⟨by simp, H0.out⟩⟩
    case round =>
      have HPB := Lib.hid hpb
      clear hpb
      obtain ⟨V, N, rfl, hNb, HV⟩ := hrel
      go_wp2_with (first | (at_next; refine tree_next _ rfl _ rfl rfl HV.out.2.2 HT.out.2.2.2 ?_ ?_) | fail)
      · intro hall
        have HA := Lib.hid hall
        clear hall
        go_wp2_with fail
        go_ret
        refine ⟨N, rfl, HV.out.2.1, fun l0 u h1 h2 => ?_⟩
        rw [← pieces_eq HO.out HV.out.2.2.2.2.1 HV.out.2.2.2.2.2.1 HA.out l0 u h1 h2, HV.out.2.2.count HA.out, HV.out.1]
      · intro k l p c w1 hf hkV hk4 hvis hmeas hg1 hs1 hen
        have hTr1 : TrAt W0 w1 kr bl bt bL T f (.slice none 0 0) [] := by
          have h := HV.out.2.1
          have hb1 : Below W0.heap.size wr w1 := ⟨hg1.os, hg1.tape, hg1.output, hg1.size, fun i hi => hg1.block i (by have := h.below.size; omega) (fun e => by injection e with e; omega)⟩
          refine ⟨h.below.trans hb1, (hg1.block bt h.st.lt (fun e => by injection e with e; omega)).trans h.st, ?_, World.ownsRow_nil _ _ _ _, h.ht, h.hL⟩
          obtain ⟨es, clock, g1, g2, g3, rest⟩ := hvis.1
          exact ⟨es, clock, g1, g2, by omega, rest⟩
        have hgk : pbase M + ((V ++ [k]).map (gp E T f ll)).sum = N + gp E T f ll k := by rw [← HV.out.1]; simp; omega
        have hVl : (V ++ [k]).length ≤ 400000 := by
          have := nodup_below hvis.2.2.1 (fun i hi => by obtain ⟨l', hl'⟩ := hvis.2.2.2.1 i hi; exact HO.out.good.lt i l' hl')
          omega
        have hNk : N + gp E T f ll k ≤ 400000000 := by
          rw [← hgk]
          have := sum_le_len (V ++ [k]) (gp E T f ll) 401 (gp_le HO.out.rd.si.inv T f ll)
          have : pbase M ≤ 400000 := by rw [HPB.out]; omega
          omega
        have H1 := Lib.hid (And.intro hTr1 (And.intro hvis hgk))
        have hPl := HO.out.pl.kept (bs := []) ((Kept.refl _ _ _).below hTr1.below) (by simp)
        have HPl := Lib.hid hPl
        have hRw := HO.out.rd.below hTr1.below
        obtain ⟨t0, t1, t2, t3⟩ := row4t hTr1.st
        obtain ⟨nl, hnl⟩ : ∃ nl, l.length = nl := ⟨_, rfl⟩
        rw [hnl] at hen ⊢
        have hnl4 : nl ≤ 400000 := by have := HO.out.good.len hf; omega
        have hopt0 : nl = 0 → optv f ll k = 0 := fun e => by
          have : l = [] := List.length_eq_zero_iff.1 (by omega)
          unfold optv
          rw [if_neg (fun h => h.1 (by rw [hf, this]))]
        have hopt1 : 0 < nl → k ∈ ll → optv f ll k = 1 := fun e hm => by
          unfold optv
          rw [if_pos ⟨fun h => by rw [hf] at h; have := Option.some.inj h; rw [this] at hnl; simp at hnl; omega, hm⟩]
        have hopt2 : k ∉ ll → optv f ll k = 0 := fun hm => by unfold optv; rw [if_neg (fun h => hm h.2)]
        have HP := Lib.hid (And.intro hopt0 (And.intro hopt1 hopt2))
        have HMS := Lib.hid hmeas
        clear hmeas hvis hgk hg1 hVl hf hkV hPl hopt0 hopt1 hopt2 hTr1
        by_cases hk0 : k = 0
        · subst hk0
          have hgp : gp E T f ll 0 = optv f ll 0 := by unfold gp; rw [if_pos rfl, Nat.zero_add]
          rw [hgp] at hNk
          have HG := Lib.hid hgp
          clear hgp hRw
          rcases Nat.eq_zero_or_pos nl with hz | hz
          · have HO0 := Lib.hid (HP.out.1 hz)
            subst hz
            go_wp2_with fail
            go_roundw
            case rel => exact ⟨V ++ [0], N, rfl, hNb, Lib.hid ⟨by rw [H1.out.2.2, HG.out, HO0.out]; rfl, H1.out.1, H1.out.2.1⟩⟩
            case measure => exact HMS.out
          · have hzi : (0 : Int) < (nl : Int) := by omega
            go_wp2_with fail
            refine (pile_has w1 B bl ll m vA vI HPl.out 0 (by omega)).mono ?_
            rintro e w2 ⟨rfl, rfl⟩
            by_cases hmem : 0 ∈ ll
            · rw [decide_eq_true hmem]
              rw [HP.out.2.1 hz hmem] at hNk
              have HM := Lib.hid hmem
              clear hmem
              go_wp2_with fail
              go_roundw
              case rel => exact ⟨V ++ [0], N + 1, by go_num, hNk, Lib.hid ⟨by rw [H1.out.2.2, HG.out, HP.out.2.1 hz HM.out], H1.out.1, H1.out.2.1⟩⟩
              case measure => exact HMS.out
            · rw [decide_eq_false hmem]
              have HM := Lib.hid hmem
              clear hmem
              go_wp2_with fail
              go_roundw
              case rel => exact ⟨V ++ [0], N, rfl, hNb, Lib.hid ⟨by rw [H1.out.2.2, HG.out, HP.out.2.2 HM.out]; rfl, H1.out.1, H1.out.2.1⟩⟩
              case measure => exact HMS.out
        · obtain ⟨τ, htd, _⟩ := HO.out.rd.si.td k (by
            obtain ⟨l', hl'⟩ := H1.out.2.1.2.2.2.1 k (List.mem_append_right _ (List.mem_singleton.2 rfl))
            exact HO.out.good.lt k l' hl')
          obtain ⟨u0, ρ0, h', r', e0, hTc, hrc, hdh, hdr⟩ := htd.consE (by omega)
          subst e0
          have hhs := hsz_eq htd
          obtain ⟨gT, cT, c3, hgT, hnT, hT4, hcT1, hcT2, hy⟩ := hRw.at_tail hTc
          obtain ⟨gF, cF, fa, d2, hgF, hnF, hF8, hcF1, hcF2, hfo, hz⟩ := hRw.fact hdh
          have hfn : fa.n = u0.flat.length := hfo.2.2
          have y0 := hy 0 (by decide)
          have z5 := hz 5 (by decide)
          simp only [tlCells, List.getElem?_cons_zero, Nat.add_zero] at y0
          simp only [faCells, List.getElem?_cons_succ, List.getElem?_cons_zero] at z5
          obtain ⟨nT, hnT'⟩ : ∃ nT, T.length = nT := ⟨_, rfl⟩
          obtain ⟨nF, hnF'⟩ : ∃ nF, F.length = nF := ⟨_, rfl⟩
          rw [hnT'] at c3 hnT hT4 hcT1
          rw [hnF'] at d2 hnF hF8 hcF1
          have hkb : kr < w1.heap.size := hRw.book.num.st.lt
          have iT : (k : Int) < (nT : Int) := by omega
          have iF : (h' : Int) < (nF : Int) := by omega
          have hk0i : ¬ (k : Int) = 0 := by omega
          unfold maxLen at hcT2 hcF2
          have hgp : gp E T f ll k = fa.n + optv f ll k := by unfold gp; rw [if_neg hk0, hhs, hfn]
          rw [hgp] at hNk
          obtain ⟨fn, hfn'⟩ : ∃ fn, fa.n = fn := ⟨_, rfl⟩
          rw [hfn'] at hNk z5 hgp
          have HG := Lib.hid hgp
          have hNk1 : N + fn ≤ 400000000 := by omega
          clear hgp hRw hfo hhs hfn hfn' hy hz hnT' hnF' htd hTc hrc hdh hdr
          rcases Nat.eq_zero_or_pos nl with hz | hz
          · have HO0 := Lib.hid (HP.out.1 hz)
            subst hz
            go_wp2_with fail
            go_region
            have H1d := Lib.hid (And.intro (H1.out.1.keep (Below.refl _ _).drew) (show Vis w1.drew W0.heap.size bL r M f (V ++ [k]) from H1.out.2.1))
            go_wp2_with fail
            go_roundw
            case rel => exact ⟨V ++ [k], N + fn, by go_num, hNk1, Lib.hid ⟨by rw [H1.out.2.2, HG.out, HO0.out]; rfl, H1d.out.1, H1d.out.2⟩⟩
            case measure => exact HMS.out
          · have hzi : (0 : Int) < (nl : Int) := by omega
            go_wp2_with fail
            go_region
            have H1d := Lib.hid (And.intro (H1.out.1.keep (Below.refl _ _).drew) (show Vis w1.drew W0.heap.size bL r M f (V ++ [k]) from H1.out.2.1))
            go_wp2_with fail
            refine (pile_has w1.drew B bl ll m vA vI (HPl.out.kept (bs := []) ((Kept.refl _ _ _).below (Below.refl _ _).drew) (by simp)) k (by omega)).mono ?_
            rintro e w2 ⟨rfl, rfl⟩
            by_cases hmem : k ∈ ll
            · rw [decide_eq_true hmem]
              rw [HP.out.2.1 hz hmem] at hNk
              have HM := Lib.hid hmem
              clear hmem
              go_wp2_with fail
              go_roundw
              case rel => exact ⟨V ++ [k], N + fn + 1, by go_num, by omega, Lib.hid ⟨by rw [H1.out.2.2, HG.out, HP.out.2.1 hz HM.out]; omega, H1d.out.1, H1d.out.2⟩⟩
              case measure => exact HMS.out
            · rw [decide_eq_false hmem]
              have HM := Lib.hid hmem
              clear hmem
              go_wp2_with fail
              go_roundw
              case rel => exact ⟨V ++ [k], N + fn, by go_num, hNk1, Lib.hid ⟨by rw [H1.out.2.2, HG.out, HP.out.2.2 HM.out]; rfl, H1d.out.1, H1d.out.2⟩⟩
              case measure => exact HMS.out
  · have hM2 : ¬ 1 < M := by omega
    have hM3 : M ≤ 400000 := by omega
    have hpb : pbase M = 1 := by unfold pbase; rw [if_neg hM2]
    go_wp2_with (first | (at_range; refine tree_range _ rfl _ rfl rfl HT.out.2.1 HT.out.2.2.1 HT.out.2.2.2 ?_; intro w0 hv0 hg0 hs0) | fail)
    have hTr0 : TrAt W0 w0 kr bl bt bL T f (.slice none 0 0) [] := HT.out.1.keep ⟨hg0.os, hg0.tape, hg0.output, hg0.size, fun i hi => hg0.block i hi (by simp)⟩
    have H0 := Lib.hid (And.intro hTr0 hv0)
    clear hTr0 hv0
    have hbr : bt < w.heap.size := HT.out.1.st.lt
    have hWr : W0.heap.size ≤ w.heap.size := HT.out.1.below.size
    generalize w.heap.size = r at H0 hbr hWr ⊢
    try go_frame
    try rw [show decide ((1 : Int) < (M : Int)) = false from decide_eq_false (by omega)]
    go_loopw [3] (fun tv wr => ∃ (V : List Nat) (N : Nat), tv = .int .i64 ((N : Nat) : Int) ∧ N ≤ 400000000 ∧ Hid (pbase M + (V.map (gp E T f ll)).sum = N ∧ TrAt W0 wr kr bl bt bL T f (.slice none 0 0) [] ∧ Vis wr W0.heap.size bL r M f V)) (fun _ wr => wr.rangeLeft bL r)
    case atStart => exact ⟨[], pbase M, by rw [hpb]; rfl, by rw [hpb]; omega, Lib.hid ⟨by simp, H0.out⟩⟩
    case round =>
      have HPB := Lib.hid hpb
      clear hpb
      obtain ⟨V, N, rfl, hNb, HV⟩ := hrel
      go_wp2_with (first | (at_next; refine tree_next _ rfl _ rfl rfl HV.out.2.2 HT.out.2.2.2 ?_ ?_) | fail)
      · intro hall
        have HA := Lib.hid hall
        clear hall
        go_wp2_with fail
        go_ret
        refine ⟨N, rfl, HV.out.2.1, fun l0 u h1 h2 => ?_⟩
        rw [← pieces_eq HO.out HV.out.2.2.2.2.1 HV.out.2.2.2.2.2.1 HA.out l0 u h1 h2, HV.out.2.2.count HA.out, HV.out.1]
      · intro k l p c w1 hf hkV hk4 hvis hmeas hg1 hs1 hen
        have hTr1 : TrAt W0 w1 kr bl bt bL T f (.slice none 0 0) [] := by
          have h := HV.out.2.1
          have hb1 : Below W0.heap.size wr w1 := ⟨hg1.os, hg1.tape, hg1.output, hg1.size, fun i hi => hg1.block i (by have := h.below.size; omega) (fun e => by injection e with e; omega)⟩
          refine ⟨h.below.trans hb1, (hg1.block bt h.st.lt (fun e => by injection e with e; omega)).trans h.st, ?_, World.ownsRow_nil _ _ _ _, h.ht, h.hL⟩
          obtain ⟨es, clock, g1, g2, g3, rest⟩ := hvis.1
          exact ⟨es, clock, g1, g2, by omega, rest⟩
        have hgk : pbase M + ((V ++ [k]).map (gp E T f ll)).sum = N + gp E T f ll k := by rw [← HV.out.1]; simp; omega
        have hVl : (V ++ [k]).length ≤ 400000 := by
          have := nodup_below hvis.2.2.1 (fun i hi => by obtain ⟨l', hl'⟩ := hvis.2.2.2.1 i hi; exact HO.out.good.lt i l' hl')
          omega
        have hNk : N + gp E T f ll k ≤ 400000000 := by
          rw [← hgk]
          have := sum_le_len (V ++ [k]) (gp E T f ll) 401 (gp_le HO.out.rd.si.inv T f ll)
          have : pbase M ≤ 400000 := by rw [HPB.out]; omega
          omega
        have H1 := Lib.hid (And.intro hTr1 (And.intro hvis hgk))
        have hPl := HO.out.pl.kept (bs := []) ((Kept.refl _ _ _).below hTr1.below) (by simp)
        have HPl := Lib.hid hPl
        have hRw := HO.out.rd.below hTr1.below
        obtain ⟨t0, t1, t2, t3⟩ := row4t hTr1.st
        obtain ⟨nl, hnl⟩ : ∃ nl, l.length = nl := ⟨_, rfl⟩
        rw [hnl] at hen ⊢
        have hnl4 : nl ≤ 400000 := by have := HO.out.good.len hf; omega
        have hopt0 : nl = 0 → optv f ll k = 0 := fun e => by
          have : l = [] := List.length_eq_zero_iff.1 (by omega)
          unfold optv
          rw [if_neg (fun h => h.1 (by rw [hf, this]))]
        have hopt1 : 0 < nl → k ∈ ll → optv f ll k = 1 := fun e hm => by
          unfold optv
          rw [if_pos ⟨fun h => by rw [hf] at h; have := Option.some.inj h; rw [this] at hnl; simp at hnl; omega, hm⟩]
        have hopt2 : k ∉ ll → optv f ll k = 0 := fun hm => by unfold optv; rw [if_neg (fun h => hm h.2)]
        have HP := Lib.hid (And.intro hopt0 (And.intro hopt1 hopt2))
        have HMS := Lib.hid hmeas
        clear hmeas hvis hgk hg1 hVl hf hkV hPl hopt0 hopt1 hopt2 hTr1
        by_cases hk0 : k = 0
        · subst hk0
          have hgp : gp E T f ll 0 = optv f ll 0 := by unfold gp; rw [if_pos rfl, Nat.zero_add]
          rw [hgp] at hNk
          have HG := Lib.hid hgp
          clear hgp hRw
          rcases Nat.eq_zero_or_pos nl with hz | hz
          · have HO0 := Lib.hid (HP.out.1 hz)
            subst hz
            go_wp2_with fail
            go_roundw
            case rel => exact ⟨V ++ [0], N, rfl, hNb, Lib.hid ⟨by rw [H1.out.2.2, HG.out, HO0.out]; rfl, H1.out.1, H1.out.2.1⟩⟩
            case measure => exact HMS.out
          · have hzi : (0 : Int) < (nl : Int) := by omega
            go_wp2_with fail
            refine (pile_has w1 B bl ll m vA vI HPl.out 0 (by omega)).mono ?_
            rintro e w2 ⟨rfl, rfl⟩
            by_cases hmem : 0 ∈ ll
            · rw [decide_eq_true hmem]
              rw [HP.out.2.1 hz hmem] at hNk
              have HM := Lib.hid hmem
              clear hmem
              go_wp2_with fail
              go_roundw
              case rel => exact ⟨V ++ [0], N + 1, by go_num, hNk, Lib.hid ⟨by rw [H1.out.2.2, HG.out, HP.out.2.1 hz HM.out], H1.out.1, H1.out.2.1⟩⟩
              case measure => exact HMS.out
            · rw [decide_eq_false hmem]
              have HM := Lib.hid hmem
              clear hmem
              go_wp2_with fail
              go_roundw
              case rel => exact ⟨V ++ [0], N, rfl, hNb, Lib.hid ⟨by rw [H1.out.2.2, HG.out, HP.out.2.2 HM.out]; rfl, H1.out.1, H1.out.2.1⟩⟩
              case measure => exact HMS.out
        · obtain ⟨τ, htd, _⟩ := HO.out.rd.si.td k (by
            obtain ⟨l', hl'⟩ := H1.out.2.1.2.2.2.1 k (List.mem_append_right _ (List.mem_singleton.2 rfl))
            exact HO.out.good.lt k l' hl')
          obtain ⟨u0, ρ0, h', r', e0, hTc, hrc, hdh, hdr⟩ := htd.consE (by omega)
          subst e0
          have hhs := hsz_eq htd
          obtain ⟨gT, cT, c3, hgT, hnT, hT4, hcT1, hcT2, hy⟩ := hRw.at_tail hTc
          obtain ⟨gF, cF, fa, d2, hgF, hnF, hF8, hcF1, hcF2, hfo, hz⟩ := hRw.fact hdh
          have hfn : fa.n = u0.flat.length := hfo.2.2
          have y0 := hy 0 (by decide)
          have z5 := hz 5 (by decide)
          simp only [tlCells, List.getElem?_cons_zero, Nat.add_zero] at y0
          simp only [faCells, List.getElem?_cons_succ, List.getElem?_cons_zero] at z5
          obtain ⟨nT, hnT'⟩ : ∃ nT, T.length = nT := ⟨_, rfl⟩
          obtain ⟨nF, hnF'⟩ : ∃ nF, F.length = nF := ⟨_, rfl⟩
          rw [hnT'] at c3 hnT hT4 hcT1
          rw [hnF'] at d2 hnF hF8 hcF1
          have hkb : kr < w1.heap.size := hRw.book.num.st.lt
          have iT : (k : Int) < (nT : Int) := by omega
          have iF : (h' : Int) < (nF : Int) := by omega
          have hk0i : ¬ (k : Int) = 0 := by omega
          unfold maxLen at hcT2 hcF2
          have hgp : gp E T f ll k = fa.n + optv f ll k := by unfold gp; rw [if_neg hk0, hhs, hfn]
          rw [hgp] at hNk
          obtain ⟨fn, hfn'⟩ : ∃ fn, fa.n = fn := ⟨_, rfl⟩
          rw [hfn'] at hNk z5 hgp
          have HG := Lib.hid hgp
          have hNk1 : N + fn ≤ 400000000 := by omega
          clear hgp hRw hfo hhs hfn hfn' hy hz hnT' hnF' htd hTc hrc hdh hdr
          rcases Nat.eq_zero_or_pos nl with hz | hz
          · have HO0 := Lib.hid (HP.out.1 hz)
            subst hz
            go_wp2_with fail
            go_region
            have H1d := Lib.hid (And.intro (H1.out.1.keep (Below.refl _ _).drew) (show Vis w1.drew W0.heap.size bL r M f (V ++ [k]) from H1.out.2.1))
            go_wp2_with fail
            go_roundw
            case rel => exact ⟨V ++ [k], N + fn, by go_num, hNk1, Lib.hid ⟨by rw [H1.out.2.2, HG.out, HO0.out]; rfl, H1d.out.1, H1d.out.2⟩⟩
            case measure => exact HMS.out
          · have hzi : (0 : Int) < (nl : Int) := by omega
            go_wp2_with fail
            go_region
            have H1d := Lib.hid (And.intro (H1.out.1.keep (Below.refl _ _).drew) (show Vis w1.drew W0.heap.size bL r M f (V ++ [k]) from H1.out.2.1))
            go_wp2_with fail
            refine (pile_has w1.drew B bl ll m vA vI (HPl.out.kept (bs := []) ((Kept.refl _ _ _).below (Below.refl _ _).drew) (by simp)) k (by omega)).mono ?_
            rintro e w2 ⟨rfl, rfl⟩
            by_cases hmem : k ∈ ll
            · rw [decide_eq_true hmem]
              rw [HP.out.2.1 hz hmem] at hNk
              have HM := Lib.hid hmem
              clear hmem
              go_wp2_with fail
              go_roundw
              case rel => exact ⟨V ++ [k], N + fn + 1, by go_num, by omega, Lib.hid ⟨by rw [H1.out.2.2, HG.out, HP.out.2.1 hz HM.out]; omega, H1d.out.1, H1d.out.2⟩⟩
              case measure => exact HMS.out
            · rw [decide_eq_false hmem]
              have HM := Lib.hid hmem
              clear hmem
              go_wp2_with fail
              go_roundw
              case rel => exact ⟨V ++ [k], N + fn, by go_num, hNk1, Lib.hid ⟨by rw [H1.out.2.2, HG.out, HP.out.2.2 HM.out]; rfl, H1d.out.1, H1d.out.2⟩⟩
              case measure => exact HMS.out
end Go.Proofs.Ytkdhdlokilgccaa
