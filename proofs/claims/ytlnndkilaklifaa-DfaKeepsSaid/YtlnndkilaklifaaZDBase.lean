import Derived.Test.YtlnndkilaklifaaZDKids
import Derived.Maps.OwnOps
import Derived.Maps.OwnSet
import Derived.DeepKeys4
import Derived.Laws.Cover3
namespace Go.Proofs.Ytlnndkilaklifaa
open Go.RowKit Go.Maps Go.WideElems Go.ChangeMaps Go.MapKept
set_option linter.unusedVariables false

/-! ### What a call leaves as it was -/
/-- Every block of w stands in w', but for rows of the types ts, and the blocks bs. -/
def Kept (ts : List TypeId) (bs : List Nat) (w w' : World) : Prop :=
  ∀ k o, w.heap[k]? = some o → (∀ c e fz, o = .cells c e fz → e ∉ ts) → k ∉ bs → w'.heap[k]? = some o
theorem Kept.refl (ts : List TypeId) (bs : List Nat) (w : World) : Kept ts bs w w := fun _ _ h _ _ => h
theorem Kept.trans {ts : List TypeId} {bs : List Nat} {a b c : World} (h : Kept ts bs a b) (k : Kept ts bs b c) : Kept ts bs a c :=
  fun i o hi ho hb => k i o (h i o hi ho hb) ho hb
theorem Kept.mono {ts ts' : List TypeId} {bs bs' : List Nat} {a b : World} (h : Kept ts bs a b) (ht : ∀ t ∈ ts, t ∈ ts') (hb : ∀ t ∈ bs, t ∈ bs') : Kept ts' bs' a b :=
  fun i o hi ho hn => h i o hi (fun c e fz e0 hm => ho c e fz e0 (ht e hm)) (fun hm => hn (hb i hm))
theorem Kept.drew {ts : List TypeId} {bs : List Nat} {a w : World} (h : Kept ts bs a w) : Kept ts bs a w.drew := h
theorem Kept.drewN {ts : List TypeId} {bs : List Nat} {a w : World} (h : Kept ts bs a w) (n : Nat) : Kept ts bs a (w.drewN n) := fun i o hi ho hb => by
  have := h i o hi ho hb
  simpa using this
theorem Kept.alloc {ts : List TypeId} {bs : List Nat} {a w : World} (h : Kept ts bs a w) (o : Obj) : Kept ts bs a (w.alloc o) := by
  intro k x hk hx hb
  have h1 := h k x hk hx hb
  have hlt : k < w.heap.size := (Array.getElem?_eq_some_iff.1 h1).1
  exact (Below.heap_alloc w o k hlt).trans h1
theorem Kept.below {ts : List TypeId} {bs : List Nat} {a w w' : World} (h : Kept ts bs a w) (k : Below w.heap.size w w') : Kept ts bs a w' := by
  intro i x hi hx hb
  have h1 := h i x hi hx hb
  exact (k.block i (Array.getElem?_eq_some_iff.1 h1).1).trans h1
theorem Kept.setCell {ts : List TypeId} {bs : List Nat} {a w : World} (h : Kept ts bs a w) (p : Addr) (v : Value) (hp : p.block ∈ bs ∨ a.heap.size ≤ p.block ∨ ∃ c e fz, w.heap[p.block]? = some (.cells c e fz) ∧ e ∈ ts) : Kept ts bs a (w.setCell p v) := by
  intro k x hk hx hb
  have h1 := h k x hk hx hb
  rw [Below.heap_setCell _ _ _ _ (fun e => ?_)]
  · exact h1
  · rcases hp with hp | hp | ⟨c, e', fz, hc, he⟩
    · exact hb (by rw [e]; exact hp)
    · have := (Array.getElem?_eq_some_iff.1 hk).1; omega
    · rw [← e, h1] at hc
      exact hx c e' fz (Option.some.inj hc) he
theorem Kept.grown {ts : List TypeId} {bs : List Nat} {a w w' : World} {row : Option Nat} (h : Kept ts bs a w) (hg : w.grownBy w' row)
    (hrow : ∀ g, row = some g → g ∈ bs ∨ a.heap.size ≤ g ∨ ∃ c e fz, w.heap[g]? = some (.cells c e fz) ∧ e ∈ ts) : Kept ts bs a w' := by
  intro k x hk hx hb
  have h1 := h k x hk hx hb
  have hlt : k < w.heap.size := (Array.getElem?_eq_some_iff.1 h1).1
  rw [hg.block k hlt ?_]
  · exact h1
  · intro hk2
    rcases hrow k hk2.symm with hm | hm | ⟨c, e', fz, hc, he⟩
    · exact hb hm
    · have := (Array.getElem?_eq_some_iff.1 hk).1; omega
    · rw [h1] at hc
      exact hx c e' fz (Option.some.inj hc) he
theorem St.kept {w w' : World} {t g : Nat} {cs : Array Value} {ts : List TypeId} {bs : List Nat} (h : St w t g cs) (k : Kept ts bs w w') (ht : t ∉ ts) (hg : g ∉ bs) : St w' t g cs :=
  k g _ h (fun c e fz e0 => by injection e0 with _ e1; subst e1; exact ht) hg
/-- What an owned value's block holds. -/
theorem own_kind {w : World} {B : Nat} {e : TypeId} {size : Nat} {v : Value} {n : Nat} {xs : List Value} (h : w.ownsRow B e size v n xs) : ∀ g, v.ownBlock = some g → ∃ c fz, w.heap[g]? = some (.cells c e fz) := by
  intro g hg
  rcases h.2 with ⟨rfl, _⟩ | ⟨g', cap, cur, rfl, _, hgg, _⟩
  · simp [Value.ownBlock] at hg
  · simp [Value.ownBlock] at hg
    subst hg
    exact ⟨cur, _, hgg⟩
theorem own_kept {w w' : World} {B : Nat} {t : TypeId} {size : Nat} {v : Value} {n : Nat} {xs : List Value} {ts : List TypeId} {bs : List Nat} (h : w.ownsRow B t size v n xs) (k : Kept ts bs w w') (ht : t ∉ ts) (hg : ∀ g, v.ownBlock = some g → g ∉ bs) : w'.ownsRow B t size v n xs := by
  refine ⟨h.1, ?_⟩
  rcases h.2 with h0 | ⟨g, cap, cur, rfl, hB, hgg, r⟩
  · exact Or.inl h0
  · exact Or.inr ⟨g, cap, cur, rfl, hB, k g _ hgg (fun c e fz e0 => by injection e0 with _ e1; subst e1; exact ht) (hg g (by simp [Value.ownBlock])), r⟩

theorem St.ne {w : World} {t t' g g' : Nat} {cs cs' : Array Value} (h : St w t g cs) (h' : St w t' g' cs') (ht : t ≠ t') : g ≠ g' := by
  intro e
  subst e
  have h1 : w.heap[g]? = _ := h
  have h2 : w.heap[g]? = _ := h'
  rw [h1] at h2
  injection h2 with h2
  injection h2 with _ h2
  exact ht h2
theorem own_ne {w : World} {B : Nat} {t t' g' : Nat} {size : Nat} {v : Value} {n : Nat} {xs : List Value} {cs' : Array Value} (h : w.ownsRow B t size v n xs) (h' : St w t' g' cs') (ht : t ≠ t') : ∀ g, v.ownBlock = some g → g ≠ g' := by
  intro g hg e
  subst e
  obtain ⟨c, fz, hc⟩ := own_kind h g hg
  have h2 : w.heap[g]? = _ := h'
  rw [hc] at h2
  injection h2 with h2
  injection h2 with _ h2
  exact ht h2
/-- A store into a block of another type. -/
theorem own_set {w : World} {B : Nat} {t t' g' : Nat} {size : Nat} {v : Value} {n : Nat} {xs : List Value} {cs' : Array Value} (h : w.ownsRow B t size v n xs) (h' : St w t' g' cs') (ht : t ≠ t') (i : Nat) (u : Value) : (w.setCell ⟨g', i, none⟩ u).ownsRow B t size v n xs :=
  own_kept (ts := []) (bs := [g']) h ((Kept.refl _ _ _).setCell _ _ (Or.inl (by simp))) (by simp) (fun g hg => by
    have := own_ne h h' ht g hg
    simpa using this)
theorem St.set_far {w : World} {t t' g g' : Nat} {cs cs' : Array Value} (h : St w t g cs) (h' : St w t' g' cs') (ht : t ≠ t') (i : Nat) (u : Value) : St (w.setCell ⟨g', i, none⟩ u) t g cs :=
  h.far (p := ⟨g', i, none⟩) (h.ne h' ht) u
/-! ### A map of the call's own, by what holds of its entries -/
def anyR : Value → Option (DataW Value × List MemPlace) := fun v => some (.held v, [])
def MapOf (w : World) (k : TypeId) (b n : Nat) (Q : Value → Value → Prop) : Prop :=
  ∃ es clock, w.heap[b]? = some (.map es clock) ∧ Fit Try.prog k anyR es clock ∧ es.size ≤ n ∧ ∀ e ∈ es.toList, Q e.key e.val
theorem MapOf.made (w : World) (k : TypeId) (Q : Value → Value → Prop) : MapOf (w.alloc (.map #[] 0)) k w.heap.size 0 Q :=
  ⟨#[], 0, (MapKept.heap_alloc w _).1, ⟨by simp, stamped_empty 0, by simp⟩, Nat.le_refl _, by simp⟩
theorem MapOf.lt {w : World} {k : TypeId} {b n : Nat} {Q : Value → Value → Prop} (h : MapOf w k b n Q) : b < w.heap.size := by
  obtain ⟨es, clock, hb, _⟩ := h
  exact (Array.getElem?_eq_some_iff.1 hb).1
theorem MapOf.same {w w' : World} {k : TypeId} {b n : Nat} {Q : Value → Value → Prop} (h : MapOf w k b n Q) (e : w'.heap[b]? = w.heap[b]?) : MapOf w' k b n Q := by
  obtain ⟨es, clock, hb, r⟩ := h
  exact ⟨es, clock, e.trans hb, r⟩
theorem MapOf.kept {w w' : World} {k : TypeId} {b n : Nat} {Q : Value → Value → Prop} {ts : List TypeId} {bs : List Nat} (h : MapOf w k b n Q) (hk : Kept ts bs w w') (hb : b ∉ bs) : MapOf w' k b n Q := by
  obtain ⟨es, clock, hbb, r⟩ := h
  exact ⟨es, clock, hk b _ hbb (fun c e fz e0 => by cases e0) hb, r⟩
theorem MapOf.mono {w : World} {k : TypeId} {b n n' : Nat} {Q Q' : Value → Value → Prop} (h : MapOf w k b n Q) (hn : n ≤ n') (hQ : ∀ x y, Q x y → Q' x y) : MapOf w k b n' Q' := by
  obtain ⟨es, clock, hb, F, hs, hq⟩ := h
  exact ⟨es, clock, hb, F, Nat.le_trans hs hn, fun e he => hQ _ _ (hq e he)⟩
theorem MapOf.set {w : World} {k : TypeId} {b n t g i : Nat} {u : Value} {cs : Array Value} {Q : Value → Value → Prop} (h : MapOf w k b n Q) (h' : St w t g cs) : MapOf (w.setCell ⟨g, i, none⟩ u) k b n Q := by
  refine h.same (Below.heap_setCell _ _ _ _ ?_)
  intro e
  obtain ⟨es, clock, hb, _⟩ := h
  have h2 : w.heap[g]? = _ := h'
  rw [show b = g from e, h2] at hb
  cases hb
/-! ### Behind an append to a row of the call's own, and behind a store into a map -/
theorem St.grown {w w' : World} {t g : Nat} {cs : Array Value} {row : Option Nat} (h : St w t g cs) (hg : w.grownBy w' row) (hn : some g ≠ row) : St w' t g cs := (hg.block g h.lt hn).trans h
theorem St.grown_own {w w' : World} {B t t' g size n : Nat} {cs : Array Value} {v : Value} {xs : List Value} (h : St w t g cs) (ho : w.ownsRow B t' size v n xs) (ht : t' ≠ t) (hg : w.grownBy w' v.ownBlock) : St w' t g cs :=
  h.grown hg (fun e => own_ne ho h ht g e.symm rfl)
theorem MapOf.grown_own {w w' : World} {B t' size n k b N : Nat} {v : Value} {xs : List Value} {Q : Value → Value → Prop} (h : MapOf w k b N Q) (ho : w.ownsRow B t' size v n xs) (hg : w.grownBy w' v.ownBlock) : MapOf w' k b N Q := by
  refine h.same (hg.block b h.lt (fun e => ?_))
  obtain ⟨c, fz, hc⟩ := own_kind ho b e.symm
  obtain ⟨es, clock, hb, _⟩ := h
  rw [hc] at hb
  cases hb
theorem own_grown {w w' : World} {B t size n : Nat} {v : Value} {xs : List Value} {row : Option Nat} (h : w.ownsRow B t size v n xs) (hg : w.grownBy w' row) (hn : ∀ g, v.ownBlock = some g → some g ≠ row) : w'.ownsRow B t size v n xs := by
  refine ⟨h.1, ?_⟩
  rcases h.2 with h0 | ⟨g, cap, cur, rfl, hB, hgg, r⟩
  · exact Or.inl h0
  · exact Or.inr ⟨g, cap, cur, rfl, hB, (hg.block g (Array.getElem?_eq_some_iff.1 hgg).1 (hn g (by simp [Value.ownBlock]))).trans hgg, r⟩
theorem own_grown_own {w w' : World} {B t size n B' t' size' n' : Nat} {v v' : Value} {xs xs' : List Value} (h : w.ownsRow B t size v n xs) (ho : w.ownsRow B' t' size' v' n' xs') (ht : t' ≠ t) (hg : w.grownBy w' v'.ownBlock) : w'.ownsRow B t size v n xs :=
  own_grown h hg (fun g e1 e2 => by
    obtain ⟨c, fz, hc⟩ := own_kind h g e1
    obtain ⟨c', fz', hc'⟩ := own_kind ho g e2.symm
    rw [hc] at hc'
    injection hc' with hc'
    injection hc' with _ hc'
    exact ht hc'.symm)
theorem own_grown_map {w w' : World} {B t size n k b N : Nat} {v : Value} {xs : List Value} {Q : Value → Value → Prop} (h : w.ownsRow B t size v n xs) (hm : MapOf w k b N Q) (hg : w.grownBy w' (some b)) : w'.ownsRow B t size v n xs :=
  own_grown h hg (fun g e1 e2 => by
    obtain ⟨c, fz, hc⟩ := own_kind h g e1
    obtain ⟨es, clock, hb, _⟩ := hm
    injection e2 with e2
    subst e2
    rw [hc] at hb
    cases hb)
theorem St.grown_map {w w' : World} {t g k b N : Nat} {cs : Array Value} {Q : Value → Value → Prop} (h : St w t g cs) (hm : MapOf w k b N Q) (hg : w.grownBy w' (some b)) : St w' t g cs :=
  h.grown hg (fun e2 => by
    obtain ⟨es, clock, hb, _⟩ := hm
    injection e2 with e2
    subst e2
    have h1 : w.heap[g]? = _ := h
    rw [h1] at hb
    cases hb)
theorem Kept.grown_own {ts : List TypeId} {bs : List Nat} {a w w' : World} {B t size n : Nat} {v : Value} {xs : List Value} (h : Kept ts bs a w) (ho : w.ownsRow B t size v n xs) (ht : t ∈ ts) (hg : w.grownBy w' v.ownBlock) : Kept ts bs a w' :=
  h.grown hg (fun g e => by
    obtain ⟨c, fz, hc⟩ := own_kind ho g e
    exact Or.inr (Or.inr ⟨c, t, fz, hc, ht⟩))
theorem own_above {w : World} {B t size n : Nat} {v : Value} {xs : List Value} (ho : w.ownsRow B t size v n xs) : ∀ g, v.ownBlock = some g → B ≤ g := by
  intro g hg
  rcases ho.2 with ⟨rfl, _⟩ | ⟨g', cap, cur, rfl, hB, _⟩
  · simp [Value.ownBlock] at hg
  · simp [Value.ownBlock] at hg
    omega
theorem below_grown_own {a w w' : World} {B t size n : Nat} {v : Value} {xs : List Value} (h : Below B a w) (ho : w.ownsRow B t size v n xs) (hB : B ≤ w.heap.size) (hg : w.grownBy w' v.ownBlock) : Below B a w' :=
  h.grown hg hB (own_above ho)
/-- 'v, ok := m[k]'. -/
theorem MapOf.look {w : World} {k t e : TypeId} {b n : Nat} {Q : Value → Value → Prop} (h : MapOf w k b n Q) (K : Keyed Try.prog k) (ht : Try.prog.underlying t = some (.map k e)) {z : Value} (hz : (zeroValue e).run Try.prog w = .ok z w)
    {key : Value} {kl : Lit} (hkey : keyOf Try.prog k key = some kl) :
    (Instr.lookup t (.map (some b)) key true).run Try.prog w = .ok (.tuple #[z, .bool false]) w ∨ ∃ v, Q key v ∧ (Instr.lookup t (.map (some b)) key true).run Try.prog w = .ok (.tuple #[v, .bool true]) w := by
  obtain ⟨es, clock, hb, F, _, hq⟩ := h
  rcases Maps.fit_look true K ht hz hb F hkey with ⟨hrun, _, _⟩ | ⟨e0, y, hm, hk, hrun, _⟩
  · exact Or.inl (by simpa using hrun)
  · exact Or.inr ⟨e0.val, by rw [← hk]; exact hq e0 hm, by simpa using hrun⟩
/-- 'm[k] = v'. -/
theorem MapOf.update {w : World} {k t e : TypeId} {b n : Nat} {Q Q' : Value → Value → Prop} (h : MapOf w k b n Q) (K : Keyed Try.prog k) (ht : Try.prog.underlying t = some (.map k e)) (hn : n < maxLen)
    {key val : Value} {kl : Lit} (hkey : keyOf Try.prog k key = some kl) (hQ : ∀ x y, Q x y → x ≠ key → Q' x y) (hv : Q' key val) :
    ∃ w', (Instr.mapUpdate t (.map (some b)) key val).run Try.prog w = .ok () w' ∧ MapOf w' k b (n + 1) Q' ∧ w.grownBy w' (some b) := by
  obtain ⟨es, clock, hb, F, hs, hq⟩ := h
  obtain ⟨es', clock', hrun, F', hput, _, _, hall⟩ := Maps.fit_store (R' := anyR) K ht hb F (Nat.lt_of_le_of_lt hs hn) (fun _ _ _ _ hz => hz) hkey (yv := (.held val, [])) rfl
  refine ⟨_, hrun, ⟨es', clock', heap_setBlock_same hb _, F', ?_, fun x hx => ?_⟩, ⟨rfl, rfl, rfl, by simp [setBlock], fun i _ hi => heap_setBlock_other hb _ (fun e => hi (by rw [e]))⟩⟩
  · have e1 : es'.size = ((es'.toList.map (rg Try.prog k anyR)).foldr DataW.insert []).length := by rw [length_sorted]; simp
    rw [e1, hput]
    unfold putKey
    rw [length_insert]
    have e2 := List.length_filter_le (notKey kl) ((es.toList.map (rg Try.prog k anyR)).foldr DataW.insert [])
    rw [length_sorted] at e2
    simp at e2
    omega
  · rcases hall x hx with ⟨h1, h2⟩ | ⟨h1, h2⟩
    · exact hQ _ _ (hq x h1) h2
    · rw [h1, h2]; exact hv
/-- .. at the operation. -/
theorem wpList_store_any (w : World) {ops : Array Oper} {rest : List Oper} {o : Oper} {a : Act} {Q : Exit → Act → World → Prop}
    (hg : o.guard = none) (m x v : Operand) (t : TypeId) (hop : o.op = Op.mapUpdate t m x v)
    (k e : TypeId) (K : Keyed Try.prog k) (ht : Try.prog.underlying t = some (.map k e)) (b n : Nat) (Q0 Q1 : Value → Value → Prop)
    (hm : a.eval m = .map (some b)) (hown : MapOf w k b n Q0) (hn : n < maxLen) (key val : Value) (kl : Lit) (hx : a.eval x = key) (hv : a.eval v = val) (hkey : keyOf Try.prog k key = some kl)
    (hQ : ∀ x y, Q0 x y → x ≠ key → Q1 x y) (hval : Q1 key val)
    (hK : ∀ w', MapOf w' k b (n + 1) Q1 → w.grownBy w' (some b) → wpList Try.prog ops Q rest (a.put o.dst undef) w') :
    wpList Try.prog ops Q (o :: rest) a w := by
  refine wpList_plain hg fun K' hK' => ?_
  obtain ⟨w', hrun, r1, r2⟩ := hown.update K ht hn hkey hQ hval
  unfold Oper.wp
  simp [execOp, hop, hm, hx, hv, hrun, Result.andThen]
  exact hK' _ _ (hK w' r1 r2)

/-! ### .. and by all that it should hold -/
def MapEx (w : World) (k : TypeId) (b n : Nat) (Q : Value → Value → Prop) : Prop :=
  ∃ es clock, w.heap[b]? = some (.map es clock) ∧ Fit Try.prog k anyR es clock ∧ es.size ≤ n ∧ (∀ e ∈ es.toList, Q e.key e.val) ∧ ∀ x y, Q x y → ∃ e ∈ es.toList, e.key = x
theorem MapEx.of {w : World} {k : TypeId} {b n : Nat} {Q : Value → Value → Prop} (h : MapEx w k b n Q) : MapOf w k b n Q := by
  obtain ⟨es, clock, h1, h2, h3, h4, _⟩ := h
  exact ⟨es, clock, h1, h2, h3, h4⟩
theorem MapEx.made (w : World) (k : TypeId) (Q : Value → Value → Prop) (h0 : ∀ x y, ¬ Q x y) : MapEx (w.alloc (.map #[] 0)) k w.heap.size 0 Q :=
  ⟨#[], 0, (MapKept.heap_alloc w _).1, ⟨by simp, stamped_empty 0, by simp⟩, Nat.le_refl _, by simp, fun x y h => absurd h (h0 x y)⟩
theorem MapEx.lt {w : World} {k : TypeId} {b n : Nat} {Q : Value → Value → Prop} (h : MapEx w k b n Q) : b < w.heap.size := h.of.lt
theorem MapEx.same {w w' : World} {k : TypeId} {b n : Nat} {Q : Value → Value → Prop} (h : MapEx w k b n Q) (e : w'.heap[b]? = w.heap[b]?) : MapEx w' k b n Q := by
  obtain ⟨es, clock, hb, r⟩ := h
  exact ⟨es, clock, e.trans hb, r⟩
theorem MapEx.kept {w w' : World} {k : TypeId} {b n : Nat} {Q : Value → Value → Prop} {ts : List TypeId} {bs : List Nat} (h : MapEx w k b n Q) (hk : Kept ts bs w w') (hb : b ∉ bs) : MapEx w' k b n Q := by
  obtain ⟨es, clock, hbb, r⟩ := h
  exact ⟨es, clock, hk b _ hbb (fun c e fz e0 => by cases e0) hb, r⟩
theorem MapEx.more {w : World} {k : TypeId} {b n n' : Nat} {Q : Value → Value → Prop} (h : MapEx w k b n Q) (hn : n ≤ n') : MapEx w k b n' Q := by
  obtain ⟨es, clock, hb, F, hs, r⟩ := h
  exact ⟨es, clock, hb, F, Nat.le_trans hs hn, r⟩
theorem MapEx.set {w : World} {k : TypeId} {b n t g i : Nat} {u : Value} {cs : Array Value} {Q : Value → Value → Prop} (h : MapEx w k b n Q) (h' : St w t g cs) : MapEx (w.setCell ⟨g, i, none⟩ u) k b n Q := by
  refine h.same (Below.heap_setCell _ _ _ _ ?_)
  intro e
  obtain ⟨es, clock, hb, _⟩ := h
  have h2 : w.heap[g]? = _ := h'
  rw [show b = g from e, h2] at hb
  cases hb
/-- 'm[k] = v' at a key that is new. -/
theorem MapEx.update {w : World} {k t e : TypeId} {b n : Nat} {Q Q' : Value → Value → Prop} (h : MapEx w k b n Q) (K : Keyed Try.prog k) (ht : Try.prog.underlying t = some (.map k e)) (hn : n < maxLen)
    {key val : Value} {kl : Lit} (hkey : keyOf Try.prog k key = some kl) (hnew : ∀ y, ¬ Q key y) (hQ : ∀ x y, Q x y → Q' x y) (hv : Q' key val) (hback : ∀ x y, Q' x y → x ≠ key → ∃ y', Q x y') :
    ∃ w', (Instr.mapUpdate t (.map (some b)) key val).run Try.prog w = .ok () w' ∧ MapEx w' k b (n + 1) Q' ∧ w.grownBy w' (some b) := by
  obtain ⟨es, clock, hb, F, hs, hq, hall⟩ := h
  have hno : ∀ x ∈ es.toList, x.key ≠ key := fun x hx e0 => hnew x.val (by rw [← e0]; exact hq x hx)
  obtain ⟨F1, _, _⟩ := F.stay (R' := anyR) (fun x hx z hz => hz)
  have hrd : WideElems.rd Try.prog k anyR ⟨key, val, clock⟩ = some (kl, .held val) := by unfold WideElems.rd anyR; rw [hkey]; rfl
  rcases K.find w hkey es.toList F.keys with ⟨h1, h2⟩ | ⟨j, e0, h1, h2, h3⟩
  · refine ⟨setBlock w b (.map (es.push ⟨key, val, clock⟩) (clock + 1)), ?_, ⟨es.push ⟨key, val, clock⟩, clock + 1, heap_setBlock_same hb _, ⟨by simp; omega, stamped_push F.stamped h2, ?_⟩, by simp; omega, fun x hx => ?_, fun x y hx => ?_⟩, ⟨rfl, rfl, rfl, by simp [setBlock], fun i _ hi => heap_setBlock_other hb _ (fun e => hi (by rw [e]))⟩⟩
    · simp [Instr.mapUpdate, run_underlying ht, MapKept.run_getObj_map hb, K.check w false hkey, h1, MapKept.run_setObj_map _ hb, Result.andThen, setBlock]
    · intro x hx
      simp only [Array.toList_push, List.mem_append, List.mem_singleton] at hx
      rcases hx with hx | rfl
      · exact F1.reads x hx
      · exact ⟨_, hrd⟩
    · simp only [Array.toList_push, List.mem_append, List.mem_singleton] at hx
      rcases hx with hx | rfl
      · exact hQ _ _ (hq x hx)
      · exact hv
    · by_cases e0 : x = key
      · exact ⟨⟨key, val, clock⟩, by rw [Array.toList_push]; exact List.mem_append_right _ (List.mem_singleton.2 rfl), e0.symm⟩
      · obtain ⟨y', hy⟩ := hback x y hx e0
        obtain ⟨e1, h4, h5⟩ := hall x y' hy
        exact ⟨e1, by rw [Array.toList_push]; exact List.mem_append_left _ h4, h5⟩
  · exact absurd h3 (hno e0 (List.mem_of_getElem? h2))
theorem MapEx.grown_own {w w' : World} {B t' size n k b N : Nat} {v : Value} {xs : List Value} {Q : Value → Value → Prop} (h : MapEx w k b N Q) (ho : w.ownsRow B t' size v n xs) (hg : w.grownBy w' v.ownBlock) : MapEx w' k b N Q := by
  refine h.same (hg.block b h.lt (fun e => ?_))
  obtain ⟨c, fz, hc⟩ := own_kind ho b e.symm
  obtain ⟨es, clock, hb, _⟩ := h
  rw [hc] at hb
  cases hb
/-- .. at the operation. -/
theorem wpList_store_new (w : World) {ops : Array Oper} {rest : List Oper} {o : Oper} {a : Act} {Q : Exit → Act → World → Prop}
    (hg : o.guard = none) (m x v : Operand) (t : TypeId) (hop : o.op = Op.mapUpdate t m x v)
    (k e : TypeId) (K : Keyed Try.prog k) (ht : Try.prog.underlying t = some (.map k e)) (b n : Nat) (Q0 Q1 : Value → Value → Prop)
    (hm : a.eval m = .map (some b)) (hown : MapEx w k b n Q0) (hn : n < maxLen) (key val : Value) (kl : Lit) (hx : a.eval x = key) (hv : a.eval v = val) (hkey : keyOf Try.prog k key = some kl)
    (hnew : ∀ y, ¬ Q0 key y) (hQ : ∀ x y, Q0 x y → Q1 x y) (hval : Q1 key val) (hback : ∀ x y, Q1 x y → x ≠ key → ∃ y', Q0 x y')
    (hK : ∀ w', MapEx w' k b (n + 1) Q1 → w.grownBy w' (some b) → wpList Try.prog ops Q rest (a.put o.dst undef) w') :
    wpList Try.prog ops Q (o :: rest) a w := by
  refine wpList_plain hg fun K' hK' => ?_
  obtain ⟨w', hrun, r1, r2⟩ := hown.update K ht hn hkey hnew hQ hval hback
  unfold Oper.wp
  simp [execOp, hop, hm, hx, hv, hrun, Result.andThen]
  exact hK' _ _ (hK w' r1 r2)

/-! ### Keys -/
theorem wf64 {n : Int} (h : -9223372036854775808 ≤ n ∧ n ≤ 9223372036854775807) : (Lit.int .i64 n).wf = true := by
  simp [Lit.wf, IntKind.min, IntKind.max, IntKind.bits, IntKind.signed]; omega
theorem wfu64 (n : Nat) (h : n < 18446744073709551616) : (Lit.int .u64 (n : Int)).wf = true := by
  simp [Lit.wf, IntKind.min, IntKind.max, IntKind.bits, IntKind.signed]; omega
end Go.Proofs.Ytlnndkilaklifaa
