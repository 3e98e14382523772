import Derived.Test.YtlnndkilaklifaaZNByte
import Derived.Test.YtlnndkilaklifaaZNUCopy
namespace Go.Proofs.Ytlnndkilaklifaa
open Go.RowKit
set_option linter.unusedVariables false
set_option linter.unusedSimpArgs false

theorem fre_cells (f t : Nat) : egCells (fre f t).z = [.int .i64 ((f : Nat) : Int), .int .i64 ((t : Nat) : Int), .int .u64 0, .int .u64 0, .int .u64 0, .int .u64 0, .bool true] := by
  simp [egCells, En.z, fre, wd_none]

end Go.Proofs.Ytlnndkilaklifaa

namespace Go.Proofs.Ytlnndkilaklifaa
open Go.RowKit
set_option linter.unusedVariables false
set_option linter.unusedSimpArgs false

/-- An append at a step of a region that draws, of nothing too. -/
theorem step_append_own9 {P : Program} {ops : Array Oper} {o : Oper} {a : Act} {w : World} {K : Act → World → Prop} {Q : Exit → Act → World → Prop} {E : Prop} (hgd : o.guard = none) (s x : Operand) (t : TypeId)
    (ho : o.op = .call { callee := .builtin .append, args := #[s, x], argTypes := #[t, t] })
    (base : Nat) (e : TypeId) (i : TypeInfo) (z : Value) (size bytes : Nat) (ht : P.underlying t = some (.slice e)) (hi : P.info? e = some i) (hz : i.zero = some z)
    (hsize : i.size = size) (hby : i.bytes = bytes) (hzs : z.cells.size = size) (hsz : 0 < size)
    (v : Value) (n : Nat) (xs : List Value) (hs : a.eval s = v) (hown : w.ownsRow base e size v n xs)
    (ad : Addr) (m c : Nat) (news : List Value) (hx : a.eval x = .slice (some ad) m c) (hl : news.length = m * size) (hnews : ∀ j u, news[j]? = some u → w.cell? (ad.add j) = some u) (h1 : ∀ u ∈ news, u.oneCell' = true)
    (h63 : n + m ≤ maxLen) (hbytes : (n + m) * bytes ≤ 140737488355328) (hbase : base ≤ w.heap.size)
    (h : ∀ v' w', w'.ownsRow base e size v' (n + m) (xs ++ news) → w.grownBy w' v.ownBlock → K (a.put o.dst v') w') :
    if Region.wanted o (yielded ops a.tmps) = true then Oper.wp P o a w K Q else E := by
  have hw : Region.wanted o (yielded ops a.tmps) = true := by simp [Region.wanted, hgd]
  rw [if_pos hw]
  obtain ⟨v', w', hr, h2, h3, _, _⟩ := run_append_own_at (P := P) w base t o.type e i z size bytes ht hi hz hsize hby hzs hsz v n xs hown ad m c news hl hnews h1 h63 hbytes hbase
  unfold Oper.wp execOp
  simp only [ho, resolve, invoke, builtin, Sem.run_bind, Sem.run_pure, Result.andThen_ok, List.map_toArray, List.map_cons, List.map_nil, hs, hx, hr]
  exact h v' w' h2 h3

/-! ### Machines in memory -/
/-- A machine as it lies there. -/
structure Mg where
  S : Int
  F : Int
  T : Int
  a : Option Addr
  c : Nat
  L : List Eg
def mgCells (m : Mg) : Array Value := #[.int .i64 m.S, .slice m.a m.L.length m.c, .int .i64 m.F, .int .i64 m.T]
def MgAt (w : World) (a : Option Addr) (n : Nat) (G : Nat → Mg) : Prop := 0 < n → ∃ g off, a = some ⟨g, off, none⟩ ∧ g < w.heap.size ∧ ∀ k, k < n →
  (w.cell? ⟨g, off + k * 4, none⟩ = some (.int .i64 (G k).S) ∧ w.cell? ⟨g, off + k * 4 + 1, none⟩ = some (.slice (G k).a (G k).L.length (G k).c) ∧ w.cell? ⟨g, off + k * 4 + 2, none⟩ = some (.int .i64 (G k).F) ∧ w.cell? ⟨g, off + k * 4 + 3, none⟩ = some (.int .i64 (G k).T)) ∧ EdAt w (G k).a (G k).L
theorem MgAt.below {w w' : World} {a : Option Addr} {n : Nat} {G : Nat → Mg} (h : MgAt w a n G) (k : Below w.heap.size w w') : MgAt w' a n G := by
  intro h0
  obtain ⟨g, off, e, hg, hc⟩ := h h0
  have := k.size
  refine ⟨g, off, e, by omega, fun j hj => ?_⟩
  obtain ⟨⟨h1, h2, h3, h4⟩, h5⟩ := hc j hj
  exact ⟨⟨(k.cell (p := ⟨g, _, none⟩) hg).trans h1, (k.cell (p := ⟨g, _, none⟩) hg).trans h2, (k.cell (p := ⟨g, _, none⟩) hg).trans h3, (k.cell (p := ⟨g, _, none⟩) hg).trans h4⟩, h5.below k⟩
theorem MgAt.congr {w : World} {a : Option Addr} {n : Nat} {G G' : Nat → Mg} (h : MgAt w a n G) (e : ∀ k, k < n → G k = G' k) : MgAt w a n G' := by
  intro h0
  obtain ⟨g, off, e1, hg, hc⟩ := h h0
  exact ⟨g, off, e1, hg, fun k hk => by rw [← e k hk]; exact hc k hk⟩
/-- A machine whose states are there, as it lies. -/
def NF.mg (m : NF) (a : Option Addr) (c : Nat) : Mg := ⟨(m.N : Int), (m.F : Int), (m.T : Int), a, c, m.L.map En.z⟩
/-- The last states. -/
def ula (M : Nat → NF) : Nat → List Nat
  | 0 => []
  | k + 1 => ula M k ++ [uo M k + (M k).T]
theorem ula_len (M : Nat → NF) (k : Nat) : (ula M k).length = k := by
  induction k with
  | zero => rfl
  | succ k ih => simp [ula, ih]
theorem ula_at (M : Nat → NF) (n i : Nat) (h : i < n) : (ula M n)[i]? = some (uo M i + (M i).T) := by
  induction n with
  | zero => omega
  | succ n ih =>
    rw [ula]
    by_cases e : i = n
    · subst e
      rw [List.getElem?_append_right (by rw [ula_len]; exact Nat.le_refl _), ula_len]
      simp
    · rw [List.getElem?_append_left (by rw [ula_len]; omega)]
      exact ih (by omega)

/-- What Union has made so far. -/
structure UnA (w : World) (p : Nat) (L : List En) (k : Nat) (ls : List Nat) (vE vL : Value) (wr : World) : Prop where
  s2 : St wr 24 w.heap.size #[.int .i64 0, .slice none 0 0, .int .i64 0, .int .i64 0]
  s4 : St wr 24 (w.heap.size + 1) #[.int .i64 ((p : Nat) : Int), vE, .int .i64 0, .int .i64 0]
  oe : wr.ownsRow w.heap.size 43 7 vE L.length (egs (L.map En.z))
  ol : wr.ownsRow w.heap.size 3 1 vL k (nums64 ls)
  below : Below w.heap.size w wr
theorem UnA.keep {w wr w1 : World} {p k : Nat} {L : List En} {ls : List Nat} {vE vL : Value} (h : UnA w p L k ls vE vL wr) (b : Below wr.heap.size wr w1) : UnA w p L k ls vE vL w1 :=
  ⟨h.s2.keep b, h.s4.keep b, ownsRow_keep h.oe b, ownsRow_keep h.ol b, h.below.trans (b.mono h.below.size)⟩
/-- More edges. -/
theorem UnA.app {w wr w1 : World} {p k : Nat} {L L2 : List En} {ls : List Nat} {vE vL vE' : Value} (h : UnA w p L k ls vE vL wr) (ho : w1.ownsRow w.heap.size 43 7 vE' (L ++ L2).length (egs (L.map En.z) ++ egs (L2.map En.z))) (hg : wr.grownBy w1 vE.ownBlock) :
    UnA w p (L ++ L2) k ls vE' vL (w1.setCell ⟨w.heap.size + 1, 1, none⟩ vE') := by
  have h2 := h.s2.grown_own h.oe (by decide) hg
  have h4 := h.s4.grown_own h.oe (by decide) hg
  refine ⟨h2.far (p := ⟨w.heap.size + 1, 1, none⟩) (by show w.heap.size ≠ w.heap.size + 1; omega) _, ?_, ?_, own_set (own_grown_own h.ol h.oe (by decide) hg) h4 (by decide) 1 vE', (below_grown_own h.below h.oe h.below.size hg).setCell (p := ⟨w.heap.size + 1, 1, none⟩) (by show w.heap.size ≤ w.heap.size + 1; omega) _⟩
  · have := h4.set 1 vE'
    simpa using this
  · rw [List.map_append, egs_append]
    exact own_set ho h4 (by decide) 1 vE'

/-- One more last state, and the next begins. -/
theorem UnA.last {w wr w1 : World} {p k N t : Nat} {L : List En} {ls : List Nat} {vE vL vL' : Value} {o : Obj} (h : UnA w p L k ls vE vL wr) (ho : w1.ownsRow w.heap.size 3 1 vL' (k + 1) (nums64 ls ++ [.int .i64 ((t : Nat) : Int)])) (hg : (wr.alloc o).grownBy w1 vL.ownBlock) :
    UnA w (p + N) L (k + 1) (ls ++ [t]) vE vL' (w1.setCell ⟨w.heap.size + 1, 0, none⟩ (.int .i64 ((p : Int) + (N : Int)))) := by
  have h0 : UnA w p L k ls vE vL (wr.alloc o) := h.keep (al wr o)
  have h2 := h0.s2.grown_own h0.ol (by decide) hg
  have h4 := h0.s4.grown_own h0.ol (by decide) hg
  refine ⟨h2.far (p := ⟨w.heap.size + 1, 0, none⟩) (by show w.heap.size ≠ w.heap.size + 1; omega) _, ?_, own_set (own_grown_own h0.oe h0.ol (by decide) hg) h4 (by decide) 0 _, ?_, (below_grown_own h0.below h0.ol h0.below.size hg).setCell (p := ⟨w.heap.size + 1, 0, none⟩) (by show w.heap.size ≤ w.heap.size + 1; omega) _⟩
  · have := h4.set 0 (.int .i64 ((p : Int) + (N : Int)))
    simpa using this
  · rw [nums64_snoc]
    exact own_set ho h4 (by decide) 0 _

end Go.Proofs.Ytlnndkilaklifaa
