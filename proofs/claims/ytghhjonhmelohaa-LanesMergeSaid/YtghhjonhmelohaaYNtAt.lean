import Derived.Test.YtghhjonhmelohaaYMath
import Derived.WalkKit
import Derived.Maps.AppendAt
import Derived.Deep.RegionHeld3
namespace Go.Proofs.Ytghhjonhmelohaa
open Go.RowKit
set_option linter.unusedVariables false
set_option linter.unusedSimpArgs false

/-- An append at a step of a region that draws. -/
theorem step_append_ownY {P : Program} {ops : Array Oper} {o : Oper} {a : Act} {w : World} {K : Act → World → Prop} {Q : Exit → Act → World → Prop} {E : Prop} (hgd : o.guard = none) (s x : Operand) (t : TypeId)
    (ho : o.op = .call { callee := .builtin .append, args := #[s, x], argTypes := #[t, t] })
    (base : Nat) (e : TypeId) (i : TypeInfo) (z : Value) (size bytes : Nat) (ht : P.underlying t = some (.slice e)) (hi : P.info? e = some i) (hz : i.zero = some z)
    (hsize : i.size = size) (hby : i.bytes = bytes) (hzs : z.cells.size = size) (hsz : 0 < size)
    (v : Value) (n : Nat) (xs : List Value) (hs : a.eval s = v) (hown : w.ownsRow base e size v n xs)
    (ad : Addr) (m c : Nat) (news : List Value) (hx : a.eval x = .slice (some ad) m c) (hl : news.length = m * size) (hnews : ∀ j u, news[j]? = some u → w.cell? (ad.add j) = some u) (h1 : ∀ u ∈ news, u.oneCell' = true)
    (h63 : n + m ≤ maxLen) (hbytes : (n + m) * bytes ≤ 140737488355328) (hbase : base ≤ w.heap.size)
    (h : ∀ v' w', w'.ownsRow base e size v' (n + m) (xs ++ news) → w.grownBy w' v.ownBlock → K (a.put o.dst v') w') :
    if Region.wanted o (yielded ops a.tmps) = true then Oper.wp P o a w K Q else E := by
  have hw : Region.wanted o (yielded ops a.tmps) = true := by simp [Region.wanted, hgd]
  rw [if_pos hw]
  obtain ⟨v', w', hr, h2, h3, _, _⟩ := run_append_own_at (P := P) w base t o.type e i z size bytes ht hi hz hsize hby hzs hsz v n xs hown ad m c news hl hnews h1 h63 hbytes hbase
  unfold Oper.wp execOp
  simp only [ho, resolve, invoke, builtin, Sem.run_bind, Sem.run_pure, Result.andThen_ok, List.map_toArray, List.map_cons, List.map_nil, hs, hx, hr]
  exact h v' w' h2 h3

/-- Notes in memory. -/
def NtAt (w : World) (a : Option Addr) (l : List Nt) : Prop := 0 < l.length → ∃ g off, a = some ⟨g, off, none⟩ ∧ g < w.heap.size ∧ ∀ j, j < l.length * 6 → w.cell? ⟨g, off + j, none⟩ = (nts l)[j]?
theorem NtAt.below {w w' : World} {a : Option Addr} {l : List Nt} (h : NtAt w a l) (k : Below w.heap.size w w') : NtAt w' a l := by
  intro h0
  obtain ⟨g, off, rfl, hg, hc⟩ := h h0
  have := k.size
  exact ⟨g, off, rfl, by omega, fun j hj => (k.cell (p := ⟨g, off + j, none⟩) hg).trans (hc j hj)⟩
/-- The cells of one note. -/
theorem NtAt.get {w : World} {a : Option Addr} {l : List Nt} (h : NtAt w a l) {k : Nat} {x : Nt} (hx : l[k]? = some x) :
    ∃ g off, a = some ⟨g, off, none⟩ ∧ g < w.heap.size ∧ w.cell? ⟨g, off + k * 6, none⟩ = some (.int .i64 x.t.r) ∧ w.cell? ⟨g, off + k * 6 + 1, none⟩ = some (.string x.t.s) ∧ w.cell? ⟨g, off + k * 6 + 2, none⟩ = some (.int .i64 x.t.p) ∧ w.cell? ⟨g, off + k * 6 + 3, none⟩ = some (.int .i64 ((x.n : Nat) : Int)) ∧ w.cell? ⟨g, off + k * 6 + 4, none⟩ = some (.bool x.b) ∧ w.cell? ⟨g, off + k * 6 + 5, none⟩ = some (.bool x.f) := by
  obtain ⟨hk, rfl⟩ := List.getElem?_eq_some_iff.1 hx
  obtain ⟨g, off, rfl, hg, hc⟩ := h (by omega)
  refine ⟨g, off, rfl, hg, ?_, ?_, ?_, ?_, ?_, ?_⟩
  · have := nts_get l k hk 0 (by omega)
    rw [hc _ (by omega)]; exact this
  all_goals
    rw [Nat.add_assoc, hc _ (by omega), nts_get l k hk _ (by omega)]
    rfl
theorem own_nts {w : World} {B n c : Nat} {a : Option Addr} {l : List Nt} (hl : l.length = n) (h : w.ownsRow B 39 6 (.slice a n c) n (nts l)) : NtAt w a l := by
  intro h0
  obtain ⟨g, e, _, hg, hc⟩ := ownsRow_read h (by omega)
  exact ⟨g, 0, e, hg, fun j hj => by rw [Nat.zero_add, (hc j (by omega)).1]⟩
theorem Try.info_note : (Try.prog.info? 39).map (fun i => (i.zero, i.size, i.bytes)) = some (some (.agg #[.int .i64 0, .string ⟨#[]⟩, .int .i64 0, .int .i64 0, .bool false, .bool false]), 6, 48) := by kernel_rfl
/-- The first tokens; the last ones. -/
theorem TkAt.take {w : World} {a : Option Addr} {l : List Tok} (h : TkAt w a l) (k : Nat) : TkAt w a (l.take k) := by
  intro h0
  obtain ⟨g, off, rfl, hg, hc⟩ := h (by rw [List.length_take] at h0; omega)
  refine ⟨g, off, rfl, hg, fun j hj => ?_⟩
  rw [List.length_take] at hj
  rw [hc j (by omega)]
  have e : l = l.take k ++ l.drop k := (List.take_append_drop k l).symm
  have e2 : tks l = tks (l.take k) ++ tks (l.drop k) := by rw [← tks_append, ← e]
  rw [e2, List.getElem?_append_left (by rw [tks_length, List.length_take]; exact hj)]
theorem TkAt.drop {w : World} {g off : Nat} {l : List Tok} (h : TkAt w (some ⟨g, off, none⟩) l) (k : Nat) (hk : k ≤ l.length) : TkAt w (some ⟨g, off + k * 3, none⟩) (l.drop k) := by
  intro h0
  rw [List.length_drop] at h0
  obtain ⟨g2, off2, e9, hg, hc⟩ := h (by omega)
  injection e9 with e9; injection e9 with e9 e10
  subst e9 e10
  refine ⟨g, off + k * 3, rfl, hg, fun j hj => ?_⟩
  rw [List.length_drop] at hj
  rw [Nat.add_assoc, hc _ (by omega)]
  have e : l = l.take k ++ l.drop k := (List.take_append_drop k l).symm
  have e2 : tks l = tks (l.take k) ++ tks (l.drop k) := by rw [← tks_append, ← e]
  have e3 : (tks (l.take k)).length = k * 3 := by rw [tks_length, List.length_take]; omega
  rw [e2, List.getElem?_append_right (by omega), e3, show k * 3 + j - k * 3 = j by omega]
end Go.Proofs.Ytghhjonhmelohaa
