import Derived.Test.YtldpmcgkbdejjaaZClasses
import Derived.Test.YtldpmcgkbdejjaaZNNew
import Derived.Test.YtldpmcgkbdejjaaZNRClose
import Derived.Deep.RegionWith
namespace Go.Proofs.Ytldpmcgkbdejjaa
open Go.RowKit
set_option linter.unusedVariables false

/-- The bytes of a string. -/
def zof (s : ByteArray) (k : Nat) : Nat := (s.get! k).toNat
theorem zof_lt (s : ByteArray) (k : Nat) : zof s k < 256 := UInt8.toNat_lt _
theorem zof_at (s : ByteArray) (k : Nat) (h : k < s.size) : (s[k]'h).toNat = zof s k := by
  unfold zof
  rw [show s.get! k = s[k]'h from getElem!_pos s.data k h]

end Go.Proofs.Ytldpmcgkbdejjaa

namespace Go.Proofs.Ytldpmcgkbdejjaa
open Go.RowKit Go.Maps Go.WideElems Go.ChangeMaps Go.MapKept
set_option linter.unusedVariables false
set_option linter.unusedSimpArgs false

/-- t is the place of b's lowest bit. -/
def TzOk (b t : Nat) : Prop := b ≠ 0 → t < 8 ∧ b.testBit t = true ∧ (b &&& (b - 1)) < b ∧ ∀ j, j < 8 → (b &&& (b - 1)).testBit j = (b.testBit j && decide (j ≠ t))
instance (b t : Nat) : Decidable (TzOk b t) := by unfold TzOk; infer_instance



end Go.Proofs.Ytldpmcgkbdejjaa

namespace Go.Proofs.Ytldpmcgkbdejjaa
open Go.RowKit Go.Maps Go.WideElems Go.ChangeMaps Go.MapKept
set_option linter.unusedVariables false
set_option linter.unusedSimpArgs false

set_option maxHeartbeats 1000000 in
set_option maxRecDepth 100000 in
theorem max_any (v : Nat → Nat) (n c g : Nat) (hn : 0 < n) (hn2 : n ≤ 1000) (hv : ∀ j, j < n → v j < 256) (w : World) (h : ∀ j, j < n → w.cell? ⟨g, j, none⟩ = some (.int .u8 ((v j : Nat) : Int))) :
    Calls Try.prog 73 #[.slice (some ⟨g, 0, none⟩) n c] w fun e w' => ∃ x : Nat, e = .returned (.int .u8 ((x : Nat) : Int)) ∧ (∀ j, j < n → v j ≤ x) ∧ (∃ j, j < n ∧ v j = x) ∧ w' = w := by
  have H := Lib.hid (And.intro hv h)
  have c0 := h 0 hn
  have hz : ¬ ((n : Int) < 1) := by omega
  clear hv h
  go_enter Try.func73, Try.ntmps73
  go_wp2_with fail
  go_loopw [3, 4] (fun v3 i wr => ∃ (k x : Nat), i = .int .i64 k ∧ 1 ≤ k ∧ k ≤ n ∧ v3 = .int .u8 ((x : Nat) : Int) ∧ Hid ((∀ j, j < k → v j ≤ x) ∧ ∃ j, j < k ∧ v j = x) ∧ wr = w) (fun _ i _ => n - (intOf i).toNat)
  case atStart => exact ⟨1, v 0, rfl, Nat.le_refl _, hn, rfl, ⟨fun j hj => by rw [show j = 0 by omega]; exact Nat.le_refl _, 0, by omega, rfl⟩, rfl⟩
  case round =>
    obtain ⟨k, x, rfl, hk1, hk, rfl, HX, rfl⟩ := hrel
    by_cases hlt : k < n
    · have ck := H.out.2 k hlt
      have hvk := H.out.1 k hlt
      have HZ : Hid (∀ y, (y = x ∧ v k ≤ x) ∨ (y = v k ∧ x ≤ v k) → (∀ j, j < k + 1 → v j ≤ y) ∧ ∃ j, j < k + 1 ∧ v j = y) := fun y hy => by
        obtain ⟨h1, j0, h2, h3⟩ := HX.out
        rcases hy with ⟨rfl, hy⟩ | ⟨rfl, hy⟩
        · exact ⟨fun j hj => by by_cases e : j = k; rw [e]; exact hy; exact h1 j (by omega), j0, by omega, h3⟩
        · exact ⟨fun j hj => by by_cases e : j = k; rw [e]; exact Nat.le_refl _; exact Nat.le_trans (h1 j (by omega)) hy, k, by omega, rfl⟩
      generalize v k = y at ck hvk HZ
      have i1 : (k : Int) < (n : Int) := by omega
      rcases Nat.le_total y x with hyx | hyx
      · have HZ2 := Lib.hid (HZ.out x (Or.inl ⟨rfl, hyx⟩))
        have hmx : max ((x : Nat) : Int) ((y : Nat) : Int) = ((x : Nat) : Int) := by omega
        have hmx2 : max x y = x := by omega
        go_wp2_with fail
        go_roundw
        case rel => exact ⟨k + 1, x, by go_num, by omega, by omega, by first | rfl | simp [hmx], HZ2, by first | trivial | rfl⟩
        case measure => simp [intOf]; omega
      · have HZ2 := Lib.hid (HZ.out y (Or.inr ⟨rfl, hyx⟩))
        have hmx : max ((x : Nat) : Int) ((y : Nat) : Int) = ((y : Nat) : Int) := by omega
        have hmx2 : max x y = y := by omega
        go_wp2_with fail
        go_roundw
        case rel => exact ⟨k + 1, y, by go_num, by omega, by omega, by first | rfl | simp [hmx], HZ2, by first | trivial | rfl⟩
        case measure => simp [intOf]; omega
    · obtain rfl : k = n := by omega
      go_wp2_with fail
      go_ret
      exact ⟨x, rfl, HX.out.1, HX.out.2, rfl⟩

end Go.Proofs.Ytldpmcgkbdejjaa

namespace Go.Proofs.Ytldpmcgkbdejjaa
open Go.RowKit Go.Maps Go.WideElems Go.ChangeMaps Go.MapKept
set_option linter.unusedVariables false
set_option linter.unusedSimpArgs false

/-- An array, or a struct, that is a part of a block is loaded. -/
theorem run_loadVar_part {P : Program} (w : World) (ad : Addr) (ty : TypeId) (cs : Array Value) (d : TypeDesc) (hc : ∀ j v, cs.toList[j]? = some v → w.cell? (ad.add j) = some v)
    (hu : P.underlying ty = some d) (hd : (match d with | .struct _ | .array _ _ => true | _ => false) = true) (hi : (P.info? ty).map (·.size) = some cs.size) :
    (loadVar ty ad).run P w = .ok (.agg cs) w := by
  have hl : (loadCells ad cs.toList.length).run P w = .ok cs.toList.toArray w := run_loadCells_list (P := P) w ad cs.toList hc
  cases hq : P.info? ty with
  | none => simp [hq] at hi
  | some i =>
    have hs : i.size = cs.size := by simpa [hq] using hi
    have hagg : (isAgg ty).run P w = .ok true w := by
      unfold isAgg
      rw [Sem.run_bind, run_underlying hu w]
      cases d <;> simp_all
    simp only [Array.length_toList, Array.toArray_toList] at hl
    simp [loadVar, Sem.run_bind, hagg, sizeOf, typeInfo, hq, hs, hl]
theorem wpList_load_part {P : Program} {ops : Array Oper} {rest : List Oper} {o : Oper} {a : Act} {w : World} {Q : Exit → Act → World → Prop} (hgd : o.guard = none) (ty : TypeId) (x : Operand) (ho : o.op = .load ty x)
    (ad : Addr) (hx : a.eval x = .pointer (some ad)) (cs : Array Value) (d : TypeDesc) (hc : ∀ j v, cs.toList[j]? = some v → w.cell? (ad.add j) = some v)
    (hu : P.underlying ty = some d) (hd : (match d with | .struct _ | .array _ _ => true | _ => false) = true) (hi : (P.info? ty).map (·.size) = some cs.size)
    (h : wpList P ops Q rest (a.put o.dst (.agg cs)) w) : wpList P ops Q (o :: rest) a w :=
  wpList_plain hgd fun _ hK => by
    unfold Oper.wp execOp
    simp only [ho, hx, Instr.loadAt, Instr.sureAddr, Sem.run_bind, Sem.run_pure, Result.andThen_ok, run_loadVar_part w ad ty cs d hc hu hd hi]
    exact hK _ _ h


theorem run_index_part {P : Program} (t e : TypeId) (n : Nat) (cs : Array Value) (i : Nat) (v : Value) (h : P.underlying t = some (.array n e)) (hi : i < n) (hs : (P.info? e).map (·.size) = some 1) (hd : ∃ d, P.underlying e = some d ∧ (match d with | .struct _ | .array _ _ => true | _ => false) = false) (hv : cs[i]? = some v) (w : World) :
    (Instr.index t (.agg cs) (.int .i64 ((i : Nat) : Int))).run P w = .ok v w := by
  obtain ⟨d, hd1, hd2⟩ := hd
  cases hq : P.info? e with
  | none => simp [hq] at hs
  | some inf =>
    have hs1 : inf.size = 1 := by simpa [hq] using hs
    have hagg : (isAgg e).run P w = .ok false w := by
      unfold isAgg
      rw [Sem.run_bind, run_underlying hd1 w]
      cases d <;> simp_all
    have h1 : (0 : Int) ≤ (i : Int) ∧ (i : Int) < (n : Int) := by omega
    simp [Instr.index, asIntOf, run_underlying h, h1, sizeOf, typeInfo, hq, hs1, part, hagg, hv]
    intro hni
    omega

end Go.Proofs.Ytldpmcgkbdejjaa

namespace Go.Proofs.Ytldpmcgkbdejjaa
open Go.RowKit Go.Maps Go.WideElems Go.ChangeMaps Go.MapKept
set_option linter.unusedVariables false
set_option linter.unusedSimpArgs false


def ints (l : List Int) : List Value := l.map fun x => .int .i64 x
end Go.Proofs.Ytldpmcgkbdejjaa

namespace Go.Proofs.Ytldpmcgkbdejjaa
open Go.RowKit
set_option linter.unusedVariables false
set_option linter.unusedSimpArgs false


end Go.Proofs.Ytldpmcgkbdejjaa

namespace Go.Proofs.Ytldpmcgkbdejjaa
open Go.RowKit
set_option linter.unusedVariables false
set_option linter.unusedSimpArgs false

/-- An append at a step of a region that draws, of nothing too. -/
theorem step_append_own9 {P : Program} {ops : Array Oper} {o : Oper} {a : Act} {w : World} {K : Act → World → Prop} {Q : Exit → Act → World → Prop} {E : Prop} (hgd : o.guard = none) (s x : Operand) (t : TypeId)
    (ho : o.op = .call { callee := .builtin .append, args := #[s, x], argTypes := #[t, t] })
    (base : Nat) (e : TypeId) (i : TypeInfo) (z : Value) (size bytes : Nat) (ht : P.underlying t = some (.slice e)) (hi : P.info? e = some i) (hz : i.zero = some z)
    (hsize : i.size = size) (hby : i.bytes = bytes) (hzs : z.cells.size = size) (hsz : 0 < size)
    (v : Value) (n : Nat) (xs : List Value) (hs : a.eval s = v) (hown : w.ownsRow base e size v n xs)
    (ad : Addr) (m c : Nat) (news : List Value) (hx : a.eval x = .slice (some ad) m c) (hl : news.length = m * size) (hnews : ∀ j u, news[j]? = some u → w.cell? (ad.add j) = some u) (h1 : ∀ u ∈ news, u.oneCell' = true)
    (h63 : n + m ≤ maxLen) (hbytes : (n + m) * bytes ≤ 140737488355328) (hbase : base ≤ w.heap.size)
    (h : ∀ v' w', w'.ownsRow base e size v' (n + m) (xs ++ news) → w.grownBy w' v.ownBlock → K (a.put o.dst v') w') :
    if Region.wanted o (yielded ops a.tmps) = true then Oper.wp P o a w K Q else E := by
  have hw : Region.wanted o (yielded ops a.tmps) = true := by simp [Region.wanted, hgd]
  rw [if_pos hw]
  obtain ⟨v', w', hr, h2, h3, _, _⟩ := run_append_own_at (P := P) w base t o.type e i z size bytes ht hi hz hsize hby hzs hsz v n xs hown ad m c news hl hnews h1 h63 hbytes hbase
  unfold Oper.wp execOp
  simp only [ho, resolve, invoke, builtin, Sem.run_bind, Sem.run_pure, Result.andThen_ok, List.map_toArray, List.map_cons, List.map_nil, hs, hx, hr]
  exact h v' w' h2 h3

/-! ### Machines in memory -/



end Go.Proofs.Ytldpmcgkbdejjaa

namespace Go.Proofs.Ytldpmcgkbdejjaa
open Go.RowKit Go.Maps Go.WideElems Go.ChangeMaps Go.MapKept
set_option linter.unusedVariables false
set_option linter.unusedSimpArgs false


end Go.Proofs.Ytldpmcgkbdejjaa

namespace Go.Proofs.Ytldpmcgkbdejjaa
open Go.RowKit Go.Maps Go.WideElems Go.ChangeMaps Go.MapKept
set_option linter.unusedVariables false
set_option linter.unusedSimpArgs false



end Go.Proofs.Ytldpmcgkbdejjaa
