import Derived.Test.YtlnndkilaklifaaZFrame
import Derived.Test.YtlnndkilaklifaaZNRef
namespace Go.Proofs.Ytlnndkilaklifaa
open Go.RowKit Go.Maps Go.WideElems Go.ChangeMaps Go.MapKept
set_option linter.unusedVariables false

def nums64 (l : List Nat) : List Value := l.map fun n => .int .i64 ((n : Nat) : Int)
theorem nums64_snoc (l : List Nat) (n : Nat) : nums64 (l ++ [n]) = nums64 l ++ [.int .i64 ((n : Nat) : Int)] := by simp [nums64]
theorem nums64_len (l : List Nat) : (nums64 l).length = l.length := by simp [nums64]
theorem nums64_get (l : List Nat) (j : Nat) (h : j < l.length) : (nums64 l)[j]? = some (.int .i64 ((l[j] : Nat) : Int)) := by simp [nums64, List.getElem?_eq_getElem h]
theorem law_int9 : Keyed Try.prog 3 := int_keyed Try.underlying3
theorem zero_int9 (w : World) : (zeroValue 3).run Try.prog w = .ok (.int .i64 0) w := by kernel_rfl
theorem Try.info_int9 : (Try.prog.info? 3).map (fun i => (i.zero, i.size, i.bytes)) = some (some (.int .i64 0), 1, 8) := by kernel_rfl
theorem int_key9 (k : Nat) (hk : k ≤ 9223372036854775807) : keyOf Try.prog 3 (.int .i64 ((k : Nat) : Int)) = some (.int .i64 ((k : Nat) : Int)) := by
  have hw : (Lit.int .i64 ((k : Nat) : Int)).wf = true := wf64 (by omega)
  unfold keyOf
  simp [Try.underlying3, mapKey, hw]
theorem key_inj9 {a b : Nat} (h : (Value.int .i64 ((a : Nat) : Int)) = .int .i64 ((b : Nat) : Int)) : a = b := by
  injection h with _ h
  exact Int.ofNat.inj h
/-- A look-up, with what it says of the keys. -/
theorem MapEx.look2 {w : World} {k t e : TypeId} {b n : Nat} {Q : Value → Value → Prop} (h : MapEx w k b n Q) (K : Keyed Try.prog k) (ht : Try.prog.underlying t = some (.map k e)) {z : Value} (hz : (zeroValue e).run Try.prog w = .ok z w)
    {key : Value} {kl : Lit} (hkey : keyOf Try.prog k key = some kl) :
    ((Instr.lookup t (.map (some b)) key true).run Try.prog w = .ok (.tuple #[z, .bool false]) w ∧ ∀ y, ¬ Q key y) ∨ ∃ v, Q key v ∧ (Instr.lookup t (.map (some b)) key true).run Try.prog w = .ok (.tuple #[v, .bool true]) w := by
  obtain ⟨es, clock, hb, F, _, hq, hall⟩ := h
  rcases Maps.fit_look true K ht hz hb F hkey with ⟨hrun, hno, _⟩ | ⟨e0, y, hm, hk, hrun, _⟩
  · refine Or.inl ⟨by simpa using hrun, fun y hy => ?_⟩
    obtain ⟨e1, h1, h2⟩ := hall _ _ hy
    exact hno e1 h1 h2
  · exact Or.inr ⟨e0.val, by rw [← hk]; exact hq e0 hm, by simpa using hrun⟩

/-- Which number a name has. -/
def NmQ (nm : List Nat) (x y : Value) : Prop := ∃ k s : Nat, nm[k]? = some s ∧ x = .int .i64 ((s : Nat) : Int) ∧ y = .int .i64 ((k : Nat) : Int)
/-- Names and their numbers, in two variables. -/
structure NumAt (w : World) (B bMv bNv bM : Nat) (vN : Value) (nm : List Nat) : Prop where
  sM : St w 101 bMv #[.map (some bM)]
  sN : St w 25 bNv #[vN]
  own : w.ownsRow B 3 1 vN nm.length (nums64 nm)
  map : MapEx w 3 bM nm.length (NmQ nm)
  nd : nm.Nodup
  le : ∀ x ∈ nm, x ≤ 9223372036854775807
  bM : B ≤ bM
  bN : B ≤ bNv
theorem NumAt.keep {w w' : World} {B bMv bNv bM : Nat} {vN : Value} {nm : List Nat} (h : NumAt w B bMv bNv bM vN nm) (k : Below w.heap.size w w') : NumAt w' B bMv bNv bM vN nm :=
  ⟨h.sM.keep k, h.sN.keep k, ownsRow_keep h.own k, h.map.same (k.block _ h.map.lt), h.nd, h.le, h.bM, h.bN⟩
def NumPost (w : World) (B bMv bNv bM : Nat) (nm : List Nat) (s : Nat) (e : Ending) (w' : World) : Prop :=
  ∃ (k : Nat) (nm' : List Nat) (vN' : Value), e = .returned (.int .i64 ((k : Nat) : Int)) ∧ NumAt w' B bMv bNv bM vN' nm' ∧ nm'[k]? = some s ∧ (nm' = nm ∨ nm' = nm ++ [s]) ∧ Below B w w' ∧ Kept [3] [bM, bNv] w w'

end Go.Proofs.Ytlnndkilaklifaa
