import Derived.Test.YtcohjopbhopcgaaGFind
namespace Go.Proofs.Ytcohjopbhopcgaa
open Go.RowKit Go.Maps Go.WideElems Go.ChangeMaps Go.MapKept
set_option linter.unusedVariables false
set_option linter.unusedSimpArgs false

/-- The table at p holds the names l; its list is v. -/
structure TbM (w : World) (B p : Nat) (v : Value) (l : List ByteArray) : Prop where
  box : w.heap[p]? = some (.cells #[v] 42 (0, 0))
  own : w.ownsRow B 9 1 v l.length (sss l)
  le : B ≤ p
  far : v.ownBlock ≠ some p
theorem TbM.lt {w : World} {B p : Nat} {v : Value} {l : List ByteArray} (h : TbM w B p v l) : p < w.heap.size := (Array.getElem?_eq_some_iff.1 h.box).1
theorem TbM.keep {w w' : World} {B p : Nat} {v : Value} {l : List ByteArray} (h : TbM w B p v l) (k : Below w.heap.size w w') : TbM w' B p v l :=
  ⟨(k.block p h.lt).trans h.box, ownsRow_keep h.own k, h.le, h.far⟩
theorem TbM.cell {w : World} {B p : Nat} {v : Value} {l : List ByteArray} (h : TbM w B p v l) : w.cell? ⟨p, 0, none⟩ = some v := by
  rw [cell_of_row w p 0 _ _ _ h.box]; rfl
theorem TbM.frz {w : World} {B p : Nat} {v : Value} {l : List ByteArray} (h : TbM w B p v l) : w.frozen? ⟨p, 0, none⟩ = false := frozen_of_row w p 0 _ _ h.box
theorem TbM.list {w : World} {B p : Nat} {v : Value} {l : List ByteArray} (h : TbM w B p v l) : ∃ a c, v = .slice a l.length c ∧ SsAt w a l ∧ (a = none → l.length = 0 ∧ c = 0) ∧ ∀ ad, a = some ad → ad.spot = none := by
  obtain ⟨a, c, rfl⟩ := ownsRow_slice h.own
  refine ⟨a, c, rfl, own_sss rfl h.own, ?_, ?_⟩
  · rintro rfl
    rcases h.own.2 with ⟨h1, h2⟩ | ⟨g, cap, cur, hv, _⟩
    · injection h1 with _ e1 e2; exact ⟨h2, e2⟩
    · cases hv
  · rintro ad rfl
    rcases h.own.2 with ⟨h1, _⟩ | ⟨g, cap, cur, hv, _⟩
    · cases h1
    · injection hv with e; injection e with e; rw [e]
/-- What a call that changes the table may change. -/
structure TbC (w w' : World) (p : Nat) (v : Value) : Prop where
  os : w'.os = w.os
  tape : w'.tape = w.tape
  output : w'.output = w.output
  size : w.heap.size ≤ w'.heap.size
  block : ∀ k, k < w.heap.size → k ≠ p → some k ≠ v.ownBlock → w'.heap[k]? = w.heap[k]?
theorem TbC.refl (w : World) (p : Nat) (v : Value) : TbC w w p v := ⟨rfl, rfl, rfl, Nat.le_refl _, fun _ _ _ _ => rfl⟩
theorem TbC.ofBelow {w w' : World} (p : Nat) (v : Value) (h : Below w.heap.size w w') : TbC w w' p v := ⟨h.os, h.tape, h.output, h.size, fun k hk _ _ => h.block k hk⟩
theorem TbC.below {w w' : World} {B p : Nat} {v : Value} {l : List ByteArray} (h : TbC w w' p v) (t : TbM w B p v l) (hB : B ≤ w.heap.size) : Below B w w' := by
  refine ⟨h.os, h.tape, h.output, h.size, fun k hk => h.block k (by omega) (by have := t.le; omega) fun e => ?_⟩
  have := (t.own.lt k e.symm).1
  omega
theorem TbC.ss {w w' : World} {p r : Nat} {v : Value} {l : List ByteArray} (h : TbC w w' p v) {a : Option Addr} (hs : SsAt w a l) (hn : ∀ ad, a = some ad → ad.block ≠ p ∧ some ad.block ≠ v.ownBlock) : SsAt w' a l := by
  intro h0
  obtain ⟨g, off, rfl, hg, hc⟩ := hs h0
  have := h.size
  obtain ⟨h1, h2⟩ := hn _ rfl
  refine ⟨g, off, rfl, by omega, fun j hj => ?_⟩
  rw [← hc j hj]
  exact World.cell?_of_block (h.block g hg h1 h2)

set_option maxHeartbeats 1000000 in
set_option maxRecDepth 100000 in
theorem new16_any (w : World) : Calls Try.prog 7 #[] w fun e w' => e = .returned (.pointer (some ⟨w.heap.size, 0, none⟩)) ∧ TbM w' w.heap.size w.heap.size (.slice none 0 0) [] ∧ Below w.heap.size w w' := by
  have HZ : Hid (TbM (w.alloc (.cells #[.slice none 0 0] 42)) w.heap.size w.heap.size (.slice none 0 0) [] ∧ Below w.heap.size w (w.alloc (.cells #[.slice none 0 0] 42))) :=
    ⟨⟨heap_alloc_new _ _, World.ownsRow_nil _ _ _ _, Nat.le_refl _, by simp [Value.ownBlock]⟩, al w _⟩
  go_enter Try.func7, Try.ntmps7
  go_wp2_with fail
  go_ret
  exact ⟨rfl, HZ.out⟩

set_option maxHeartbeats 1000000 in
set_option maxRecDepth 100000 in
theorem len16_any {w : World} {B p : Nat} {v : Value} {l : List ByteArray} (h : TbM w B p v l) :
    Calls Try.prog 10 #[.pointer (some ⟨p, 0, none⟩)] w fun e w' => e = .returned (.int .i64 ((l.length : Nat) : Int)) ∧ w' = w := by
  obtain ⟨a, c, rfl, _, _, _⟩ := h.list
  have h0 := h.cell
  have h1 := h.frz
  clear h
  go_enter Try.func10, Try.ntmps10
  go_wp2_with fail
  go_ret
  exact ⟨rfl, rfl⟩

set_option maxHeartbeats 1000000 in
set_option maxRecDepth 100000 in
theorem find16_any {w : World} {B p : Nat} {v : Value} {l : List ByteArray} (h : TbM w B p v l) (hl : l.length ≤ 1000000) (s : ByteArray) :
    Calls Try.prog 11 #[.pointer (some ⟨p, 0, none⟩), .string s] w (FindSP l s w) := by
  obtain ⟨a, c, rfl, hs, _, _⟩ := h.list
  have HI := Lib.hid (sindex_any l s l.length c a rfl hl w hs)
  have h0 := h.cell
  have h1 := h.frz
  clear h hs
  go_enter Try.func11, Try.ntmps11
  go_wp2_with fail
  refine HI.out.mono ?_
  rintro e w1 ⟨rfl, rfl⟩
  go_wp2_with fail
  go_ret
  exact ⟨rfl, rfl⟩

/-- The name with a number. -/
def nmS (l : List ByteArray) (n : Int) : ByteArray := if h : 0 ≤ n ∧ n.toNat < l.length then l[n.toNat]'h.2 else ⟨#[]⟩
set_option maxHeartbeats 1000000 in
set_option maxRecDepth 100000 in
theorem name16_any {w : World} {B p : Nat} {v : Value} {l : List ByteArray} (h : TbM w B p v l) (hl : l.length ≤ 1000000) (n : Int) :
    Calls Try.prog 15 #[.pointer (some ⟨p, 0, none⟩), .int .i64 n] w fun e w' => e = .returned (.string (nmS l n)) ∧ w' = w := by
  obtain ⟨a, c, rfl, hs, _, _⟩ := h.list
  have HL := Lib.hid (len16_any h)
  have h0 := h.cell
  have h1 := h.frz
  have HS := Lib.hid hs
  clear h hs
  go_enter Try.func15, Try.ntmps15
  by_cases h2 : n < 0
  · have HZ : Hid (nmS l n = ⟨#[]⟩) := dif_neg (fun h => by omega)
    go_wp2_with fail
    go_ret
    exact ⟨by rw [HZ.out]; rfl, rfl⟩
  · by_cases h3 : (l.length : Int) ≤ n
    · have HZ : Hid (nmS l n = ⟨#[]⟩) := dif_neg (fun h => by omega)
      go_wp2_with fail
      refine HL.out.mono ?_
      rintro e w1 ⟨rfl, rfl⟩
      go_wp2_with fail
      go_ret
      exact ⟨by rw [HZ.out]; rfl, rfl⟩
    · obtain ⟨k, rfl⟩ := Int.eq_ofNat_of_zero_le (by omega : 0 ≤ n)
      have hk : k < l.length := by omega
      obtain ⟨g, o, rfl, hg, hc⟩ := HS.out (by omega)
      have x1 := hc k hk
      have HZ : Hid (nmS l (k : Int) = l[k]) := by
        show nmS _ _ = _
        unfold nmS
        rw [dif_pos ⟨by omega, by simpa using hk⟩]
        simp
      clear hc HS
      generalize l[k] = u at x1 HZ
      go_wp2_with fail
      refine HL.out.mono ?_
      rintro e w1 ⟨rfl, rfl⟩
      go_wp2_with fail
      go_ret
      exact ⟨by rw [HZ.out]; rfl, rfl⟩
end Go.Proofs.Ytcohjopbhopcgaa
