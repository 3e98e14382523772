import Derived.Test.YtjhfgiflcenjpaaDoorZBld
import Derived.Test.YtjhfgiflcenjpaaDoorZSt
import Derived.Deep.RegionWith
import Derived.RegionTactic
namespace Go.Proofs.YtjhfgiflcenjpaaDoor
open Go.RowKit

theorem Tryd.lies_wr : liesAt Tryd.prog Tryd.prog.depth 53 (3 / Tryd.prog.cellsOf 53) 1 51 1 = true := by kernel_rfl

/-- Block b (from base on) is a writer of the list r that holds the bytes l; p: what its Builder's addr holds. -/
def WrAt (base b : Nat) (r p : Value) (l : List Nat) (w : World) : Prop :=
  base ≤ b ∧ ∃ v, w.heap[b]? = some (.cells #[r, p, v] 53 (0, 0)) ∧ w.ownsRow base 5 1 v l.length (u8s l) ∧ v.ownBlock ≠ some b
/-- .. fresh or used. -/
def Wr (base b : Nat) (r : Value) (l : List Nat) (w : World) : Prop := WrAt base b r (.pointer none) l w ∨ WrAt base b r (.pointer (some ⟨b, 1, none⟩)) l w
theorem WrAt.lt {base b : Nat} {r p : Value} {l : List Nat} {w : World} (h : WrAt base b r p l w) : b < w.heap.size := by
  obtain ⟨_, v, hb, _⟩ := h
  exact (Array.getElem?_eq_some_iff.1 hb).1
theorem Wr.lt {base b : Nat} {r : Value} {l : List Nat} {w : World} (h : Wr base b r l w) : b < w.heap.size := by
  rcases h with h | h <;> exact h.lt
theorem Wr.base {base b : Nat} {r : Value} {l : List Nat} {w : World} (h : Wr base b r l w) : base ≤ b := by
  rcases h with h | h <;> exact h.1
theorem Wr.read {base b : Nat} {r : Value} {l : List Nat} {w : World} (h : Wr base b r l w) : w.cell? ⟨b, 0, none⟩ = some r := by
  rcases h with ⟨_, v, hb, _⟩ | ⟨_, v, hb, _⟩ <;> (rw [Lib.cell_of_heap hb]; rfl)
theorem WrAt.keep {base b : Nat} {r p : Value} {l : List Nat} {w w' : World} (h : WrAt base b r p l w) (k : Below w.heap.size w w') : WrAt base b r p l w' := by
  have hl := h.lt
  obtain ⟨h1, v, h2, h3, h4⟩ := h
  exact ⟨h1, v, (k.block b hl).trans h2, ownsRow_keep h3 k, h4⟩
theorem Wr.keep {base b : Nat} {r : Value} {l : List Nat} {w w' : World} (h : Wr base b r l w) (k : Below w.heap.size w w') : Wr base b r l w' := by
  rcases h with h | h
  · exact Or.inl (h.keep k)
  · exact Or.inr (h.keep k)
theorem Wr.new (w : World) (r : Value) : Wr w.heap.size w.heap.size r [] (w.alloc (.cells #[r, .pointer none, .slice none 0 0] 53)) :=
  Or.inl ⟨Nat.le_refl _, .slice none 0 0, St.new w _ _, World.ownsRow_nil _ _ _ _, by simp [Value.ownBlock]⟩
/-- A store into addr. -/
theorem WrAt.used {base b : Nat} {r p : Value} {l : List Nat} {w : World} (h : WrAt base b r p l w) (q : Value) : WrAt base b r q l (w.setCell ⟨b, 1, none⟩ q) := by
  obtain ⟨hB, v, hb, hown, hne⟩ := h
  refine ⟨hB, v, ?_, ?_, hne⟩
  · simp [World.setCell, Array.getElem?_modify, hb]
  · refine hown.kept (row := some b) ⟨rfl, rfl, rfl, by simp [World.setCell], fun k _ hk => Below.heap_setCell _ _ _ _ (fun e => hk (by simp [e]))⟩ ?_
    exact Or.inr hne
/-- A new buffer laid into buf. -/
theorem WrAt.put {base b : Nat} {r p v v' : Value} {l : List Nat} {w : World} (hB : base ≤ b) (hb : w.heap[b]? = some (.cells #[r, p, v] 53 (0, 0))) (hown : w.ownsRow base 5 1 v' l.length (u8s l)) :
    WrAt base b r p l (w.setCell ⟨b, 2, none⟩ v') := by
  have hne := Lib.ownBlock_ne hown hb (by decide)
  refine ⟨hB, v', ?_, ?_, hne⟩
  · simp [World.setCell, Array.getElem?_modify, hb]
  · exact hown.kept (row := some b) ⟨rfl, rfl, rfl, by simp [World.setCell], fun k _ hk => Below.heap_setCell _ _ _ _ (fun e => hk (by simp [e]))⟩ (Or.inr hne)

set_option maxHeartbeats 1000000 in
set_option maxRecDepth 100000 in
theorem wcopy_used (b : Nat) (w : World) (h0 : w.cell? ⟨b, 1, none⟩ = some (.pointer (some ⟨b, 1, none⟩))) :
    Calls Tryd.prog 43 #[.pointer (some ⟨b, 1, none⟩)] w fun e w' => e = .returned (.tuple #[]) ∧ w = w' := by
  obtain ⟨j, hj, _⟩ := Option.map_eq_some_iff.1 Tryd.info_bld
  go_enter Tryd.func43, Tryd.ntmps43
  go_wp2
  rw [Lib.run_neq_ptr_same w _ Tryd.underlying48 hj]
  go_wp2
  go_end0
  exact ⟨rfl, rfl⟩

set_option maxHeartbeats 1000000 in
set_option maxRecDepth 100000 in
theorem wcopy_fresh (b : Nat) (w : World) (h0 : w.cell? ⟨b, 1, none⟩ = some (.pointer none)) (hsh : w.shape? b = some (53, 3)) (hfz : w.frozen? ⟨b, 1, none⟩ = false) :
    Calls Tryd.prog 43 #[.pointer (some ⟨b, 1, none⟩)] w fun e w' => e = .returned (.tuple #[]) ∧ w' = w.setCell ⟨b, 1, none⟩ (.pointer (some ⟨b, 1, none⟩)) := by
  obtain ⟨j, hj, hjs⟩ := Option.map_eq_some_iff.1 Tryd.info_bld
  go_enter Tryd.func43, Tryd.ntmps43
  go_wp2
  rw [Lib.run_to_unsafe w ⟨b, 1, none⟩ Tryd.underlying48 Tryd.underlying86 hj (by rw [hjs]; decide) hsh (by show 1 < 3; decide)]
  simp only [Result.andThen]
  rw [Oper.upon_value]
  go_wp2
  rw [run_callFunc_extern Tryd.func53 (by kernel_rfl) (by kernel_rfl) (by kernel_rfl) (e := Extern.AbiNoEscape.same) (by kernel_rfl)]
  rw [Lib.run_noEscape]
  simp only [Result.andThen]
  rw [Oper.upon_value]
  go_wp2
  rw [Lib.run_from_unsafe w ⟨b, 1, none⟩ Tryd.underlying86 Tryd.underlying48 hj hsh Tryd.lies_wr]
  simp only [Result.andThen]
  rw [Oper.upon_value]
  go_wp2
  go_end0
  exact ⟨rfl, rfl⟩

theorem wcopy_any (base b : Nat) (r : Value) (l : List Nat) (w : World) (h : Wr base b r l w) :
    Calls Tryd.prog 43 #[.pointer (some ⟨b, 1, none⟩)] w fun e w' => e = .returned (.tuple #[]) ∧ WrAt base b r (.pointer (some ⟨b, 1, none⟩)) l w' ∧ Below base w w' ∧ Lib.OthersKept 5 (some b) w w' := by
  rcases h with h | h
  · have h' := h
    obtain ⟨h1, v, hb, _⟩ := h
    refine (wcopy_fresh b w (by rw [Lib.cell_of_heap hb]; rfl) (by simp [World.shape?, hb]) (Lib.frozen_of_heap hb 1)).mono ?_
    rintro e w' ⟨rfl, rfl⟩
    exact ⟨rfl, h'.used _, (Below.refl base w).setCell (p := ⟨b, 1, none⟩) h1 _, (Lib.OthersKept.refl _ _ w).setCell ⟨b, 1, none⟩ rfl _⟩
  · have h' := h
    obtain ⟨h1, v, hb, _⟩ := h
    refine (wcopy_used b w (by rw [Lib.cell_of_heap hb]; rfl)).mono ?_
    rintro e w' ⟨rfl, rfl⟩
    exact ⟨rfl, h', Below.refl base _, Lib.OthersKept.refl _ _ _⟩

set_option maxHeartbeats 2000000 in
set_option maxRecDepth 100000 in
theorem wwrite_any (base b : Nat) (r : Value) (l m : List Nat) (w : World) (h : Wr base b r l w) (hm : ∀ n ∈ m, n < 256) (hlen : l.length + m.length ≤ 140737488355328) (hBw : base ≤ w.heap.size) :
    Calls Tryd.prog 41 #[.pointer (some ⟨b, 1, none⟩), .string (strOf m)] w fun e w' => e = .returned (.tuple #[.int .i64 ((m.length : Nat) : Int), .nilIface]) ∧ Wr base b r (l ++ m) w' ∧ Below base w w' ∧ Lib.OthersKept 5 (some b) w w' := by
  obtain ⟨i0, hi, hz0, hz1, hz2⟩ := info_parts Tryd.info_u8
  have hsz : (strOf m).size = m.length := strOf_size m
  have hsc := strCells_of m hm
  have HSZ := Lib.hid hsz
  have HSC := Lib.hid hsc
  have hlen' : l.length + (strOf m).size ≤ 140737488355328 := by rw [hsz]; exact hlen
  clear hsz hsc
  generalize strOf m = s at HSZ HSC hlen' ⊢
  go_enter Tryd.func41, Tryd.ntmps41
  go_wp2_with (go_at_call 43; refine (wcopy_any base b r l _ h).mono ?_)
  rintro e w1 ⟨rfl, h1, hb1, ok1⟩
  obtain ⟨hB, v, hbk, hown, hne⟩ := h1
  have c0 : w1.cell? ⟨b, 1, none⟩ = some (.pointer (some ⟨b, 1, none⟩)) := by rw [Lib.cell_of_heap hbk]; rfl
  have c1 : w1.cell? ⟨b, 2, none⟩ = some v := by rw [Lib.cell_of_heap hbk]; rfl
  go_wp2_with (at_builtin; refine Lib.wpList_append_own_string _ rfl _ _ 49 9 rfl base 5 i0 Tryd.underlying49 Tryd.underlying9 hi hz0 hz1 hz2 _ _ _ rfl hown s rfl ?c3 ?c4 ?c5 ?_)
  case c3 => unfold maxLen; omega
  case c4 => omega
  case c5 => have := hb1.size; omega
  intro v' w2 hown' hgrow _
  have hlt : b < w1.heap.size := (Array.getElem?_eq_some_iff.1 hbk).1
  have hb2 : w2.heap[b]? = some (.cells #[r, .pointer (some ⟨b, 1, none⟩), v] 53 (0, 0)) := by
    rw [hgrow.block b hlt (fun e => hne e.symm)]
    exact hbk
  have d0 : w2.cell? ⟨b, 1, none⟩ = some (.pointer (some ⟨b, 1, none⟩)) := by rw [Lib.cell_of_heap hb2]; rfl
  have d1 : w2.cell? ⟨b, 2, none⟩ = some v := by rw [Lib.cell_of_heap hb2]; rfl
  have f1 : w2.frozen? ⟨b, 2, none⟩ = false := Lib.frozen_of_heap hb2 2
  obtain ⟨ao, n', cap, rfl⟩ : ∃ ao n' cap, v' = .slice ao n' cap := by
    rcases hown'.2 with ⟨hv, _⟩ | ⟨g, cap, cur, hv, _⟩
    · exact ⟨_, _, _, hv⟩
    · exact ⟨_, _, _, hv⟩
  go_wp2
  go_ret2
  have hu : u8s (l ++ m) = u8s l ++ Lib.strCells s := by rw [HSC.out]; simp [u8s]
  refine ⟨by first | rfl | (rw [HSZ.out]; rfl), Or.inr ?_, ?_, ?_⟩
  · refine WrAt.put hB hb2 ?_
    have e1 : l.length + s.size = (l ++ m).length := by rw [HSZ.out]; simp
    rw [hu, ← e1]
    simpa [u8s_length] using hown'
  · exact (hb1.grown hgrow (by have := hb1.size; omega) (fun k hk => (hown.lt k hk).1)).setCell (p := ⟨b, 2, none⟩) hB _
  · exact (ok1.grown hgrow (Lib.ownsRow_kind hown)).setCell ⟨b, 2, none⟩ rfl _

set_option maxHeartbeats 2000000 in
set_option maxRecDepth 100000 in
theorem wbyte_any (base b : Nat) (r : Value) (l : List Nat) (c : Nat) (w : World) (h : Wr base b r l w) (hlen : l.length + 1 ≤ 140737488355328) (hBw : base ≤ w.heap.size) :
    Calls Tryd.prog 32 #[.pointer (some ⟨b, 1, none⟩), .int .u8 c] w fun e w' => e = .returned .nilIface ∧ Wr base b r (l ++ [c]) w' ∧ Below base w w' ∧ Lib.OthersKept 5 (some b) w w' := by
  obtain ⟨i0, hi, hz0, hz1, hz2⟩ := info_parts Tryd.info_u8
  have hlen' : (u8s l).length + 1 ≤ 140737488355328 := by rw [u8s_length]; exact hlen
  go_enter Tryd.func32, Tryd.ntmps32
  go_wp2_with (go_at_call 43; refine (wcopy_any base b r l _ h).mono ?_)
  rintro e w1 ⟨rfl, h1, hb1, ok1⟩
  obtain ⟨hB, v, hbk, hown, hne⟩ := h1
  have c0 : w1.cell? ⟨b, 1, none⟩ = some (.pointer (some ⟨b, 1, none⟩)) := by rw [Lib.cell_of_heap hbk]; rfl
  have c1 : w1.cell? ⟨b, 2, none⟩ = some v := by rw [Lib.cell_of_heap hbk]; rfl
  go_wp2_with (at_builtin; refine wpList_append_own _ rfl _ _ 49 rfl base 5 i0 (.int .u8 0) 1 1 Tryd.underlying49 hi hz0 hz1 hz2 rfl (by decide) _ _ _ rfl (hown.alloc _) ⟨w1.heap.size, 0, none⟩ 1 1 [.int .u8 c] rfl rfl ?c1 ?c2 ?c3 ?c4 ?c5 ?_)
  case c1 =>
    intro j u hj
    match j, hj with
    | 0, hj => simp at hj; subst hj; simp [Addr.add]
  case c2 => intro u hu; simp at hu; subst hu; rfl
  case c3 => unfold maxLen; omega
  case c4 => omega
  case c5 => have := hb1.size; simp; omega
  intro v' w2 hown' hgrow _
  have hlt : b < w1.heap.size := (Array.getElem?_eq_some_iff.1 hbk).1
  have hb2 : w2.heap[b]? = some (.cells #[r, .pointer (some ⟨b, 1, none⟩), v] 53 (0, 0)) := by
    rw [hgrow.block b (by simp; omega) (fun e => hne e.symm), Lib.alloc_old w1 _ b hlt]
    exact hbk
  have d0 : w2.cell? ⟨b, 1, none⟩ = some (.pointer (some ⟨b, 1, none⟩)) := by rw [Lib.cell_of_heap hb2]; rfl
  have d1 : w2.cell? ⟨b, 2, none⟩ = some v := by rw [Lib.cell_of_heap hb2]; rfl
  have f1 : w2.frozen? ⟨b, 2, none⟩ = false := Lib.frozen_of_heap hb2 2
  obtain ⟨ao, n', cap, rfl⟩ : ∃ ao n' cap, v' = .slice ao n' cap := by
    rcases hown'.2 with ⟨hv, _⟩ | ⟨g, cap, cur, hv, _⟩
    · exact ⟨_, _, _, hv⟩
    · exact ⟨_, _, _, hv⟩
  go_wp2
  go_ret
  refine ⟨rfl, Or.inr ?_, ?_, ?_⟩
  · refine WrAt.put hB hb2 ?_
    rw [u8s_snoc]
    simpa using hown'
  · exact ((hb1.alloc (by have := hb1.size; omega) _).grown hgrow (by have := hb1.size; simp; omega) (fun k hk => (hown.lt k hk).1)).setCell (p := ⟨b, 2, none⟩) hB _
  · exact ((ok1.alloc _).grown hgrow (Lib.ownsRow_kind (hown.alloc _))).setCell ⟨b, 2, none⟩ rfl _

set_option maxHeartbeats 2000000 in
set_option maxRecDepth 100000 in
/-- The text; something was written. -/
theorem wtext_any (base b : Nat) (r : Value) (l : List Nat) (w : World) (h : Wr base b r l w) (hl : ∀ n ∈ l, n < 256) (h0 : l ≠ []) :
    Calls Tryd.prog 23 #[.pointer (some ⟨b, 1, none⟩)] w fun e w' => e = .returned (.string (strOf l)) ∧ Below base w w' := by
  obtain ⟨p, hB, v, hbk, hown, hne⟩ : ∃ p, WrAt base b r p l w := by
    rcases h with h | h
    · exact ⟨_, h⟩
    · exact ⟨_, h⟩
  rw [u8s_cells l hl] at hown
  have hstr : strOf l = ⟨(l.map UInt8.ofNat).toArray⟩ := bytes_ext (by rw [strOf_list])
  obtain ⟨m, hm⟩ : ∃ m, l.map UInt8.ofNat = m := ⟨_, rfl⟩
  have hmn : l.length = m.length := by rw [← hm]; simp
  have hm0 : m ≠ [] := by rw [← hm]; simpa using h0
  rw [hstr]
  rw [hm] at hown ⊢
  rw [hmn] at hown
  have hl0 : m.length ≠ 0 := by simpa using hm0
  obtain ⟨g, cap, cur, rfl, hbg, hg, hnc, hcm, hcs, htake⟩ : ∃ g cap cur, v = .slice (some ⟨g, 0, none⟩) m.length cap ∧ base ≤ g ∧ w.heap[g]? = some (.cells cur 5 (0, 0)) ∧ m.length ≤ cap ∧ cap ≤ maxLen ∧ cur.size = cap * 1 ∧ cur.toList.take (m.length * 1) = Lib.byteCells m := by
    rcases hown.2 with ⟨_, hz⟩ | ⟨g, cap, cur, hv, r⟩
    · exact absurd hz hl0
    · exact ⟨g, cap, cur, hv, r⟩
  have c1 : w.drew.cell? ⟨b, 2, none⟩ = some (.slice (some ⟨g, 0, none⟩) m.length cap) := by
    have : w.drew.heap[b]? = some (.cells #[r, p, .slice (some ⟨g, 0, none⟩) m.length cap] 53 (0, 0)) := hbk
    rw [Lib.cell_of_heap this]; rfl
  have hSD : (Builtin.unsafeSliceData_ #[49] 69 #[.slice (some ⟨g, 0, none⟩) m.length cap]).run Tryd.prog w.drew = .ok (.pointer (some ⟨g, 0, none⟩)) w.drew :=
    Lib.run_unsafeSliceData_row _ _ _ _ _ _ (by omega)
  have hUS : (Builtin.unsafeString_ #[69, 3] 9 #[.pointer (some ⟨g, 0, none⟩), .int .i64 m.length]).run Tryd.prog w.drew = .ok (.string ⟨m.toArray⟩) (w.drew.freeze ⟨g, 0, none⟩ m.length) := by
    refine Lib.run_unsafeString_row w.drew 69 3 9 5 Tryd.underlying69 (by kernel_rfl) g cur.size (by have hg' : w.drew.heap[g]? = some (.cells cur 5 (0, 0)) := hg; simp [World.shape?, hg']) m hm0 (by omega) (by unfold maxLen at hcm; omega) ?_
    intro j x hx
    have := hown.cells (g := g) rfl j (.int .u8 x.toNat) (by simp [Lib.byteCells, hx])
    exact this
  go_enter Tryd.func23, Tryd.ntmps23
  go_wp2
  go_region
  all_goals (go_wp2; go_ret; exact ⟨rfl, Lib.below_freeze (Below.drew (Below.refl base w)) (p := ⟨g, 0, none⟩) hbg _⟩)
end Go.Proofs.YtjhfgiflcenjpaaDoor
