import Derived.Test.YtldpmcgkbdejjaaZClasses
import Derived.Test.YtldpmcgkbdejjaaZShelf
import Derived.Lib.Strings
import Derived.Lib.Slices
import Derived.Lib.Walk
import Derived.Lib.Builder
import Derived.Lib.AppendStr
import Derived.Lib.UnsafeStr
import Derived.Laws.Externs
import Derived.Laws.IdiomCopy
import Derived.Lib.OthersKept
import Derived.Lib.OwnKind
namespace Go.Proofs.Ytldpmcgkbdejjaa
open Go.RowKit

theorem Try.info_bld : (Try.prog.info? 58).map (·.size) = some 2 := by kernel_rfl
theorem Try.lies_bld : liesAt Try.prog Try.prog.depth 58 (2 / Try.prog.cellsOf 58) 0 58 1 = true := by kernel_rfl

set_option maxHeartbeats 1000000 in
set_option maxRecDepth 100000 in
theorem copy_used (b : Nat) (w : World) (h0 : w.cell? ⟨b, 0, none⟩ = some (.pointer (some ⟨b, 0, none⟩))) :
    Calls Try.prog 39 #[.pointer (some ⟨b, 0, none⟩)] w fun e w' => e = .returned (.tuple #[]) ∧ w = w' := by
  obtain ⟨j, hj, _⟩ := Option.map_eq_some_iff.1 Try.info_bld
  go_enter Try.func39, Try.ntmps39
  go_wp2
  rw [Lib.run_neq_ptr_same w _ Try.underlying55 hj]
  go_wp2
  go_end0
  exact ⟨rfl, rfl⟩

set_option maxHeartbeats 1000000 in
set_option maxRecDepth 100000 in
theorem copy_fresh (b : Nat) (w : World) (h0 : w.cell? ⟨b, 0, none⟩ = some (.pointer none)) (hsh : w.shape? b = some (58, 2)) (hfz : w.frozen? ⟨b, 0, none⟩ = false) :
    Calls Try.prog 39 #[.pointer (some ⟨b, 0, none⟩)] w fun e w' => e = .returned (.tuple #[]) ∧ w' = w.setCell ⟨b, 0, none⟩ (.pointer (some ⟨b, 0, none⟩)) := by
  obtain ⟨j, hj, hjs⟩ := Option.map_eq_some_iff.1 Try.info_bld
  go_enter Try.func39, Try.ntmps39
  go_wp2
  rw [Lib.run_to_unsafe w ⟨b, 0, none⟩ Try.underlying55 Try.underlying103 hj (by rw [hjs]; decide) hsh (Nat.zero_lt_succ 1)]
  simp only [Result.andThen]
  rw [Oper.upon_value]
  go_wp2
  rw [run_callFunc_extern Try.func58 (by kernel_rfl) (by kernel_rfl) (by kernel_rfl) (e := Extern.AbiNoEscape.same) (by kernel_rfl)]
  rw [Lib.run_noEscape]
  simp only [Result.andThen]
  rw [Oper.upon_value]
  go_wp2
  rw [Lib.run_from_unsafe w ⟨b, 0, none⟩ Try.underlying103 Try.underlying55 hj hsh Try.lies_bld]
  simp only [Result.andThen]
  rw [Oper.upon_value]
  go_wp2
  go_end0
  exact ⟨rfl, rfl⟩

/-- Block b (from base on) is a Builder that holds the bytes l. -/
def Bld (base b : Nat) (l : List Nat) (w : World) : Prop := Lib.IsBuilder 58 5 base b (u8s l) w
theorem Bld.new (w : World) : Bld w.heap.size w.heap.size [] (w.alloc (.cells #[.pointer none, .slice none 0 0] 58)) := Lib.fresh_isBuilder _ _ w

theorem copy_kept (base b : Nat) (l : List Nat) (w : World) (h : Bld base b l w) :
    Calls Try.prog 39 #[.pointer (some ⟨b, 0, none⟩)] w fun e w' => e = .returned (.tuple #[]) ∧ Lib.BuilderAt 58 5 base b (.pointer (some ⟨b, 0, none⟩)) (u8s l) w' ∧ Below base w w' ∧ Lib.OthersKept 5 (some b) w w' := by
  rcases h with h | h
  · refine (copy_fresh b w h.cell0 h.shape h.frozen0).mono ?_
    rintro e w' ⟨rfl, rfl⟩
    exact ⟨rfl, h.used _, (Below.refl base w).setCell (p := ⟨b, 0, none⟩) h.1 _, (Lib.OthersKept.refl _ _ w).setCell ⟨b, 0, none⟩ rfl _⟩
  · refine (copy_used b w h.cell0).mono ?_
    rintro e w' ⟨rfl, rfl⟩
    exact ⟨rfl, h, Below.refl base _, Lib.OthersKept.refl _ _ _⟩

theorem strCells_of (l : List Nat) (hl : ∀ n ∈ l, n < 256) : Lib.strCells (strOf l) = u8s l := by
  unfold Lib.strCells u8s
  rw [strOf_list, List.map_map]
  refine List.map_congr_left fun n hn => ?_
  simp [Nat.mod_eq_of_lt (hl n hn)]

set_option maxHeartbeats 2000000 in
set_option maxRecDepth 100000 in
theorem write_kept (base b : Nat) (l m : List Nat) (w : World) (h : Bld base b l w) (hm : ∀ n ∈ m, n < 256) (hlen : l.length + m.length ≤ 140737488355328) (hBw : base ≤ w.heap.size) :
    Calls Try.prog 27 #[.pointer (some ⟨b, 0, none⟩), .string (strOf m)] w fun e w' => e = .returned (.tuple #[.int .i64 ((m.length : Nat) : Int), .nilIface]) ∧ Bld base b (l ++ m) w' ∧ Below base w w' ∧ Lib.OthersKept 5 (some b) w w' := by
  obtain ⟨i0, hi, hz0, hz1, hz2⟩ := info_parts Try.info_u8
  have hsz : (strOf m).size = m.length := strOf_size m
  have hsc := strCells_of m hm
  obtain ⟨s, rfl⟩ : ∃ s, s = strOf m := ⟨_, rfl⟩
  have HSZ := Lib.hid hsz
  have HSC := Lib.hid hsc
  have hlen' : (u8s l).length + (strOf m).size ≤ 140737488355328 := by rw [hsz, u8s_length]; exact hlen
  clear hsz hsc
  generalize strOf m = s at HSZ HSC hlen' ⊢
  go_enter Try.func27, Try.ntmps27
  go_wp2_with (go_at_call 39; refine (copy_kept base b l _ h).mono ?_)
  rintro e w1 ⟨rfl, h1, hb1, ok1⟩
  obtain ⟨hB, v, hbk, hown, hne⟩ := h1
  have c0 : w1.cell? ⟨b, 0, none⟩ = some (.pointer (some ⟨b, 0, none⟩)) := by rw [Lib.cell_of_heap hbk]; rfl
  have c1 : w1.cell? ⟨b, 1, none⟩ = some v := by rw [Lib.cell_of_heap hbk]; rfl
  go_wp2_with (at_builtin; refine Lib.wpList_append_own_string _ rfl _ _ 56 9 rfl base 5 i0 Try.underlying56 Try.underlying9 hi hz0 hz1 hz2 _ _ _ rfl hown s rfl ?c3 ?c4 ?c5 ?_)
  case c3 => unfold maxLen; omega
  case c4 => omega
  case c5 => have := hb1.size; omega
  intro v' w2 hown' hgrow _
  have hlt : b < w1.heap.size := by
    rcases Nat.lt_or_ge b w1.heap.size with h' | h'
    · exact h'
    · simp [Array.getElem?_eq_none h'] at hbk
  have hb2 : w2.heap[b]? = some (.cells #[.pointer (some ⟨b, 0, none⟩), v] 58 (0, 0)) := by
    rw [hgrow.block b hlt (fun e => hne e.symm)]
    exact hbk
  have d0 : w2.cell? ⟨b, 0, none⟩ = some (.pointer (some ⟨b, 0, none⟩)) := by rw [Lib.cell_of_heap hb2]; rfl
  have d1 : w2.cell? ⟨b, 1, none⟩ = some v := by rw [Lib.cell_of_heap hb2]; rfl
  have f1 : w2.frozen? ⟨b, 1, none⟩ = false := Lib.frozen_of_heap hb2 1
  obtain ⟨ao, n', cap, rfl⟩ : ∃ ao n' cap, v' = .slice ao n' cap := by
    rcases hown'.2 with ⟨hv, _⟩ | ⟨g, cap, cur, hv, _⟩
    · exact ⟨_, _, _, hv⟩
    · exact ⟨_, _, _, hv⟩
  go_wp2
  go_ret2
  have hu : u8s (l ++ m) = u8s l ++ Lib.strCells s := by rw [HSC.out]; simp [u8s]
  refine ⟨by first | rfl | (rw [HSZ.out]; rfl), Or.inr ?_, ?_, ?_⟩
  · rw [hu]
    exact Lib.BuilderAt.put (T := 58) (e := 5) hB hb2 (bs' := u8s l ++ Lib.strCells s) (by simpa [Lib.strCells_length] using hown') (by decide)
  · exact (hb1.grown hgrow (by have := hb1.size; omega) (fun k hk => (hown.lt k hk).1)).setCell (p := ⟨b, 1, none⟩) hB _
  · exact (ok1.grown hgrow (Lib.ownsRow_kind hown)).setCell ⟨b, 1, none⟩ rfl _
theorem write_any (base b : Nat) (l m : List Nat) (w : World) (h : Bld base b l w) (hm : ∀ n ∈ m, n < 256) (hlen : l.length + m.length ≤ 140737488355328) (hBw : base ≤ w.heap.size) :
    Calls Try.prog 27 #[.pointer (some ⟨b, 0, none⟩), .string (strOf m)] w fun e w' => e = .returned (.tuple #[.int .i64 ((m.length : Nat) : Int), .nilIface]) ∧ Bld base b (l ++ m) w' ∧ Below base w w' := by
  refine (write_kept base b l m w h hm hlen hBw).mono ?_
  rintro e w' ⟨h1, h2, h3, _⟩
  exact ⟨h1, h2, h3⟩

theorem u8s_cells (l : List Nat) (hl : ∀ n ∈ l, n < 256) : u8s l = Lib.byteCells (l.map UInt8.ofNat) := by
  unfold Lib.byteCells u8s
  rw [List.map_map]
  refine List.map_congr_left fun n hn => ?_
  simp [Nat.mod_eq_of_lt (hl n hn)]
theorem text_any (base b : Nat) (l : List Nat) (w : World) (h : Bld base b l w) (hl : ∀ n ∈ l, n < 256) (hBw : base ≤ w.heap.size) :
    Calls Try.prog 29 #[.pointer (some ⟨b, 0, none⟩)] w fun e w' => e = .returned (.string (strOf l)) ∧ Below base w w' := by
  unfold Bld at h
  rw [u8s_cells l hl] at h
  refine (Try.Builder_String_any base b _ w h hBw).mono ?_
  rintro e w' ⟨rfl, hb⟩
  exact ⟨by rw [show (⟨(l.map UInt8.ofNat).toArray⟩ : ByteArray) = strOf l from bytes_ext (by rw [strOf_list])], hb⟩
end Go.Proofs.Ytldpmcgkbdejjaa
