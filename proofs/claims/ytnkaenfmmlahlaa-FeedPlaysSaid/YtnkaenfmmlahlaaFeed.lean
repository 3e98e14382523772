import Derived.Test.YtnkaenfmmlahlaaSend
import Derived.Below
import Derived.Laws.Rows
import Derived.Conc.LoneSelectN
namespace Go.Proofs.Ytnkaenfmmlahlaa
open Go.Conc Go.RowKit

/-- The numbers l as a channel's buffer. -/
def ints (l : List Int) : Array Value := (l.map (Value.int .i64)).toArray
theorem size_ints (l : List Int) : (ints l).size = l.length := by simp [ints]
theorem ints_snoc (l : List Int) (v : Int) : (ints l).push (.int .i64 v) = ints (l ++ [v]) := by simp [ints]
theorem ints_tail (v : Int) (l : List Int) : (ints (v :: l)).extract 1 (ints (v :: l)).size = ints l := by
  simp [ints, List.take_of_length_le]
theorem ints_head (v : Int) (l : List Int) : (ints (v :: l)).getD 0 undef = .int .i64 v := by simp [ints]

/-- All blocks but those in T read as they did; nothing has gone. -/
structure Kept (T : List Nat) (w w' : World) : Prop where
  os : w'.os = w.os
  tape : w'.tape = w.tape
  output : w'.output = w.output
  size : w.heap.size ≤ w'.heap.size
  block : ∀ k, k < w.heap.size → k ∉ T → w'.heap[k]? = w.heap[k]?
theorem Kept.refl (T : List Nat) (w : World) : Kept T w w := ⟨rfl, rfl, rfl, Nat.le_refl _, fun _ _ _ => rfl⟩
theorem Kept.trans {T : List Nat} {a b c : World} (h : Kept T a b) (k : Kept T b c) : Kept T a c :=
  ⟨k.os.trans h.os, k.tape.trans h.tape, k.output.trans h.output, Nat.le_trans h.size k.size, fun i hi hn => (k.block i (Nat.lt_of_lt_of_le hi h.size) hn).trans (h.block i hi hn)⟩
theorem Kept.mono {T T' : List Nat} {a b : World} (h : Kept T a b) (hs : ∀ k, k ∈ T → k ∈ T') : Kept T' a b :=
  ⟨h.os, h.tape, h.output, h.size, fun i hi hn => h.block i hi (fun e => hn (hs i e))⟩
theorem Kept.below {T : List Nat} {a b : World} (h : Kept T a b) {B : Nat} (hB : B ≤ a.heap.size) (hT : ∀ k, k ∈ T → B ≤ k) : Below B a b :=
  ⟨h.os, h.tape, h.output, h.size, fun k hk => h.block k (by omega) (fun e => by have := hT k e; omega)⟩
theorem Kept.ofBelow {T : List Nat} {a b : World} (h : Below a.heap.size a b) : Kept T a b := ⟨h.os, h.tape, h.output, h.size, fun k hk _ => h.block k hk⟩

theorem setChan_other (w : World) (c c' cap : Nat) (buf : Array Value) (closed : Bool) (s r : Nat) (tm : Bool) (h : c ≠ c') : (w.setChan c cap buf closed s r tm).heap[c']? = w.heap[c']? := by
  simp [World.setChan, Array.getElem?_setIfInBounds_ne h]
theorem kept_setChan (w : World) (c cap : Nat) (buf : Array Value) (closed : Bool) (s r : Nat) (tm : Bool) {T : List Nat} (hc : c ∈ T) : Kept T w (w.setChan c cap buf closed s r tm) :=
  ⟨rfl, rfl, rfl, by simp [World.setChan], fun k _ hn => setChan_other _ _ _ _ _ _ _ _ _ (fun e => hn (e ▸ hc))⟩
theorem kept_setCell (w : World) (a : Addr) (u : Value) {T : List Nat} (hc : a.block ∈ T) : Kept T w (w.setCell a u) :=
  ⟨rfl, rfl, rfl, by simp [World.setCell], fun k _ hn => heap_setCell_other _ _ _ _ (fun e => hn (e ▸ hc))⟩

/-- Block b is a feed: its channel is block c, with l in its buffer. -/
structure FeedAt (w : World) (b c cap : Nat) (l : List Int) (sh : Bool) (lost : Nat) : Prop where
  hb : w.heap[b]? = some (.cells #[.chan (some c), .bool sh, .int .i64 lost] 54 (0, 0))
  hc : ∃ s r, w.heap[c]? = some (.chan cap (ints l) false s r false)
  fits : l.length ≤ cap
theorem FeedAt.ne {w : World} {b c cap : Nat} {l : List Int} {sh : Bool} {lost : Nat} (h : FeedAt w b c cap l sh lost) : b ≠ c := by
  rintro rfl
  obtain ⟨s, r, hc⟩ := h.hc
  rw [h.hb] at hc
  simp at hc
theorem FeedAt.lt {w : World} {b c cap : Nat} {l : List Int} {sh : Bool} {lost : Nat} (h : FeedAt w b c cap l sh lost) : b < w.heap.size ∧ c < w.heap.size := by
  obtain ⟨s, r, hc⟩ := h.hc
  exact ⟨(Array.getElem?_eq_some_iff.1 h.hb).1, (Array.getElem?_eq_some_iff.1 hc).1⟩
theorem FeedAt.kept {w w' : World} {b c cap : Nat} {l : List Int} {sh : Bool} {lost : Nat} (h : FeedAt w b c cap l sh lost) {T : List Nat} (k : Kept T w w') (hb : b ∉ T) (hc : c ∉ T) : FeedAt w' b c cap l sh lost := by
  obtain ⟨s, r, hh⟩ := h.hc
  exact ⟨(k.block b h.lt.1 hb).trans h.hb, ⟨s, r, (k.block c h.lt.2 hc).trans hh⟩, h.fits⟩
theorem FeedAt.cell0 {w : World} {b c cap : Nat} {l : List Int} {sh : Bool} {lost : Nat} (h : FeedAt w b c cap l sh lost) : w.cell? ⟨b, 0, none⟩ = some (.chan (some c)) := by
  rw [cell_of_row w b 0 _ _ _ h.hb]; rfl
theorem FeedAt.cell1 {w : World} {b c cap : Nat} {l : List Int} {sh : Bool} {lost : Nat} (h : FeedAt w b c cap l sh lost) : w.cell? ⟨b, 1, none⟩ = some (.bool sh) := by
  rw [cell_of_row w b 1 _ _ _ h.hb]; rfl
theorem FeedAt.cell2 {w : World} {b c cap : Nat} {l : List Int} {sh : Bool} {lost : Nat} (h : FeedAt w b c cap l sh lost) : w.cell? ⟨b, 2, none⟩ = some (.int .i64 lost) := by
  rw [cell_of_row w b 2 _ _ _ h.hb]; rfl
theorem FeedAt.frozen {w : World} {b c cap : Nat} {l : List Int} {sh : Bool} {lost : Nat} (h : FeedAt w b c cap l sh lost) (j : Nat) : w.frozen? ⟨b, j, none⟩ = false :=
  frozen_of_row w b j _ _ h.hb
theorem FeedAt.setChan {w : World} {b c cap : Nat} {l l' : List Int} {sh : Bool} {lost : Nat} (h : FeedAt w b c cap l sh lost) (s r : Nat) (hl : l'.length ≤ cap) : FeedAt (w.setChan c cap (ints l') false s r false) b c cap l' sh lost :=
  ⟨(setChan_other _ _ _ _ _ _ _ _ _ (Ne.symm h.ne)).trans h.hb, ⟨s, r, heap_setChan _ _ _ _ _ _ _ _ h.lt.2⟩, hl⟩
theorem FeedAt.setLost {w : World} {b c cap : Nat} {l : List Int} {sh : Bool} {lost : Nat} (h : FeedAt w b c cap l sh lost) (m : Nat) : FeedAt (w.setCell ⟨b, 2, none⟩ (.int .i64 m)) b c cap l sh m := by
  obtain ⟨s, r, hc⟩ := h.hc
  refine ⟨?_, ⟨s, r, (heap_setCell_other _ _ _ _ (Ne.symm h.ne)).trans hc⟩, h.fits⟩
  rw [heap_setCell_same w b 2 _ _ _ h.hb]
  rfl
theorem FeedAt.setShut {w : World} {b c cap : Nat} {l : List Int} {sh : Bool} {lost : Nat} (h : FeedAt w b c cap l sh lost) (m : Bool) : FeedAt (w.setCell ⟨b, 1, none⟩ (.bool m)) b c cap l m lost := by
  obtain ⟨s, r, hc⟩ := h.hc
  refine ⟨?_, ⟨s, r, (heap_setCell_other _ _ _ _ (Ne.symm h.ne)).trans hc⟩, h.fits⟩
  rw [heap_setCell_same w b 1 _ _ _ h.hb]
  rfl

/-- The pointer to block b. -/
def ptr (b : Nat) : Value := .pointer (some ⟨b, 0, none⟩)

/-- What a call leaves: its answer; a feed's state; all else as it was. -/
def Leaves (v : Value) (b c cap : Nat) (l : List Int) (sh : Bool) (lost : Nat) (w : World) (e : Ending) (w' : World) : Prop :=
  e = .returned v ∧ FeedAt w' b c cap l sh lost ∧ Kept [b, c] w w'

theorem Send_room {w : World} {b c cap : Nat} {l : List Int} {sh : Bool} {lost : Nat} (h : FeedAt w b c cap l sh lost) (v : Int) (hroom : l.length < cap) :
    Calls Try.prog 22 #[.pointer (some ⟨b, 0, none⟩), .int .i64 v] w (Leaves (.bool true) b c cap (l ++ [v]) sh lost w) := by
  obtain ⟨s, r, hc⟩ := h.hc
  refine (send_room b c cap v _ s r w h.cell0 hc (by rw [size_ints]; exact hroom)).mono ?_
  rintro e w' ⟨rfl, rfl⟩
  refine ⟨rfl, ?_, kept_setChan _ _ _ _ _ _ _ _ (by simp)⟩
  unfold sent
  rw [ints_snoc]
  exact h.setChan _ _ (by simp; omega)
theorem Send_full {w : World} {b c cap : Nat} {l : List Int} {sh : Bool} {lost : Nat} (h : FeedAt w b c cap l sh lost) (v : Int) (hroom : cap ≤ l.length) :
    Calls Try.prog 22 #[.pointer (some ⟨b, 0, none⟩), .int .i64 v] w fun e w' => e = .returned (.bool false) ∧ w = w' := by
  obtain ⟨s, r, hc⟩ := h.hc
  exact send_full b c cap v _ s r w h.cell0 hc (by rw [size_ints]; exact hroom)
theorem Take_some {w : World} {b c cap : Nat} {l : List Int} {sh : Bool} {lost : Nat} {v : Int} (h : FeedAt w b c cap (v :: l) sh lost) :
    Calls Try.prog 18 #[.pointer (some ⟨b, 0, none⟩)] w (Leaves (.tuple #[.int .i64 v, .int .i64 0]) b c cap l sh lost w) := by
  obtain ⟨s, r, hc⟩ := h.hc
  refine (take_some b c cap v _ s r w h.cell0 hc (ints_head v l) (by rw [size_ints]; simp)).mono ?_
  rintro e w' ⟨rfl, rfl⟩
  refine ⟨rfl, ?_, kept_setChan _ _ _ _ _ _ _ _ (by simp)⟩
  unfold taken
  rw [ints_tail]
  exact h.setChan _ _ (by have := h.fits; simp at this; omega)
theorem Take_none {w : World} {b c cap : Nat} {sh : Bool} {lost : Nat} (h : FeedAt w b c cap [] sh lost) :
    Calls Try.prog 18 #[.pointer (some ⟨b, 0, none⟩)] w fun e w' => e = .returned (.tuple #[.int .i64 0, .int .i64 3]) ∧ w = w' := by
  obtain ⟨s, r, hc⟩ := h.hc
  exact take_none b c cap s r w h.cell0 hc

theorem len_any {w : World} {b c cap : Nat} {l : List Int} {sh : Bool} {lost : Nat} (h : FeedAt w b c cap l sh lost) :
    Calls Try.prog 19 #[.pointer (some ⟨b, 0, none⟩)] w fun e w' => e = .returned (.int .i64 l.length) ∧ w = w' := by
  obtain ⟨s, r, hc⟩ := h.hc
  have h0 := h.cell0
  have hl := fun ty => run_len_chan (P := Try.prog) 52 ty Try.underlying52 hc
  rw [size_ints] at hl
  go_enter Try.func19, Try.ntmps19
  go_wp2
  go_ret
  exact ⟨rfl, rfl⟩
theorem cap_any {w : World} {b c cap : Nat} {l : List Int} {sh : Bool} {lost : Nat} (h : FeedAt w b c cap l sh lost) :
    Calls Try.prog 24 #[.pointer (some ⟨b, 0, none⟩)] w fun e w' => e = .returned (.int .i64 cap) ∧ w = w' := by
  obtain ⟨s, r, hc⟩ := h.hc
  have h0 := h.cell0
  have hl := fun ty => run_cap_chan (P := Try.prog) 52 ty Try.underlying52 hc
  go_enter Try.func24, Try.ntmps24
  go_wp2
  go_ret
  exact ⟨rfl, rfl⟩
theorem lost_any {w : World} {b c cap : Nat} {l : List Int} {sh : Bool} {lost : Nat} (h : FeedAt w b c cap l sh lost) :
    Calls Try.prog 16 #[.pointer (some ⟨b, 0, none⟩)] w fun e w' => e = .returned (.int .i64 lost) ∧ w = w' := by
  have h0 := h.cell2
  go_enter Try.func16, Try.ntmps16
  go_wp2
  go_ret
  exact ⟨rfl, rfl⟩

theorem put_lost {w : World} {b c cap : Nat} {l : List Int} {sh : Bool} {lost : Nat} (h : FeedAt w b c cap l sh lost) (v : Int) (hno : sh = true ∨ cap ≤ l.length) (hm : lost < 1000000000) :
    Calls Try.prog 15 #[.pointer (some ⟨b, 0, none⟩), .int .i64 v] w (Leaves (.int .i64 2) b c cap l sh (lost + 1) w) := by
  have h1 := h.cell1
  have h2 := h.cell2
  have h3 := h.frozen 2
  have hfin : Leaves (.int .i64 2) b c cap l sh (lost + 1) w (.returned (.int .i64 2)) (w.setCell ⟨b, 2, none⟩ (.int .i64 ((lost + 1 : Nat) : Int))) :=
    ⟨rfl, h.setLost _, kept_setCell _ _ _ (by simp)⟩
  cases sh with
  | true =>
    go_enter Try.func15, Try.ntmps15
    go_wp2
    go_ret
    exact hfin
  | false =>
    have hf : cap ≤ l.length := by simpa using hno
    clear hno
    go_enter Try.func15, Try.ntmps15
    go_wp2_with (go_at_call 22; refine (Send_full h _ hf).mono ?_; rintro e w' ⟨rfl, rfl⟩)
    go_ret
    exact hfin

theorem put_kept {w : World} {b c cap : Nat} {l : List Int} {lost : Nat} (h : FeedAt w b c cap l false lost) (v : Int) (hroom : l.length < cap) :
    Calls Try.prog 15 #[.pointer (some ⟨b, 0, none⟩), .int .i64 v] w (Leaves (.int .i64 0) b c cap (l ++ [v]) false lost w) := by
  have h1 := h.cell1
  go_enter Try.func15, Try.ntmps15
  go_wp2_with (go_at_call 22; refine (Send_room h _ hroom).mono ?_; rintro e w' ⟨rfl, h', k'⟩)
  go_ret
  exact ⟨rfl, h', k'⟩
end Go.Proofs.Ytnkaenfmmlahlaa
