import Derived.Test.YtghhjonhmelohaaYAhead
import Derived.Deep.OwnRows
namespace Go.Proofs.Ytghhjonhmelohaa
open Go.RowKit Go.Maps Go.WideElems Go.ChangeMaps Go.MapKept
set_option linter.unusedVariables false
set_option linter.unusedSimpArgs false

theorem Try.info_strY : (Try.prog.info? 9).map (fun i => (i.zero, i.size, i.bytes)) = some (some (.string ⟨#[]⟩), 1, 16) := by kernel_rfl
theorem Try.info_intY : (Try.prog.info? 3).map (fun i => (i.zero, i.size, i.bytes)) = some (some (.int .i64 0), 1, 8) := by kernel_rfl
/-- Block g is a row of m cells of which the first k are f's. -/
def RwAt (w : World) (t g m k : Nat) (f : Nat → Value) : Prop := ∃ cs : Array Value, Bl w t g cs ∧ cs.size = m ∧ ∀ j, j < k → cs[j]? = some (f j)
theorem RwAt.keep {w w' : World} {t g m k : Nat} {f : Nat → Value} (h : RwAt w t g m k f) (b : Below w.heap.size w w') : RwAt w' t g m k f := by
  obtain ⟨cs, h1, h2⟩ := h
  exact ⟨cs, h1.below b h1.lt, h2⟩
theorem RwAt.lt {w : World} {t g m k : Nat} {f : Nat → Value} (h : RwAt w t g m k f) : g < w.heap.size := by
  obtain ⟨cs, h1, _⟩ := h
  exact h1.lt
theorem RwAt.spot {w : World} {t g m k : Nat} {f : Nat → Value} (h : RwAt w t g m k f) {j : Nat} (hj : j < m) : ∃ v, w.cell? ⟨g, j, none⟩ = some v ∧ w.frozen? ⟨g, j, none⟩ = false := by
  obtain ⟨cs, h1, h2, _⟩ := h
  have h1 : w.heap[g]? = some (.cells cs t (0, 0)) := h1
  refine ⟨cs[j], ?_, frozen_of_row w g j _ _ h1⟩
  rw [cell_of_row w g _ _ _ _ h1]
  exact Array.getElem?_eq_getElem _
theorem RwAt.cell {w : World} {t g m k : Nat} {f : Nat → Value} (h : RwAt w t g m k f) {j : Nat} (hj : j < k) : w.cell? ⟨g, j, none⟩ = some (f j) := by
  obtain ⟨cs, h1, _, h3⟩ := h
  have h1 : w.heap[g]? = some (.cells cs t (0, 0)) := h1
  rw [cell_of_row w g _ _ _ _ h1]
  exact h3 j hj
theorem RwAt.put {w : World} {t g m k : Nat} {f : Nat → Value} (h : RwAt w t g m k f) (hk : k < m) : RwAt (w.setCell ⟨g, k, none⟩ (f k)) t g m (k + 1) f := by
  obtain ⟨cs, h1, h2, h3⟩ := h
  refine ⟨_, h1.set k (f k), by simpa using h2, fun j hj => ?_⟩
  by_cases e : j = k
  · subst e; simp [h2, hk]
  · rw [Array.getElem?_setIfInBounds_ne (by omega)]
    exact h3 j (by omega)
theorem RwAt.new (w : World) (t n : Nat) (z : Value) (f : Nat → Value) : RwAt (w.alloc (.cells (madeCells #[z] n) t)) t w.heap.size n 0 f := ⟨_, Bl.new _ _ _, by simp [size_madeCells], fun j h => absurd h (by omega)⟩
theorem make_strs (N : Nat) (hN : N ≤ 2147483647) (W : World) : (Instr.makeSlice 26 (.int .i64 ((N : Nat) : Int)) (.int .i64 ((N : Nat) : Int))).run Try.prog W = .ok (.slice (some ⟨W.heap.size, 0, none⟩) N N) (W.alloc (.cells (madeCells #[.string ⟨#[]⟩] N) 9)) := by
  have := run_make_row' (P := Try.prog) 26 9 (.string ⟨#[]⟩) 16 Try.underlying26 Try.info_strY rfl .i64 .i64 N (by omega) (by omega) W
  simpa using this
theorem make_intsY (N : Nat) (hN : N ≤ 2147483647) (W : World) : (Instr.makeSlice 22 (.int .i64 ((N : Nat) : Int)) (.int .i64 ((N : Nat) : Int))).run Try.prog W = .ok (.slice (some ⟨W.heap.size, 0, none⟩) N N) (W.alloc (.cells (madeCells #[.int .i64 0] N) 3)) := by
  have := run_make_row' (P := Try.prog) 22 3 (.int .i64 0) 8 Try.underlying22 Try.info_intY rfl .i64 .i64 N (by omega) (by omega) W
  simpa using this
/-- A row is told. -/
def RwP (t m : Nat) (f : Nat → Value) (w : World) (e : Ending) (w' : World) : Prop := ∃ g, e = .returned (.slice (some ⟨g, 0, none⟩) m m) ∧ RwAt w' t g m m f ∧ Below w.heap.size w w'
def tkS (A : List Tok) (j : Nat) : Value := .string (if h : j < A.length then A[j].s else ⟨#[]⟩)
def tkR (A : List Tok) (j : Nat) : Value := .int .i64 (if h : j < A.length then A[j].r else 0)
theorem tkS_at {A : List Tok} {j : Nat} (h : j < A.length) : tkS A j = .string A[j].s := by rw [tkS, dif_pos h]
theorem tkR_at {A : List Tok} {j : Nat} (h : j < A.length) : tkR A j = .int .i64 A[j].r := by rw [tkR, dif_pos h]

set_option maxHeartbeats 2000000 in
set_option maxRecDepth 100000 in
theorem texts_any (m c2 : Nat) (a2 : Option Addr) (A : List Tok) (hA : A.length = m) (hm : m ≤ 100000) (hs : ∀ t ∈ A, t.s.size ≤ 100000) (w : World) (hT : TkAt w a2 A) :
    Calls Try.prog 8 #[.slice a2 m c2] w (RwP 9 m (tkS A) w) := by
  have hmk := make_strs m (by omega)
  have H := Lib.hid (And.intro hT (And.intro hA hs))
  have HN : Hid (RwAt (w.alloc (.cells (madeCells #[.string ⟨#[]⟩] m) 9)) 9 w.heap.size m 0 (tkS A) ∧ Below w.heap.size w (w.alloc (.cells (madeCells #[.string ⟨#[]⟩] m) 9))) := ⟨RwAt.new _ _ _ _ _, al w _⟩
  clear hT hA hs
  go_enter Try.func8, Try.ntmps8
  go_wp2_with fail
  obtain ⟨g, hg⟩ : ∃ g, w.heap.size = g := ⟨_, rfl⟩
  have Hg := Lib.hid hg
  rw [hg] at HN ⊢
  generalize w.alloc (.cells (madeCells #[.string ⟨#[]⟩] m) 9) = W1 at HN ⊢
  clear hg hmk
  go_loopw [4, 5, 11] (fun _ _ v11 wr => ∃ k : Nat, v11 = .int .i64 k ∧ k ≤ m ∧ Hid (RwAt wr 9 g m k (tkS A) ∧ Below g w wr)) (fun _ _ v _ => m - (nV v).toNat)
  case atStart => exact ⟨0, rfl, Nat.zero_le _, HN⟩
  case round =>
    obtain ⟨k, rfl, hk, HX⟩ := hrel
    by_cases hlt : k < m
    · have hkA : k < A.length := by rw [H.out.2.1]; exact hlt
      have hbw : Below w.heap.size w wr := by rw [Hg.out]; exact HX.out.2
      obtain ⟨g1, o1, rfl, _, x0, x1, x2⟩ := (H.out.1.below hbw).get k hkA
      have HT := Lib.hid (tkS_at hkA)
      have hsm := H.out.2.2 A[k] (List.getElem_mem hkA)
      have i1 : (k : Int) < (m : Int) := by omega
      generalize A[k] = x at x0 x1 x2 HT hsm
      have HO := Lib.hid (fun W => sclone_any x.s hsm W)
      have k1 := al wr (.cells #[.int .i64 x.r, .string x.s, .int .i64 x.p] 32)
      have hgz := HX.out.1.lt
      have H1 : Hid (RwAt (wr.alloc (.cells #[.int .i64 x.r, .string x.s, .int .i64 x.p] 32)) 9 g m k (tkS A) ∧ Below g w (wr.alloc (.cells #[.int .i64 x.r, .string x.s, .int .i64 x.p] 32))) :=
        ⟨HX.out.1.keep k1, HX.out.2.trans (k1.mono (by omega))⟩
      clear k1 hkA hsm hbw hgz
      go_wp2_with (go_at_call 21; refine (HO.out _).mono ?_; rintro e w2 ⟨rfl, b2⟩
                   have H2 := Lib.hid (And.intro (H1.out.1.keep b2) (H1.out.2.trans (b2.mono (Nat.le_of_lt H1.out.1.lt))))
                   obtain ⟨v9, y0, y1⟩ := H2.out.1.spot hlt
                   clear b2)
      have HE : Hid (RwAt (w2.setCell ⟨g, k, none⟩ (.string x.s)) 9 g m (k + 1) (tkS A) ∧ Below g w (w2.setCell ⟨g, k, none⟩ (.string x.s))) := by
        have h5 := H2.out.1.put hlt
        rw [HT.out] at h5
        exact ⟨h5, H2.out.2.setCell (p := ⟨g, k, none⟩) (Nat.le_refl _) _⟩
      go_roundw
      case rel => exact ⟨k + 1, by go_num, by omega, HE.out⟩
      case measure => simp [nV]; omega
    · obtain rfl : k = m := by omega
      go_wp2_with fail
      go_ret
      exact ⟨g, rfl, HX.out.1, by rw [Hg.out]; exact HX.out.2⟩

set_option maxHeartbeats 2000000 in
set_option maxRecDepth 100000 in
theorem lrules_any (m c2 : Nat) (a2 : Option Addr) (A : List Tok) (hA : A.length = m) (hm : m ≤ 100000) (w : World) (hT : TkAt w a2 A) :
    Calls Try.prog 9 #[.slice a2 m c2] w (RwP 3 m (tkR A) w) := by
  have hmk := make_intsY m (by omega)
  have H := Lib.hid (And.intro hT hA)
  have HN : Hid (RwAt (w.alloc (.cells (madeCells #[.int .i64 0] m) 3)) 3 w.heap.size m 0 (tkR A) ∧ Below w.heap.size w (w.alloc (.cells (madeCells #[.int .i64 0] m) 3))) := ⟨RwAt.new _ _ _ _ _, al w _⟩
  clear hT hA
  go_enter Try.func9, Try.ntmps9
  go_wp2_with fail
  obtain ⟨g, hg⟩ : ∃ g, w.heap.size = g := ⟨_, rfl⟩
  have Hg := Lib.hid hg
  rw [hg] at HN ⊢
  generalize w.alloc (.cells (madeCells #[.int .i64 0] m) 3) = W1 at HN ⊢
  clear hg hmk
  go_loopw [4, 5, 11] (fun _ _ v11 wr => ∃ k : Nat, v11 = .int .i64 k ∧ k ≤ m ∧ Hid (RwAt wr 3 g m k (tkR A) ∧ Below g w wr)) (fun _ _ v _ => m - (nV v).toNat)
  case atStart => exact ⟨0, rfl, Nat.zero_le _, HN⟩
  case round =>
    obtain ⟨k, rfl, hk, HX⟩ := hrel
    by_cases hlt : k < m
    · have hkA : k < A.length := by rw [H.out.2]; exact hlt
      have hbw : Below w.heap.size w wr := by rw [Hg.out]; exact HX.out.2
      obtain ⟨g1, o1, rfl, _, x0, x1, x2⟩ := (H.out.1.below hbw).get k hkA
      have HT := Lib.hid (tkR_at hkA)
      have i1 : (k : Int) < (m : Int) := by omega
      generalize A[k] = x at x0 x1 x2 HT
      have hgz := HX.out.1.lt
      have HE : Hid (RwAt ((wr.setCell ⟨g, k, none⟩ (.int .i64 x.r)).alloc (.cells #[.int .i64 x.r, .string x.s, .int .i64 x.p] 32)) 3 g m (k + 1) (tkR A) ∧ Below g w ((wr.setCell ⟨g, k, none⟩ (.int .i64 x.r)).alloc (.cells #[.int .i64 x.r, .string x.s, .int .i64 x.p] 32))) := by
        have h5 := HX.out.1.put hlt
        rw [HT.out] at h5
        have k1 := al (wr.setCell ⟨g, k, none⟩ (.int .i64 x.r)) (.cells #[.int .i64 x.r, .string x.s, .int .i64 x.p] 32)
        have h6 := HX.out.2.setCell (p := ⟨g, k, none⟩) (Nat.le_refl _) (.int .i64 x.r)
        exact ⟨h5.keep k1, h6.trans (k1.mono (Nat.le_of_lt h5.lt))⟩
      obtain ⟨v9, y0, y1⟩ := HX.out.1.spot hlt
      clear hkA hbw
      go_wp2_with fail
      go_roundw
      case rel => exact ⟨k + 1, by go_num, by omega, HE.out⟩
      case measure => simp [nV]; omega
    · obtain rfl : k = m := by omega
      go_wp2_with fail
      go_ret
      exact ⟨g, rfl, HX.out.1, by rw [Hg.out]; exact HX.out.2⟩
end Go.Proofs.Ytghhjonhmelohaa
