import Derived.Test.YtkdhdlokilgccaaZMem
import Derived.Test.YtkdhdlokilgccaaZStart
import Derived.Lib.OwnKind
import Derived.OwnWalk
import Derived.Laws.AppendOwn
import Derived.Deep.RegionHeld3
import Derived.Deep.DeepCutAuto
import Derived.LoopTactic
namespace Go.Proofs.Ytkdhdlokilgccaa
open Go.RowKit
set_option linter.unusedVariables false

theorem Try.info_rx : (Try.prog.info? 23).map (fun i => (i.zero, i.size, i.bytes)) = some (some (.slice none 0 0), 1, 24) := by kernel_rfl

/-- What Parts gives back: slices of the same list. -/
def PartsPost (vs : List Value) (w : World) (e : Ending) (w' : World) : Prop := ∃ a cap, e = .returned (.slice a vs.length cap) ∧ w'.ownsRow w.heap.size 23 1 (.slice a vs.length cap) vs.length vs ∧ Below w.heap.size w w'
/-- A row in a new block is the call's own. -/
theorem own_lit (w : World) (base : Nat) (e : TypeId) (size : Nat) (cs : Array Value) (n : Nat) (hn : cs.size = n * size) (hb : base ≤ w.heap.size) (hm : n ≤ maxLen) : (w.alloc (.cells cs e)).ownsRow base e size (.slice (some ⟨w.heap.size, 0, none⟩) n n) n cs.toList :=
  ⟨by simpa using hn, Or.inr ⟨w.heap.size, n, cs, rfl, hb, St.new w e cs, Nat.le_refl _, hm, hn, by rw [← hn]; exact List.take_of_length_le (by simp)⟩⟩
theorem takes_wf (t : Rx) (hw : t.wf) : ∀ x ∈ t.flat, 0 ≤ takesZ x.k := by
  induction t with
  | leaf x => intro y hy; simp [Rx.flat] at hy; subst hy; rw [hw.1]; omega
  | un x a ih =>
    intro y hy
    simp [Rx.flat] at hy
    rcases hy with hy | rfl
    · exact ih hw.2.2 y hy
    · rw [hw.1]; omega
  | bin x a b iha ihb =>
    intro y hy
    simp [Rx.flat] at hy
    rcases hy with hy | hy | rfl
    · exact iha hw.2.2.1 y hy
    · exact ihb hw.2.2.2 y hy
    · rw [hw.1]; omega

set_option maxHeartbeats 1000000 in
set_option maxRecDepth 100000 in
theorem rparts_leaf (x : Pc) (hx : takesZ x.k = 0) (g off n cap : Nat) (w : World) (hL : RxAt w (some ⟨g, off, none⟩) [x]) (hn : n = 1) :
    Calls Try.prog 30 #[.slice (some ⟨g, off, none⟩) n cap] w (PartsPost [] w) := by
  obtain ⟨g', off', e, hg, c0, -⟩ := hL.get 0 (by simp)
  simp at e
  obtain ⟨rfl, rfl⟩ := e
  simp at c0
  have HT := Lib.hid hx
  subst hn
  clear hL hx
  go_enter Try.func30, Try.ntmps30
  go_wp2_with fail
  refine (rtakes_any _ _).mono ?_
  rintro e w1 ⟨rfl, b1⟩
  rw [HT.out]
  go_wp2_with fail
  go_loopw [4, 5, 6] (fun o e k wr => o = .slice none 0 0 ∧ e = .int .i64 0 ∧ k = .int .i64 0 ∧ wr = w1) (fun _ _ _ _ => 0)
  case atStart => exact ⟨rfl, rfl, rfl, rfl⟩
  case round =>
    obtain ⟨rfl, rfl, rfl, rfl⟩ := hrel
    go_wp2_with fail
    go_ret
    exact ⟨none, 0, rfl, World.ownsRow_nil _ _ _ _, b1⟩

set_option maxHeartbeats 1000000 in
set_option maxRecDepth 100000 in
theorem rparts_un (x : Pc) (s : Rx) (hs : s.wf) (hx : takesZ x.k = 1) (g off n cap : Nat) (w : World) (hL : RxAt w (some ⟨g, off, none⟩) (s.flat ++ [x])) (m : Nat) (hm : s.flat.length = m) (hn : n = m + 1) (hmax : n ≤ 1000000) (hcap : n ≤ cap ∧ cap ≤ maxLen) :
    Calls Try.prog 30 #[.slice (some ⟨g, off, none⟩) n cap] w (PartsPost [.slice (some ⟨g, off, none⟩) m cap] w) := by
  have hlen : (s.flat ++ [x]).length = n := by simp; omega
  obtain ⟨g', off', e, hg, c0, -⟩ := hL.get m (by simp; omega)
  simp at e
  obtain ⟨rfl, rfl⟩ := e
  have ex : (s.flat ++ [x])[m]'(by simp; omega) = x := by rw [List.getElem_append_right (by omega)]; simp [hm]
  rw [ex] at c0
  have hm1 : 1 ≤ m := by have := s.flat_pos; omega
  have hst : startT (s.flat ++ [x]) (m - 1) = 0 := by
    have := startT_tree [] [x] s hs (m - 1) (by simp; omega)
    simpa using this
  have hv : ∀ y ∈ s.flat ++ [x], 0 ≤ takesZ y.k := by
    intro y hy
    rcases List.mem_append.1 hy with hy | hy
    · exact takes_wf s hs y hy
    · simp at hy; subst hy; rw [hx]; omega
  have HV := Lib.hid hv
  have HST := Lib.hid hst
  have HLEN := Lib.hid hlen
  have HT := Lib.hid hx
  have HL := Lib.hid hL
  have en : ((n : Nat) : Int) - 1 = ((m : Nat) : Int) := by omega
  obtain ⟨q, hq⟩ : ∃ q, m - 1 = q := ⟨_, rfl⟩
  rw [hq] at HST
  have em : ((m : Nat) : Int) - 1 = ((q : Nat) : Int) := by omega
  have hqn : q < n := by omega
  have hmn : m < n := by omega
  unfold maxLen at hcap
  obtain ⟨hc1, hc2⟩ := hcap
  have hmc : m ≤ cap := by omega
  clear hL hx hv hst hlen ex hs hm hn hq
  go_enter Try.func30, Try.ntmps30
  go_wp2_with fail
  refine (rtakes_any _ _).mono ?_
  rintro e w1 ⟨rfl, b1⟩
  rw [HT.out]
  have HL1 := Lib.hid (HL.out.below b1)
  go_wp2_with fail
  go_loopw [4, 5, 6] (fun o e k wr => (o = .slice none 0 0 ∧ e = .int .i64 m ∧ k = .int .i64 1 ∧ wr = w1) ∨ (∃ a c, o = .slice a 1 c ∧ e = .int .i64 0 ∧ k = .int .i64 0 ∧ Hid (wr.ownsRow w.heap.size 23 1 (.slice a 1 c) 1 [.slice (some ⟨g, off, none⟩) m cap]) ∧ Below w.heap.size w wr)) (fun _ _ k _ => (intOf k).toNat)
  case atStart => exact Or.inl ⟨rfl, rfl, rfl, rfl⟩
  case round =>
    rcases hrel with ⟨rfl, rfl, rfl, rfl⟩ | ⟨a, c, rfl, rfl, rfl, HO, hbel⟩
    · go_wp2_with fail
      refine (rstart_any _ _ n cap _ HL1.out HLEN.out (by omega) HV.out q hqn).mono ?_
      rintro e w2 ⟨rfl, b2⟩
      rw [HST.out]
      go_wp2_with fail
      have hb2 := b1.trans (b2.mono b1.size)
      have hO := own_lit w2 w.heap.size 23 1 #[.slice (some ⟨g, off, none⟩) m cap] 1 rfl hb2.size (by unfold maxLen; omega)
      have HO : Hid _ := hO
      go_roundw
      case rel => exact Or.inr ⟨_, _, rfl, rfl, rfl, HO, hb2.alloc hb2.size _⟩
      case measure => simp [intOf]
    · go_wp2_with fail
      go_ret
      exact ⟨a, c, rfl, HO.out, hbel⟩

set_option maxHeartbeats 1000000 in
set_option maxRecDepth 100000 in
theorem rparts_bin (x : Pc) (s t : Rx) (hs : s.wf) (ht : t.wf) (hx : takesZ x.k = 2) (g off n cap : Nat) (w : World) (hL : RxAt w (some ⟨g, off, none⟩) (s.flat ++ (t.flat ++ [x]))) (ms mt : Nat) (hms : s.flat.length = ms) (hmt : t.flat.length = mt) (hn : n = ms + mt + 1) (hmax : n ≤ 1000000) (hcap : n ≤ cap ∧ cap ≤ maxLen) :
    Calls Try.prog 30 #[.slice (some ⟨g, off, none⟩) n cap] w (PartsPost [.slice (some ⟨g, off, none⟩) ms cap, .slice (some ⟨g, off + ms * 5, none⟩) mt (cap - ms)] w) := by
  obtain ⟨i0, hi, hz0, hz1, hz2⟩ := info_parts Try.info_rx
  have hlen : (s.flat ++ (t.flat ++ [x])).length = n := by simp; omega
  obtain ⟨m, hm⟩ : ∃ m, ms + mt = m := ⟨_, rfl⟩
  obtain ⟨g', off', e, hg, c0, -⟩ := hL.get m (by simp; omega)
  simp at e
  obtain ⟨rfl, rfl⟩ := e
  have ex : (s.flat ++ (t.flat ++ [x]))[m]'(by simp; omega) = x := by
    rw [List.getElem_append_right (by omega), List.getElem_append_right (by omega)]
    simp
  rw [ex] at c0
  have hs1 : 1 ≤ ms := by have := s.flat_pos; omega
  have ht1 : 1 ≤ mt := by have := t.flat_pos; omega
  have hst : startT (s.flat ++ (t.flat ++ [x])) (m - 1) = ms := by
    rw [startT_tree s.flat [x] t ht (m - 1) (by omega), hms]
  have hst2 : startT (s.flat ++ (t.flat ++ [x])) (ms - 1) = 0 := by
    have := startT_tree [] (t.flat ++ [x]) s hs (ms - 1) (by simp; omega)
    simpa using this
  have hv : ∀ y ∈ s.flat ++ (t.flat ++ [x]), 0 ≤ takesZ y.k := by
    intro y hy
    simp only [List.mem_append, List.mem_singleton] at hy
    rcases hy with hy | hy | rfl
    · exact takes_wf s hs y hy
    · exact takes_wf t ht y hy
    · rw [hx]; omega
  have HV := Lib.hid hv
  have HST := Lib.hid hst
  have HST2 := Lib.hid hst2
  have HLEN := Lib.hid hlen
  have HT := Lib.hid hx
  have HL := Lib.hid hL
  have HMT : Hid (m - ms = mt) := by show _ = _; omega
  have en : ((n : Nat) : Int) - 1 = ((m : Nat) : Int) := by omega
  obtain ⟨q, hq⟩ : ∃ q, m - 1 = q := ⟨_, rfl⟩
  rw [hq] at HST
  have em : ((m : Nat) : Int) - 1 = ((q : Nat) : Int) := by omega
  obtain ⟨q2, hq2⟩ : ∃ q, ms - 1 = q := ⟨_, rfl⟩
  rw [hq2] at HST2
  have em2 : ((ms : Nat) : Int) - 1 = ((q2 : Nat) : Int) := by omega
  have hqn : q < n := by omega
  have hqn2 : q2 < n := by omega
  have hmn : m < n := by omega
  have hmsm : ms ≤ m := by omega
  unfold maxLen at hcap
  obtain ⟨hc1, hc2⟩ := hcap
  have hmc : m ≤ cap := by omega
  have hmsc : ms ≤ cap := by omega
  clear hL hx hv hst hst2 hlen ex hs ht hm hn hq hq2 hms hmt
  go_enter Try.func30, Try.ntmps30
  go_wp2_with fail
  refine (rtakes_any _ _).mono ?_
  rintro e w1 ⟨rfl, b1⟩
  rw [HT.out]
  have HL1 := Lib.hid (HL.out.below b1)
  go_wp2_with fail
  go_loopw [4, 5, 6] (fun o e k wr => (o = .slice none 0 0 ∧ e = .int .i64 m ∧ k = .int .i64 2 ∧ wr = w1) ∨ (∃ a c, o = .slice a 1 c ∧ e = .int .i64 ms ∧ k = .int .i64 1 ∧ Hid (wr.ownsRow w.heap.size 23 1 (.slice a 1 c) 1 [.slice (some ⟨g, off + ms * 5, none⟩) mt (cap - ms)]) ∧ Below w.heap.size w wr) ∨ (∃ a c, o = .slice a 2 c ∧ e = .int .i64 0 ∧ k = .int .i64 0 ∧ Hid (wr.ownsRow w.heap.size 23 1 (.slice a 2 c) 2 [.slice (some ⟨g, off, none⟩) ms cap, .slice (some ⟨g, off + ms * 5, none⟩) mt (cap - ms)]) ∧ Below w.heap.size w wr)) (fun _ _ k _ => (intOf k).toNat)
  case atStart => exact Or.inl ⟨rfl, rfl, rfl, rfl⟩
  case round =>
    rcases hrel with ⟨rfl, rfl, rfl, rfl⟩ | ⟨a, c, rfl, rfl, rfl, HO, hbel⟩ | ⟨a, c, rfl, rfl, rfl, HO, hbel⟩
    · go_wp2_with fail
      refine (rstart_any _ _ n cap _ HL1.out HLEN.out (by omega) HV.out q hqn).mono ?_
      rintro e w2 ⟨rfl, b2⟩
      rw [HST.out]
      go_wp2_with fail
      have hb2 := b1.trans (b2.mono b1.size)
      have hO := own_lit w2 w.heap.size 23 1 #[.slice (some ⟨g, off + ms * 5, none⟩) mt (cap - ms)] 1 rfl hb2.size (by unfold maxLen; omega)
      have HO : Hid _ := hO
      first | rw [HMT.out] | skip
      go_roundw
      case rel => exact Or.inr (Or.inl ⟨_, _, rfl, rfl, rfl, (by first | exact HO | (rw [HMT.out]; exact HO)), hb2.alloc hb2.size _⟩)
      case measure => simp [intOf]
    · have HL2 := Lib.hid (HL.out.below hbel)
      go_wp2_with fail
      refine (rstart_any _ _ n cap _ HL2.out HLEN.out (by omega) HV.out q2 hqn2).mono ?_
      rintro e w2 ⟨rfl, b2⟩
      rw [HST2.out]
      have hb2 := hbel.trans (b2.mono hbel.size)
      have HO2 := Lib.hid (ownsRow_keep HO.out b2)
      obtain ⟨gb, rfl, hgb1, hgb2, hgb3⟩ := ownsRow_read HO2.out (by omega)
      have hO := own_lit w2 w.heap.size 23 1 #[.slice (some ⟨g, off, none⟩) ms cap] 1 rfl hb2.size (by unfold maxLen; omega)
      have hcell : (w2.alloc (.cells #[.slice (some ⟨g, off, none⟩) ms cap] 23)).cell? ⟨gb, 0, none⟩ = some (.slice (some ⟨g, off + ms * 5, none⟩) mt (cap - ms)) := by
        have h1 := (hgb3 0 (by omega)).1
        have : Below w2.heap.size w2 (w2.alloc (.cells #[.slice (some ⟨g, off, none⟩) ms cap] 23)) := (Below.refl _ _).alloc (Nat.le_refl _) _
        rw [this.cell (p := ⟨gb, 0, none⟩) hgb2, h1]; rfl
      have hbs := hb2.size
      go_wp2_with (at_builtin; refine wpList_append_own _ rfl _ _ 68 rfl w.heap.size 23 i0 (.slice none 0 0) 1 24 Try.underlying68 hi hz0 hz1 hz2 rfl (by decide) _ _ _ rfl hO ⟨gb, 0, none⟩ 1 c [.slice (some ⟨g, off + ms * 5, none⟩) mt (cap - ms)] rfl rfl ?c1 ?c2 ?c3 ?c4 ?c5 ?_)
      case c1 =>
        intro j u hj
        match j, hj with
        | 0, hj => simp at hj; subst hj; simpa [Addr.add] using hcell
      case c2 => intro u hu; simp at hu; subst hu; rfl
      case c3 => unfold maxLen; omega
      case c4 => omega
      case c5 => simp; omega
      intro v' w5 hown5 hgrow5 _
      have hB5 : Below w.heap.size w2 w5 := ((Below.refl _ w2).alloc hbs _).trans (grown_kept hgrow5 hO (by simp; omega))
      obtain ⟨a5, cap5, rfl⟩ := ownsRow_slice hown5
      have hb5 := hb2.trans hB5
      have HO5 := Lib.hid hown5
      clear hown5 hgrow5 hB5 hcell hO hgb3
      go_wp2_with fail
      go_roundw
      case rel => exact Or.inr (Or.inr ⟨a5, cap5, rfl, rfl, rfl, HO5, hb5⟩)
      case measure => simp [intOf]
    · go_wp2_with fail
      go_ret
      exact ⟨a, c, rfl, HO.out, hbel⟩
end Go.Proofs.Ytkdhdlokilgccaa

namespace Go.Proofs.Ytkdhdlokilgccaa
open Go.RowKit
set_option linter.unusedVariables false

/-- The operands of an expression. -/
def Rx.kids : Rx → List (List Pc)
  | .leaf _ => []
  | .un _ a => [a.flat]
  | .bin _ a b => [a.flat, b.flat]
theorem Rx.kids_flat (t : Rx) : t.flat = t.kids.flatten ++ [t.top] := by cases t <;> simp [Rx.flat, Rx.kids, Rx.top]
theorem Rx.kids_takes (t : Rx) (hw : t.wf) : takesZ t.top.k = t.kids.length := by cases t <;> exact hw.1
theorem Rx.kids_two (t : Rx) : t.kids.length ≤ 2 := by cases t <;> simp [Rx.kids]
/-- A row of expressions, none where there are none. -/
def PartsIn (w : World) (a : Option Addr) (L : List (List Pc)) : Prop :=
  ∀ i (h : i < L.length), ∃ b g off c, a = some ⟨b, 0, none⟩ ∧ w.cell? ⟨b, i, none⟩ = some (.slice (some ⟨g, off, none⟩) L[i].length c) ∧ RxAt w (some ⟨g, off, none⟩) L[i] ∧ 1 ≤ L[i].length ∧ b < w.heap.size
theorem PartsIn.below {w w' : World} {a : Option Addr} {L : List (List Pc)} (h : PartsIn w a L) (k : Below w.heap.size w w') : PartsIn w' a L := by
  intro i hi
  obtain ⟨b, g, off, c, e, h1, h2, h3, h4⟩ := h i hi
  have := k.size
  exact ⟨b, g, off, c, e, (k.cell (p := ⟨b, i, none⟩) h4).trans h1, h2.below k, h3, by omega⟩
/-- What the reference gives for the parts of any expression. -/
theorem rparts_t (t : Rx) (ht : t.wf) (g off n cap : Nat) (w : World) (hL : RxAt w (some ⟨g, off, none⟩) t.flat) (hn : t.flat.length = n) (hmax : n ≤ 1000000) (hcap : n ≤ cap ∧ cap ≤ maxLen) :
    Calls Try.prog 30 #[.slice (some ⟨g, off, none⟩) n cap] w fun e w' => ∃ a c, e = .returned (.slice a t.kids.length c) ∧ PartsIn w' a t.kids ∧ Below w.heap.size w w' := by
  obtain ⟨g', off', e, hg, hcc⟩ := hL t.flat_pos
  simp at e
  obtain ⟨rfl, rfl⟩ := e
  match t, ht, hL, hn with
  | .leaf x, ht, hL, hn =>
    refine (rparts_leaf x ht.1 g off n cap w hL (by rw [← hn]; rfl)).mono ?_
    rintro e w' ⟨a, c, rfl, hO, b⟩
    exact ⟨a, c, rfl, fun i hi => absurd hi (by simp [Rx.kids]), b⟩
  | .un x s, ht, hL, hn =>
    have hp := s.flat_pos
    have hln : s.flat.length + 1 = n := by rw [← hn]; simp [Rx.flat]
    refine (rparts_un x s ht.2.2 ht.1 g off n cap w hL s.flat.length rfl hln.symm (by omega) hcap).mono ?_
    rintro e w' ⟨a, c, rfl, hO, b⟩
    refine ⟨a, c, rfl, ?_, b⟩
    obtain ⟨gr, ha, _, hgr, hc⟩ := ownsRow_read hO (by simp)
    subst ha
    intro i hi
    have h0 : i = 0 := by simp [Rx.kids] at hi; omega
    subst h0
    refine ⟨gr, g, off, cap, rfl, (hc 0 (by simp)).1, ?_, hp, hgr⟩
    have hs : RxAt w (some ⟨g, off, none⟩) s.flat := fun _ => ⟨g, off, rfl, hg, fun j hj => by
      rw [hcc j (by simp [Rx.flat] at hj ⊢; omega)]
      show (pcs (s.flat ++ [x]))[j]? = _
      rw [pcs_append, List.getElem?_append_left (by rw [pcs_length]; exact hj)]⟩
    exact hs.below b
  | .bin x s u, ht, hL, hn =>
    have hp := s.flat_pos
    have hp2 := u.flat_pos
    have hln : s.flat.length + u.flat.length + 1 = n := by rw [← hn]; simp [Rx.flat]; omega
    refine (rparts_bin x s u ht.2.2.1 ht.2.2.2 ht.1 g off n cap w hL s.flat.length u.flat.length rfl rfl hln.symm (by omega) hcap).mono ?_
    rintro e w' ⟨a, c, rfl, hO, b⟩
    refine ⟨a, c, rfl, ?_, b⟩
    obtain ⟨gr, ha, _, hgr, hc⟩ := ownsRow_read hO (by simp)
    subst ha
    have hs : RxAt w (some ⟨g, off, none⟩) s.flat := fun _ => ⟨g, off, rfl, hg, fun j hj => by
      rw [hcc j (by simp [Rx.flat] at hj ⊢; omega)]
      show (pcs (s.flat ++ (u.flat ++ [x])))[j]? = _
      rw [pcs_append, List.getElem?_append_left (by rw [pcs_length]; exact hj)]⟩
    have hu : RxAt w (some ⟨g, off + s.flat.length * 5, none⟩) u.flat := fun _ => ⟨g, _, rfl, hg, fun j hj => by
      have h1 := hcc (s.flat.length * 5 + j) (by simp [Rx.flat] at hj ⊢; omega)
      rw [show off + s.flat.length * 5 + j = off + (s.flat.length * 5 + j) by omega, h1]
      show (pcs (s.flat ++ (u.flat ++ [x])))[_]? = _
      have e5 := pcs_length s.flat
      have e6 := pcs_length u.flat
      rw [pcs_append, List.getElem?_append_right (by omega), pcs_append, List.getElem?_append_left (by omega)]
      congr 1
      omega⟩
    intro i hi
    have h2 : i = 0 ∨ i = 1 := by simp [Rx.kids] at hi; omega
    rcases h2 with rfl | rfl
    · exact ⟨gr, g, off, cap, rfl, (hc 0 (by simp)).1, hs.below b, hp, hgr⟩
    · exact ⟨gr, g, _, _, rfl, (hc 1 (by simp)).1, hu.below b, hp2, hgr⟩
end Go.Proofs.Ytkdhdlokilgccaa

namespace Go.Proofs.Ytkdhdlokilgccaa
open Go.RowKit
set_option linter.unusedVariables false

/-- A row of expressions, with the room behind each. -/
def PartsC (w : World) (a : Option Addr) (L : List (List Pc)) : Prop :=
  ∀ i (h : i < L.length), ∃ b g off c, a = some ⟨b, 0, none⟩ ∧ w.cell? ⟨b, i, none⟩ = some (.slice (some ⟨g, off, none⟩) L[i].length c) ∧ RxAt w (some ⟨g, off, none⟩) L[i] ∧ 1 ≤ L[i].length ∧ b < w.heap.size ∧ L[i].length ≤ c ∧ c ≤ maxLen
theorem PartsC.below {w w' : World} {a : Option Addr} {L : List (List Pc)} (h : PartsC w a L) (k : Below w.heap.size w w') : PartsC w' a L := by
  intro i hi
  obtain ⟨b, g, off, c, e, h1, h2, h3, h4, h5, h6⟩ := h i hi
  have := k.size
  exact ⟨b, g, off, c, e, (k.cell (p := ⟨b, i, none⟩) h4).trans h1, h2.below k, h3, by omega, h5, h6⟩
/-- What the reference gives for the parts of any expression. -/
theorem rparts_cap (t : Rx) (ht : t.wf) (g off n cap : Nat) (w : World) (hL : RxAt w (some ⟨g, off, none⟩) t.flat) (hn : t.flat.length = n) (hmax : n ≤ 1000000) (hcap : n ≤ cap ∧ cap ≤ maxLen) :
    Calls Try.prog 30 #[.slice (some ⟨g, off, none⟩) n cap] w fun e w' => ∃ a c, e = .returned (.slice a t.kids.length c) ∧ PartsC w' a t.kids ∧ Below w.heap.size w w' := by
  obtain ⟨g', off', e, hg, hcc⟩ := hL t.flat_pos
  simp at e
  obtain ⟨rfl, rfl⟩ := e
  match t, ht, hL, hn with
  | .leaf x, ht, hL, hn =>
    refine (rparts_leaf x ht.1 g off n cap w hL (by rw [← hn]; rfl)).mono ?_
    rintro e w' ⟨a, c, rfl, hO, b⟩
    exact ⟨a, c, rfl, fun i hi => absurd hi (by simp [Rx.kids]), b⟩
  | .un x s, ht, hL, hn =>
    have hp := s.flat_pos
    have hln : s.flat.length + 1 = n := by rw [← hn]; simp [Rx.flat]
    refine (rparts_un x s ht.2.2 ht.1 g off n cap w hL s.flat.length rfl hln.symm (by omega) hcap).mono ?_
    rintro e w' ⟨a, c, rfl, hO, b⟩
    refine ⟨a, c, rfl, ?_, b⟩
    obtain ⟨gr, ha, _, hgr, hc⟩ := ownsRow_read hO (by simp)
    subst ha
    intro i hi
    have h0 : i = 0 := by simp [Rx.kids] at hi; omega
    subst h0
    refine ⟨gr, g, off, cap, rfl, (hc 0 (by simp)).1, ?_, hp, hgr, by show s.flat.length ≤ cap; omega, hcap.2⟩
    have hs : RxAt w (some ⟨g, off, none⟩) s.flat := fun _ => ⟨g, off, rfl, hg, fun j hj => by
      rw [hcc j (by simp [Rx.flat] at hj ⊢; omega)]
      show (pcs (s.flat ++ [x]))[j]? = _
      rw [pcs_append, List.getElem?_append_left (by rw [pcs_length]; exact hj)]⟩
    exact hs.below b
  | .bin x s u, ht, hL, hn =>
    have hp := s.flat_pos
    have hp2 := u.flat_pos
    have hln : s.flat.length + u.flat.length + 1 = n := by rw [← hn]; simp [Rx.flat]; omega
    refine (rparts_bin x s u ht.2.2.1 ht.2.2.2 ht.1 g off n cap w hL s.flat.length u.flat.length rfl rfl hln.symm (by omega) hcap).mono ?_
    rintro e w' ⟨a, c, rfl, hO, b⟩
    refine ⟨a, c, rfl, ?_, b⟩
    obtain ⟨gr, ha, _, hgr, hc⟩ := ownsRow_read hO (by simp)
    subst ha
    have hs : RxAt w (some ⟨g, off, none⟩) s.flat := fun _ => ⟨g, off, rfl, hg, fun j hj => by
      rw [hcc j (by simp [Rx.flat] at hj ⊢; omega)]
      show (pcs (s.flat ++ (u.flat ++ [x])))[j]? = _
      rw [pcs_append, List.getElem?_append_left (by rw [pcs_length]; exact hj)]⟩
    have hu : RxAt w (some ⟨g, off + s.flat.length * 5, none⟩) u.flat := fun _ => ⟨g, _, rfl, hg, fun j hj => by
      have h1 := hcc (s.flat.length * 5 + j) (by simp [Rx.flat] at hj ⊢; omega)
      rw [show off + s.flat.length * 5 + j = off + (s.flat.length * 5 + j) by omega, h1]
      show (pcs (s.flat ++ (u.flat ++ [x])))[_]? = _
      have e5 := pcs_length s.flat
      have e6 := pcs_length u.flat
      rw [pcs_append, List.getElem?_append_right (by omega), pcs_append, List.getElem?_append_left (by omega)]
      congr 1
      omega⟩
    intro i hi
    have h2 : i = 0 ∨ i = 1 := by simp [Rx.kids] at hi; omega
    rcases h2 with rfl | rfl
    · exact ⟨gr, g, off, cap, rfl, (hc 0 (by simp)).1, hs.below b, hp, hgr, by show s.flat.length ≤ cap; omega, hcap.2⟩
    · exact ⟨gr, g, _, _, rfl, (hc 1 (by simp)).1, hu.below b, hp2, hgr, by show u.flat.length ≤ cap - s.flat.length; omega, by have := hcap.2; omega⟩
end Go.Proofs.Ytkdhdlokilgccaa

namespace Go.Proofs.Ytkdhdlokilgccaa
open Go.RowKit

end Go.Proofs.Ytkdhdlokilgccaa

namespace Go.Proofs.Ytkdhdlokilgccaa
open Go.RowKit

theorem Fills.one {w wr : World} {q : Nat → Bool} (h : Fills w q wr) (q' : Nat → Bool) (i : Nat) (v : Value) (e : (#[.int .u64 ((wd q 0 : Nat) : Int), .int .u64 ((wd q 1 : Nat) : Int), .int .u64 ((wd q 2 : Nat) : Int), .int .u64 ((wd q 3 : Nat) : Int)]).setIfInBounds i v = #[.int .u64 ((wd q' 0 : Nat) : Int), .int .u64 ((wd q' 1 : Nat) : Int), .int .u64 ((wd q' 2 : Nat) : Int), .int .u64 ((wd q' 3 : Nat) : Int)]) :
    Fills w q' (wr.setCell ⟨w.heap.size + 1, i, none⟩ v) :=
  ⟨h.s0.far (by simp) _, e ▸ h.s1.set i _, h.below.setCell (by simp) _⟩

set_option maxRecDepth 100000 in
theorem rof_any (p : Nat → Bool) (b off cap : Nat) (w : World) (hb : b < w.heap.size) (hz : ∀ j, j < 256 → w.cell? ⟨b, off + j, none⟩ = some (.bool (p j))) :
    Calls Try.prog 53 #[.slice (some ⟨b, off, none⟩) 256 cap] w fun e w' => e = .returned (.agg #[.int .u64 ((wd p 0 : Nat) : Int), .int .u64 ((wd p 1 : Nat) : Int), .int .u64 ((wd p 2 : Nat) : Int), .int .u64 ((wd p 3 : Nat) : Int)]) ∧ Below w.heap.size w w' := by
  go_enter Try.func53, Try.ntmps53
  go_wp2_with fail
  go_loopw [4] (fun i wr => ∃ k : Nat, i = .int .i64 k ∧ k ≤ 256 ∧ Fills w (upTo p k) wr) (fun i _ => 256 - (intOf i).toNat)
  case atStart => exact ⟨0, rfl, Nat.zero_le _, by rw [upTo_zero]; exact Fills.start w⟩
  case round =>
    obtain ⟨k, rfl, hk, R⟩ := hrel
    obtain ⟨r0, r1, r2, r3, r4, r5, r6, r7⟩ := row4 R.s0
    obtain ⟨q0, q1, q2, q3, q4, q5, q6, q7⟩ := row4 R.s1
    by_cases hlt : k < 256
    · have hc := (R.below.cell (p := ⟨b, off + k, none⟩) hb).trans (hz k hlt)
      rcases hpk : p k with _ | _
      · have HN := Lib.hid (upTo_no p k hpk)
        rw [hpk] at hc
        clear hpk hz
        go_wp2_with fail
        go_roundw
        case rel => exact ⟨k + 1, by go_num, by omega, by rw [HN.out]; exact R⟩
        case measure => simp [intOf]; omega
      · have HN := Lib.hid (upTo_yes p k hpk)
        rw [hpk] at hc
        clear hpk hz
        rcases (by omega : k / 64 = 0 ∨ k / 64 = 1 ∨ k / 64 = 2 ∨ k / 64 = 3) with h | h | h | h
        · go_wp2_with fail
          rw [bits_add p k 0 h]
          have R1 := R.one (ins (upTo p k) k) 0 (.int .u64 ((wd (ins (upTo p k) k) 0 : Nat) : Int)) (by rw [wd_far (upTo p k) k 1 (by omega), wd_far (upTo p k) k 2 (by omega), wd_far (upTo p k) k 3 (by omega)]; rfl)
          go_roundw
          case rel => exact ⟨k + 1, by go_num, by omega, by rw [HN.out]; exact R1⟩
          case measure => simp [intOf]; omega
        · go_wp2_with fail
          rw [bits_add p k 1 h]
          have R1 := R.one (ins (upTo p k) k) 1 (.int .u64 ((wd (ins (upTo p k) k) 1 : Nat) : Int)) (by rw [wd_far (upTo p k) k 0 (by omega), wd_far (upTo p k) k 2 (by omega), wd_far (upTo p k) k 3 (by omega)]; rfl)
          go_roundw
          case rel => exact ⟨k + 1, by go_num, by omega, by rw [HN.out]; exact R1⟩
          case measure => simp [intOf]; omega
        · go_wp2_with fail
          rw [bits_add p k 2 h]
          have R1 := R.one (ins (upTo p k) k) 2 (.int .u64 ((wd (ins (upTo p k) k) 2 : Nat) : Int)) (by rw [wd_far (upTo p k) k 0 (by omega), wd_far (upTo p k) k 1 (by omega), wd_far (upTo p k) k 3 (by omega)]; rfl)
          go_roundw
          case rel => exact ⟨k + 1, by go_num, by omega, by rw [HN.out]; exact R1⟩
          case measure => simp [intOf]; omega
        · go_wp2_with fail
          rw [bits_add p k 3 h]
          have R1 := R.one (ins (upTo p k) k) 3 (.int .u64 ((wd (ins (upTo p k) k) 3 : Nat) : Int)) (by rw [wd_far (upTo p k) k 0 (by omega), wd_far (upTo p k) k 1 (by omega), wd_far (upTo p k) k 2 (by omega)]; rfl)
          go_roundw
          case rel => exact ⟨k + 1, by go_num, by omega, by rw [HN.out]; exact R1⟩
          case measure => simp [intOf]; omega
    · obtain rfl : k = 256 := by omega
      have hbel := R.below
      clear R
      rw [wd_upTo p 0 (by decide)] at q0
      rw [wd_upTo p 1 (by decide)] at q1
      rw [wd_upTo p 2 (by decide)] at q2
      rw [wd_upTo p 3 (by decide)] at q3
      go_wp2_with fail
      exact bodyPost_ret (v := (.agg #[.int .u64 ((wd p 0 : Nat) : Int), .int .u64 ((wd p 1 : Nat) : Int), .int .u64 ((wd p 2 : Nat) : Int), .int .u64 ((wd p 3 : Nat) : Int)])) (by simp [results, Try.results53, go_sem, r0, r1, r2, r3]) rfl ⟨rfl, below4 hbel (Nat.le_refl _) _ _ _ _⟩
end Go.Proofs.Ytkdhdlokilgccaa
