import Derived.Test.YtjhfgiflcenjpaaDoorZPShow2
import Derived.Test.YtjhfgiflcenjpaaDoorZRefSet
import Derived.Test.YtjhfgiflcenjpaaDoorZStart
import Derived.Deep.RegionHeld3
import Derived.Deep.DeepCutAuto
namespace Go.Proofs.YtjhfgiflcenjpaaDoor
open Go.RowKit
set_option linter.unusedVariables false

theorem Tryd.info_rx : (Tryd.prog.info? 23).map (fun i => (i.zero, i.size, i.bytes)) = some (some (.slice none 0 0), 1, 24) := by kernel_rfl
theorem Tryd.info_str : (Tryd.prog.info? 9).map (fun i => (i.zero, i.size, i.bytes)) = some (some (.string ⟨#[]⟩), 1, 16) := by kernel_rfl
theorem Tryd.info_int : (Tryd.prog.info? 3).map (fun i => (i.zero, i.size, i.bytes)) = some (some (.int .i64 0), 1, 8) := by kernel_rfl

theorem around_any (s : ByteArray) (b : Bool) (hs : s.size ≤ 1000000000) (w : World) (l : List Nat) (hl : s = strOf l) :
    Calls Tryd.prog 29 #[.string s, .bool b] w fun e w' => e = .returned (.string (strOf (parT b l))) ∧ w = w' := by
  have HL := Lib.hid hl
  clear hl
  rcases b with _ | _
  · go_enter Tryd.func29, Tryd.ntmps29
    go_wp2_with fail
    go_ret
    exact ⟨by rw [HL.out]; rfl, rfl⟩
  · have HZ : Hid ((⟨#[40]⟩ : ByteArray) ++ strOf l ++ (⟨#[41]⟩ : ByteArray) = strOf (parT true l)) := by
      show _ = _
      have h1 : (⟨#[40]⟩ : ByteArray) = strOf [40] := rfl
      have h2 : (⟨#[41]⟩ : ByteArray) = strOf [41] := rfl
      rw [h1, h2, strOf_append, strOf_append]
      simp [parT]
    go_enter Tryd.func29, Tryd.ntmps29
    go_wp2_with fail
    go_ret
    exact ⟨by rw [← HZ.out, HL.out]; rfl, rfl⟩

/-- The operands of an expression, in order. -/
def kids : Rx → List Rx
  | .leaf _ => []
  | .un _ a => [a]
  | .bin _ a b => [a, b]
/-- Slices of one list of pieces: where the operands lie. -/
def kidVals (g off cap : Nat) : Rx → List Value
  | .leaf _ => []
  | .un _ a => [.slice (some ⟨g, off, none⟩) a.flat.length cap]
  | .bin _ a b => [.slice (some ⟨g, off, none⟩) a.flat.length cap, .slice (some ⟨g, off + a.flat.length * 5, none⟩) b.flat.length (cap - a.flat.length)]
end Go.Proofs.YtjhfgiflcenjpaaDoor

namespace Go.Proofs.YtjhfgiflcenjpaaDoor
open Go.RowKit
set_option linter.unusedVariables false

/-- What Parts gives back: slices of the same list. -/
def PartsPost (vs : List Value) (w : World) (e : Ending) (w' : World) : Prop := ∃ a cap, e = .returned (.slice a vs.length cap) ∧ w'.ownsRow w.heap.size 23 1 (.slice a vs.length cap) vs.length vs ∧ Below w.heap.size w w'
/-- A row in a new block is the call's own. -/
theorem own_lit (w : World) (base : Nat) (e : TypeId) (size : Nat) (cs : Array Value) (n : Nat) (hn : cs.size = n * size) (hb : base ≤ w.heap.size) (hm : n ≤ maxLen) : (w.alloc (.cells cs e)).ownsRow base e size (.slice (some ⟨w.heap.size, 0, none⟩) n n) n cs.toList :=
  ⟨by simpa using hn, Or.inr ⟨w.heap.size, n, cs, rfl, hb, St.new w e cs, Nat.le_refl _, hm, hn, by rw [← hn]; exact List.take_of_length_le (by simp)⟩⟩
theorem takes_wf (t : Rx) (hw : t.wf) : ∀ x ∈ t.flat, 0 ≤ takesZ x.k := by
  induction t with
  | leaf x => intro y hy; simp [Rx.flat] at hy; subst hy; rw [hw.1]; omega
  | un x a ih =>
    intro y hy
    simp [Rx.flat] at hy
    rcases hy with hy | rfl
    · exact ih hw.2.2 y hy
    · rw [hw.1]; omega
  | bin x a b iha ihb =>
    intro y hy
    simp [Rx.flat] at hy
    rcases hy with hy | hy | rfl
    · exact iha hw.2.2.1 y hy
    · exact ihb hw.2.2.2 y hy
    · rw [hw.1]; omega

set_option maxHeartbeats 1000000 in
set_option maxRecDepth 100000 in
theorem rparts_leaf (x : Pc) (hx : takesZ x.k = 0) (g off n cap : Nat) (w : World) (hL : RxAt w (some ⟨g, off, none⟩) [x]) (hn : n = 1) :
    Calls Tryd.prog 11 #[.slice (some ⟨g, off, none⟩) n cap] w (PartsPost [] w) := by
  obtain ⟨g', off', e, hg, c0, -⟩ := hL.get 0 (by simp)
  simp at e
  obtain ⟨rfl, rfl⟩ := e
  simp at c0
  have HT := Lib.hid hx
  subst hn
  clear hL hx
  go_enter Tryd.func11, Tryd.ntmps11
  go_wp2_with fail
  refine (rtakes_any _ _).mono ?_
  rintro e w1 ⟨rfl, b1⟩
  rw [HT.out]
  go_wp2_with fail
  go_loopw [4, 5, 6] (fun o e k wr => o = .slice none 0 0 ∧ e = .int .i64 0 ∧ k = .int .i64 0 ∧ wr = w1) (fun _ _ _ _ => 0)
  case atStart => exact ⟨rfl, rfl, rfl, rfl⟩
  case round =>
    obtain ⟨rfl, rfl, rfl, rfl⟩ := hrel
    go_wp2_with fail
    go_ret
    exact ⟨none, 0, rfl, World.ownsRow_nil _ _ _ _, b1⟩

set_option maxHeartbeats 1000000 in
set_option maxRecDepth 100000 in
theorem rparts_un (x : Pc) (s : Rx) (hs : s.wf) (hx : takesZ x.k = 1) (g off n cap : Nat) (w : World) (hL : RxAt w (some ⟨g, off, none⟩) (s.flat ++ [x])) (m : Nat) (hm : s.flat.length = m) (hn : n = m + 1) (hmax : n ≤ 100000) (hcap : n ≤ cap ∧ cap ≤ maxLen) :
    Calls Tryd.prog 11 #[.slice (some ⟨g, off, none⟩) n cap] w (PartsPost [.slice (some ⟨g, off, none⟩) m cap] w) := by
  have hlen : (s.flat ++ [x]).length = n := by simp; omega
  obtain ⟨g', off', e, hg, c0, -⟩ := hL.get m (by simp; omega)
  simp at e
  obtain ⟨rfl, rfl⟩ := e
  have ex : (s.flat ++ [x])[m]'(by simp; omega) = x := by rw [List.getElem_append_right (by omega)]; simp [hm]
  rw [ex] at c0
  have hm1 : 1 ≤ m := by have := s.flat_pos; omega
  have hst : startT (s.flat ++ [x]) (m - 1) = 0 := by
    have := startT_tree [] [x] s hs (m - 1) (by simp; omega)
    simpa using this
  have hv : ∀ y ∈ s.flat ++ [x], 0 ≤ takesZ y.k := by
    intro y hy
    rcases List.mem_append.1 hy with hy | hy
    · exact takes_wf s hs y hy
    · simp at hy; subst hy; rw [hx]; omega
  have HV := Lib.hid hv
  have HST := Lib.hid hst
  have HLEN := Lib.hid hlen
  have HT := Lib.hid hx
  have HL := Lib.hid hL
  have en : ((n : Nat) : Int) - 1 = ((m : Nat) : Int) := by omega
  obtain ⟨q, hq⟩ : ∃ q, m - 1 = q := ⟨_, rfl⟩
  rw [hq] at HST
  have em : ((m : Nat) : Int) - 1 = ((q : Nat) : Int) := by omega
  have hqn : q < n := by omega
  have hmn : m < n := by omega
  unfold maxLen at hcap
  obtain ⟨hc1, hc2⟩ := hcap
  have hmc : m ≤ cap := by omega
  clear hL hx hv hst hlen ex hs hm hn hq
  go_enter Tryd.func11, Tryd.ntmps11
  go_wp2_with fail
  refine (rtakes_any _ _).mono ?_
  rintro e w1 ⟨rfl, b1⟩
  rw [HT.out]
  have HL1 := Lib.hid (HL.out.below b1)
  go_wp2_with fail
  go_loopw [4, 5, 6] (fun o e k wr => (o = .slice none 0 0 ∧ e = .int .i64 m ∧ k = .int .i64 1 ∧ wr = w1) ∨ (∃ a c, o = .slice a 1 c ∧ e = .int .i64 0 ∧ k = .int .i64 0 ∧ Hid (wr.ownsRow w.heap.size 23 1 (.slice a 1 c) 1 [.slice (some ⟨g, off, none⟩) m cap]) ∧ Below w.heap.size w wr)) (fun _ _ k _ => (intOf k).toNat)
  case atStart => exact Or.inl ⟨rfl, rfl, rfl, rfl⟩
  case round =>
    rcases hrel with ⟨rfl, rfl, rfl, rfl⟩ | ⟨a, c, rfl, rfl, rfl, HO, hbel⟩
    · go_wp2_with fail
      refine (rstart_any _ _ n cap _ HL1.out HLEN.out (by omega) HV.out q hqn).mono ?_
      rintro e w2 ⟨rfl, b2⟩
      rw [HST.out]
      go_wp2_with fail
      have hb2 := b1.trans (b2.mono b1.size)
      have hO := own_lit w2 w.heap.size 23 1 #[.slice (some ⟨g, off, none⟩) m cap] 1 rfl hb2.size (by unfold maxLen; omega)
      have HO : Hid _ := hO
      go_roundw
      case rel => exact Or.inr ⟨_, _, rfl, rfl, rfl, HO, hb2.alloc hb2.size _⟩
      case measure => simp [intOf]
    · go_wp2_with fail
      go_ret
      exact ⟨a, c, rfl, HO.out, hbel⟩

set_option maxHeartbeats 1000000 in
set_option maxRecDepth 100000 in
theorem rparts_bin (x : Pc) (s t : Rx) (hs : s.wf) (ht : t.wf) (hx : takesZ x.k = 2) (g off n cap : Nat) (w : World) (hL : RxAt w (some ⟨g, off, none⟩) (s.flat ++ (t.flat ++ [x]))) (ms mt : Nat) (hms : s.flat.length = ms) (hmt : t.flat.length = mt) (hn : n = ms + mt + 1) (hmax : n ≤ 100000) (hcap : n ≤ cap ∧ cap ≤ maxLen) :
    Calls Tryd.prog 11 #[.slice (some ⟨g, off, none⟩) n cap] w (PartsPost [.slice (some ⟨g, off, none⟩) ms cap, .slice (some ⟨g, off + ms * 5, none⟩) mt (cap - ms)] w) := by
  obtain ⟨i0, hi, hz0, hz1, hz2⟩ := info_parts Tryd.info_rx
  have hlen : (s.flat ++ (t.flat ++ [x])).length = n := by simp; omega
  obtain ⟨m, hm⟩ : ∃ m, ms + mt = m := ⟨_, rfl⟩
  obtain ⟨g', off', e, hg, c0, -⟩ := hL.get m (by simp; omega)
  simp at e
  obtain ⟨rfl, rfl⟩ := e
  have ex : (s.flat ++ (t.flat ++ [x]))[m]'(by simp; omega) = x := by
    rw [List.getElem_append_right (by omega), List.getElem_append_right (by omega)]
    simp
  rw [ex] at c0
  have hs1 : 1 ≤ ms := by have := s.flat_pos; omega
  have ht1 : 1 ≤ mt := by have := t.flat_pos; omega
  have hst : startT (s.flat ++ (t.flat ++ [x])) (m - 1) = ms := by
    rw [startT_tree s.flat [x] t ht (m - 1) (by omega), hms]
  have hst2 : startT (s.flat ++ (t.flat ++ [x])) (ms - 1) = 0 := by
    have := startT_tree [] (t.flat ++ [x]) s hs (ms - 1) (by simp; omega)
    simpa using this
  have hv : ∀ y ∈ s.flat ++ (t.flat ++ [x]), 0 ≤ takesZ y.k := by
    intro y hy
    simp only [List.mem_append, List.mem_singleton] at hy
    rcases hy with hy | hy | rfl
    · exact takes_wf s hs y hy
    · exact takes_wf t ht y hy
    · rw [hx]; omega
  have HV := Lib.hid hv
  have HST := Lib.hid hst
  have HST2 := Lib.hid hst2
  have HLEN := Lib.hid hlen
  have HT := Lib.hid hx
  have HL := Lib.hid hL
  have HMT : Hid (m - ms = mt) := by show _ = _; omega
  have en : ((n : Nat) : Int) - 1 = ((m : Nat) : Int) := by omega
  obtain ⟨q, hq⟩ : ∃ q, m - 1 = q := ⟨_, rfl⟩
  rw [hq] at HST
  have em : ((m : Nat) : Int) - 1 = ((q : Nat) : Int) := by omega
  obtain ⟨q2, hq2⟩ : ∃ q, ms - 1 = q := ⟨_, rfl⟩
  rw [hq2] at HST2
  have em2 : ((ms : Nat) : Int) - 1 = ((q2 : Nat) : Int) := by omega
  have hqn : q < n := by omega
  have hqn2 : q2 < n := by omega
  have hmn : m < n := by omega
  have hmsm : ms ≤ m := by omega
  unfold maxLen at hcap
  obtain ⟨hc1, hc2⟩ := hcap
  have hmc : m ≤ cap := by omega
  have hmsc : ms ≤ cap := by omega
  clear hL hx hv hst hst2 hlen ex hs ht hm hn hq hq2 hms hmt
  go_enter Tryd.func11, Tryd.ntmps11
  go_wp2_with fail
  refine (rtakes_any _ _).mono ?_
  rintro e w1 ⟨rfl, b1⟩
  rw [HT.out]
  have HL1 := Lib.hid (HL.out.below b1)
  go_wp2_with fail
  go_loopw [4, 5, 6] (fun o e k wr => (o = .slice none 0 0 ∧ e = .int .i64 m ∧ k = .int .i64 2 ∧ wr = w1) ∨ (∃ a c, o = .slice a 1 c ∧ e = .int .i64 ms ∧ k = .int .i64 1 ∧ Hid (wr.ownsRow w.heap.size 23 1 (.slice a 1 c) 1 [.slice (some ⟨g, off + ms * 5, none⟩) mt (cap - ms)]) ∧ Below w.heap.size w wr) ∨ (∃ a c, o = .slice a 2 c ∧ e = .int .i64 0 ∧ k = .int .i64 0 ∧ Hid (wr.ownsRow w.heap.size 23 1 (.slice a 2 c) 2 [.slice (some ⟨g, off, none⟩) ms cap, .slice (some ⟨g, off + ms * 5, none⟩) mt (cap - ms)]) ∧ Below w.heap.size w wr)) (fun _ _ k _ => (intOf k).toNat)
  case atStart => exact Or.inl ⟨rfl, rfl, rfl, rfl⟩
  case round =>
    rcases hrel with ⟨rfl, rfl, rfl, rfl⟩ | ⟨a, c, rfl, rfl, rfl, HO, hbel⟩ | ⟨a, c, rfl, rfl, rfl, HO, hbel⟩
    · go_wp2_with fail
      refine (rstart_any _ _ n cap _ HL1.out HLEN.out (by omega) HV.out q hqn).mono ?_
      rintro e w2 ⟨rfl, b2⟩
      rw [HST.out]
      go_wp2_with fail
      have hb2 := b1.trans (b2.mono b1.size)
      have hO := own_lit w2 w.heap.size 23 1 #[.slice (some ⟨g, off + ms * 5, none⟩) mt (cap - ms)] 1 rfl hb2.size (by unfold maxLen; omega)
      have HO : Hid _ := hO
      first | rw [HMT.out] | skip
      go_roundw
      case rel => exact Or.inr (Or.inl ⟨_, _, rfl, rfl, rfl, (by first | exact HO | (rw [HMT.out]; exact HO)), hb2.alloc hb2.size _⟩)
      case measure => simp [intOf]
    · have HL2 := Lib.hid (HL.out.below hbel)
      go_wp2_with fail
      refine (rstart_any _ _ n cap _ HL2.out HLEN.out (by omega) HV.out q2 hqn2).mono ?_
      rintro e w2 ⟨rfl, b2⟩
      rw [HST2.out]
      have hb2 := hbel.trans (b2.mono hbel.size)
      have HO2 := Lib.hid (ownsRow_keep HO.out b2)
      obtain ⟨gb, rfl, hgb1, hgb2, hgb3⟩ := ownsRow_read HO2.out (by omega)
      have hO := own_lit w2 w.heap.size 23 1 #[.slice (some ⟨g, off, none⟩) ms cap] 1 rfl hb2.size (by unfold maxLen; omega)
      have hcell : (w2.alloc (.cells #[.slice (some ⟨g, off, none⟩) ms cap] 23)).cell? ⟨gb, 0, none⟩ = some (.slice (some ⟨g, off + ms * 5, none⟩) mt (cap - ms)) := by
        have h1 := (hgb3 0 (by omega)).1
        have : Below w2.heap.size w2 (w2.alloc (.cells #[.slice (some ⟨g, off, none⟩) ms cap] 23)) := (Below.refl _ _).alloc (Nat.le_refl _) _
        rw [this.cell (p := ⟨gb, 0, none⟩) hgb2, h1]; rfl
      have hbs := hb2.size
      go_wp2_with (at_builtin; refine wpList_append_own _ rfl _ _ 37 rfl w.heap.size 23 i0 (.slice none 0 0) 1 24 Tryd.underlying37 hi hz0 hz1 hz2 rfl (by decide) _ _ _ rfl hO ⟨gb, 0, none⟩ 1 c [.slice (some ⟨g, off + ms * 5, none⟩) mt (cap - ms)] rfl rfl ?c1 ?c2 ?c3 ?c4 ?c5 ?_)
      case c1 =>
        intro j u hj
        match j, hj with
        | 0, hj => simp at hj; subst hj; simpa [Addr.add] using hcell
      case c2 => intro u hu; simp at hu; subst hu; rfl
      case c3 => unfold maxLen; omega
      case c4 => omega
      case c5 => simp; omega
      intro v' w5 hown5 hgrow5 _
      have hB5 : Below w.heap.size w2 w5 := ((Below.refl _ w2).alloc hbs _).trans (grown_kept hgrow5 hO (by simp; omega))
      obtain ⟨a5, cap5, rfl⟩ := ownsRow_slice hown5
      have hb5 := hb2.trans hB5
      have HO5 := Lib.hid hown5
      clear hown5 hgrow5 hB5 hcell hO hgb3
      go_wp2_with fail
      go_roundw
      case rel => exact Or.inr (Or.inr ⟨a5, cap5, rfl, rfl, rfl, HO5, hb5⟩)
      case measure => simp [intOf]
    · go_wp2_with fail
      go_ret
      exact ⟨a, c, rfl, HO.out, hbel⟩
end Go.Proofs.YtjhfgiflcenjpaaDoor
