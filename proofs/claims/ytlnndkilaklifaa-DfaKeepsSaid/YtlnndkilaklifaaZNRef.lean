import Derived.Test.YtlnndkilaklifaaZNRight
import Derived.Test.YtlnndkilaklifaaZRefHas
import Derived.Deep.RegionWith
namespace Go.Proofs.Ytlnndkilaklifaa
open Go.RowKit
set_option linter.unusedVariables false

/-- An automaton all of whose states are there. -/
structure Ok (L : List En) (N F T : Nat) : Prop where
  f : F < N
  t : T < N
  e : ∀ e ∈ L, e.f < N ∧ e.t < N
theorem right_nat {S F T : Int} {L : List Eg} (h : riB S L F T = true) : ∃ (N F' T' : Nat) (L' : List En), S = (N : Int) ∧ F = (F' : Int) ∧ T = (T' : Int) ∧ L = L'.map En.z ∧ Ok L' N F' T' := by
  simp only [riB, Bool.and_eq_true, List.all_eq_true, edB, stB_iff] at h
  obtain ⟨h1, ⟨h2, h3⟩, h4, h5⟩ := h
  have hL : ∀ L : List Eg, (∀ e ∈ L, (0 ≤ e.f ∧ e.f < S) ∧ 0 ≤ e.t ∧ e.t < S) → ∃ L' : List En, L = L'.map En.z ∧ ∀ e ∈ L', e.f < S.toNat ∧ e.t < S.toNat := by
    intro L
    induction L with
    | nil => exact fun _ => ⟨[], rfl, by simp⟩
    | cons x r ih =>
      intro h
      obtain ⟨L', h6, h7⟩ := ih (fun e he => h e (by simp [he]))
      have hx := h x (by simp)
      refine ⟨⟨x.f.toNat, x.t.toNat, x.p, x.b⟩ :: L', ?_, ?_⟩
      · rw [h6]
        simp only [List.map_cons, En.z]
        congr 1
        obtain ⟨xf, xt, xp, xb⟩ := x
        simp at hx ⊢
        omega
      · intro e he
        rcases List.mem_cons.1 he with rfl | he
        · exact ⟨by show x.f.toNat < _; omega, by show x.t.toNat < _; omega⟩
        · exact h7 e he
  obtain ⟨L', h6, h7⟩ := hL L h1
  exact ⟨S.toNat, F.toNat, T.toNat, L', by omega, by omega, by omega, h6, by omega, by omega, h7⟩
def At7n (w : World) (g o : Nat) (x : En) : Prop :=
  w.cell? ⟨g, o, none⟩ = some (.int .i64 ((x.f : Nat) : Int)) ∧ w.cell? ⟨g, o + 1, none⟩ = some (.int .i64 ((x.t : Nat) : Int)) ∧ w.cell? ⟨g, o + 2, none⟩ = some (.int .u64 ((wd x.p 0 : Nat) : Int)) ∧ w.cell? ⟨g, o + 3, none⟩ = some (.int .u64 ((wd x.p 1 : Nat) : Int)) ∧
    w.cell? ⟨g, o + 4, none⟩ = some (.int .u64 ((wd x.p 2 : Nat) : Int)) ∧ w.cell? ⟨g, o + 5, none⟩ = some (.int .u64 ((wd x.p 3 : Nat) : Int)) ∧ w.cell? ⟨g, o + 6, none⟩ = some (.bool x.b)
theorem EdAt.getN {w : World} {a : Option Addr} {l : List En} (h : EdAt w a (l.map En.z)) (k : Nat) (hk : k < l.length) :
    ∃ g off, a = some ⟨g, off, none⟩ ∧ g < w.heap.size ∧ At7n w g (off + k * 7) l[k] := by
  obtain ⟨g, off, h1, h2, h3⟩ := h.get k (by simpa using hk)
  rw [List.getElem_map] at h3
  exact ⟨g, off, h1, h2, h3⟩
/-- What a set of states is told by. -/
def SetPost (w : World) (N : Nat) (P : Nat → Prop) (e : Ending) (w' : World) : Prop :=
  ∃ (f : Nat → Bool) (a : Option Addr) (c : Nat), e = .returned (.slice a N c) ∧ w'.ownsRow w.heap.size 4 1 (.slice a N c) N (bls f N) ∧ (∀ x, f x = true ↔ P x) ∧ Below w.heap.size w w'
def On (g : Nat → Bool) (m : Nat) (x : Nat) : Prop := x < m ∧ g x = true

set_option maxHeartbeats 1000000 in
theorem same_yes (n c1 c2 : Nat) (a1 a2 : Option Addr) (f g : Nat → Bool) (hn : n ≤ 1000000) (w : World) (h1 : BAt w a1 n f) (h2 : BAt w a2 n g) (hfg : ∀ j, j < n → f j = g j) :
    Calls Try.prog 22 #[.slice a1 n c1, .slice a2 n c2] w fun e w' => e = .returned (.bool true) ∧ Below w.heap.size w w' := by
  have H := Lib.hid (And.intro h1 (And.intro h2 hfg))
  clear h1 h2 hfg
  go_enter Try.func22, Try.ntmps22
  go_wp2_with fail
  go_loopw [5] (fun i wr => ∃ k : Nat, i = .int .i64 k ∧ k ≤ n ∧ Below w.heap.size w wr) (fun i _ => n - (intOf i).toNat)
  case atStart => exact ⟨0, rfl, Nat.zero_le _, Below.refl _ _⟩
  case round =>
    obtain ⟨k, rfl, hk, hbel⟩ := hrel
    by_cases hlt : k < n
    · obtain ⟨g1, o1, rfl, hg1, q1⟩ := H.out.1.below hbel (by omega)
      obtain ⟨g2, o2, rfl, hg2, q2⟩ := H.out.2.1.below hbel (by omega)
      have d1 := q1 k hlt
      have d2 := q2 k hlt
      rw [H.out.2.2 k hlt] at d1
      generalize g k = v at d1 d2
      have HH := Lib.hid hbel
      have i1 : (k : Int) < (n : Int) := by omega
      clear q1 q2 hbel
      go_wp2_with fail
      rcases v with _ | _
      all_goals
        go_quiet (fail)
        go_wp2_with fail
        go_roundw
        case rel => exact ⟨k + 1, by go_num, by omega, below_drewN HH.out _⟩
        case measure => simp [intOf]; omega
    · obtain rfl : k = n := by omega
      have HH := Lib.hid hbel
      clear hbel
      go_wp2_with fail
      go_ret
      exact ⟨rfl, HH.out⟩

/-- In a call of the reference's: the automaton in a block, the states in the next. -/
structure RfAt (w : World) (cs : Array Value) (N : Nat) (f : Nat → Bool) (wr : World) : Prop where
  s0 : St wr 24 w.heap.size cs
  own : wr.ownsRow (w.heap.size + 1) 4 1 (.slice (some ⟨w.heap.size + 1, 0, none⟩) N N) N (bls f N)
  below : Below w.heap.size w wr
theorem RfAt.start (w : World) (cs : Array Value) (N : Nat) (hN : N ≤ maxLen) : RfAt w cs N (fun _ => false) ((w.alloc (.cells cs 24)).alloc (.cells (madeCells #[.bool false] N) 4)) := by
  refine ⟨(St.new _ _ _).alloc _, ?_, ((Below.refl _ _).alloc (Nat.le_refl _) _).alloc (by simp) _⟩
  have := made_own (w.alloc (.cells cs 24)) (w.heap.size + 1) N 4 (.bool false) (by simp) hN
  rw [rep_bls] at this
  simpa using this
theorem RfAt.keep {w wr w1 : World} {cs : Array Value} {N : Nat} {f : Nat → Bool} (h : RfAt w cs N f wr) (b : Below wr.heap.size wr w1) : RfAt w cs N f w1 :=
  ⟨h.s0.keep b, ownsRow_keep h.own b, h.below.trans (b.mono h.below.size)⟩
theorem RfAt.put {w wr : World} {cs : Array Value} {N : Nat} {f : Nat → Bool} (h : RfAt w cs N f wr) (j : Nat) (hj : j < N) (v : Bool) : RfAt w cs N (fun i => if i = j then v else f i) (wr.setCell ⟨w.heap.size + 1, j, none⟩ (.bool v)) := by
  refine ⟨h.s0.far (p := ⟨w.heap.size + 1, j, none⟩) (by show w.heap.size ≠ w.heap.size + 1; omega) _, ?_, h.below.setCell (p := ⟨w.heap.size + 1, j, none⟩) (by show w.heap.size ≤ w.heap.size + 1; omega) _⟩
  rw [← bls_setv]
  exact own_put h.own j hj _
theorem RfAt.tru {w wr : World} {cs : Array Value} {N : Nat} {f : Nat → Bool} (h : RfAt w cs N f wr) (j : Nat) (hj : j < N) : RfAt w cs N (ins f j) (wr.setCell ⟨w.heap.size + 1, j, none⟩ (.bool true)) := by
  have := h.put j hj true
  rwa [ins_if] at this
theorem RfAt.cell {w wr : World} {cs : Array Value} {N : Nat} {f : Nat → Bool} (h : RfAt w cs N f wr) (j : Nat) (hj : j < N) : wr.cell? ⟨w.heap.size + 1, j, none⟩ = some (.bool (f j)) ∧ wr.frozen? ⟨w.heap.size + 1, j, none⟩ = false := by
  obtain ⟨g, e, _, _, hc⟩ := ownsRow_read h.own (by omega)
  injection e with e
  injection e with e
  subst e
  obtain ⟨h1, h2⟩ := hc j (by omega)
  exact ⟨by rw [h1]; simp [bls, hj], h2⟩
theorem RfAt.size {w wr : World} {cs : Array Value} {N : Nat} {f : Nat → Bool} (h : RfAt w cs N f wr) (hN : 0 < N) : w.heap.size + 1 < wr.heap.size := by
  obtain ⟨g, e, _, hg, hc⟩ := ownsRow_read h.own (by omega)
  injection e with e
  injection e with e
  omega
theorem mv_succ {L : List En} {A : Nat → Prop} {c k : Nat} (hk : k < L.length) (y : Nat) : Mv (L.take (k + 1)) A c y ↔ Mv (L.take k) A c y ∨ (L[k].b = false ∧ L[k].p c = true ∧ A L[k].f ∧ L[k].t = y) := by
  rw [List.take_succ_eq_append_getElem hk]
  constructor
  · rintro ⟨e, h1, h2⟩
    rcases List.mem_append.1 h1 with h | h
    · exact Or.inl ⟨e, h, h2⟩
    · rw [List.mem_singleton.1 h] at h2; exact Or.inr h2
  · rintro (⟨e, h1, h2⟩ | h)
    · exact ⟨e, List.mem_append_left _ h1, h2⟩
    · exact ⟨L[k], List.mem_append_right _ (List.mem_singleton.2 rfl), h⟩

set_option maxHeartbeats 2000000 in
set_option maxRecDepth 100000 in
theorem rmove_any (L : List En) (N F T : Nat) (hO : Ok L N F T) (hN : N ≤ 1000000) (a : Option Addr) (n c : Nat) (w : World) (hL : EdAt w a (L.map En.z)) (hn : L.length = n) (hmax : n ≤ 1000000) (ai : Option Addr) (m ci : Nat) (g : Nat → Bool) (hi : BAt w ai m g) (hm : m ≤ 1000000) (b : Nat) (hb : b < 256) :
    Calls Try.prog 37 #[.agg #[.int .i64 ((N : Nat) : Int), .slice a n c, .int .i64 ((F : Nat) : Int), .int .i64 ((T : Nat) : Int)], .slice ai m ci, .int .i64 ((b : Nat) : Int)] w (SetPost w N (Mv L (On g m) b)) := by
  have HL := Lib.hid (And.intro hL (And.intro hn (And.intro hO hi)))
  have hmk := make_bl N (by omega)
  have HR := Lib.hid (RfAt.start w #[.int .i64 ((N : Nat) : Int), .slice a n c, .int .i64 ((F : Nat) : Int), .int .i64 ((T : Nat) : Int)] N (by unfold maxLen; omega))
  have hNp : 0 < N := by have := hO.f; omega
  clear hL hn hO hi
  go_enter Try.func37, Try.ntmps37
  go_wp2_with fail
  generalize (w.alloc (.cells #[.int .i64 ((N : Nat) : Int), .slice a n c, .int .i64 ((F : Nat) : Int), .int .i64 ((T : Nat) : Int)] 24)).alloc (.cells (madeCells #[.bool false] N) 4) = W0 at HR ⊢
  go_loopw [8, 9] (fun i _ wr => ∃ (k : Nat) (f : Nat → Bool), i = .int .i64 k ∧ k ≤ n ∧ Hid (RfAt w #[.int .i64 ((N : Nat) : Int), .slice a n c, .int .i64 ((F : Nat) : Int), .int .i64 ((T : Nat) : Int)] N f wr) ∧ Hid (∀ x, f x = true ↔ Mv (L.take k) (On g m) b x)) (fun i _ _ => n - (intOf i).toNat)
  case atStart => exact ⟨0, _, rfl, Nat.zero_le _, HR, fun x => by simp [Mv]⟩
  case round =>
    obtain ⟨k, f, rfl, hk, HA, HF⟩ := hrel
    obtain ⟨r0, r1, r2, r3⟩ := HA.out.s0.cells4
    have hsz := HA.out.size hNp
    have hsz0 : w.heap.size < wr.heap.size := by omega
    by_cases hlt : k < n
    · have hkl : k < L.length := by rw [HL.out.2.1]; exact hlt
      obtain ⟨ge, off, rfl, hg, c0, c1, c2, c3, c4, c5, c6⟩ := (HL.out.1.below HA.out.below).getN k hkl
      have HS := Lib.hid (fun y => mv_succ (A := On g m) (c := b) hkl y)
      have hx := HL.out.2.2.1.e L[k] (List.getElem_mem _)
      generalize L[k] = x at c0 c1 c2 c3 c4 c5 c6 HS hx
      have hB1 : Below wr.heap.size wr (wr.alloc (.cells #[.int .i64 ((x.f : Nat) : Int), .int .i64 ((x.t : Nat) : Int), .int .u64 ((wd x.p 0 : Nat) : Int), .int .u64 ((wd x.p 1 : Nat) : Int), .int .u64 ((wd x.p 2 : Nat) : Int), .int .u64 ((wd x.p 3 : Nat) : Int), .bool x.b] 43)) := (Below.refl _ _).alloc (Nat.le_refl _) _
      have HA1 := Lib.hid (HA.out.keep hB1)
      have i1 : (x.t : Int) < (N : Int) := by omega
      obtain ⟨xf, xt, xp, xb⟩ := x
      dsimp only at c0 c1 c2 c3 c4 c5 c6 HS hx i1 HA1
      have skip : (¬ (xb = false ∧ xp b = true ∧ On g m xf)) → Hid (∀ y, f y = true ↔ Mv (L.take (k + 1)) (On g m) b y) := fun h y => by
        rw [HF.out, HS.out]
        exact ⟨Or.inl, fun h1 => h1.elim id (fun h2 => absurd ⟨h2.1, h2.2.1, h2.2.2.1⟩ h)⟩
      rcases xb with _ | _
      rotate_left
      · have HZ := skip (by simp)
        clear hB1 skip
        go_wp2_with fail
        go_roundw
        case rel => exact ⟨k + 1, f, by go_num, by omega, HA1, HZ⟩
        case measure => simp [intOf]; omega
      · by_cases hfm : xf < m
        · obtain ⟨gi, oi, rfl, hgi, qi⟩ := HL.out.2.2.2.below HA.out.below (by omega)
          have d := qi xf hfm
          rcases hv : g xf with _ | _
          · have HZ := skip (by unfold On; rw [hv]; simp)
            rw [hv] at d
            clear hB1 skip qi hv
            have i2 : (xf : Int) < (m : Int) := by omega
            go_wp2_with fail
            go_roundw
            case rel => exact ⟨k + 1, f, by go_num, by omega, HA1, HZ⟩
            case measure => simp [intOf]; omega
          · rw [hv] at d
            have HV := Lib.hid hv
            clear qi hv
            have i2 : (xf : Int) < (m : Int) := by omega
            have HC := Lib.hid (fun W => rhas_any xp b hb W)
            have HB1 := Lib.hid hB1
            clear hB1
            have HK := Lib.hid skip
            have HAd : Hid (xp b = true → ∀ y, ins f xt y = true ↔ Mv (L.take (k + 1)) (On g m) b y) := fun h y => by
              rw [HS.out]
              simp only [ins, Bool.or_eq_true, beq_iff_eq, HF.out y]
              exact ⟨fun h1 => h1.imp id (fun h2 => ⟨trivial, h, ⟨hfm, HV.out⟩, h2.symm⟩), fun h1 => h1.imp id (fun h2 => h2.2.2.2.symm)⟩
            clear skip
            go_wp2_with fail
            refine (HC.out _).mono ?_
            rintro e w2 ⟨rfl, v2⟩
            have HA2 := Lib.hid (HA1.out.keep v2)
            have hE := (St.new wr 43 #[.int .i64 ((xf : Nat) : Int), .int .i64 ((xt : Nat) : Int), .int .u64 ((wd xp 0 : Nat) : Int), .int .u64 ((wd xp 1 : Nat) : Int), .int .u64 ((wd xp 2 : Nat) : Int), .int .u64 ((wd xp 3 : Nat) : Int), .bool false]).keep v2
            have e1 : w2.cell? ⟨wr.heap.size, 1, none⟩ = some (.int .i64 ((xt : Nat) : Int)) := hE.at_ 1
            obtain ⟨y0, y1⟩ := HA2.out.cell xt hx.2
            have HA3 := Lib.hid (HA2.out.tru xt hx.2)
            clear v2 hE
            rcases hp : xp b with _ | _
            · have HZ := HK.out (by rw [hp]; simp)
              clear hp
              go_wp2_with fail
              go_roundw
              case rel => exact ⟨k + 1, f, by go_num, by omega, HA2, HZ⟩
              case measure => simp [intOf]; omega
            · have HZ := Lib.hid (HAd.out hp)
              clear hp
              go_wp2_with fail
              go_roundw
              case rel => exact ⟨k + 1, ins f xt, by go_num, by omega, HA3, HZ⟩
              case measure => simp [intOf]; omega
        · have HZ := skip (by unfold On; omega)
          have i2 : ¬ ((xf : Int) < (m : Int)) := by omega
          clear hB1 skip
          go_wp2_with fail
          go_roundw
          case rel => exact ⟨k + 1, f, by go_num, by omega, HA1, HZ⟩
          case measure => simp [intOf]; omega
    · obtain rfl : k = n := by omega
      have HZ : Hid (∀ x, f x = true ↔ Mv L (On g m) b x) := fun x => by
        rw [HF.out, List.take_of_length_le (by rw [HL.out.2.1]; exact Nat.le_refl _)]
      go_wp2_with fail
      go_ret
      exact ⟨f, _, _, rfl, ownsRow_base HA.out.own (by omega), HZ.out, HA.out.below⟩
end Go.Proofs.Ytlnndkilaklifaa
