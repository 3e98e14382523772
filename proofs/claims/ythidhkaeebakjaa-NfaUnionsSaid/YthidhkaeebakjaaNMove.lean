import Derived.Test.YthidhkaeebakjaaNRef
namespace Go.Proofs.Ythidhkaeebakjaa
open Go.RowKit
set_option linter.unusedVariables false

/-- In a call of the program's: the automaton in a block, the states that are told in another one. -/
structure CrAt (w : World) (gO : Nat) (cs : Array Value) (N : Nat) (f : Nat → Bool) (wr : World) : Prop where
  s0 : St wr 24 w.heap.size cs
  own : wr.ownsRow w.heap.size 4 1 (.slice (some ⟨gO, 0, none⟩) N N) N (bls f N)
  below : Below w.heap.size w wr
  lo : w.heap.size ≤ gO
theorem CrAt.made {w W : World} {cs : Array Value} {N : Nat} (hS : St W 24 w.heap.size cs) (hB : Below w.heap.size w W) (hN : N ≤ maxLen) : CrAt w W.heap.size cs N (fun _ => false) (W.alloc (.cells (madeCells #[.bool false] N) 4)) := by
  refine ⟨hS.alloc _, ?_, hB.alloc hB.size _, hB.size⟩
  have := made_own W w.heap.size N 4 (.bool false) hB.size hN
  rwa [rep_bls] at this
theorem CrAt.keep {w wr w1 : World} {gO : Nat} {cs : Array Value} {N : Nat} {f : Nat → Bool} (h : CrAt w gO cs N f wr) (b : Below wr.heap.size wr w1) : CrAt w gO cs N f w1 :=
  ⟨h.s0.keep b, ownsRow_keep h.own b, h.below.trans (b.mono h.below.size), h.lo⟩
theorem CrAt.tru {w wr : World} {gO : Nat} {cs : Array Value} {N : Nat} {f : Nat → Bool} (h : CrAt w gO cs N f wr) (j : Nat) (hj : j < N) : CrAt w gO cs N (ins f j) (wr.setCell ⟨gO, j, none⟩ (.bool true)) := by
  refine ⟨h.s0.far (p := ⟨gO, j, none⟩) (fun e => own_ne h.own h.s0 (by decide) gO rfl e.symm) _, ?_, h.below.setCell (p := ⟨gO, j, none⟩) h.lo _, h.lo⟩
  rw [← ins_if, ← bls_setv]
  exact own_put h.own j hj _
theorem CrAt.cell {w wr : World} {gO : Nat} {cs : Array Value} {N : Nat} {f : Nat → Bool} (h : CrAt w gO cs N f wr) (j : Nat) (hj : j < N) : wr.cell? ⟨gO, j, none⟩ = some (.bool (f j)) ∧ wr.frozen? ⟨gO, j, none⟩ = false := by
  obtain ⟨g, e, _, _, hc⟩ := ownsRow_read h.own (by omega)
  injection e with e
  injection e with e
  subst e
  obtain ⟨h1, h2⟩ := hc j (by omega)
  exact ⟨by rw [h1]; simp [bls, hj], h2⟩
theorem CrAt.size {w wr : World} {gO : Nat} {cs : Array Value} {N : Nat} {f : Nat → Bool} (h : CrAt w gO cs N f wr) (hN : 0 < N) : gO < wr.heap.size := by
  obtain ⟨g, e, _, hg, hc⟩ := ownsRow_read h.own (by omega)
  injection e with e
  injection e with e
  omega

set_option maxHeartbeats 2000000 in
set_option maxRecDepth 100000 in
theorem move_any (L : List En) (N F T : Nat) (hO : Ok L N F T) (hR : riB (N : Int) (L.map En.z) (F : Int) (T : Int) = true) (hN : N ≤ 60) (a : Option Addr) (n c : Nat) (w : World) (hL : EdAt w a (L.map En.z)) (hn : L.length = n) (hmax : n ≤ 1000000) (ai : Option Addr) (m ci : Nat) (g : Nat → Bool) (hi : BAt w ai m g) (hm : m ≤ 1000000) (b : Nat) (hb : b < 256) :
    Calls Try.prog 16 #[.agg #[.int .i64 ((N : Nat) : Int), .slice a n c, .int .i64 ((F : Nat) : Int), .int .i64 ((T : Nat) : Int)], .slice ai m ci, .int .u8 ((b : Nat) : Int)] w (SetPost w N (Mv L (On g m) b)) := by
  have hB0 : Below w.heap.size w (w.alloc (.cells #[.int .i64 ((N : Nat) : Int), .slice a n c, .int .i64 ((F : Nat) : Int), .int .i64 ((T : Nat) : Int)] 24)) := (Below.refl _ _).alloc (Nat.le_refl _) _
  have HLi := Lib.hid (listable_any N F T a n c (L.map En.z) _ (hL.below hB0) (by simpa using hn) (by unfold maxLen; omega) hR (by omega))
  have HB := Lib.hid (And.intro hB0 (nfa_new w N F T a n c))
  have HL := Lib.hid (And.intro hL (And.intro hn (And.intro hO hi)))
  have hmk := make_bl N (by omega)
  have hNp : 0 < N := by have := hO.f; omega
  clear hL hn hO hi hB0 hR
  go_enter Try.func16, Try.ntmps16
  go_wp2_with fail
  refine HLi.out.mono ?_
  rintro e w2 ⟨rfl, v2⟩
  have hS2 := HB.out.2.keep v2
  have HR := Lib.hid (CrAt.made (N := N) hS2 (HB.out.1.trans (v2.mono HB.out.1.size)) (by unfold maxLen; omega))
  obtain ⟨r0, r1, r2, r3⟩ := hS2.cells4
  have hz2 : w.heap.size < w2.heap.size := hS2.lt
  clear v2 hS2
  go_wp2_with fail
  generalize w2.heap.size = gO at HR hz2 ⊢
  generalize w2.alloc (.cells (madeCells #[.bool false] N) 4) = W0 at HR ⊢
  clear r0 r1 r2 r3
  go_loopw [9, 19] (fun _ i wr => ∃ (k : Nat) (f : Nat → Bool), i = .int .i64 k ∧ k ≤ n ∧ Hid (CrAt w gO #[.int .i64 ((N : Nat) : Int), .slice a n c, .int .i64 ((F : Nat) : Int), .int .i64 ((T : Nat) : Int)] N f wr) ∧ Hid (∀ x, f x = true ↔ Mv (L.take k) (On g m) b x)) (fun _ i _ => n - (intOf i).toNat)
  case atStart => exact ⟨0, _, rfl, Nat.zero_le _, HR, fun x => by simp [Mv]⟩
  case round =>
    obtain ⟨k, f, rfl, hk, HA, HF⟩ := hrel
    have hsz := HA.out.size hNp
    by_cases hlt : k < n
    · have hkl : k < L.length := by rw [HL.out.2.1]; exact hlt
      obtain ⟨ge, off, rfl, hg, c0, c1, c2, c3, c4, c5, c6⟩ := (HL.out.1.below HA.out.below).getN k hkl
      have HS := Lib.hid (fun y => mv_succ (A := On g m) (c := b) hkl y)
      have hx := HL.out.2.2.1.e L[k] (List.getElem_mem _)
      generalize L[k] = x at c0 c1 c2 c3 c4 c5 c6 HS hx
      have hB1 : Below wr.heap.size wr (wr.alloc (.cells #[.int .i64 ((x.f : Nat) : Int), .int .i64 ((x.t : Nat) : Int), .int .u64 ((wd x.p 0 : Nat) : Int), .int .u64 ((wd x.p 1 : Nat) : Int), .int .u64 ((wd x.p 2 : Nat) : Int), .int .u64 ((wd x.p 3 : Nat) : Int), .bool x.b] 35)) := (Below.refl _ _).alloc (Nat.le_refl _) _
      have HA1 := Lib.hid (HA.out.keep hB1)
      have i1 : (x.t : Int) < (N : Int) := by omega
      obtain ⟨xf, xt, xp, xb⟩ := x
      dsimp only at c0 c1 c2 c3 c4 c5 c6 HS hx i1 HA1
      have skip : (¬ (xb = false ∧ xp b = true ∧ On g m xf)) → Hid (∀ y, f y = true ↔ Mv (L.take (k + 1)) (On g m) b y) := fun h y => by
        rw [HF.out, HS.out]
        exact ⟨Or.inl, fun h1 => h1.elim id (fun h2 => absurd ⟨h2.1, h2.2.1, h2.2.2.1⟩ h)⟩
      by_cases hfm : xf < m
      · obtain ⟨gi, oi, rfl, hgi, qi⟩ := HL.out.2.2.2.below HA.out.below (by omega)
        have d := qi xf hfm
        have i2 : (xf : Int) < (m : Int) := by omega
        rcases hv : g xf with _ | _
        · have HZ := skip (by unfold On; rw [hv]; simp)
          rw [hv] at d
          clear hB1 skip qi hv
          go_wp2_with fail
          go_roundw
          case rel => exact ⟨k + 1, f, by go_num, by omega, HA1, HZ⟩
          case measure => simp [intOf]; omega
        · rw [hv] at d
          have HV := Lib.hid hv
          clear qi hv
          rcases xb with _ | _
          rotate_left
          · have HZ := skip (by simp)
            clear hB1 skip
            go_wp2_with fail
            go_roundw
            case rel => exact ⟨k + 1, f, by go_num, by omega, HA1, HZ⟩
            case measure => simp [intOf]; omega
          · have HC := Lib.hid (fun W => has_any xp b hb W)
            have HK := Lib.hid skip
            have HAd : Hid (xp b = true → ∀ y, ins f xt y = true ↔ Mv (L.take (k + 1)) (On g m) b y) := fun h y => by
              rw [HS.out]
              simp only [ins, Bool.or_eq_true, beq_iff_eq, HF.out y]
              exact ⟨fun h1 => h1.imp id (fun h2 => ⟨trivial, h, ⟨hfm, HV.out⟩, h2.symm⟩), fun h1 => h1.imp id (fun h2 => h2.2.2.2.symm)⟩
            clear skip hB1
            go_wp2_with fail
            refine (HC.out _).mono ?_
            rintro e w3 ⟨rfl, v3⟩
            have HA2 := Lib.hid (HA1.out.keep v3)
            have hE := (St.new wr 35 #[.int .i64 ((xf : Nat) : Int), .int .i64 ((xt : Nat) : Int), .int .u64 ((wd xp 0 : Nat) : Int), .int .u64 ((wd xp 1 : Nat) : Int), .int .u64 ((wd xp 2 : Nat) : Int), .int .u64 ((wd xp 3 : Nat) : Int), .bool false]).keep v3
            have e1 : w3.cell? ⟨wr.heap.size, 1, none⟩ = some (.int .i64 ((xt : Nat) : Int)) := hE.at_ 1
            obtain ⟨y0, y1⟩ := HA2.out.cell xt hx.2
            have HA3 := Lib.hid (HA2.out.tru xt hx.2)
            clear v3 hE
            rcases hp : xp b with _ | _
            · have HZ := HK.out (by rw [hp]; simp)
              clear hp
              go_wp2_with fail
              go_roundw
              case rel => exact ⟨k + 1, f, by go_num, by omega, HA2, HZ⟩
              case measure => simp [intOf]; omega
            · have HZ := Lib.hid (HAd.out hp)
              clear hp
              go_wp2_with fail
              go_roundw
              case rel => exact ⟨k + 1, ins f xt, by go_num, by omega, HA3, HZ⟩
              case measure => simp [intOf]; omega
      · have HZ := skip (by unfold On; omega)
        have i2 : ¬ ((xf : Int) < (m : Int)) := by omega
        clear hB1 skip
        go_wp2_with fail
        go_roundw
        case rel => exact ⟨k + 1, f, by go_num, by omega, HA1, HZ⟩
        case measure => simp [intOf]; omega
    · obtain rfl : k = n := by omega
      have HZ : Hid (∀ x, f x = true ↔ Mv L (On g m) b x) := fun x => by
        rw [HF.out, List.take_of_length_le (by rw [HL.out.2.1]; exact Nat.le_refl _)]
      go_wp2_with fail
      go_ret
      exact ⟨f, _, _, rfl, HA.out.own, HZ.out, HA.out.below⟩
end Go.Proofs.Ythidhkaeebakjaa
