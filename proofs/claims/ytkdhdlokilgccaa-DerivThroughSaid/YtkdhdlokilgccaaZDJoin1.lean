import Derived.Test.YtkdhdlokilgccaaZDJoin
namespace Go.Proofs.Ytkdhdlokilgccaa
open Go.RowKit Go.Maps Go.WideElems Go.ChangeMaps Go.MapKept
set_option linter.unusedVariables false

set_option maxHeartbeats 4000000 in
set_option maxRecDepth 100000 in
/-- .. of another piece. -/
theorem join_rep (x : Ex) (X Y : Fa) (kb g n c : Nat) (w : World) (hk : x.p.k = 4 ∨ x.p.k = 5 ∨ x.p.k = 6) (ha : x.a < n) (hb : x.b < n) (hc : n ≤ c ∧ c ≤ maxLen) (hkb : kb < w.heap.size) (hg : g < w.heap.size) (c0 : w.cell? ⟨kb, 2, none⟩ = some (.slice (some ⟨g, 0, none⟩) n c))
    (hX : ∀ j, j < 6 → w.cell? ⟨g, x.a * 6 + j, none⟩ = (faCells X)[j]?) (hY : ∀ j, j < 6 → w.cell? ⟨g, x.b * 6 + j, none⟩ = (faCells Y)[j]?) (hn1 : X.n ≤ 1000000) (hn2 : Y.n ≤ 1000000) :
    Calls Try.prog 79 #[.pointer (some ⟨kb, 0, none⟩), .agg #[.int .i64 x.p.k, .int .u64 ((wd x.p.p 0 : Nat) : Int), .int .u64 ((wd x.p.p 1 : Nat) : Int), .int .u64 ((wd x.p.p 2 : Nat) : Int), .int .u64 ((wd x.p.p 3 : Nat) : Int), .int .i64 ((x.a : Nat) : Int), .int .i64 ((x.b : Nat) : Int)]] w fun e w' => e = .returned (.agg #[.bool ((joinOf x X Y)).e, .int .u64 ((wd ((joinOf x X Y)).s 0 : Nat) : Int), .int .u64 ((wd ((joinOf x X Y)).s 1 : Nat) : Int), .int .u64 ((wd ((joinOf x X Y)).s 2 : Nat) : Int), .int .u64 ((wd ((joinOf x X Y)).s 3 : Nat) : Int), .int .i64 ((((joinOf x X Y)).n : Nat) : Int)]) ∧ Below w.heap.size w w' := by
  have hb1 : Below w.heap.size w ((w.alloc (.cells #[.int .i64 x.p.k, .int .u64 ((wd x.p.p 0 : Nat) : Int), .int .u64 ((wd x.p.p 1 : Nat) : Int), .int .u64 ((wd x.p.p 2 : Nat) : Int), .int .u64 ((wd x.p.p 3 : Nat) : Int), .int .i64 ((x.a : Nat) : Int), .int .i64 ((x.b : Nat) : Int)] 142)).alloc (.cells #[.bool false, .int .u64 0, .int .u64 0, .int .u64 0, .int .u64 0, .int .i64 0] 72)) := ((Below.refl _ _).alloc (Nat.le_refl _) _).alloc (by simp) _
  have hw := (St.new w 142 #[.int .i64 x.p.k, .int .u64 ((wd x.p.p 0 : Nat) : Int), .int .u64 ((wd x.p.p 1 : Nat) : Int), .int .u64 ((wd x.p.p 2 : Nat) : Int), .int .u64 ((wd x.p.p 3 : Nat) : Int), .int .i64 ((x.a : Nat) : Int), .int .i64 ((x.b : Nat) : Int)]).alloc (.cells #[.bool false, .int .u64 0, .int .u64 0, .int .u64 0, .int .u64 0, .int .i64 0] 72)
  have hR : St ((w.alloc (.cells #[.int .i64 x.p.k, .int .u64 ((wd x.p.p 0 : Nat) : Int), .int .u64 ((wd x.p.p 1 : Nat) : Int), .int .u64 ((wd x.p.p 2 : Nat) : Int), .int .u64 ((wd x.p.p 3 : Nat) : Int), .int .i64 ((x.a : Nat) : Int), .int .i64 ((x.b : Nat) : Int)] 142)).alloc (.cells #[.bool false, .int .u64 0, .int .u64 0, .int .u64 0, .int .u64 0, .int .i64 0] 72)) 72 (w.heap.size + 1) #[.bool false, .int .u64 0, .int .u64 0, .int .u64 0, .int .u64 0, .int .i64 0] := by
    have := St.new (w.alloc (.cells #[.int .i64 x.p.k, .int .u64 ((wd x.p.p 0 : Nat) : Int), .int .u64 ((wd x.p.p 1 : Nat) : Int), .int .u64 ((wd x.p.p 2 : Nat) : Int), .int .u64 ((wd x.p.p 3 : Nat) : Int), .int .i64 ((x.a : Nat) : Int), .int .i64 ((x.b : Nat) : Int)] 142)) 72 #[.bool false, .int .u64 0, .int .u64 0, .int .u64 0, .int .u64 0, .int .i64 0]
    simpa using this
  have HB : Hid (Below w.heap.size w ((w.alloc (.cells #[.int .i64 x.p.k, .int .u64 ((wd x.p.p 0 : Nat) : Int), .int .u64 ((wd x.p.p 1 : Nat) : Int), .int .u64 ((wd x.p.p 2 : Nat) : Int), .int .u64 ((wd x.p.p 3 : Nat) : Int), .int .i64 ((x.a : Nat) : Int), .int .i64 ((x.b : Nat) : Int)] 142)).alloc (.cells #[.bool false, .int .u64 0, .int .u64 0, .int .u64 0, .int .u64 0, .int .i64 0] 72))) := Lib.hid hb1
  have hsz : ((w.alloc (.cells #[.int .i64 x.p.k, .int .u64 ((wd x.p.p 0 : Nat) : Int), .int .u64 ((wd x.p.p 1 : Nat) : Int), .int .u64 ((wd x.p.p 2 : Nat) : Int), .int .u64 ((wd x.p.p 3 : Nat) : Int), .int .i64 ((x.a : Nat) : Int), .int .i64 ((x.b : Nat) : Int)] 142)).alloc (.cells #[.bool false, .int .u64 0, .int .u64 0, .int .u64 0, .int .u64 0, .int .i64 0] 72)).heap.size = w.heap.size + 2 := by simp
  have HX := Lib.hid hX
  have HY := Lib.hid hY
  have HC := Lib.hid hc
  have HK := Lib.hid hk
  have e0 : (x.p.k == 0) = false := by simp; omega
  have e1 : (x.p.k == 1) = false := by simp; omega
  obtain ⟨x0, x1, x2, x3, x4, x5, x6⟩ := row7 hw
  clear hX hY hc hb1 hk
  go_enter Try.func79, Try.ntmps79
  go_wp2_with fail
  generalize (w.alloc (.cells #[.int .i64 x.p.k, .int .u64 ((wd x.p.p 0 : Nat) : Int), .int .u64 ((wd x.p.p 1 : Nat) : Int), .int .u64 ((wd x.p.p 2 : Nat) : Int), .int .u64 ((wd x.p.p 3 : Nat) : Int), .int .i64 ((x.a : Nat) : Int), .int .i64 ((x.b : Nat) : Int)] 142)).alloc (.cells #[.bool false, .int .u64 0, .int .u64 0, .int .u64 0, .int .u64 0, .int .i64 0] 72) = W at HB hsz x0 x1 x2 x3 x4 x5 x6 hw hR ⊢
  have hcc := HC.out
  unfold maxLen at hcc
  have k0 := (HB.out.cell (p := ⟨kb, 2, none⟩) hkb).trans c0
  have yc := fun j hj => (HB.out.cell (p := ⟨g, x.a * 6 + j, none⟩) hg).trans (HX.out j hj)
  have zc := fun j hj => (HB.out.cell (p := ⟨g, x.b * 6 + j, none⟩) hg).trans (HY.out j hj)
  have y0 := yc 0 (by decide)
  have y1 := yc 1 (by decide)
  have y2 := yc 2 (by decide)
  have y3 := yc 3 (by decide)
  have y4 := yc 4 (by decide)
  have y5 := yc 5 (by decide)
  have z0 := zc 0 (by decide)
  have z1 := zc 1 (by decide)
  have z2 := zc 2 (by decide)
  have z3 := zc 3 (by decide)
  have z4 := zc 4 (by decide)
  have z5 := zc 5 (by decide)
  simp only [faCells, List.getElem?_cons_zero, List.getElem?_cons_succ, Nat.add_zero] at y0 y1 y2 y3 y4 y5 z0 z1 z2 z3 z4 z5
  have ia : (x.a : Int) < (n : Int) := by omega
  have ib : (x.b : Int) < (n : Int) := by omega
  clear yc zc
  go_region_held3 (fun W' => W'.cell? ⟨kb, 2, none⟩ = some (.slice (some ⟨g, 0, none⟩) n c) ∧ W'.cell? ⟨w.heap.size, 5, none⟩ = some (.int .i64 ((x.a : Nat) : Int)) ∧ W'.cell? ⟨w.heap.size, 6, none⟩ = some (.int .i64 ((x.b : Nat) : Int)) ∧ W'.cell? ⟨g, x.a * 6, none⟩ = some (.bool X.e) ∧ W'.cell? ⟨g, x.a * 6 + 1, none⟩ = some (.int .u64 ((wd X.s 0 : Nat) : Int)) ∧ W'.cell? ⟨g, x.a * 6 + 2, none⟩ = some (.int .u64 ((wd X.s 1 : Nat) : Int)) ∧ W'.cell? ⟨g, x.a * 6 + 3, none⟩ = some (.int .u64 ((wd X.s 2 : Nat) : Int)) ∧ W'.cell? ⟨g, x.a * 6 + 4, none⟩ = some (.int .u64 ((wd X.s 3 : Nat) : Int)) ∧ W'.cell? ⟨g, x.a * 6 + 5, none⟩ = some (.int .i64 ((X.n : Nat) : Int)) ∧ W'.cell? ⟨g, x.b * 6, none⟩ = some (.bool Y.e) ∧ W'.cell? ⟨g, x.b * 6 + 1, none⟩ = some (.int .u64 ((wd Y.s 0 : Nat) : Int)) ∧ W'.cell? ⟨g, x.b * 6 + 2, none⟩ = some (.int .u64 ((wd Y.s 1 : Nat) : Int)) ∧ W'.cell? ⟨g, x.b * 6 + 3, none⟩ = some (.int .u64 ((wd Y.s 2 : Nat) : Int)) ∧ W'.cell? ⟨g, x.b * 6 + 4, none⟩ = some (.int .u64 ((wd Y.s 3 : Nat) : Int)) ∧ W'.cell? ⟨g, x.b * 6 + 5, none⟩ = some (.int .i64 ((Y.n : Nat) : Int))) (first | exact ⟨k0, x5, x6, y0, y1, y2, y3, y4, y5, z0, z1, z2, z3, z4, z5⟩ | go_keep) (fail)
  all_goals
    first
    | (change Exit.then _ _ _ _ ((W.alloc (.cells #[.bool X.e, .int .u64 ((wd X.s 0 : Nat) : Int), .int .u64 ((wd X.s 1 : Nat) : Int), .int .u64 ((wd X.s 2 : Nat) : Int), .int .u64 ((wd X.s 3 : Nat) : Int), .int .i64 ((X.n : Nat) : Int)] 72)).alloc (.cells #[.bool Y.e, .int .u64 ((wd Y.s 0 : Nat) : Int), .int .u64 ((wd Y.s 1 : Nat) : Int), .int .u64 ((wd Y.s 2 : Nat) : Int), .int .u64 ((wd Y.s 3 : Nat) : Int), .int .i64 ((Y.n : Nat) : Int)] 72)).drew
       have hX5 : St ((W.alloc (.cells #[.bool X.e, .int .u64 ((wd X.s 0 : Nat) : Int), .int .u64 ((wd X.s 1 : Nat) : Int), .int .u64 ((wd X.s 2 : Nat) : Int), .int .u64 ((wd X.s 3 : Nat) : Int), .int .i64 ((X.n : Nat) : Int)] 72)).alloc (.cells #[.bool Y.e, .int .u64 ((wd Y.s 0 : Nat) : Int), .int .u64 ((wd Y.s 1 : Nat) : Int), .int .u64 ((wd Y.s 2 : Nat) : Int), .int .u64 ((wd Y.s 3 : Nat) : Int), .int .i64 ((Y.n : Nat) : Int)] 72)).drew 72 (w.heap.size + 2) #[.bool X.e, .int .u64 ((wd X.s 0 : Nat) : Int), .int .u64 ((wd X.s 1 : Nat) : Int), .int .u64 ((wd X.s 2 : Nat) : Int), .int .u64 ((wd X.s 3 : Nat) : Int), .int .i64 ((X.n : Nat) : Int)] := by
         have := (St.new W 72 #[.bool X.e, .int .u64 ((wd X.s 0 : Nat) : Int), .int .u64 ((wd X.s 1 : Nat) : Int), .int .u64 ((wd X.s 2 : Nat) : Int), .int .u64 ((wd X.s 3 : Nat) : Int), .int .i64 ((X.n : Nat) : Int)]).alloc (.cells #[.bool Y.e, .int .u64 ((wd Y.s 0 : Nat) : Int), .int .u64 ((wd Y.s 1 : Nat) : Int), .int .u64 ((wd Y.s 2 : Nat) : Int), .int .u64 ((wd Y.s 3 : Nat) : Int), .int .i64 ((Y.n : Nat) : Int)] 72)
         rw [hsz] at this
         exact this
       have hY5 : St ((W.alloc (.cells #[.bool X.e, .int .u64 ((wd X.s 0 : Nat) : Int), .int .u64 ((wd X.s 1 : Nat) : Int), .int .u64 ((wd X.s 2 : Nat) : Int), .int .u64 ((wd X.s 3 : Nat) : Int), .int .i64 ((X.n : Nat) : Int)] 72)).alloc (.cells #[.bool Y.e, .int .u64 ((wd Y.s 0 : Nat) : Int), .int .u64 ((wd Y.s 1 : Nat) : Int), .int .u64 ((wd Y.s 2 : Nat) : Int), .int .u64 ((wd Y.s 3 : Nat) : Int), .int .i64 ((Y.n : Nat) : Int)] 72)).drew 72 (w.heap.size + 2 + 1) #[.bool Y.e, .int .u64 ((wd Y.s 0 : Nat) : Int), .int .u64 ((wd Y.s 1 : Nat) : Int), .int .u64 ((wd Y.s 2 : Nat) : Int), .int .u64 ((wd Y.s 3 : Nat) : Int), .int .i64 ((Y.n : Nat) : Int)] := by
         have := St.new (W.alloc (.cells #[.bool X.e, .int .u64 ((wd X.s 0 : Nat) : Int), .int .u64 ((wd X.s 1 : Nat) : Int), .int .u64 ((wd X.s 2 : Nat) : Int), .int .u64 ((wd X.s 3 : Nat) : Int), .int .i64 ((X.n : Nat) : Int)] 72)) 72 #[.bool Y.e, .int .u64 ((wd Y.s 0 : Nat) : Int), .int .u64 ((wd Y.s 1 : Nat) : Int), .int .u64 ((wd Y.s 2 : Nat) : Int), .int .u64 ((wd Y.s 3 : Nat) : Int), .int .i64 ((Y.n : Nat) : Int)]
         rw [show (W.alloc (.cells #[.bool X.e, .int .u64 ((wd X.s 0 : Nat) : Int), .int .u64 ((wd X.s 1 : Nat) : Int), .int .u64 ((wd X.s 2 : Nat) : Int), .int .u64 ((wd X.s 3 : Nat) : Int), .int .i64 ((X.n : Nat) : Int)] 72)).heap.size = w.heap.size + 2 + 1 by rw [← hsz]; simp] at this
         exact this
       have hP5 : St ((W.alloc (.cells #[.bool X.e, .int .u64 ((wd X.s 0 : Nat) : Int), .int .u64 ((wd X.s 1 : Nat) : Int), .int .u64 ((wd X.s 2 : Nat) : Int), .int .u64 ((wd X.s 3 : Nat) : Int), .int .i64 ((X.n : Nat) : Int)] 72)).alloc (.cells #[.bool Y.e, .int .u64 ((wd Y.s 0 : Nat) : Int), .int .u64 ((wd Y.s 1 : Nat) : Int), .int .u64 ((wd Y.s 2 : Nat) : Int), .int .u64 ((wd Y.s 3 : Nat) : Int), .int .i64 ((Y.n : Nat) : Int)] 72)).drew 142 w.heap.size #[.int .i64 x.p.k, .int .u64 ((wd x.p.p 0 : Nat) : Int), .int .u64 ((wd x.p.p 1 : Nat) : Int), .int .u64 ((wd x.p.p 2 : Nat) : Int), .int .u64 ((wd x.p.p 3 : Nat) : Int), .int .i64 ((x.a : Nat) : Int), .int .i64 ((x.b : Nat) : Int)] := (hw.alloc _).alloc _
       have hR5 : St ((W.alloc (.cells #[.bool X.e, .int .u64 ((wd X.s 0 : Nat) : Int), .int .u64 ((wd X.s 1 : Nat) : Int), .int .u64 ((wd X.s 2 : Nat) : Int), .int .u64 ((wd X.s 3 : Nat) : Int), .int .i64 ((X.n : Nat) : Int)] 72)).alloc (.cells #[.bool Y.e, .int .u64 ((wd Y.s 0 : Nat) : Int), .int .u64 ((wd Y.s 1 : Nat) : Int), .int .u64 ((wd Y.s 2 : Nat) : Int), .int .u64 ((wd Y.s 3 : Nat) : Int), .int .i64 ((Y.n : Nat) : Int)] 72)).drew 72 (w.heap.size + 1) #[.bool false, .int .u64 0, .int .u64 0, .int .u64 0, .int .u64 0, .int .i64 0] := (hR.alloc _).alloc _
       have hB5 : Below w.heap.size w ((W.alloc (.cells #[.bool X.e, .int .u64 ((wd X.s 0 : Nat) : Int), .int .u64 ((wd X.s 1 : Nat) : Int), .int .u64 ((wd X.s 2 : Nat) : Int), .int .u64 ((wd X.s 3 : Nat) : Int), .int .i64 ((X.n : Nat) : Int)] 72)).alloc (.cells #[.bool Y.e, .int .u64 ((wd Y.s 0 : Nat) : Int), .int .u64 ((wd Y.s 1 : Nat) : Int), .int .u64 ((wd Y.s 2 : Nat) : Int), .int .u64 ((wd Y.s 3 : Nat) : Int), .int .i64 ((Y.n : Nat) : Int)] 72)).drew := ((HB.out.alloc (by omega) _).alloc (by simp; omega) _).drew
       clear x0 x1 x2 x3 x4 x5 x6 y0 y1 y2 y3 y4 y5 z0 z1 z2 z3 z4 z5 k0 hw hR HB
       generalize ((W.alloc (.cells #[.bool X.e, .int .u64 ((wd X.s 0 : Nat) : Int), .int .u64 ((wd X.s 1 : Nat) : Int), .int .u64 ((wd X.s 2 : Nat) : Int), .int .u64 ((wd X.s 3 : Nat) : Int), .int .i64 ((X.n : Nat) : Int)] 72)).alloc (.cells #[.bool Y.e, .int .u64 ((wd Y.s 0 : Nat) : Int), .int .u64 ((wd Y.s 1 : Nat) : Int), .int .u64 ((wd Y.s 2 : Nat) : Int), .int .u64 ((wd Y.s 3 : Nat) : Int), .int .i64 ((Y.n : Nat) : Int)] 72)).drew = W5 at hX5 hY5 hP5 hR5 hB5 ⊢)
    | (change Exit.then _ _ _ _ ((W.alloc (.cells #[.bool Y.e, .int .u64 ((wd Y.s 0 : Nat) : Int), .int .u64 ((wd Y.s 1 : Nat) : Int), .int .u64 ((wd Y.s 2 : Nat) : Int), .int .u64 ((wd Y.s 3 : Nat) : Int), .int .i64 ((Y.n : Nat) : Int)] 72)).alloc (.cells #[.bool X.e, .int .u64 ((wd X.s 0 : Nat) : Int), .int .u64 ((wd X.s 1 : Nat) : Int), .int .u64 ((wd X.s 2 : Nat) : Int), .int .u64 ((wd X.s 3 : Nat) : Int), .int .i64 ((X.n : Nat) : Int)] 72)).drew
       have hY5 : St ((W.alloc (.cells #[.bool Y.e, .int .u64 ((wd Y.s 0 : Nat) : Int), .int .u64 ((wd Y.s 1 : Nat) : Int), .int .u64 ((wd Y.s 2 : Nat) : Int), .int .u64 ((wd Y.s 3 : Nat) : Int), .int .i64 ((Y.n : Nat) : Int)] 72)).alloc (.cells #[.bool X.e, .int .u64 ((wd X.s 0 : Nat) : Int), .int .u64 ((wd X.s 1 : Nat) : Int), .int .u64 ((wd X.s 2 : Nat) : Int), .int .u64 ((wd X.s 3 : Nat) : Int), .int .i64 ((X.n : Nat) : Int)] 72)).drew 72 (w.heap.size + 2) #[.bool Y.e, .int .u64 ((wd Y.s 0 : Nat) : Int), .int .u64 ((wd Y.s 1 : Nat) : Int), .int .u64 ((wd Y.s 2 : Nat) : Int), .int .u64 ((wd Y.s 3 : Nat) : Int), .int .i64 ((Y.n : Nat) : Int)] := by
         have := (St.new W 72 #[.bool Y.e, .int .u64 ((wd Y.s 0 : Nat) : Int), .int .u64 ((wd Y.s 1 : Nat) : Int), .int .u64 ((wd Y.s 2 : Nat) : Int), .int .u64 ((wd Y.s 3 : Nat) : Int), .int .i64 ((Y.n : Nat) : Int)]).alloc (.cells #[.bool X.e, .int .u64 ((wd X.s 0 : Nat) : Int), .int .u64 ((wd X.s 1 : Nat) : Int), .int .u64 ((wd X.s 2 : Nat) : Int), .int .u64 ((wd X.s 3 : Nat) : Int), .int .i64 ((X.n : Nat) : Int)] 72)
         rw [hsz] at this
         exact this
       have hX5 : St ((W.alloc (.cells #[.bool Y.e, .int .u64 ((wd Y.s 0 : Nat) : Int), .int .u64 ((wd Y.s 1 : Nat) : Int), .int .u64 ((wd Y.s 2 : Nat) : Int), .int .u64 ((wd Y.s 3 : Nat) : Int), .int .i64 ((Y.n : Nat) : Int)] 72)).alloc (.cells #[.bool X.e, .int .u64 ((wd X.s 0 : Nat) : Int), .int .u64 ((wd X.s 1 : Nat) : Int), .int .u64 ((wd X.s 2 : Nat) : Int), .int .u64 ((wd X.s 3 : Nat) : Int), .int .i64 ((X.n : Nat) : Int)] 72)).drew 72 (w.heap.size + 2 + 1) #[.bool X.e, .int .u64 ((wd X.s 0 : Nat) : Int), .int .u64 ((wd X.s 1 : Nat) : Int), .int .u64 ((wd X.s 2 : Nat) : Int), .int .u64 ((wd X.s 3 : Nat) : Int), .int .i64 ((X.n : Nat) : Int)] := by
         have := St.new (W.alloc (.cells #[.bool Y.e, .int .u64 ((wd Y.s 0 : Nat) : Int), .int .u64 ((wd Y.s 1 : Nat) : Int), .int .u64 ((wd Y.s 2 : Nat) : Int), .int .u64 ((wd Y.s 3 : Nat) : Int), .int .i64 ((Y.n : Nat) : Int)] 72)) 72 #[.bool X.e, .int .u64 ((wd X.s 0 : Nat) : Int), .int .u64 ((wd X.s 1 : Nat) : Int), .int .u64 ((wd X.s 2 : Nat) : Int), .int .u64 ((wd X.s 3 : Nat) : Int), .int .i64 ((X.n : Nat) : Int)]
         rw [show (W.alloc (.cells #[.bool Y.e, .int .u64 ((wd Y.s 0 : Nat) : Int), .int .u64 ((wd Y.s 1 : Nat) : Int), .int .u64 ((wd Y.s 2 : Nat) : Int), .int .u64 ((wd Y.s 3 : Nat) : Int), .int .i64 ((Y.n : Nat) : Int)] 72)).heap.size = w.heap.size + 2 + 1 by rw [← hsz]; simp] at this
         exact this
       have hP5 : St ((W.alloc (.cells #[.bool Y.e, .int .u64 ((wd Y.s 0 : Nat) : Int), .int .u64 ((wd Y.s 1 : Nat) : Int), .int .u64 ((wd Y.s 2 : Nat) : Int), .int .u64 ((wd Y.s 3 : Nat) : Int), .int .i64 ((Y.n : Nat) : Int)] 72)).alloc (.cells #[.bool X.e, .int .u64 ((wd X.s 0 : Nat) : Int), .int .u64 ((wd X.s 1 : Nat) : Int), .int .u64 ((wd X.s 2 : Nat) : Int), .int .u64 ((wd X.s 3 : Nat) : Int), .int .i64 ((X.n : Nat) : Int)] 72)).drew 142 w.heap.size #[.int .i64 x.p.k, .int .u64 ((wd x.p.p 0 : Nat) : Int), .int .u64 ((wd x.p.p 1 : Nat) : Int), .int .u64 ((wd x.p.p 2 : Nat) : Int), .int .u64 ((wd x.p.p 3 : Nat) : Int), .int .i64 ((x.a : Nat) : Int), .int .i64 ((x.b : Nat) : Int)] := (hw.alloc _).alloc _
       have hR5 : St ((W.alloc (.cells #[.bool Y.e, .int .u64 ((wd Y.s 0 : Nat) : Int), .int .u64 ((wd Y.s 1 : Nat) : Int), .int .u64 ((wd Y.s 2 : Nat) : Int), .int .u64 ((wd Y.s 3 : Nat) : Int), .int .i64 ((Y.n : Nat) : Int)] 72)).alloc (.cells #[.bool X.e, .int .u64 ((wd X.s 0 : Nat) : Int), .int .u64 ((wd X.s 1 : Nat) : Int), .int .u64 ((wd X.s 2 : Nat) : Int), .int .u64 ((wd X.s 3 : Nat) : Int), .int .i64 ((X.n : Nat) : Int)] 72)).drew 72 (w.heap.size + 1) #[.bool false, .int .u64 0, .int .u64 0, .int .u64 0, .int .u64 0, .int .i64 0] := (hR.alloc _).alloc _
       have hB5 : Below w.heap.size w ((W.alloc (.cells #[.bool Y.e, .int .u64 ((wd Y.s 0 : Nat) : Int), .int .u64 ((wd Y.s 1 : Nat) : Int), .int .u64 ((wd Y.s 2 : Nat) : Int), .int .u64 ((wd Y.s 3 : Nat) : Int), .int .i64 ((Y.n : Nat) : Int)] 72)).alloc (.cells #[.bool X.e, .int .u64 ((wd X.s 0 : Nat) : Int), .int .u64 ((wd X.s 1 : Nat) : Int), .int .u64 ((wd X.s 2 : Nat) : Int), .int .u64 ((wd X.s 3 : Nat) : Int), .int .i64 ((X.n : Nat) : Int)] 72)).drew := ((HB.out.alloc (by omega) _).alloc (by simp; omega) _).drew
       clear x0 x1 x2 x3 x4 x5 x6 y0 y1 y2 y3 y4 y5 z0 z1 z2 z3 z4 z5 k0 hw hR HB
       generalize ((W.alloc (.cells #[.bool Y.e, .int .u64 ((wd Y.s 0 : Nat) : Int), .int .u64 ((wd Y.s 1 : Nat) : Int), .int .u64 ((wd Y.s 2 : Nat) : Int), .int .u64 ((wd Y.s 3 : Nat) : Int), .int .i64 ((Y.n : Nat) : Int)] 72)).alloc (.cells #[.bool X.e, .int .u64 ((wd X.s 0 : Nat) : Int), .int .u64 ((wd X.s 1 : Nat) : Int), .int .u64 ((wd X.s 2 : Nat) : Int), .int .u64 ((wd X.s 3 : Nat) : Int), .int .i64 ((X.n : Nat) : Int)] 72)).drew = W5 at hX5 hY5 hP5 hR5 hB5 ⊢)
    obtain ⟨p0, p1, p2, p3, p4, p5⟩ := row6 hX5
    obtain ⟨q0, q1, q2, q3, q4, q5⟩ := row6 hY5
    obtain ⟨x0, x1, x2, x3, x4, x5, x6⟩ := row7 hP5
    obtain ⟨r0, r1, r2, r3, r4, r5⟩ := row6 hR5
    have f0 := hR5.thaw 0
    have f1 := hR5.thaw 1
    have f2 := hR5.thaw 2
    have f3 := hR5.thaw 3
    have f4 := hR5.thaw 4
    have f5 := hR5.thaw 5
    have hk := HK.out
    have w1 : IntKind.i64.wrap ((X.n : Int) + (Y.n : Int)) = (X.n : Int) + (Y.n : Int) := IntWalk.i64_in _ (by omega)
    have w2 : IntKind.i64.wrap ((X.n : Int) + (Y.n : Int) + 1) = (X.n : Int) + (Y.n : Int) + 1 := IntWalk.i64_in _ (by omega)
    have w3 : IntKind.i64.wrap ((X.n : Int) + 1) = (X.n : Int) + 1 := IntWalk.i64_in _ (by omega)
    have k3 : (x.p.k == 3) = false := by simp; omega
    have k2 : (x.p.k == 2) = false := by simp; omega
    obtain ⟨f, hf⟩ : ∃ f : Bool, decide (x.p.k = 5) = f := ⟨_, rfl⟩
    have k5 : (x.p.k != 5) = !f := by rw [← hf]; by_cases h : x.p.k = 5 <;> simp [h]
    have hE : joinOf x X Y = ⟨X.e || !f, X.s, X.n + 1⟩ := by unfold joinOf; rw [if_neg (by omega), if_neg (by omega), if_neg (by omega), if_neg (by omega), hf]
    have HE := Lib.hid hE
    clear hk hE hf
    obtain ⟨Xe, hXe⟩ : ∃ b, X.e = b := ⟨_, rfl⟩
    rw [hXe] at p0 HE
    rcases Xe with _ | _
    · obtain ⟨v0, v1, v2, v3, v4, v5⟩ := row6 (hR5.set6 (.bool !f) (.int .u64 ((wd X.s 0 : Nat) : Int)) (.int .u64 ((wd X.s 1 : Nat) : Int)) (.int .u64 ((wd X.s 2 : Nat) : Int)) (.int .u64 ((wd X.s 3 : Nat) : Int)) (.int .i64 ((X.n : Int) + 1)))
      go_wp2_with fail
      exact bodyPost_ret (v := .agg #[.bool !f, .int .u64 ((wd X.s 0 : Nat) : Int), .int .u64 ((wd X.s 1 : Nat) : Int), .int .u64 ((wd X.s 2 : Nat) : Int), .int .u64 ((wd X.s 3 : Nat) : Int), .int .i64 ((X.n : Int) + 1)]) (by simp [results, Try.results79, go_sem, v0, v1, v2, v3, v4, v5]) rfl ⟨by rw [HE.out]; simp, below6 hB5 (by omega) _ _ _ _ _ _⟩
    · obtain ⟨v0, v1, v2, v3, v4, v5⟩ := row6 (hR5.set6 (.bool true) (.int .u64 ((wd X.s 0 : Nat) : Int)) (.int .u64 ((wd X.s 1 : Nat) : Int)) (.int .u64 ((wd X.s 2 : Nat) : Int)) (.int .u64 ((wd X.s 3 : Nat) : Int)) (.int .i64 ((X.n : Int) + 1)))
      go_wp2_with fail
      exact bodyPost_ret (v := .agg #[.bool true, .int .u64 ((wd X.s 0 : Nat) : Int), .int .u64 ((wd X.s 1 : Nat) : Int), .int .u64 ((wd X.s 2 : Nat) : Int), .int .u64 ((wd X.s 3 : Nat) : Int), .int .i64 ((X.n : Int) + 1)]) (by simp [results, Try.results79, go_sem, v0, v1, v2, v3, v4, v5]) rfl ⟨by rw [HE.out]; simp, below6 hB5 (by omega) _ _ _ _ _ _⟩

end Go.Proofs.Ytkdhdlokilgccaa
