import Derived.Test.YtkdhdlokilgccaaZDNumT
import Derived.Test.YtkdhdlokilgccaaZDPile
import Derived.Deep.RegionLaw
import Derived.Deep.AppendLies
import Derived.IntWalk
import Derived.BigRegion
import Derived.Deep.RegionHeld
namespace Go.Proofs.Ytkdhdlokilgccaa
open Go.RowKit
set_option linter.unusedVariables false

theorem zeroCells_one (z : Value) (n : Nat) : Builtin.zeroCells #[z] n = (List.replicate n z).toArray := by
  apply Array.ext'
  simp only [Builtin.zeroCells, List.size_toArray, List.length_cons, List.length_nil, Nat.zero_add, Nat.mul_one, Nat.mod_one, Array.toList_map, Array.toList_range]
  rw [List.map_const']
  simp
/-- 'append(s, make([]T, m)...)', for elements of one cell. -/
theorem run_append_zeros {P : Program} (w : World) (base : Nat) (t u ty e : TypeId) (k : IntKind) (i : TypeInfo) (z : Value) (bytes : Nat) (ht : P.underlying t = some (.slice e)) (hu : P.underlying u = some (.int k)) (hi : P.info? e = some i) (hz : i.zero = some z)
    (hsize : i.size = 1) (hby : i.bytes = bytes) (hzs : z.cells = #[z]) (hone : z.oneCell' = true)
    (v : Value) (n : Nat) (xs : List Value) (hown : w.ownsRow base e 1 v n xs) (m : Nat) (hm : 0 < m) (h63 : n + m ≤ maxLen) (hbytes : (n + m) * bytes ≤ 140737488355328) (hmb : m * bytes ≤ 281474976710656) (hbase : base ≤ w.heap.size) :
    ∃ g cap w', (Builtin.append_ #[t, u] ty #[v, .int .i64 ((m : Nat) : Int)]).run P w = .ok (.slice (some ⟨g, 0, none⟩) (n + m) cap) w' ∧
      w'.ownsRow base e 1 (.slice (some ⟨g, 0, none⟩) (n + m) cap) (n + m) (xs ++ List.replicate m z) ∧ w.grownBy w' v.ownBlock ∧ (v.ownBlock = some g ∨ g = w.heap.size) ∧ g < w'.heap.size := by
  subst hby
  have hsmall : n + m ≤ 9223372036854775807 := by simp only [maxLen] at h63; omega
  have hlen : (xs ++ List.replicate m z).length = (n + m) * 1 := by rw [List.length_append, hown.1, List.length_replicate]; omega
  have hwr : IntKind.i64.wrap ((m : Nat) : Int) = ((m : Nat) : Int) := IntWalk.i64_in _ (by omega)
  have hlt : ¬ ((m : Nat) : Int) < 0 := by omega
  have hcut : ¬ (281474976710656 < ((m : Nat) : Int) * ((i.bytes : Nat) : Int)) := by
    have : ((m * i.bytes : Nat) : Int) ≤ 281474976710656 := by omega
    rw [Int.natCast_mul] at this
    omega
  have hm0 : m ≠ 0 := by omega
  have hm1 : ¬ (((m : Nat) : Int) ≤ 0) := by omega
  have has : ∀ W : World, (asInt (.int .i64 ((m : Nat) : Int))).run P W = .ok ((m : Nat) : Int) W := fun _ => rfl
  have grown : ∀ (old : Nat), old < n + m → ∀ (row : Option Nat),
      (w.drew.alloc (.cells (xs.toArray ++ (List.replicate m z).toArray ++ Builtin.zeroCells #[z] (grownCap w (n + m) old e - (n + m))) e)).ownsRow base e 1
        (.slice (some ⟨w.heap.size, 0, none⟩) (n + m) (grownCap w (n + m) old e)) (n + m) (xs ++ List.replicate m z) ∧
      w.grownBy (w.drew.alloc (.cells (xs.toArray ++ (List.replicate m z).toArray ++ Builtin.zeroCells #[z] (grownCap w (n + m) old e - (n + m))) e)) row := by
    intro old ho row
    have hge := grownCap_ge w (n + m) old e
    have hcm : grownCap w (n + m) old e ≤ maxLen := grownCap_le_maxLen w (n + m) old e h63
    refine ⟨⟨hlen, .inr ⟨w.heap.size, _, _, rfl, hbase, heap_alloc_new w.drew _, hge, hcm, ?_, ?_⟩⟩, ⟨rfl, rfl, rfl, by simp, fun k hk _ => Go.heap_alloc_old w.drew _ hk⟩⟩
    · simp only [Array.size_append, List.size_toArray, size_zeroCells, hown.1, List.length_replicate]
      simp
      omega
    · simp only [Array.toList_append, List.append_assoc]
      rw [← List.append_assoc, ← hlen]
      exact List.take_left
  rcases hown.2 with ⟨rfl, rfl⟩ | ⟨g, cap, cur, rfl, hbg, hg, hnc, hcm, hcs, htake⟩
  · have hx : xs = [] := List.eq_nil_of_length_eq_zero (by simpa using hown.1)
    subst hx
    have hgr := grown 0 (by omega) (Value.ownBlock (.slice none 0 0))
    refine ⟨w.heap.size, grownCap w (0 + m) 0 e, _, ?_, hgr.1, hgr.2, Or.inr rfl, by simp⟩
    have h63' : ¬ (9223372036854775807 < ((m : Nat) : Int)) := by omega
    have h48' : ¬ (281474976710656 < Builtin.nextslicecap m 0 * i.bytes) := by rw [nextslicecap_zero hm]; omega
    simp [Builtin.append_, run_underlying ht, run_underlying hu, sizeOf, typeInfo, zeroValue, hi, hz, hsize, hzs, has, hwr, hlt, hcut, hm0, h63', h48', Question.forced, run_firstCells_none, newRow, grownCap, zeroCells_one]
  · by_cases hroom : n + m ≤ cap
    · have hfit : n * 1 + 0 + (List.replicate m z).length ≤ cur.size := by simp [hcs]; omega
      have hst := run_storeCells_at P g (n * 1) e (List.replicate m z) 0 cur w hg hfit (fun v hv => by rw [List.eq_of_mem_replicate hv]; exact hone)
      simp only [Nat.add_zero] at hst
      refine ⟨g, cap, w.setRow g (List.take (n * 1) cur.toList ++ List.replicate m z ++ List.drop (n * 1 + (List.replicate m z).length) cur.toList).toArray, ?_, ⟨hlen, .inr ⟨g, cap, _, rfl, hbg, setRow_heap w g cur _ e _ hg, hroom, hcm, ?_, ?_⟩⟩, ⟨rfl, rfl, rfl, by simp, fun k _ hk => setRow_other w g k _ (fun e => hk (by simp [Value.ownBlock, e]))⟩, Or.inl rfl, ?_⟩
      · simp [Builtin.append_, run_underlying ht, run_underlying hu, sizeOf, typeInfo, zeroValue, hi, hz, hsize, hzs, has, hwr, hlt, hcut, hm0, hroom, Addr.add_lit, zeroCells_one]
        simp only [Nat.mul_one] at hst
        rw [hst]
        simp [Result.andThen]
      · simp only [List.size_toArray, List.length_append, List.length_take, List.length_drop, Array.length_toList]
        simp at hfit ⊢
        omega
      · rw [htake, ← hlen]
        exact List.take_left
      · have := (Array.getElem?_eq_some_iff.1 hg).1
        simp [World.setRow]
        omega
    · have holds : ∀ j u, xs[j]? = some u → w.cell? ((⟨g, 0, none⟩ : Addr).add j) = some u := hown.cells (g := g) rfl
      have hgr := grown cap (by omega) (Value.ownBlock (.slice (some ⟨g, 0, none⟩) n cap))
      refine ⟨w.heap.size, grownCap w (n + m) cap e, _, ?_, hgr.1, hgr.2, Or.inr rfl, by simp⟩
      have hn : ¬ (n + m ≤ cap) := by omega
      have h63' : ¬ (9223372036854775807 < ((n : Int) + (m : Int))) := by omega
      have h48' : ¬ (281474976710656 < Builtin.nextslicecap (n + m) cap * i.bytes) := by have := growslice_fits (need := n + m) (old := cap) (by omega) hbytes; omega
      have hfo := run_firstCells_some (P := P) w.drew 1 n ⟨g, 0, none⟩ n cap xs hown.1 (by simpa using holds)
      simp [Builtin.append_, run_underlying ht, run_underlying hu, sizeOf, typeInfo, zeroValue, hi, hz, hsize, hzs, has, hwr, hlt, hcut, hm0, hn, h63', h48', Question.forced, hfo, newRow, grownCap, zeroCells_one]
/-- .. as one step of a region that draws. -/
theorem step_append_zeros {P : Program} (w : World) {ops : Array Oper} {o : Oper} {a : Act} {K : Act → World → Prop} {Q : Exit → Act → World → Prop} {E : Prop} (hgd : o.guard = none) (s x : Operand) (t u : TypeId)
    (ho : o.op = .call { callee := .builtin .append, args := #[s, x], argTypes := #[t, u] })
    (base : Nat) (e : TypeId) (k : IntKind) (i : TypeInfo) (z : Value) (bytes : Nat) (ht : P.underlying t = some (.slice e)) (hu : P.underlying u = some (.int k)) (hi : P.info? e = some i) (hz : i.zero = some z)
    (hsize : i.size = 1) (hby : i.bytes = bytes) (hzs : z.cells = #[z]) (hone : z.oneCell' = true)
    (v : Value) (n : Nat) (xs : List Value) (hs : a.eval s = v) (hown : w.ownsRow base e 1 v n xs) (m : Nat) (hx : a.eval x = .int .i64 ((m : Nat) : Int)) (hm : 0 < m) (h63 : n + m ≤ maxLen) (hbytes : (n + m) * bytes ≤ 140737488355328) (hmb : m * bytes ≤ 281474976710656) (hbase : base ≤ w.heap.size)
    (h : ∀ g cap w', w'.ownsRow base e 1 (.slice (some ⟨g, 0, none⟩) (n + m) cap) (n + m) (xs ++ List.replicate m z) → w.grownBy w' v.ownBlock → (v.ownBlock = some g ∨ g = w.heap.size) → g < w'.heap.size → K (a.put o.dst (.slice (some ⟨g, 0, none⟩) (n + m) cap)) w') :
    if Region.wanted o (yielded ops a.tmps) = true then Oper.wp P o a w K Q else E := by
  have hw : Region.wanted o (yielded ops a.tmps) = true := by simp [Region.wanted, hgd]
  rw [if_pos hw]
  obtain ⟨g, cap, w', hr, h2, h3, h4, h5⟩ := run_append_zeros w base t u o.type e k i z bytes ht hu hi hz hsize hby hzs hone v n xs hown m hm h63 hbytes hmb hbase
  unfold Oper.wp execOp
  simp only [ho, resolve, invoke, builtin, Sem.run_bind, Sem.run_pure, Result.andThen_ok, List.map_toArray, List.map_cons, List.map_nil, hs, hx, hr]
  exact h g cap w' h2 h3 h4 h5
end Go.Proofs.Ytkdhdlokilgccaa

namespace Go.Proofs.Ytkdhdlokilgccaa
open Go.RowKit Go.Maps Go.WideElems Go.ChangeMaps Go.MapKept
set_option linter.unusedVariables false

/-- Nothing in it. -/
def emp : Nat → Bool := fun _ => false
theorem wd_emp (j : Nat) : wd emp j = 0 := wd_none j
/-- The Star of what a repetition repeats. -/
def starX (x : Ex) : Ex := ⟨⟨4, emp⟩, x.a, x.b⟩
theorem starX_val (x : Ex) : (Value.agg #[.int .i64 ((starX x)).p.k, .int .u64 ((wd ((starX x)).p.p 0 : Nat) : Int), .int .u64 ((wd ((starX x)).p.p 1 : Nat) : Int), .int .u64 ((wd ((starX x)).p.p 2 : Nat) : Int), .int .u64 ((wd ((starX x)).p.p 3 : Nat) : Int), .int .i64 ((((starX x)).a : Nat) : Int), .int .i64 ((((starX x)).b : Nat) : Int)]) = .agg #[.int .i64 4, .int .u64 0, .int .u64 0, .int .u64 0, .int .u64 0, .int .i64 ((x.a : Nat) : Int), .int .i64 ((x.b : Nat) : Int)] := by
  simp only [starX, wd_emp]
  rfl
set_option maxHeartbeats 1000000 in
set_option maxRecDepth 100000 in
theorem star_any (x : Ex) (w : World) :
    Calls Try.prog 80 #[.agg #[.int .i64 x.p.k, .int .u64 ((wd x.p.p 0 : Nat) : Int), .int .u64 ((wd x.p.p 1 : Nat) : Int), .int .u64 ((wd x.p.p 2 : Nat) : Int), .int .u64 ((wd x.p.p 3 : Nat) : Int), .int .i64 ((x.a : Nat) : Int), .int .i64 ((x.b : Nat) : Int)]] w fun e w' => e = .returned (.agg #[.int .i64 ((starX x)).p.k, .int .u64 ((wd ((starX x)).p.p 0 : Nat) : Int), .int .u64 ((wd ((starX x)).p.p 1 : Nat) : Int), .int .u64 ((wd ((starX x)).p.p 2 : Nat) : Int), .int .u64 ((wd ((starX x)).p.p 3 : Nat) : Int), .int .i64 ((((starX x)).a : Nat) : Int), .int .i64 ((((starX x)).b : Nat) : Int)]) ∧ Below w.heap.size w w' := by
  rw [starX_val]
  have hw := (St.new w 142 #[.int .i64 x.p.k, .int .u64 ((wd x.p.p 0 : Nat) : Int), .int .u64 ((wd x.p.p 1 : Nat) : Int), .int .u64 ((wd x.p.p 2 : Nat) : Int), .int .u64 ((wd x.p.p 3 : Nat) : Int), .int .i64 ((x.a : Nat) : Int), .int .i64 ((x.b : Nat) : Int)]).alloc (.cells #[.int .i64 0, .int .u64 0, .int .u64 0, .int .u64 0, .int .u64 0, .int .i64 0, .int .i64 0] 142)
  obtain ⟨x0, x1, x2, x3, x4, x5, x6⟩ := row7 hw
  go_enter Try.func80, Try.ntmps80
  go_wp2_with fail
  exact bodyPost_ret (v := .agg #[.int .i64 4, .int .u64 0, .int .u64 0, .int .u64 0, .int .u64 0, .int .i64 ((x.a : Nat) : Int), .int .i64 ((x.b : Nat) : Int)]) (by simp [results, Try.results80, go_sem]) rfl ⟨rfl, ((Below.refl _ _).alloc (Nat.le_refl _) _).alloc (by simp) _⟩
/-- What simpler gives. -/
def simpX (E : List Ex) (x : Ex) : Ex :=
  if takesZ x.p.k ≠ 1 then x else match E[x.a]? with
    | none => x
    | some y => if takesZ y.p.k ≠ 1 then x else if y.p.k = x.p.k then y else starX y

def simpOf (x y : Ex) : Ex := if takesZ y.p.k ≠ 1 then x else if y.p.k = x.p.k then y else starX y
theorem St.set7 {w : World} {t g : Nat} {c0 c1 c2 c3 c4 c5 c6 : Value} (h : St w t g #[c0, c1, c2, c3, c4, c5, c6]) (d0 d1 d2 d3 d4 d5 d6 : Value) :
    St (((((((w.setCell ⟨g, 0, none⟩ d0).setCell ⟨g, 1, none⟩ d1).setCell ⟨g, 2, none⟩ d2).setCell ⟨g, 3, none⟩ d3).setCell ⟨g, 4, none⟩ d4).setCell ⟨g, 5, none⟩ d5).setCell ⟨g, 6, none⟩ d6) t g #[d0, d1, d2, d3, d4, d5, d6] := by
  have := ((((((h.set 0 d0).set 1 d1).set 2 d2).set 3 d3).set 4 d4).set 5 d5).set 6 d6
  simpa using this
theorem below7 {w0 w : World} {B g : Nat} (h : Below B w0 w) (hg : B ≤ g) (d0 d1 d2 d3 d4 d5 d6 : Value) :
    Below B w0 (((((((w.setCell ⟨g, 0, none⟩ d0).setCell ⟨g, 1, none⟩ d1).setCell ⟨g, 2, none⟩ d2).setCell ⟨g, 3, none⟩ d3).setCell ⟨g, 4, none⟩ d4).setCell ⟨g, 5, none⟩ d5).setCell ⟨g, 6, none⟩ d6) :=
  ((((((h.setCell (p := ⟨g, 0, none⟩) hg d0).setCell (p := ⟨g, 1, none⟩) hg d1).setCell (p := ⟨g, 2, none⟩) hg d2).setCell (p := ⟨g, 3, none⟩) hg d3).setCell (p := ⟨g, 4, none⟩) hg d4).setCell (p := ⟨g, 5, none⟩) hg d5).setCell (p := ⟨g, 6, none⟩) hg d6
theorem val7 (w : World) (x : Ex) : Below w.heap.size w (w.alloc (.cells #[.int .i64 x.p.k, .int .u64 ((wd x.p.p 0 : Nat) : Int), .int .u64 ((wd x.p.p 1 : Nat) : Int), .int .u64 ((wd x.p.p 2 : Nat) : Int), .int .u64 ((wd x.p.p 3 : Nat) : Int), .int .i64 ((x.a : Nat) : Int), .int .i64 ((x.b : Nat) : Int)] 142)) := (Below.refl _ _).alloc (Nat.le_refl _) _
set_option maxHeartbeats 1000000 in
set_option maxRecDepth 100000 in
/-- .. where it is no repetition. -/
theorem simp_no (x : Ex) (kb : Nat) (w : World) (h : takesZ x.p.k ≠ 1) :
    Calls Try.prog 71 #[.pointer (some ⟨kb, 0, none⟩), .agg #[.int .i64 x.p.k, .int .u64 ((wd x.p.p 0 : Nat) : Int), .int .u64 ((wd x.p.p 1 : Nat) : Int), .int .u64 ((wd x.p.p 2 : Nat) : Int), .int .u64 ((wd x.p.p 3 : Nat) : Int), .int .i64 ((x.a : Nat) : Int), .int .i64 ((x.b : Nat) : Int)]] w fun e w' => e = .returned (.agg #[.int .i64 x.p.k, .int .u64 ((wd x.p.p 0 : Nat) : Int), .int .u64 ((wd x.p.p 1 : Nat) : Int), .int .u64 ((wd x.p.p 2 : Nat) : Int), .int .u64 ((wd x.p.p 3 : Nat) : Int), .int .i64 ((x.a : Nat) : Int), .int .i64 ((x.b : Nat) : Int)]) ∧ Below w.heap.size w w' := by
  have hw := (St.new w 142 #[.int .i64 x.p.k, .int .u64 ((wd x.p.p 0 : Nat) : Int), .int .u64 ((wd x.p.p 1 : Nat) : Int), .int .u64 ((wd x.p.p 2 : Nat) : Int), .int .u64 ((wd x.p.p 3 : Nat) : Int), .int .i64 ((x.a : Nat) : Int), .int .i64 ((x.b : Nat) : Int)]).alloc (.cells #[.int .i64 0, .int .u64 0, .int .u64 0, .int .u64 0, .int .u64 0, .int .i64 0, .int .i64 0] 142)
  obtain ⟨x0, x1, x2, x3, x4, x5, x6⟩ := row7 hw
  obtain ⟨z, hz⟩ : ∃ z, takesZ x.p.k = z := ⟨_, rfl⟩
  have HZ := Lib.hid hz
  have e1 : (z != 1) = true := by simp; omega
  clear hz h
  go_enter Try.func71, Try.ntmps71
  go_wp2_with fail
  refine (takes_any x.p.k _).mono ?_
  rintro e w1 ⟨rfl, rfl⟩
  rw [HZ.out]
  go_wp2_with fail
  exact bodyPost_ret (v := .agg #[.int .i64 x.p.k, .int .u64 ((wd x.p.p 0 : Nat) : Int), .int .u64 ((wd x.p.p 1 : Nat) : Int), .int .u64 ((wd x.p.p 2 : Nat) : Int), .int .u64 ((wd x.p.p 3 : Nat) : Int), .int .i64 ((x.a : Nat) : Int), .int .i64 ((x.b : Nat) : Int)]) (by simp [results, Try.results71, go_sem]) rfl ⟨rfl, ((Below.refl _ _).alloc (Nat.le_refl _) _).alloc (by simp) _⟩

set_option maxHeartbeats 2000000 in
set_option maxRecDepth 100000 in
/-- .. where it is one. -/
theorem simp_yes (x y : Ex) (kb g n c : Nat) (w : World) (h : takesZ x.p.k = 1) (ha : x.a < n) (hc : n ≤ c ∧ c ≤ maxLen) (hkb : kb < w.heap.size) (hg : g < w.heap.size) (c0 : w.cell? ⟨kb, 0, none⟩ = some (.slice (some ⟨g, 0, none⟩) n c))
    (hy : ∀ j, j < 7 → w.cell? ⟨g, x.a * 7 + j, none⟩ = (exCells y)[j]?) :
    Calls Try.prog 71 #[.pointer (some ⟨kb, 0, none⟩), .agg #[.int .i64 x.p.k, .int .u64 ((wd x.p.p 0 : Nat) : Int), .int .u64 ((wd x.p.p 1 : Nat) : Int), .int .u64 ((wd x.p.p 2 : Nat) : Int), .int .u64 ((wd x.p.p 3 : Nat) : Int), .int .i64 ((x.a : Nat) : Int), .int .i64 ((x.b : Nat) : Int)]] w fun e w' => e = .returned (.agg #[.int .i64 ((simpOf x y)).p.k, .int .u64 ((wd ((simpOf x y)).p.p 0 : Nat) : Int), .int .u64 ((wd ((simpOf x y)).p.p 1 : Nat) : Int), .int .u64 ((wd ((simpOf x y)).p.p 2 : Nat) : Int), .int .u64 ((wd ((simpOf x y)).p.p 3 : Nat) : Int), .int .i64 ((((simpOf x y)).a : Nat) : Int), .int .i64 ((((simpOf x y)).b : Nat) : Int)]) ∧ Below w.heap.size w w' := by
  have hb1 : Below w.heap.size w ((w.alloc (.cells #[.int .i64 x.p.k, .int .u64 ((wd x.p.p 0 : Nat) : Int), .int .u64 ((wd x.p.p 1 : Nat) : Int), .int .u64 ((wd x.p.p 2 : Nat) : Int), .int .u64 ((wd x.p.p 3 : Nat) : Int), .int .i64 ((x.a : Nat) : Int), .int .i64 ((x.b : Nat) : Int)] 142)).alloc (.cells #[.int .i64 0, .int .u64 0, .int .u64 0, .int .u64 0, .int .u64 0, .int .i64 0, .int .i64 0] 142)) := ((Below.refl _ _).alloc (Nat.le_refl _) _).alloc (by simp) _
  have hw := (St.new w 142 #[.int .i64 x.p.k, .int .u64 ((wd x.p.p 0 : Nat) : Int), .int .u64 ((wd x.p.p 1 : Nat) : Int), .int .u64 ((wd x.p.p 2 : Nat) : Int), .int .u64 ((wd x.p.p 3 : Nat) : Int), .int .i64 ((x.a : Nat) : Int), .int .i64 ((x.b : Nat) : Int)]).alloc (.cells #[.int .i64 0, .int .u64 0, .int .u64 0, .int .u64 0, .int .u64 0, .int .i64 0, .int .i64 0] 142)
  have hR : St ((w.alloc (.cells #[.int .i64 x.p.k, .int .u64 ((wd x.p.p 0 : Nat) : Int), .int .u64 ((wd x.p.p 1 : Nat) : Int), .int .u64 ((wd x.p.p 2 : Nat) : Int), .int .u64 ((wd x.p.p 3 : Nat) : Int), .int .i64 ((x.a : Nat) : Int), .int .i64 ((x.b : Nat) : Int)] 142)).alloc (.cells #[.int .i64 0, .int .u64 0, .int .u64 0, .int .u64 0, .int .u64 0, .int .i64 0, .int .i64 0] 142)) 142 (w.heap.size + 1) #[.int .i64 0, .int .u64 0, .int .u64 0, .int .u64 0, .int .u64 0, .int .i64 0, .int .i64 0] := by
    have := St.new (w.alloc (.cells #[.int .i64 x.p.k, .int .u64 ((wd x.p.p 0 : Nat) : Int), .int .u64 ((wd x.p.p 1 : Nat) : Int), .int .u64 ((wd x.p.p 2 : Nat) : Int), .int .u64 ((wd x.p.p 3 : Nat) : Int), .int .i64 ((x.a : Nat) : Int), .int .i64 ((x.b : Nat) : Int)] 142)) 142 #[.int .i64 0, .int .u64 0, .int .u64 0, .int .u64 0, .int .u64 0, .int .i64 0, .int .i64 0]
    simpa using this
  have HB : Hid (Below w.heap.size w ((w.alloc (.cells #[.int .i64 x.p.k, .int .u64 ((wd x.p.p 0 : Nat) : Int), .int .u64 ((wd x.p.p 1 : Nat) : Int), .int .u64 ((wd x.p.p 2 : Nat) : Int), .int .u64 ((wd x.p.p 3 : Nat) : Int), .int .i64 ((x.a : Nat) : Int), .int .i64 ((x.b : Nat) : Int)] 142)).alloc (.cells #[.int .i64 0, .int .u64 0, .int .u64 0, .int .u64 0, .int .u64 0, .int .i64 0, .int .i64 0] 142))) := Lib.hid hb1
  have hsz : ((w.alloc (.cells #[.int .i64 x.p.k, .int .u64 ((wd x.p.p 0 : Nat) : Int), .int .u64 ((wd x.p.p 1 : Nat) : Int), .int .u64 ((wd x.p.p 2 : Nat) : Int), .int .u64 ((wd x.p.p 3 : Nat) : Int), .int .i64 ((x.a : Nat) : Int), .int .i64 ((x.b : Nat) : Int)] 142)).alloc (.cells #[.int .i64 0, .int .u64 0, .int .u64 0, .int .u64 0, .int .u64 0, .int .i64 0, .int .i64 0] 142)).heap.size = w.heap.size + 2 := by simp
  have HZ := Lib.hid h
  have HY := Lib.hid hy
  have HC := Lib.hid hc
  obtain ⟨x0, x1, x2, x3, x4, x5, x6⟩ := row7 hw
  clear h hy hc hb1
  go_enter Try.func71, Try.ntmps71
  go_wp2_with fail
  refine (takes_any x.p.k _).mono ?_
  rintro e w1 ⟨rfl, rfl⟩
  rw [HZ.out]
  go_wp2_with fail
  generalize (w.alloc (.cells #[.int .i64 x.p.k, .int .u64 ((wd x.p.p 0 : Nat) : Int), .int .u64 ((wd x.p.p 1 : Nat) : Int), .int .u64 ((wd x.p.p 2 : Nat) : Int), .int .u64 ((wd x.p.p 3 : Nat) : Int), .int .i64 ((x.a : Nat) : Int), .int .i64 ((x.b : Nat) : Int)] 142)).alloc (.cells #[.int .i64 0, .int .u64 0, .int .u64 0, .int .u64 0, .int .u64 0, .int .i64 0, .int .i64 0] 142) = W at HB hsz x0 x1 x2 x3 x4 x5 x6 hw hR ⊢
  have hcc := HC.out
  unfold maxLen at hcc
  have k0 := (HB.out.cell (p := ⟨kb, 0, none⟩) hkb).trans c0
  have yc := fun j hj => (HB.out.cell (p := ⟨g, x.a * 7 + j, none⟩) hg).trans (HY.out j hj)
  have y0 := yc 0 (by decide)
  have y1 := yc 1 (by decide)
  have y2 := yc 2 (by decide)
  have y3 := yc 3 (by decide)
  have y4 := yc 4 (by decide)
  have y5 := yc 5 (by decide)
  have y6 := yc 6 (by decide)
  simp only [exCells, List.getElem?_cons_zero, List.getElem?_cons_succ, Nat.add_zero] at y0 y1 y2 y3 y4 y5 y6
  have hzero : (zeroValue 142).run Try.prog W = .ok (.agg #[.int .i64 0, .int .u64 0, .int .u64 0, .int .u64 0, .int .u64 0, .int .i64 0, .int .i64 0]) W := by kernel_rfl
  have ia : (x.a : Int) < (n : Int) := by omega
  clear yc
  have hA : ∀ p v, W.cell? p = some v → (W.alloc (.cells #[.int .i64 0, .int .u64 0, .int .u64 0, .int .u64 0, .int .u64 0, .int .i64 0, .int .i64 0] 142)).cell? p = some v := fun p v h => by
    rw [World.cell?_alloc_some _ _ _ (by rw [h]; rfl)]; exact h
  have ak0 := hA _ _ k0
  have ax5 := hA _ _ x5
  have ay0 := hA _ _ y0
  have ay1 := hA _ _ y1
  have ay2 := hA _ _ y2
  have ay3 := hA _ _ y3
  have ay4 := hA _ _ y4
  have ay5 := hA _ _ y5
  have ay6 := hA _ _ y6
  clear hA
  go_region
  have hX5 : St (W.alloc (.cells #[.int .i64 y.p.k, .int .u64 ((wd y.p.p 0 : Nat) : Int), .int .u64 ((wd y.p.p 1 : Nat) : Int), .int .u64 ((wd y.p.p 2 : Nat) : Int), .int .u64 ((wd y.p.p 3 : Nat) : Int), .int .i64 ((y.a : Nat) : Int), .int .i64 ((y.b : Nat) : Int)] 142)).drew 142 w.heap.size #[.int .i64 x.p.k, .int .u64 ((wd x.p.p 0 : Nat) : Int), .int .u64 ((wd x.p.p 1 : Nat) : Int), .int .u64 ((wd x.p.p 2 : Nat) : Int), .int .u64 ((wd x.p.p 3 : Nat) : Int), .int .i64 ((x.a : Nat) : Int), .int .i64 ((x.b : Nat) : Int)] := hw.alloc _
  have hR5 : St (W.alloc (.cells #[.int .i64 y.p.k, .int .u64 ((wd y.p.p 0 : Nat) : Int), .int .u64 ((wd y.p.p 1 : Nat) : Int), .int .u64 ((wd y.p.p 2 : Nat) : Int), .int .u64 ((wd y.p.p 3 : Nat) : Int), .int .i64 ((y.a : Nat) : Int), .int .i64 ((y.b : Nat) : Int)] 142)).drew 142 (w.heap.size + 1) #[.int .i64 0, .int .u64 0, .int .u64 0, .int .u64 0, .int .u64 0, .int .i64 0, .int .i64 0] := hR.alloc _
  have hY5 : St (W.alloc (.cells #[.int .i64 y.p.k, .int .u64 ((wd y.p.p 0 : Nat) : Int), .int .u64 ((wd y.p.p 1 : Nat) : Int), .int .u64 ((wd y.p.p 2 : Nat) : Int), .int .u64 ((wd y.p.p 3 : Nat) : Int), .int .i64 ((y.a : Nat) : Int), .int .i64 ((y.b : Nat) : Int)] 142)).drew 142 (w.heap.size + 2) #[.int .i64 y.p.k, .int .u64 ((wd y.p.p 0 : Nat) : Int), .int .u64 ((wd y.p.p 1 : Nat) : Int), .int .u64 ((wd y.p.p 2 : Nat) : Int), .int .u64 ((wd y.p.p 3 : Nat) : Int), .int .i64 ((y.a : Nat) : Int), .int .i64 ((y.b : Nat) : Int)] := by
    have := St.new W 142 #[.int .i64 y.p.k, .int .u64 ((wd y.p.p 0 : Nat) : Int), .int .u64 ((wd y.p.p 1 : Nat) : Int), .int .u64 ((wd y.p.p 2 : Nat) : Int), .int .u64 ((wd y.p.p 3 : Nat) : Int), .int .i64 ((y.a : Nat) : Int), .int .i64 ((y.b : Nat) : Int)]
    rw [hsz] at this
    exact this
  have hB5 : Below w.heap.size w (W.alloc (.cells #[.int .i64 y.p.k, .int .u64 ((wd y.p.p 0 : Nat) : Int), .int .u64 ((wd y.p.p 1 : Nat) : Int), .int .u64 ((wd y.p.p 2 : Nat) : Int), .int .u64 ((wd y.p.p 3 : Nat) : Int), .int .i64 ((y.a : Nat) : Int), .int .i64 ((y.b : Nat) : Int)] 142)).drew := (HB.out.alloc (by omega) _).drew
  clear ak0 ax5 ay0 ay1 ay2 ay3 ay4 ay5 ay6 x0 x1 x2 x3 x4 x5 x6 y0 y1 y2 y3 y4 y5 y6 k0 hw hR HB hzero
  generalize (W.alloc (.cells #[.int .i64 y.p.k, .int .u64 ((wd y.p.p 0 : Nat) : Int), .int .u64 ((wd y.p.p 1 : Nat) : Int), .int .u64 ((wd y.p.p 2 : Nat) : Int), .int .u64 ((wd y.p.p 3 : Nat) : Int), .int .i64 ((y.a : Nat) : Int), .int .i64 ((y.b : Nat) : Int)] 142)).drew = W5 at hX5 hR5 hY5 hB5 ⊢
  obtain ⟨x0, x1, x2, x3, x4, x5, x6⟩ := row7 hX5
  obtain ⟨y0, y1, y2, y3, y4, y5, y6⟩ := row7 hY5
  obtain ⟨r0, r1, r2, r3, r4, r5, r6⟩ := row7 hR5
  have f0 := hR5.thaw 0
  have f1 := hR5.thaw 1
  have f2 := hR5.thaw 2
  have f3 := hR5.thaw 3
  have f4 := hR5.thaw 4
  have f5 := hR5.thaw 5
  have f6 := hR5.thaw 6
  obtain ⟨z, hz⟩ : ∃ z, takesZ y.p.k = z := ⟨_, rfl⟩
  have HZ2 := Lib.hid hz
  clear hz
  go_wp2_with fail
  refine (takes_any y.p.k _).mono ?_
  rintro e w6 ⟨rfl, rfl⟩
  rw [HZ2.out]
  have store := fun (v : Ex) => hR5.set7 (.int .i64 v.p.k) (.int .u64 ((wd v.p.p 0 : Nat) : Int)) (.int .u64 ((wd v.p.p 1 : Nat) : Int)) (.int .u64 ((wd v.p.p 2 : Nat) : Int)) (.int .u64 ((wd v.p.p 3 : Nat) : Int)) (.int .i64 ((v.a : Nat) : Int)) (.int .i64 ((v.b : Nat) : Int))
  have HS := Lib.hid store
  clear store
  by_cases h1 : z = 1
  rotate_left
  · have e1 : (z != 1) = true := by simpa using h1
    have hE : simpOf x y = x := by unfold simpOf; rw [if_pos (by rw [HZ2.out]; exact h1)]
    have HE := Lib.hid hE
    clear hE
    obtain ⟨q0, q1, q2, q3, q4, q5, q6⟩ := row7 (HS.out x)
    go_wp2_with fail
    exact bodyPost_ret (v := .agg #[.int .i64 x.p.k, .int .u64 ((wd x.p.p 0 : Nat) : Int), .int .u64 ((wd x.p.p 1 : Nat) : Int), .int .u64 ((wd x.p.p 2 : Nat) : Int), .int .u64 ((wd x.p.p 3 : Nat) : Int), .int .i64 ((x.a : Nat) : Int), .int .i64 ((x.b : Nat) : Int)]) (by simp [results, Try.results71, go_sem, q0, q1, q2, q3, q4, q5, q6]) rfl ⟨by rw [HE.out], below7 hB5 (by omega) _ _ _ _ _ _ _⟩
  subst h1
  by_cases h2 : y.p.k = x.p.k
  · have e2 : (y.p.k == x.p.k) = true := by simpa using h2
    have hE : simpOf x y = y := by unfold simpOf; rw [if_neg (by rw [HZ2.out]; simp), if_pos h2]
    have HE := Lib.hid hE
    clear hE
    obtain ⟨q0, q1, q2, q3, q4, q5, q6⟩ := row7 (HS.out y)
    clear h2
    go_wp2_with fail
    exact bodyPost_ret (v := .agg #[.int .i64 y.p.k, .int .u64 ((wd y.p.p 0 : Nat) : Int), .int .u64 ((wd y.p.p 1 : Nat) : Int), .int .u64 ((wd y.p.p 2 : Nat) : Int), .int .u64 ((wd y.p.p 3 : Nat) : Int), .int .i64 ((y.a : Nat) : Int), .int .i64 ((y.b : Nat) : Int)]) (by simp [results, Try.results71, go_sem, q0, q1, q2, q3, q4, q5, q6]) rfl ⟨by rw [HE.out], below7 hB5 (by omega) _ _ _ _ _ _ _⟩
  · have e2 : (y.p.k == x.p.k) = false := by simpa using h2
    have hE : simpOf x y = starX y := by unfold simpOf; rw [if_neg (by rw [HZ2.out]; simp), if_neg h2]
    have HE := Lib.hid hE
    clear hE
    clear h2
    go_wp2_with fail
    refine (star_any y _).mono ?_
    rintro e w7 ⟨rfl, b7⟩
    have hR7 := hR5.keep b7
    have hB7 := hB5.trans (b7.mono hB5.size)
    have f0 := hR7.thaw 0
    have f1 := hR7.thaw 1
    have f2 := hR7.thaw 2
    have f3 := hR7.thaw 3
    have f4 := hR7.thaw 4
    have f5 := hR7.thaw 5
    have f6 := hR7.thaw 6
    obtain ⟨r0, r1, r2, r3, r4, r5, r6⟩ := row7 hR7
    obtain ⟨s, hs⟩ : ∃ s, starX y = s := ⟨_, rfl⟩
    have HE2 : Hid (simpOf x y = s) := by show _ = _; rw [HE.out, hs]
    rw [hs]
    obtain ⟨q0, q1, q2, q3, q4, q5, q6⟩ := row7 (hR7.set7 (.int .i64 s.p.k) (.int .u64 ((wd s.p.p 0 : Nat) : Int)) (.int .u64 ((wd s.p.p 1 : Nat) : Int)) (.int .u64 ((wd s.p.p 2 : Nat) : Int)) (.int .u64 ((wd s.p.p 3 : Nat) : Int)) (.int .i64 ((s.a : Nat) : Int)) (.int .i64 ((s.b : Nat) : Int)))
    clear hs HE
    go_wp2_with fail
    exact bodyPost_ret (v := .agg #[.int .i64 s.p.k, .int .u64 ((wd s.p.p 0 : Nat) : Int), .int .u64 ((wd s.p.p 1 : Nat) : Int), .int .u64 ((wd s.p.p 2 : Nat) : Int), .int .u64 ((wd s.p.p 3 : Nat) : Int), .int .i64 ((s.a : Nat) : Int), .int .i64 ((s.b : Nat) : Int)]) (by simp [results, Try.results71, go_sem, q0, q1, q2, q3, q4, q5, q6]) rfl ⟨by rw [HE2.out], below7 hB7 (by omega) _ _ _ _ _ _ _⟩
end Go.Proofs.Ytkdhdlokilgccaa
