import Derived.Test.YtkdhdlokilgccaaZChk
import Derived.Test.YtkdhdlokilgccaaZOnesMath
import Derived.Deep.RegionLaw
import Derived.StillTailTactics
import Derived.Deep.AppendLies
namespace Go.Proofs.Ytkdhdlokilgccaa
open Go.RowKit Go.Maps Go.WideElems Go.ChangeMaps Go.MapKept
set_option linter.unusedVariables false

/-- What Check has let through: the next piece finds its operands. -/
theorem EnterInv.next {W : World} {B Tk kb : Nat} {cur : Array Value} {l : List Pc} {k : Nat} {v : Value} {wr : World} {E : List Ex} {F : List Fa} {cur' : Array Value} {bM : Option Nat} {ts : List Rx} {R : List Nat} (h : EnterInv W B Tk kb cur l k v wr E F cur' bM ts R) (hk : k < l.length) : ∃ m : Nat, takesZ l[k].k = m ∧ m ≤ ts.length ∧ m ≤ 2 ∧ okSet l[k] = true ∧ chkGo (l.drop (k + 1)) ((ts.length - m + 1 : Nat) : Int) = some 1 := by
  have h1 := h.chk
  rw [chkGo_step l k hk] at h1
  by_cases ho : okPc l[k] (ts.length : Int) = true
  · rw [if_pos ho] at h1
    simp only [okPc, Bool.and_eq_true, decide_eq_true_eq] at ho
    obtain ⟨⟨h2, h3⟩, h4⟩ := ho
    have h5 := takesZ_cases l[k].k
    refine ⟨(takesZ l[k].k).toNat, by omega, by omega, by omega, h4, ?_⟩
    rw [← h1]
    congr 1
    omega
  · rw [if_neg ho] at h1
    cases h1
/-- The entry that the next piece makes, and its expression. -/
theorem EnterInv.den_next {W : World} {B Tk kb : Nat} {cur : Array Value} {l : List Pc} {k : Nat} {v : Value} {wr : World} {E : List Ex} {F : List Fa} {cur' : Array Value} {bM : Option Nat} {ts : List Rx} {R : List Nat} (h : EnterInv W B Tk kb cur l k v wr E F cur' bM ts R) (x : Pc) (hcan : x.can) (m : Nat) (hm : takesZ x.k = m) (hmt : m ≤ ts.length) (hok : okSet x = true) :
    Ex.fine ⟨x, (R.drop (R.length - m)).getD 0 0, (R.drop (R.length - m)).getD 1 0⟩ ∧ ∃ t0 t1 : Rx, DenX E ⟨x, (R.drop (R.length - m)).getD 0 0, (R.drop (R.length - m)).getD 1 0⟩ t0 ∧ (∀ s, Lan t0 s ↔ Lan t1 s) ∧ t0.flat.length ≤ t1.flat.length ∧ t1.wf ∧ ts.flatMap Rx.flat ++ [x] = (ts.take (ts.length - m) ++ [t1]).flatMap Rx.flat := by
  have hR := h.len
  have h5 := takesZ_cases x.k
  have hm3 : m = 0 ∨ m = 1 ∨ m = 2 := by omega
  have hget : ∀ i, i < m → (R.drop (R.length - m)).getD i 0 = R[R.length - m + i]?.getD 0 := fun i hi => by
    rw [List.getD_eq_getElem?_getD, List.getElem?_drop]
  rcases hm3 with rfl | rfl | rfl
  · refine ⟨⟨hcan, fun _ => by simp, fun h => by have h' : takesZ x.k = 1 := h; omega⟩, .leaf x, .leaf x, Or.inl ⟨by omega, hok, rfl⟩, fun _ => Iff.rfl, Nat.le_refl _, ⟨by omega, hok⟩, ?_⟩
    rw [Nat.sub_zero, List.take_length, List.flatMap_append]
    simp [Rx.flat]
  · have hj : R.length - 1 < R.length := by omega
    obtain ⟨u, hu, hl, hle⟩ := h.den (R.length - 1) hj (by omega)
    have e0 : (R.drop (R.length - 1)).getD 0 0 = R[R.length - 1] := by rw [hget 0 (by omega), Nat.add_zero, List.getElem?_eq_getElem hj]; rfl
    have e1 : (R.drop (R.length - 1)).getD 1 0 = 0 := by
      rw [List.getD_eq_getElem?_getD, List.getElem?_drop, List.getElem?_eq_none (by omega)]; rfl
    rw [e0, e1]
    have hlt := hu.lt
    have ht : (ts[R.length - 1]'(by omega)).wf := h.wf _ (List.getElem_mem _)
    refine ⟨⟨hcan, fun h => by have h' : takesZ x.k = 0 := h; omega, fun _ => rfl⟩, .un x u, .un x (ts[R.length - 1]'(by omega)), Or.inr (Or.inl ⟨by show takesZ x.k = 1; omega, hok, by show 0 < E.length; omega, u, hu, rfl⟩), lan_un_congr x _ _ hl, by simp [Rx.flat]; omega, ⟨by omega, hok, ht⟩, ?_⟩
    have hs : ts = ts.take (ts.length - 1) ++ [ts[R.length - 1]'(by omega)] := by
      conv => lhs; rw [← List.take_append_drop (ts.length - 1) ts]
      congr 1
      rw [List.drop_eq_getElem_cons (by omega), List.drop_eq_nil_of_le (by omega)]
      congr 1
      congr 1
      omega
    conv => lhs; rw [hs]
    simp [Rx.flat, List.flatMap_append]
  · have hj0 : R.length - 2 < R.length := by omega
    have hj1 : R.length - 1 < R.length := by omega
    obtain ⟨u, hu, hl, hle⟩ := h.den (R.length - 2) hj0 (by omega)
    obtain ⟨y, hy, hl2, hle2⟩ := h.den (R.length - 1) hj1 (by omega)
    have e0 : (R.drop (R.length - 2)).getD 0 0 = R[R.length - 2] := by rw [hget 0 (by omega), Nat.add_zero, List.getElem?_eq_getElem hj0]; rfl
    have e1 : (R.drop (R.length - 2)).getD 1 0 = R[R.length - 1] := by
      rw [hget 1 (by omega), show R.length - 2 + 1 = R.length - 1 by omega, List.getElem?_eq_getElem hj1]; rfl
    rw [e0, e1]
    have ht : (ts[R.length - 2]'(by omega)).wf := h.wf _ (List.getElem_mem _)
    have ht2 : (ts[R.length - 1]'(by omega)).wf := h.wf _ (List.getElem_mem _)
    refine ⟨⟨hcan, fun h => by have h' : takesZ x.k = 0 := h; omega, fun h => by have h' : takesZ x.k = 1 := h; omega⟩, .bin x u y, .bin x (ts[R.length - 2]'(by omega)) (ts[R.length - 1]'(by omega)), Or.inr (Or.inr ⟨by show takesZ x.k = 2; omega, hok, u, y, hu, hy, rfl⟩), lan_bin_congr x _ _ _ _ hl hl2, by simp [Rx.flat]; omega, ⟨by omega, hok, ht, ht2⟩, ?_⟩
    have hs : ts = ts.take (ts.length - 2) ++ [ts[R.length - 2]'(by omega), ts[R.length - 1]'(by omega)] := by
      conv => lhs; rw [← List.take_append_drop (ts.length - 2) ts]
      congr 1
      rw [List.drop_eq_getElem_cons (by omega), List.drop_eq_getElem_cons (by omega), List.drop_eq_nil_of_le (by omega)]
      simp only [List.cons.injEq, and_true]
      constructor
      · congr 1; omega
      · congr 1; omega
    conv => lhs; rw [hs]
    simp [Rx.flat, List.flatMap_append]

/-- The state behind one more piece. -/
theorem EnterInv.step {W : World} {B Tk kb : Nat} {cur : Array Value} {l : List Pc} {k : Nat} {v : Value} {wr : World} {E : List Ex} {F : List Fa} {cur' : Array Value} {bM : Option Nat} {ts : List Rx} {R : List Nat} (h : EnterInv W B Tk kb cur l k v wr E F cur' bM ts R) (hk : k < l.length) (m : Nat) (hmt : m ≤ ts.length) (hc : chkGo (l.drop (k + 1)) ((ts.length - m + 1 : Nat) : Int) = some 1)
    (t1 : Rx) (ht1 : t1.wf) (hfl : ts.flatMap Rx.flat ++ [l[k]] = (ts.take (ts.length - m) ++ [t1]).flatMap Rx.flat)
    {v' : Value} {w' : World} {E2 : List Ex} {F2 : List Fa} {cur2 : Array Value} {bM2 : Option Nat} (i : Nat) (u : Rx) (hK : BookAt w' B Tk kb cur2 E2 F2 bM2) (hI : Inv E2 F2) (hD : Den E2 i u) (hl : ∀ s, Lan u s ↔ Lan t1 s) (hle : u.flat.length ≤ t1.flat.length) (hE : E2 = E ∨ ∃ y, E2 = E ++ [y])
    (hrow : w'.ownsRow W.heap.size 3 1 v' (R.length - m + 1) (nums64 (R.take (R.length - m) ++ [i]))) (hb : Below B W w') (hkp : Kept [142, 72] [kb] W w') (ho : (∀ j, 3 ≤ j → cur2[j]? = cur[j]?) ∧ cur2.size = cur.size) (hn : ∀ b, bM2 = some b → W.heap.size ≤ b) :
    EnterInv W B Tk kb cur l (k + 1) v' w' E2 F2 cur2 bM2 (ts.take (ts.length - m) ++ [t1]) (R.take (R.length - m) ++ [i]) := by
  have hR := h.len
  have hlR : (R.take (R.length - m) ++ [i]).length = R.length - m + 1 := by simp
  have hlT : (ts.take (ts.length - m) ++ [t1]).length = ts.length - m + 1 := by simp
  refine ⟨hK, hI, by rw [hlR]; exact hrow, by rw [hlR, hlT, hR], ?_, ?_, ?_, fun j h1 h2 => ?_, by rw [hlT]; exact hc, hb, hkp, ho, hn⟩
  · have := h.small
    rcases hE with rfl | ⟨y, rfl⟩
    · omega
    · simp; omega
  · rw [← hfl, h.flat, List.take_succ_eq_append_getElem hk]
  · intro t ht
    rcases List.mem_append.1 ht with ht | ht
    · exact h.wf t (List.mem_of_mem_take ht)
    · simp at ht; subst ht; exact ht1
  · rw [hlR] at h1
    by_cases hj : j < R.length - m
    · obtain ⟨x, hx, hx2, hx3⟩ := h.den j (by omega) (by omega)
      have e1 : (R.take (R.length - m) ++ [i])[j]'(by rw [hlR]; exact h1) = R[j]'(by omega) := by
        rw [List.getElem_append_left (by simp; omega), List.getElem_take]
      have e2 : (ts.take (ts.length - m) ++ [t1])[j]'h2 = ts[j]'(by omega) := by
        rw [List.getElem_append_left (by simp; omega), List.getElem_take]
      rw [e1, e2]
      rcases hE with rfl | ⟨y, rfl⟩
      · exact ⟨x, hx, hx2, hx3⟩
      · exact ⟨x, hx.grow y, hx2, hx3⟩
    · have hj2 : j = R.length - m := by omega
      have e1 : (R.take (R.length - m) ++ [i])[j]'(by rw [hlR]; exact h1) = i := by
        rw [List.getElem_append_right (by simp; omega)]; simp
      have e2 : (ts.take (ts.length - m) ++ [t1])[j]'h2 = t1 := by
        rw [List.getElem_append_right (by simp; omega)]; simp
      rw [e1, e2]
      exact ⟨u, hD, hl, hle⟩
end Go.Proofs.Ytkdhdlokilgccaa

namespace Go.Proofs.Ytkdhdlokilgccaa
open Go.RowKit Go.Maps Go.WideElems Go.ChangeMaps Go.MapKept
set_option linter.unusedVariables false

theorem flat_len (ts : List Rx) : ts.length ≤ (ts.flatMap Rx.flat).length := by
  induction ts with
  | nil => simp
  | cons t ts ih => have := t.flat_pos; simp; simp at ih; omega
/-- The builtin copy, as one step of a region that draws. -/
theorem step_copy_run {P : Program} {ops : Array Oper} {o : Oper} {a : Act} {w : World} {K : Act → World → Prop} {Q : Exit → Act → World → Prop} {E : Prop}
    (hg : o.guard = none) (s x : Operand) (t1 t2 : TypeId) (hop : o.op = Op.call { callee := Callee.builtin Builtin.copy, args := #[s, x], argTypes := #[t1, t2] })
    (vs vx : Value) (hs : a.eval s = vs) (hx : a.eval x = vx) (v : Value) (w' : World) (hrun : (Builtin.copy_ #[t1, t2] o.type #[vs, vx]).run P w = .ok v w')
    (hK : K (a.put o.dst v) w') :
    if Region.wanted o (yielded ops a.tmps) = true then Oper.wp P o a w K Q else E := by
  have hw : Region.wanted o (yielded ops a.tmps) = true := by simp [Region.wanted, hg]
  rw [if_pos hw]
  unfold Oper.wp
  simp [execOp, hop, resolve, invoke, builtin, hs, hx, hrun, Result.andThen]
  exact hK
theorem nums_get (R : List Nat) (j : Nat) (v : Value) (h : (nums64 R)[j]? = some v) : ∃ n, R[j]? = some n ∧ v = .int .i64 ((n : Nat) : Int) := by
  simp only [nums64, List.getElem?_map, Option.map_eq_some_iff] at h
  obtain ⟨n, h1, h2⟩ := h
  exact ⟨n, h1, h2.symm⟩
theorem nums_one (R : List Nat) : ∀ v ∈ nums64 R, v.oneCell' = true := by
  intro v hv
  simp only [nums64, List.mem_map] at hv
  obtain ⟨n, _, rfl⟩ := hv
  rfl
theorem below_setCells (w : World) (B b : Nat) (hb : B ≤ b) : ∀ (cs : List Value) (o : Nat) (W : World), Below B w W → Below B w (W.setCells b o cs)
  | [], _, _, h => h
  | _ :: r, o, W, h => below_setCells w B b hb r (o + 1) _ (h.setCell (p := ⟨b, o, none⟩) hb _)
set_option maxRecDepth 100000 in
theorem slice_two (b : Nat) (W : World) : (Instr.sliceAt 140 (.pointer (some ⟨b, 5, none⟩)) none none none).run Try.prog W = .ok (.slice (some ⟨b, 5, none⟩) 2 2) W := by kernel_rfl
theorem sliced_from (a : Option Addr) (q p c m : Nat) (hqp : q + m = p) (W : World) :
    (Instr.sliceAt 61 (.slice a p c) (some (.int .i64 ((q : Nat) : Int))) none none).run Try.prog W = .ok (.slice (if c = q then a else a.map (·.add (q * 1))) m (c - q)) W := by
  have e : p - q = m := by omega
  have hu : Try.prog.elem 61 = 3 := by kernel_rfl
  have hsz : (sizeOf 3).run Try.prog W = .ok 1 W := by kernel_rfl
  rw [run_sliceAt_slice W _ _ _ _ _ (by kernel_rfl), run_slice_l W _ _ _ _ (by kernel_rfl) _ _ (by omega) (by omega), hu, hsz]
  simp [Result.andThen, sliced, e]
/-- The operands' numbers, sliced off the ready ones and copied. -/
theorem enter_two {w : World} {B : Nat} {aR : Option Addr} {p cR : Nat} {R : List Nat} (hO : w.ownsRow B 3 1 (.slice aR p cR) p (nums64 R)) (q m : Nat) (hqp : q + m = p) (hm : m ≤ 2) :
    ∃ (aS : Option Addr) (cS : Nat), (∀ W : World, (Instr.sliceAt 61 (.slice aR p cR) (some (.int .i64 ((q : Nat) : Int))) none none).run Try.prog W = .ok (.slice aS m cS) W) ∧
      ∀ (W : World) (be : Nat) (C : Array Value) (ty : TypeId), St W 142 be C → C.size = 7 → Below w.heap.size w W →
        (Builtin.copy_ #[61, 61] ty #[.slice (some ⟨be, 5, none⟩) 2 2, .slice aS m cS]).run Try.prog W = .ok (goInt m) (W.setCells be 5 (nums64 (R.drop q))) := by
  refine ⟨_, _, fun W => sliced_from aR q p cR m hqp W, fun W be C ty hS h7 hb => ?_⟩
  have hRl : R.length = p := by have := hO.1; simpa [nums64] using this
  by_cases h0 : m = 0
  · have e : R.drop q = [] := List.drop_eq_nil_of_le (by omega)
    rw [e, h0]
    exact enter_copy_nil W ty be _ _
  · obtain ⟨g, rfl, _, hg, hc⟩ := ownsRow_read hO (by omega)
    have hcap : p ≤ cR := by
      rcases hO.2 with ⟨h1, _⟩ | ⟨g, cap, cu, h1, _, _, h2, h3, _⟩
      · cases h1
      · injection h1 with _ _ h4
        omega
    rw [if_neg (by omega)]
    have e1 : (some (⟨g, 0, none⟩ : Addr)).map (·.add (q * 1)) = some ⟨g, q, none⟩ := by rw [Option.map_some, Nat.mul_one, add_mid', Nat.zero_add]
    rw [e1]
    refine enter_copy W ty be C hS h7 g q m _ (nums64 (R.drop q)) (by simp [nums64]; omega) hm (fun j v hj => ?_) (nums_one _)
    obtain ⟨n, h1, rfl⟩ := nums_get _ _ _ hj
    rw [List.getElem?_drop] at h1
    have h2 := (List.getElem?_eq_some_iff.1 h1).1
    rw [hb.cell (p := ⟨g, q + j, none⟩) hg, (hc (q + j) (by omega)).1]
    simp [nums64, h1]
/-- .. and what the entry is then. -/
theorem St.two {W : World} {be : Nat} {x : Pc} {L : List Nat} (hL : L.length ≤ 2) (hS : St W 142 be #[.int .i64 x.k, .int .u64 ((wd x.p 0 : Nat) : Int), .int .u64 ((wd x.p 1 : Nat) : Int), .int .u64 ((wd x.p 2 : Nat) : Int), .int .u64 ((wd x.p 3 : Nat) : Int), .int .i64 0, .int .i64 0]) :
    St (W.setCells be 5 (nums64 L)) 142 be #[.int .i64 ((⟨x, L.getD 0 0, L.getD 1 0⟩ : Ex)).p.k, .int .u64 ((wd ((⟨x, L.getD 0 0, L.getD 1 0⟩ : Ex)).p.p 0 : Nat) : Int), .int .u64 ((wd ((⟨x, L.getD 0 0, L.getD 1 0⟩ : Ex)).p.p 1 : Nat) : Int), .int .u64 ((wd ((⟨x, L.getD 0 0, L.getD 1 0⟩ : Ex)).p.p 2 : Nat) : Int), .int .u64 ((wd ((⟨x, L.getD 0 0, L.getD 1 0⟩ : Ex)).p.p 3 : Nat) : Int), .int .i64 ((((⟨x, L.getD 0 0, L.getD 1 0⟩ : Ex)).a : Nat) : Int), .int .i64 ((((⟨x, L.getD 0 0, L.getD 1 0⟩ : Ex)).b : Nat) : Int)] := by
  match L, hL with
  | [], _ => exact hS
  | [a], _ => exact hS.set 5 _
  | [a, b], _ => exact (hS.set 5 _).set 6 _
theorem own_takeN {w : World} {B : Nat} {aR : Option Addr} {p cR : Nat} {R : List Nat} (hO : w.ownsRow B 3 1 (.slice aR p cR) p (nums64 R)) (q : Nat) (hq : q ≤ p) : w.ownsRow B 3 1 (.slice aR q cR) q (nums64 (R.take q)) := by
  have := own_take hO q hq
  rwa [Nat.mul_one, nums64, ← List.map_take] at this
set_option maxRecDepth 100000 in
theorem slice_to (a : Option Addr) (q p c : Nat) (hqp : q ≤ c) (W : World) :
    (Instr.sliceAt 61 (.slice a p c) none (some (.int .i64 ((q : Nat) : Int))) none).run Try.prog W = .ok (.slice a q c) W := by
  have hu : Try.prog.elem 61 = 3 := by kernel_rfl
  have hsz : (sizeOf 3).run Try.prog W = .ok 1 W := by kernel_rfl
  rw [run_sliceAt_slice W _ _ _ _ _ (by kernel_rfl), run_slice_h W _ _ _ _ (by kernel_rfl) _ _ (by omega) (by omega), hu, hsz]
  simp [Result.andThen, sliced]
  intro _
  have h0 : ∀ x : Addr, x.add 0 = x := fun x => by unfold Addr.add; rcases x with ⟨b, o, s⟩; cases s <;> simp
  cases a <;> simp [h0]
/-- A book stands where its blocks stand. -/
theorem BookAt.kept {w w' : World} {B Tk kb : Nat} {cur : Array Value} {E : List Ex} {F : List Fa} {bM : Option Nat} {bs : List Nat} (h : BookAt w B Tk kb cur E F bM) (k : Kept [] bs w w') (hd : ∀ g, g ∈ bookBlks kb cur bM → g ∉ bs) : BookAt w' B Tk kb cur E F bM := by
  obtain ⟨vF, hvF, hOF⟩ := h.fac
  refine ⟨h.num.kept k (hd kb (by simp [bookBlks])) (fun b e => hd b (by simp [bookBlks, e])) (fun g e => hd g (by simp [bookBlks, e])), ⟨vF, hvF, own_kept hOF k (by simp) (fun g e => hd g ?_)⟩, h.len, h.base, h.tag⟩
  have := (rowBlk_of hvF g).2 e
  simp [bookBlks, this]
/-- A row of another type beside a book is none of its blocks. -/
theorem BookAt.off {w : World} {B Tk kb : Nat} {cur : Array Value} {E : List Ex} {F : List Fa} {bM : Option Nat} (h : BookAt w B Tk kb cur E F bM) {B' t size n : Nat} {v : Value} {xs : List Value} (hO : w.ownsRow B' t size v n xs) (hkb : kb < B' ∨ t ≠ Tk) (h1 : t ≠ 142) (h2 : t ≠ 72) : ∀ g, v.ownBlock = some g → g ∉ bookBlks kb cur bM := by
  intro g hg hm
  obtain ⟨vE, hvE, hOE⟩ := h.num.row
  obtain ⟨vF, hvF, hOF⟩ := h.fac
  obtain ⟨c, fz, hc⟩ := own_kind hO g hg
  simp only [bookBlks, List.mem_cons, List.mem_append, Option.mem_toList] at hm
  rcases hm with rfl | hm | hm | hm
  · rcases hkb with hkb | hkb
    · have := own_above hO _ hg; omega
    · exact own_ne hO h.num.st hkb _ hg rfl
  · obtain ⟨es, clock, hb, _⟩ := (h.num.some_ g hm).2
    rw [hc] at hb
    cases hb
  · obtain ⟨c', fz', hc'⟩ := own_kind hOE g ((rowBlk_of hvE g).1 hm)
    rw [hc] at hc'
    injection hc' with hc'
    injection hc' with _ hc'
    exact h1 hc'
  · obtain ⟨c', fz', hc'⟩ := own_kind hOF g ((rowBlk_of hvF g).1 hm)
    rw [hc] at hc'
    injection hc' with hc'
    injection hc' with _ hc'
    exact h2 hc'
theorem kept_row {w w' : World} {row : Option Nat} (hg : w.grownBy w' row) : Kept [] row.toList w w' :=
  (Kept.refl _ _ _).grown hg (fun g e => Or.inl (by rw [e]; simp))
theorem BookAt.grown_row {w w' : World} {B Tk kb : Nat} {cur : Array Value} {E : List Ex} {F : List Fa} {bM : Option Nat} (h : BookAt w B Tk kb cur E F bM) {B' t size n : Nat} {v : Value} {xs : List Value} (hO : w.ownsRow B' t size v n xs) (hkb : kb < B' ∨ t ≠ Tk) (h1 : t ≠ 142) (h2 : t ≠ 72) (hg : w.grownBy w' v.ownBlock) : BookAt w' B Tk kb cur E F bM :=
  h.kept (kept_row hg) (fun g hm hv => h.off hO hkb h1 h2 g (by simpa using hv) hm)
theorem Try.info_int : (Try.prog.info? 3).map (fun i => (i.zero, i.size, i.bytes)) = some (some (.int .i64 0), 1, 8) := by kernel_rfl
end Go.Proofs.Ytkdhdlokilgccaa

namespace Go.Proofs.Ytkdhdlokilgccaa
open Go.RowKit Go.Maps Go.WideElems Go.ChangeMaps Go.MapKept
set_option linter.unusedVariables false

set_option maxHeartbeats 1500000 in
set_option maxRecDepth 100000 in
theorem enter_any (t : Rx) (hw : t.wf) (hc : chkGo t.flat 0 = some 1) (hcan : ∀ x ∈ t.flat, x.can) : EnterOk t := by
  intro W0 W B Tk kb cur a n c hK hB hL hW0 hB0 hn hmax hcap
  have HL := Lib.hid hL
  have HN := Lib.hid hn
  have HS := Lib.hid (EnterInv.start (l := t.flat) hK hc)
  have hpos := t.flat_pos
  have hn1 : 1 ≤ n := by omega
  have HC := Lib.hid hcap
  have HW := Lib.hid hw
  have HCAN := Lib.hid hcan
  have hkbW := hK.num.st.lt
  have HOK := Lib.hid (hK.base)
  clear hL hn hK hc hcap hpos hw hcan
  go_enter Try.func54, Try.ntmps54
  go_wp2_with fail
  go_loopw [6, 14] (fun v i wr => ∃ (k : Nat) (E : List Ex) (F : List Fa) (cur' : Array Value) (bM : Option Nat) (ts : List Rx) (R : List Nat), i = .int .i64 k ∧ k ≤ n ∧ Hid (EnterInv W B Tk kb cur t.flat k v wr E F cur' bM ts R)) (fun _ i _ => n - (intOf i).toNat)
  case atStart => exact ⟨0, [], [], cur, none, [], [], rfl, Nat.zero_le _, HS.out⟩
  case round =>
    obtain ⟨k, E, F, cur', bM, ts, R, rfl, hk, HI⟩ := hrel
    obtain ⟨aR, cR, rfl⟩ := ownsRow_slice HI.out.row
    by_cases hlt : k < n
    · have hkl : k < t.flat.length := by rw [HN.out]; exact hlt
      have hbw : Below W0.heap.size W0 wr := hB0.trans (HI.out.below.mono hW0)
      obtain ⟨g, off, rfl, hg, c0, c1, c2, c3, c4⟩ := (HL.out.below hbw).get k hkl
      obtain ⟨m, hm, hmt, hm2, hok, hch⟩ := HI.out.next hkl
      have hRl := HI.out.len
      have HX0 := Lib.hid hm
      obtain ⟨x, hx⟩ : ∃ x, t.flat[k]'hkl = x := ⟨_, rfl⟩
      rw [hx] at c0 c1 c2 c3 c4 HX0 hok
      have HXE := Lib.hid hx
      have HCH := Lib.hid hch
      obtain ⟨p, hp⟩ : ∃ p, R.length = p := ⟨_, rfl⟩
      have HP := Lib.hid hp
      have hmp : m ≤ p := by omega
      rw [hp]
      have i1 : ¬ ((m : Int) < 0) := by omega
      have i2 : ¬ ((p : Int) < (m : Int)) := by omega
      obtain ⟨q, hq⟩ : ∃ q, p - m = q := ⟨_, rfl⟩
      have hqp : q + m = p := by omega
      have hpm : (p : Int) - (m : Int) = ((q : Nat) : Int) := by omega
      have hp400 : p ≤ 100000 := by
        have h1 := HI.out.chk
        have h2 := HI.out.flat
        have h3 := HI.out.len
        have h4 := congrArg List.length h2
        have h5 := flat_len ts
        have h6 := HN.out
        rw [List.length_take] at h4
        omega
      clear hm hx hch hp hRl hmt
      go_wp2_with fail
      refine (takes_any x.k _).mono ?_
      rintro e w1 ⟨rfl, rfl⟩
      rw [HX0.out]
      go_wp2_with fail
      have hZ := St.new (wr.alloc (.cells #[.int .i64 x.k, .int .u64 ((wd x.p 0 : Nat) : Int), .int .u64 ((wd x.p 1 : Nat) : Int), .int .u64 ((wd x.p 2 : Nat) : Int), .int .u64 ((wd x.p 3 : Nat) : Int)] 66)) 142 #[.int .i64 x.k, .int .u64 ((wd x.p 0 : Nat) : Int), .int .u64 ((wd x.p 1 : Nat) : Int), .int .u64 ((wd x.p 2 : Nat) : Int), .int .u64 ((wd x.p 3 : Nat) : Int), .int .i64 0, .int .i64 0]
      have hb2 : Below wr.heap.size wr ((wr.alloc (.cells #[.int .i64 x.k, .int .u64 ((wd x.p 0 : Nat) : Int), .int .u64 ((wd x.p 1 : Nat) : Int), .int .u64 ((wd x.p 2 : Nat) : Int), .int .u64 ((wd x.p 3 : Nat) : Int)] 66)).alloc (.cells #[.int .i64 x.k, .int .u64 ((wd x.p 0 : Nat) : Int), .int .u64 ((wd x.p 1 : Nat) : Int), .int .u64 ((wd x.p 2 : Nat) : Int), .int .u64 ((wd x.p 3 : Nat) : Int), .int .i64 0, .int .i64 0] 142)) := ((Below.refl _ _).alloc (Nat.le_refl _) _).alloc (by simp) _
      have hsz1 : (wr.alloc (.cells #[.int .i64 x.k, .int .u64 ((wd x.p 0 : Nat) : Int), .int .u64 ((wd x.p 1 : Nat) : Int), .int .u64 ((wd x.p 2 : Nat) : Int), .int .u64 ((wd x.p 3 : Nat) : Int)] 66)).heap.size = wr.heap.size + 1 := by simp
      rw [hsz1] at hZ
      generalize (wr.alloc (.cells #[.int .i64 x.k, .int .u64 ((wd x.p 0 : Nat) : Int), .int .u64 ((wd x.p 1 : Nat) : Int), .int .u64 ((wd x.p 2 : Nat) : Int), .int .u64 ((wd x.p 3 : Nat) : Int)] 66)).alloc (.cells #[.int .i64 x.k, .int .u64 ((wd x.p 0 : Nat) : Int), .int .u64 ((wd x.p 1 : Nat) : Int), .int .u64 ((wd x.p 2 : Nat) : Int), .int .u64 ((wd x.p 3 : Nat) : Int), .int .i64 0, .int .i64 0] 142) = W2 at hZ hb2 ⊢
      have hrow := HI.out.row
      rw [HP.out] at hrow
      have hcR : p ≤ cR := by
        rcases hrow.2 with ⟨h1, h2⟩ | ⟨gR, cap, cu, h1, h3, h4, h5, h6, h7, h8⟩
        · injection h1 with e1 e2 e3
          omega
        · injection h1 with e1 e2 e3
          omega
      clear c0 c1 c2 c3 c4 hsz1
      obtain ⟨aS, cS, hs1, hcp⟩ := enter_two hrow q m hqp hm2
      have hs2 := slice_two (wr.heap.size + 1)
      have hs3 := slice_to aR q p cR (by omega)
      have hcpW := fun ty => hcp W2.drew (wr.heap.size + 1) _ ty hZ.drew rfl hb2.drew
      have hL2 : (R.drop q).length ≤ 2 := by simp; have := HP.out; omega
      have hZ3 := St.two hL2 hZ.drew
      have hb3 := below_setCells wr wr.heap.size (wr.heap.size + 1) (by omega) (nums64 (R.drop q)) 5 _ hb2.drew
      have HS3 := Lib.hid hs3
      have HR := Lib.hid hrow
      clear hcp hs3 hrow
      have i3 : (q : Int) ≤ (p : Int) := by omega
      have i4 : (0 : Int) ≤ (q : Int) := by omega
      go_region_law (refine step_copy_run (by rfl) _ _ _ _ (by rfl) _ _ (by rfl) (by rfl) _ _ (hcpW _) ?_)
      obtain ⟨hfe, t0, t1, hdx, hl01, hle01, hwf1, hfl1⟩ := HI.out.den_next x (HCAN.out x (by rw [← HXE.out]; exact List.getElem_mem _)) m HX0.out (by have := HI.out.len; have := HP.out; omega) hok
      rw [HP.out, show p - m = q by omega] at hfe hdx
      obtain ⟨a0, ha0⟩ : ∃ a0, (R.drop q).getD 0 0 = a0 := ⟨_, rfl⟩
      obtain ⟨b0, hb0⟩ : ∃ b0, (R.drop q).getD 1 0 = b0 := ⟨_, rfl⟩
      rw [ha0, hb0] at hfe hdx hZ3
      have h0ab : takesZ x.k = 0 → a0 ≤ 100000 ∧ b0 ≤ 100000 := fun h => by
        obtain ⟨h1, h2⟩ := hfe.2.1 h
        have h1' : a0 = 0 := h1
        have h2' : b0 = 0 := h2
        omega
      have hl1 : t1.flat.length ≤ 400 := by
        have e1 := congrArg List.length hfl1
        have e2 := HI.out.flat
        rw [e2] at e1
        rw [List.flatMap_append] at e1
        simp only [List.length_append, List.flatMap_cons, List.flatMap_nil, List.append_nil, List.length_cons, List.length_nil, List.length_take] at e1
        have := HN.out
        omega
      have HT := Lib.hid (And.intro hl01 (And.intro hle01 (And.intro hwf1 hfl1)))
      have HA := Lib.hid (And.intro ha0 hb0)
      clear hcpW hs1 hs2 hZ hL2 ha0 hb0 hl01 hle01 hwf1 hfl1 hok
      generalize W2.drew.setCells (wr.heap.size + 1) 5 (nums64 (R.drop q)) = W3 at hZ3 hb3 ⊢
      clear hb2
      have HX := Lib.hid hdx
      have HFE := Lib.hid hfe
      have H0AB := Lib.hid h0ab
      clear hdx hfe h0ab
      obtain ⟨z0, z1, z2, z3, z4, z5, z6⟩ := row7 hZ3
      have hK3 := HI.out.book.below hb3
      have HK3 := Lib.hid hK3
      have hR3 := ownsRow_keep HR.out hb3
      have hT3 := own_takeN hR3 q (by omega)
      have HT3 := Lib.hid hT3
      have HB3 := Lib.hid hb3
      have HZ3 := Lib.hid hZ3
      have hs3 := HS3.out
      have hE4 : E.length < 100000 := by have := HI.out.small; omega
      have hWr : W.heap.size ≤ wr.heap.size := HI.out.below.size
      have hW3 : wr.heap.size ≤ W3.heap.size := hb3.size
      clear hK3 hR3 hT3 hb3 hZ3
      go_wp2_with fail
      obtain ⟨i0, hi, hz0, hz1, hz2⟩ := info_parts Try.info_int
      go_region_law (first
        | (go_simp; go_at_call 71; refine (simpler_any W3.drew B Tk kb cur' E F bM ⟨x, a0, b0⟩ t0 (HK3.out.below (Below.refl _ _).drew) HI.out.inv HX.out HFE.out H0AB.out).mono ?_; rintro e1 w4 ⟨y, u, rfl, hy, hlu, hleu, hoky, hfy, hb4'⟩
           have hb4 : Below W3.heap.size W3 w4 := ⟨hb4'.os, hb4'.tape, hb4'.output, hb4'.size, hb4'.block⟩
           have HK4 := Lib.hid (HK3.out.below hb4)
           have HT4 := Lib.hid (ownsRow_keep HT3.out hb4)
           have hB4 : B ≤ w4.heap.size := (by have := hb4.size; omega)
           have hul : u.flat.length ≤ 400 := (by have := HT.out.2.1; omega)
           have HU := Lib.hid (And.intro hlu hleu)
           clear hlu hleu hb4')
        | (go_simp; go_at_call 70; refine (put_any w4 B Tk kb cur' E F bM y u hoky hfy HK4.out HI.out.inv hB4 hy hul hE4).mono ?_; rintro e2 w5 ⟨i, E2, F2, cur2, bM2, rfl, hK5, hI5, hD5, _, hE5, ho5, hc5, hbm5, hB5, hk5, _⟩
           have HT5 := Lib.hid (own_kept HT4.out hk5 (by simp) (HK4.out.off HT4.out (Or.inl hkbW) (by decide) (by decide)))
           have HK5 := Lib.hid (And.intro hK5 (And.intro hI5 (And.intro hD5 (And.intro hE5 (And.intro ho5 (And.intro hc5 hbm5))))))
           have HB5 := Lib.hid (And.intro hB5 hk5)
           have hW5 : W.heap.size ≤ w5.heap.size := (by have := hB5.size; have := hb4.size; omega)
           clear hK5 hI5 hD5 hE5 ho5 hc5 hbm5 hB5 hk5)
        | (refine step_append_lies _ (by rfl) _ _ _ (by rfl) W.heap.size 3 i0 (.int .i64 0) 1 8 Try.underlying61 hi hz0 hz1 hz2 (by rfl) (by decide) _ q (nums64 (R.take q)) (by rfl) (HT5.out.alloc _) ⟨w5.heap.size, 0, none⟩ 1 1 [.int .i64 ((i : Nat) : Int)] (by rfl) (by rfl) (World.news_of_block (cs := #[.int .i64 ((i : Nat) : Int)]) (by first | exact heap_alloc_new _ _ | exact St.new _ _ _)) (by intro u hu; simp at hu; rcases hu with rfl; rfl) (by omega) (by unfold maxLen; omega) (by omega) (by simp; omega) _ (by rfl) ?_
           intro gg cap6 w6 hown6 hgrow6 hat6 hlt6))
      have hO6 := HT5.out.alloc (.cells #[.int .i64 ((i : Nat) : Int)] 3)
      have hstep : EnterInv W B Tk kb cur t.flat (k + 1) (.slice (some ⟨gg, 0, none⟩) (q + 1) cap6) w6 E2 F2 cur2 bM2 (ts.take (ts.length - m) ++ [t1]) (R.take (R.length - m) ++ [i]) := by
        obtain ⟨hK5, hI5, hD5, hE5, ho5, hc5, hbm5⟩ := HK5.out
        obtain ⟨hB5, hk5⟩ := HB5.out
        obtain ⟨hl01, hle01, hwf1, hfl1⟩ := HT.out
        have hw5 : w5.heap.size < (w5.alloc (.cells #[.int .i64 ((i : Nat) : Int)] 3)).heap.size := by simp
        have hb6 : Below B W w6 := below_grown_own (((((HI.out.below.trans (HB3.out.mono (by omega))).trans (hb4.mono (by omega))).trans hB5).alloc (by omega) _)) (ownsRow_base hO6 hB) (by omega) hgrow6
        have hkp : Kept [142, 72] [kb] W w6 := ((kept_step ((HI.out.kept.below HB3.out).below hb4) HK4.out HI.out.new hk5).alloc _).grown hgrow6 (fun g e => Or.inr (Or.inl (own_above hO6 g e)))
        refine HI.out.step hkl m (by have := HI.out.len; have := HP.out; omega) HCH.out t1 hwf1 (by rw [HXE.out]; exact hfl1) i u ((hK5.below ((Below.refl _ _).alloc (Nat.le_refl _) _)).grown_row hO6 (Or.inl hkbW) (by decide) (by decide) hgrow6) hI5 hD5 (fun s => (HU.out.1 s).trans (hl01 s)) (Nat.le_trans HU.out.2 hle01) (by rcases hE5 with h | h; exact Or.inl h; exact Or.inr ⟨y, h⟩) ?_ hb6 hkp ⟨fun j hj => (ho5 j hj).trans (HI.out.oth.1 j hj), hc5.trans HI.out.oth.2⟩ (fun b e => ?_)
        · rw [HP.out, show p - m = q by omega]
          have e1 : nums64 (R.take q ++ [i]) = nums64 (R.take q) ++ [.int .i64 ((i : Nat) : Int)] := by simp [nums64]
          rw [e1]
          exact hown6
        · rcases hbm5 with h | ⟨b', h1, h2⟩
          · exact HI.out.new b (by rw [← h]; exact e)
          · rw [h1] at e
            injection e with e
            have := hb4.size
            omega
      have HSTEP := Lib.hid hstep
      have hwr' : k + 1 ≤ n := by omega
      clear hstep hown6 hgrow6 hat6 hlt6 hO6 z0 z1 z2 z3 z4 z5 z6 hs3
      go_wp2_with fail
      go_roundw
      case rel => exact ⟨k + 1, E2, F2, cur2, bM2, _, _, by go_num, hwr', HSTEP.out⟩
      case measure => simp [intOf]; omega
    · obtain rfl : k = n := by omega
      obtain ⟨hR1, i, u, hRi, hD, hl, hle⟩ := HI.out.whole HN.out HW.out
      have hrow := HI.out.row
      rw [hR1, hRi] at hrow
      obtain ⟨g, rfl, _, hg, hcell⟩ := ownsRow_read hrow (by decide)
      have d := (hcell 0 (by decide)).1
      simp only [nums64, List.map_cons, List.map_nil, List.getElem?_cons_zero] at d
      have HD := Lib.hid hD
      have HLn := Lib.hid hl
      rw [hR1]
      clear hcell hrow hRi hD hl
      have hwp := HI.out
      go_wp2_with fail
      go_ret2
      exact ⟨i, E, F, cur', bM, u, rfl, hwp.book, hwp.inv, HD.out, HLn.out, hle, hwp.below, hwp.kept, hwp.oth.1, hwp.oth.2, hwp.new, by have := hwp.small; have := HN.out; omega⟩
end Go.Proofs.Ytkdhdlokilgccaa
