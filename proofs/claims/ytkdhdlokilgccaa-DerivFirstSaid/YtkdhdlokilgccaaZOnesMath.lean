import Derived.Test.YtkdhdlokilgccaaChecked
import Derived.Test.YtkdhdlokilgccaaZDInv
import Derived.Test.YtkdhdlokilgccaaZDPile
import Derived.Test.YtkdhdlokilgccaaZMem
import Derived.Laws.IdiomCopy
import Derived.WalkKit
import Derived.WalkLawsBesides
import Derived.WalkSpells
import Derived.Outline
import Derived.Below
import Derived.Lib.Hide
import Derived.Laws.BitsLemmas
namespace Go.Proofs.Ytkdhdlokilgccaa
open Go.RowKit Go.Maps Go.WideElems Go.ChangeMaps Go.MapKept
set_option linter.unusedVariables false

/-- What enter gives for an expression. -/
def EnterPost (t : Rx) (W : World) (B Tk kb : Nat) (cur : Array Value) (e : Ending) (w' : World) : Prop :=
  ∃ (i : Nat) (E : List Ex) (F : List Fa) (cur' : Array Value) (bM : Option Nat) (u : Rx), e = .returned (.tuple #[.int .i64 ((i : Nat) : Int), .bool true]) ∧ BookAt w' B Tk kb cur' E F bM ∧ Inv E F ∧ Den E i u ∧ (∀ s, Lan u s ↔ Lan t s) ∧ u.flat.length ≤ t.flat.length ∧ Below B W w' ∧ Kept [142, 72] [kb] W w' ∧ (∀ j, 3 ≤ j → cur'[j]? = cur[j]?) ∧ cur'.size = cur.size ∧ (∀ b, bM = some b → W.heap.size ≤ b) ∧ E.length ≤ t.flat.length
def EnterOk (t : Rx) : Prop := ∀ (W0 W : World) (B Tk kb : Nat) (cur : Array Value) (a : Option Addr) (n c : Nat), BookAt W B Tk kb cur [] [] none → B ≤ W.heap.size → RxAt W0 a t.flat → W0.heap.size ≤ B → Below W0.heap.size W0 W → t.flat.length = n → n ≤ 400 → n ≤ c ∧ c ≤ maxLen →
  Calls Try.prog 54 #[.pointer (some ⟨kb, 0, none⟩), .slice a n c] W (EnterPost t W B Tk kb cur)
theorem book_new (w : World) (B : Nat) (hB : B ≤ w.heap.size) : BookAt (w.alloc (.cells #[.slice none 0 0, .map none, .slice none 0 0] 113)) B 113 w.heap.size #[.slice none 0 0, .map none, .slice none 0 0] [] [] none :=
  ⟨⟨St.new _ _ _, ⟨_, rfl, World.ownsRow_nil _ _ _ _⟩, rfl, fun _ => rfl, fun b e => by cases e⟩, ⟨_, rfl, World.ownsRow_nil _ _ _ _⟩, rfl, hB, by decide, by decide⟩

set_option maxHeartbeats 1000000 in
set_option maxRecDepth 100000 in
theorem factsOf_any (t : Rx) (hen : EnterOk t) (a : Option Addr) (n c : Nat) (w : World) (hL : RxAt w a t.flat) (hn : t.flat.length = n) (hmax : n ≤ 400) (hcap : n ≤ c ∧ c ≤ maxLen) :
    Calls Try.prog 32 #[.slice a n c] w fun e w' => ∃ f : Fa, e = .returned (.agg #[.bool f.e, .int .u64 ((wd f.s 0 : Nat) : Int), .int .u64 ((wd f.s 1 : Nat) : Int), .int .u64 ((wd f.s 2 : Nat) : Int), .int .u64 ((wd f.s 3 : Nat) : Int), .int .i64 ((f.n : Nat) : Int)]) ∧ (f.e = true ↔ Lan t []) ∧ (∀ b, b < 256 → (f.s b = true ↔ ∃ s, Lan t (b :: s))) ∧ Below w.heap.size w w' := by
  have hB0 : Below w.heap.size w (w.alloc (.cells #[.bool false, .int .u64 0, .int .u64 0, .int .u64 0, .int .u64 0, .int .i64 0] 72)) := (Below.refl _ _).alloc (Nat.le_refl _) _
  have hB1 := hB0.alloc (by simp) (.cells #[.slice none 0 0, .map none, .slice none 0 0] 113)
  have hK := book_new (w.alloc (.cells #[.bool false, .int .u64 0, .int .u64 0, .int .u64 0, .int .u64 0, .int .i64 0] 72)) (w.heap.size + 1) (by simp)
  have hs1 : (w.alloc (.cells #[.bool false, .int .u64 0, .int .u64 0, .int .u64 0, .int .u64 0, .int .i64 0] 72)).heap.size = w.heap.size + 1 := by simp
  rw [hs1] at hK
  have hR := (St.new w 72 #[.bool false, .int .u64 0, .int .u64 0, .int .u64 0, .int .u64 0, .int .i64 0]).alloc (.cells #[.slice none 0 0, .map none, .slice none 0 0] 113)
  have HC := Lib.hid (hen w _ (w.heap.size + 1) 113 (w.heap.size + 1) #[.slice none 0 0, .map none, .slice none 0 0] a n c hK (by simp) hL (by omega) hB1 hn hmax hcap)
  have HR := Lib.hid hR
  have HB := Lib.hid hB1
  clear hL hn hcap hB0 hB1 hK hR hs1
  go_enter Try.func32, Try.ntmps32
  go_wp2_with fail
  refine HC.out.mono ?_
  rintro e w5 ⟨i, E, F, cur', bM, u, rfl, hK5, hI, hD, hLan, hlen, hb5, hk5, -, -, -, -⟩
  obtain ⟨f, hf, hfo, hfl⟩ := hI.get hD
  obtain ⟨hi, hfe⟩ := List.getElem?_eq_some_iff.1 hf
  obtain ⟨vF, hvF, hOF⟩ := hK5.fac
  obtain ⟨aF, cF, rfl⟩ := ownsRow_slice hOF
  obtain ⟨gF, rfl, hgB, hgF, hcell⟩ := ownsRow_read hOF (by omega)
  have hcapF : F.length ≤ cF ∧ cF ≤ maxLen := by
    rcases hOF.2 with ⟨h1, _⟩ | ⟨g, cap, cu, h1, _, _, h2, h3, _⟩
    · cases h1
    · injection h1 with _ _ h4
      subst h4
      exact ⟨h2, h3⟩
  have k2 : w5.cell? ⟨w.heap.size + 1, 2, none⟩ = some (.slice (some ⟨gF, 0, none⟩) F.length cF) := by rw [hK5.num.st.cell, hvF]
  have hy : ∀ j, j < 6 → w5.cell? ⟨gF, i * 6 + j, none⟩ = (faCells f)[j]? := fun j hj => by rw [(hcell (i * 6 + j) (by omega)).1, fas_get F i hi j hj, hfe]
  have y0 := hy 0 (by decide)
  have y1 := hy 1 (by decide)
  have y2 := hy 2 (by decide)
  have y3 := hy 3 (by decide)
  have y4 := hy 4 (by decide)
  have y5 := hy 5 (by decide)
  simp only [faCells, List.getElem?_cons_zero, List.getElem?_cons_succ, Nat.add_zero] at y0 y1 y2 y3 y4 y5
  have hR5 : St w5 72 w.heap.size #[.bool false, .int .u64 0, .int .u64 0, .int .u64 0, .int .u64 0, .int .i64 0] := HR.out.below hb5 (by omega)
  have hB5 : Below w.heap.size w w5 := HB.out.trans (hb5.mono (by omega))
  have HF : Hid ((f.e = true ↔ Lan t []) ∧ (∀ b, b < 256 → (f.s b = true ↔ ∃ s, Lan t (b :: s)))) := Lib.hid ⟨hfo.1.trans (hLan []), fun b hb => (hfo.2.1 b hb).trans ⟨fun ⟨s, h⟩ => ⟨s, (hLan _).1 h⟩, fun ⟨s, h⟩ => ⟨s, (hLan _).2 h⟩⟩⟩
  obtain ⟨v0, v1, v2, v3, v4, v5⟩ := row6 (hR5.set6 (.bool f.e) (.int .u64 ((wd f.s 0 : Nat) : Int)) (.int .u64 ((wd f.s 1 : Nat) : Int)) (.int .u64 ((wd f.s 2 : Nat) : Int)) (.int .u64 ((wd f.s 3 : Nat) : Int)) (.int .i64 ((f.n : Nat) : Int)))
  obtain ⟨r0, r1, r2, r3, r4, r5⟩ := row6 hR5
  have f0 := hR5.thaw 0
  have f1 := hR5.thaw 1
  have f2 := hR5.thaw 2
  have f3 := hR5.thaw 3
  have f4 := hR5.thaw 4
  have f5 := hR5.thaw 5
  obtain ⟨nF, hnF⟩ : ∃ nF, F.length = nF := ⟨_, rfl⟩
  rw [hnF] at k2 hi hcapF
  obtain ⟨hc1, hc2⟩ := hcapF
  unfold maxLen at hc2
  have ii : (i : Int) < (nF : Int) := by omega
  clear hy hcell hK5 hI hD hLan hlen hfo hfl hf hfe hOF hvF hnF hk5 hb5
  go_wp2_with fail
  exact bodyPost_ret (v := .agg #[.bool f.e, .int .u64 ((wd f.s 0 : Nat) : Int), .int .u64 ((wd f.s 1 : Nat) : Int), .int .u64 ((wd f.s 2 : Nat) : Int), .int .u64 ((wd f.s 3 : Nat) : Int), .int .i64 ((f.n : Nat) : Int)]) (by simp [results, Try.results32, go_sem, v0, v1, v2, v3, v4, v5]) rfl ⟨f, rfl, HF.out.1, HF.out.2, below6 hB5 (Nat.le_refl _) _ _ _ _ _ _⟩
end Go.Proofs.Ytkdhdlokilgccaa

namespace Go.Proofs.Ytkdhdlokilgccaa
open Go.RowKit Go.Maps Go.WideElems Go.ChangeMaps Go.MapKept
set_option linter.unusedVariables false

theorem add_mid' (b o j : Nat) : (⟨b, o, none⟩ : Addr).add j = ⟨b, o + j, none⟩ := by unfold Addr.add; split <;> simp_all
/-- The first of a row that the call owns are a row of its own. -/
theorem own_take {w : World} {B t size n c : Nat} {a : Option Addr} {xs : List Value} (h : w.ownsRow B t size (.slice a n c) n xs) (k : Nat) (hk : k ≤ n) : w.ownsRow B t size (.slice a k c) k (xs.take (k * size)) := by
  have hl : k * size ≤ n * size := Nat.mul_le_mul_right size hk
  refine ⟨by rw [List.length_take, h.1]; omega, ?_⟩
  rcases h.2 with ⟨h1, h2⟩ | ⟨g, cap, cur, h1, h3, h4, h5, h6, h7, h8⟩
  · injection h1 with e1 e2 e3
    have hk0 : k = 0 := by omega
    subst hk0
    rw [e1, e3]
    exact Or.inl ⟨rfl, rfl⟩
  · injection h1 with e1 e2 e3
    rw [e1, e3]
    refine Or.inr ⟨g, cap, cur, rfl, h3, h4, by omega, h6, h7, ?_⟩
    rw [← h8, List.take_take, Nat.min_eq_left hl]
theorem info_int1 : (Try.prog.info? 3).map (·.size) = some 1 := by kernel_rfl
/-- The operands' numbers, copied into an entry: none, one, two. -/
theorem enter_copy (W : World) (ty : TypeId) (be : Nat) (C : Array Value) (hS : St W 142 be C) (h7 : C.size = 7) (g o k c : Nat) (cs : List Value) (hk : cs.length = k) (h2 : k ≤ 2)
    (hsrc : ∀ j v, cs[j]? = some v → W.cell? ⟨g, o + j, none⟩ = some v) (h1 : ∀ v ∈ cs, v.oneCell' = true) :
    (Builtin.copy_ #[61, 61] ty #[.slice (some ⟨be, 5, none⟩) 2 2, .slice (some ⟨g, o, none⟩) k c]).run Try.prog W = .ok (goInt k) (W.setCells be 5 cs) := by
  have := run_copy_cells (P := Try.prog) W 61 61 ty 3 be 5 2 2 ⟨g, o, none⟩ k c cs Try.underlying61 info_int1 (by rw [hk]; exact (Nat.min_eq_left h2).symm)
    (fun j v hj => by rw [add_mid']; exact hsrc j v hj) (fun j hj => by rw [hS.cell, Array.getElem?_eq_getElem (by omega)]; rfl) (fun j _ => hS.thaw _) h1
  rw [hk] at this
  exact this
theorem enter_copy_nil (W : World) (ty : TypeId) (be c : Nat) (a : Option Addr) :
    (Builtin.copy_ #[61, 61] ty #[.slice (some ⟨be, 5, none⟩) 2 2, .slice a 0 c]).run Try.prog W = .ok (goInt 0) W :=
  run_copy_none (P := Try.prog) W 61 61 ty 3 (some ⟨be, 5, none⟩) a 2 2 0 c Try.underlying61 info_int1 (by simp)
end Go.Proofs.Ytkdhdlokilgccaa

namespace Go.Proofs.Ytkdhdlokilgccaa
open Go.RowKit Go.Maps Go.WideElems Go.ChangeMaps Go.MapKept
set_option linter.unusedVariables false

theorem den_get {E : List Ex} {i : Nat} {t : Rx} (h : Den E i t) : ∃ y, E[i]? = some y := ⟨E[i]'h.lt, List.getElem?_eq_getElem h.lt⟩
theorem DenX.small {E : List Ex} {F : List Fa} (hI : Inv E F) {x : Ex} {t : Rx} (h : DenX E x t) (h0 : takesZ x.p.k = 0 → x.a ≤ 100000 ∧ x.b ≤ 100000) : x.a ≤ 100000 ∧ x.b ≤ 100000 := by
  have hs := hI.small
  rcases h with ⟨k, _⟩ | ⟨_, _, hb, s, hd, _⟩ | ⟨_, _, s, u, hd, hu, _⟩
  · exact h0 k
  · have := hd.lt; omega
  · have := hd.lt; have := hu.lt; omega

/-- An entry, made simpler: another of the same language. -/
theorem simpler_any (w : World) (B Tk kb : Nat) (cur : Array Value) (E : List Ex) (F : List Fa) (bM : Option Nat) (x : Ex) (t : Rx) (hK : BookAt w B Tk kb cur E F bM) (hI : Inv E F) (hx : DenX E x t) (hfx : x.fine) (h0 : takesZ x.p.k = 0 → x.a ≤ 100000 ∧ x.b ≤ 100000) :
    Calls Try.prog 71 #[.pointer (some ⟨kb, 0, none⟩), .agg #[.int .i64 x.p.k, .int .u64 ((wd x.p.p 0 : Nat) : Int), .int .u64 ((wd x.p.p 1 : Nat) : Int), .int .u64 ((wd x.p.p 2 : Nat) : Int), .int .u64 ((wd x.p.p 3 : Nat) : Int), .int .i64 ((x.a : Nat) : Int), .int .i64 ((x.b : Nat) : Int)]] w fun e w' => ∃ (y : Ex) (u : Rx), e = .returned (.agg #[.int .i64 y.p.k, .int .u64 ((wd y.p.p 0 : Nat) : Int), .int .u64 ((wd y.p.p 1 : Nat) : Int), .int .u64 ((wd y.p.p 2 : Nat) : Int), .int .u64 ((wd y.p.p 3 : Nat) : Int), .int .i64 ((y.a : Nat) : Int), .int .i64 ((y.b : Nat) : Int)]) ∧ DenX E y u ∧ (∀ s, Lan u s ↔ Lan t s) ∧ u.flat.length ≤ t.flat.length ∧ y.ok ∧ y.fine ∧ Below w.heap.size w w' := by
  have hsm := hx.small hI h0
  by_cases hk : takesZ x.p.k = 1
  · rcases id hx with ⟨k, _⟩ | ⟨_, _, hb, s, hd, _⟩ | ⟨k, _⟩
    · omega
    rotate_left
    · omega
    obtain ⟨y, hy⟩ := den_get hd
    obtain ⟨u, hu, hl, hle⟩ := simp_den hx hk hy
    obtain ⟨vE, hvE, hOE⟩ := hK.num.row
    obtain ⟨aE, cE, rfl⟩ := ownsRow_slice hOE
    have hlt := hd.lt
    obtain ⟨g, rfl, _, hg, hc⟩ := ownsRow_read hOE (by omega)
    have hye : E[x.a]'hlt = y := by rw [List.getElem?_eq_getElem hlt] at hy; exact Option.some.inj hy
    have hcap : E.length ≤ cE ∧ cE ≤ maxLen := by
      rcases hOE.2 with ⟨h1, _⟩ | ⟨g, cap, cu, h1, _, _, h2, h3, _⟩
      · cases h1
      · injection h1 with _ _ h4
        subst h4
        exact ⟨h2, h3⟩
    refine (simp_yes x y kb g E.length cE w hk hlt hcap hK.num.st.lt hg (by rw [hK.num.st.cell, hvE]) (fun j hj => by rw [(hc (x.a * 7 + j) (by omega)).1, exs_get E x.a hlt j hj, hye])).mono ?_
    rintro e w' ⟨rfl, hb'⟩
    have hsm2 : takesZ (simpOf x y).p.k = 0 → (simpOf x y).a ≤ 100000 ∧ (simpOf x y).b ≤ 100000 := by
      intro hz
      rcases hu with ⟨_, _, _⟩ | ⟨k, _⟩ | ⟨k, _⟩
      · unfold simpOf at hz ⊢
        split at hz
        · rename_i h1; rw [if_pos h1]; exact hsm
        · rename_i h1
          split at hz
          · omega
          · exact absurd hz (show takesZ 4 ≠ 0 by decide)
      · omega
      · omega
    obtain ⟨h1, h2⟩ := hu.small hI hsm2
    exact ⟨_, u, rfl, hu, hl, hle, hu.ok hI h1 h2, simp_fine hfx (hI.fine y (List.mem_of_getElem? hy)), hb'⟩
  · refine (simp_no x kb w hk).mono ?_
    rintro e w' ⟨rfl, hb⟩
    exact ⟨x, t, rfl, hx, fun _ => Iff.rfl, Nat.le_refl _, hx.ok hI hsm.1 hsm.2, hfx, hb⟩

/-- .. and its number. -/
def PutPost (w : World) (B Tk kb : Nat) (cur : Array Value) (E : List Ex) (F : List Fa) (bM : Option Nat) (x : Ex) (t : Rx) (e : Ending) (w' : World) : Prop :=
  ∃ (i : Nat) (E' : List Ex) (F' : List Fa) (cur' : Array Value) (bM' : Option Nat), e = .returned (.int .i64 ((i : Nat) : Int)) ∧ BookAt w' B Tk kb cur' E' F' bM' ∧ Inv E' F' ∧ Den E' i t ∧ E'[i]? = some x ∧ (E' = E ∨ E' = E ++ [x]) ∧ (∀ j, 3 ≤ j → cur'[j]? = cur[j]?) ∧ cur'.size = cur.size ∧ (bM' = bM ∨ ∃ b, bM' = some b ∧ w.heap.size ≤ b) ∧ Below B w w' ∧ Kept [] (bookBlks kb cur bM) w w' ∧ (∀ g, g ∈ bookBlks kb cur' bM' → g ∈ bookBlks kb cur bM ∨ w.heap.size ≤ g)
theorem put_any (w : World) (B Tk kb : Nat) (cur : Array Value) (E : List Ex) (F : List Fa) (bM : Option Nat) (x : Ex) (t : Rx) (hx : x.ok) (hfx : x.fine) (hK : BookAt w B Tk kb cur E F bM) (hI : Inv E F) (hB : B ≤ w.heap.size) (hd : DenX E x t) (ht : t.flat.length ≤ 400) (hE : E.length < 100000) :
    Calls Try.prog 70 #[.pointer (some ⟨kb, 0, none⟩), .agg #[.int .i64 x.p.k, .int .u64 ((wd x.p.p 0 : Nat) : Int), .int .u64 ((wd x.p.p 1 : Nat) : Int), .int .u64 ((wd x.p.p 2 : Nat) : Int), .int .u64 ((wd x.p.p 3 : Nat) : Int), .int .i64 ((x.a : Nat) : Int), .int .i64 ((x.b : Nat) : Int)]] w (PutPost w B Tk kb cur E F bM x t) := by
  obtain ⟨f, hJ, hf⟩ := hI.join hd ht
  refine (number_any w B Tk kb cur E F bM x f hx hK hB (by omega) hJ).mono ?_
  rintro e w' ⟨i, E', F', cur', bM', rfl, h1, h2, h3, h4, h5, h6, h7, h8⟩
  rcases h7 with ⟨rfl, rfl, y, hy, hyx⟩ | ⟨rfl, rfl, rfl, hnew⟩
  · obtain rfl := ex_inj (hI.fine y (List.mem_of_getElem? hy)).1 hfx.1 hyx
    exact ⟨i, E', F', cur', bM', rfl, h1, hI, hd.at hI hy, hy, Or.inl rfl, h2, h3, h4, h5, h6, h8⟩
  · exact ⟨_, _, _, cur', bM', rfl, h1, hI.put hd hf ht hE hfx hnew, hd.put, by simp, Or.inr rfl, h2, h3, h4, h5, h6, h8⟩
end Go.Proofs.Ytkdhdlokilgccaa

namespace Go.Proofs.Ytkdhdlokilgccaa
open Go.RowKit Go.Maps Go.WideElems Go.ChangeMaps Go.MapKept
set_option linter.unusedVariables false

/-- What stands beside a book still stands, step by step. -/
theorem kept_step {W wr w' : World} {B Tk kb : Nat} {cur : Array Value} {E : List Ex} {F : List Fa} {bM : Option Nat} (h : Kept [142, 72] [kb] W wr) (hK : BookAt wr B Tk kb cur E F bM) (hm : ∀ b, bM = some b → W.heap.size ≤ b) (k : Kept [] (bookBlks kb cur bM) wr w') : Kept [142, 72] [kb] W w' := by
  intro i o hi ho hb
  have h1 := h i o hi ho hb
  have hlt := (Array.getElem?_eq_some_iff.1 hi).1
  refine k i o h1 (fun _ _ _ _ => by simp) ?_
  obtain ⟨vE, hvE, hOE⟩ := hK.num.row
  obtain ⟨vF, hvF, hOF⟩ := hK.fac
  intro hg
  simp only [bookBlks, List.mem_cons, List.mem_append, Option.mem_toList] at hg
  rcases hg with rfl | hg | hg | hg
  · exact hb (by simp)
  · have := hm i hg; omega
  · obtain ⟨c, fz, hc⟩ := own_kind hOE i ((rowBlk_of hvE i).1 hg)
    rw [h1] at hc
    exact ho c _ fz (Option.some.inj hc) (by simp)
  · obtain ⟨c, fz, hc⟩ := own_kind hOF i ((rowBlk_of hvF i).1 hg)
    rw [h1] at hc
    exact ho c _ fz (Option.some.inj hc) (by simp)
/-- The state of enter behind k pieces: the forest so far, the numbers of its trees. -/
structure EnterInv (W : World) (B Tk kb : Nat) (cur : Array Value) (l : List Pc) (k : Nat) (v : Value) (wr : World) (E : List Ex) (F : List Fa) (cur' : Array Value) (bM : Option Nat) (ts : List Rx) (R : List Nat) : Prop where
  book : BookAt wr B Tk kb cur' E F bM
  inv : Inv E F
  row : wr.ownsRow W.heap.size 3 1 v R.length (nums64 R)
  len : R.length = ts.length
  small : E.length ≤ k
  flat : ts.flatMap Rx.flat = l.take k
  wf : ∀ t ∈ ts, t.wf
  den : ∀ j (h1 : j < R.length) (h2 : j < ts.length), ∃ u, Den E R[j] u ∧ (∀ s, Lan u s ↔ Lan ts[j] s) ∧ u.flat.length ≤ ts[j].flat.length
  chk : chkGo (l.drop k) ts.length = some 1
  below : Below B W wr
  kept : Kept [142, 72] [kb] W wr
  oth : (∀ j, 3 ≤ j → cur'[j]? = cur[j]?) ∧ cur'.size = cur.size
  new : ∀ b, bM = some b → W.heap.size ≤ b
theorem EnterInv.start {W : World} {B Tk kb : Nat} {cur : Array Value} {l : List Pc} (hK : BookAt W B Tk kb cur [] [] none) (hc : chkGo l 0 = some 1) : EnterInv W B Tk kb cur l 0 (.slice none 0 0) W [] [] cur none [] [] :=
  ⟨hK, Inv.nil, World.ownsRow_nil _ _ _ _, rfl, Nat.le_refl _, by simp, by simp, fun j h1 _ => by simp at h1, hc, Below.refl _ _, Kept.refl _ _ _, ⟨fun _ _ => rfl, rfl⟩, fun b e => by cases e⟩
theorem flat_top_eq (a t : Rx) (h : a.flat = t.flat) : a.top = t.top := by
  have h1 := a.flat_top
  have h2 := t.flat_top
  rw [h, h2] at h1
  exact (Option.some.inj h1).symm
/-- A list of pieces is one tree's alone. -/
theorem flat_one (a t : Rx) (ha : a.wf) (ht : t.wf) (h : a.flat = t.flat) : a = t := by
  induction a generalizing t with
  | leaf x =>
    have hx := flat_top_eq _ _ h
    cases t with
    | leaf y => exact congrArg Rx.leaf hx
    | un y s => have h1 := ha.1; have h2 := ht.1; rw [show x = y from hx] at h1; omega
    | bin y s u => have h1 := ha.1; have h2 := ht.1; rw [show x = y from hx] at h1; omega
  | un x r ih =>
    have hx := flat_top_eq _ _ h
    cases t with
    | leaf y => have h1 := ha.1; have h2 := ht.1; rw [show x = y from hx] at h1; omega
    | un y s =>
      have hx' : x = y := hx
      subst hx'
      have h2 : r.flat = s.flat := List.append_cancel_right (show r.flat ++ [x] = s.flat ++ [x] from h)
      rw [ih s ha.2.2 ht.2.2 h2]
    | bin y s u => have h1 := ha.1; have h2 := ht.1; rw [show x = y from hx] at h1; omega
  | bin x r q ihr ihq =>
    have hx := flat_top_eq _ _ h
    cases t with
    | leaf y => have h1 := ha.1; have h2 := ht.1; rw [show x = y from hx] at h1; omega
    | un y s => have h1 := ha.1; have h2 := ht.1; rw [show x = y from hx] at h1; omega
    | bin y s u =>
      have hx' : x = y := hx
      subst hx'
      have h1 : r.flat ++ (q.flat ++ [x]) = s.flat ++ (u.flat ++ [x]) := h
      have hl := congrArg List.length h1
      simp at hl
      have hq := q.flat_pos
      have hu := u.flat_pos
      have e1 := startT_tree r.flat [x] q ha.2.2.2 (r.flat.length + q.flat.length - 1) (by omega)
      have e2 := startT_tree s.flat [x] u ht.2.2.2 (r.flat.length + q.flat.length - 1) (by omega)
      rw [h1, e2] at e1
      obtain ⟨h2, h3⟩ := List.append_inj h1 e1.symm
      have h4 : q.flat = u.flat := List.append_cancel_right h3
      rw [ihr s ha.2.2.1 ht.2.2.1 h2, ihq u ha.2.2.2 ht.2.2.2 h4]
/-- At the end one tree is left: the whole. -/
theorem EnterInv.whole {W : World} {B Tk kb : Nat} {cur : Array Value} {t : Rx} {n : Nat} {v : Value} {wr : World} {E : List Ex} {F : List Fa} {cur' : Array Value} {bM : Option Nat} {ts : List Rx} {R : List Nat} (h : EnterInv W B Tk kb cur t.flat n v wr E F cur' bM ts R) (hn : t.flat.length = n) (hw : t.wf) : R.length = 1 ∧ ∃ (i : Nat) (u : Rx), R = [i] ∧ Den E i u ∧ (∀ s, Lan u s ↔ Lan t s) ∧ u.flat.length ≤ t.flat.length := by
  have h1 := h.chk
  rw [List.drop_eq_nil_of_le (by omega)] at h1
  have h2 : ts.length = 1 := by
    have h3 : (ts.length : Int) = 1 := Option.some.inj h1
    omega
  have hR := h.len
  match ts, R, h2, hR, h with
  | [a], [i], _, _, h =>
    obtain ⟨u, hu, hl, hle⟩ := h.den 0 (by simp) (by simp)
    have hf := h.flat
    rw [List.take_of_length_le (by omega)] at hf
    simp at hf
    have ha := h.wf a (by simp)
    have e : a = t := flat_one a t ha hw hf
    subst e
    exact ⟨rfl, i, u, rfl, hu, hl, hle⟩
end Go.Proofs.Ytkdhdlokilgccaa

namespace Go.Proofs.Ytkdhdlokilgccaa
open Go.RowKit

end Go.Proofs.Ytkdhdlokilgccaa

namespace Go.Proofs.Ytkdhdlokilgccaa
open Go.RowKit

/-- The number with n digits f of s bits each. -/
def dg (f : Nat → Nat) (s : Nat) : Nat → Nat
  | 0 => 0
  | n + 1 => 2 ^ (s * n) * f n + dg f s n
/-- The sum of n digits. -/
def sm (f : Nat → Nat) : Nat → Nat
  | 0 => 0
  | n + 1 => sm f n + f n
theorem sm_pair (f : Nat → Nat) (n : Nat) : sm (fun i => f (2 * i + 1) + f (2 * i)) n = sm f (2 * n) := by
  induction n with
  | zero => rfl
  | succ n ih =>
    rw [show 2 * (n + 1) = 2 * n + 1 + 1 by omega]
    simp only [sm, ih]
    omega
theorem dg_lt (f : Nat → Nat) (s : Nat) (h : ∀ i, f i < 2 ^ s) (n : Nat) : dg f s n < 2 ^ (s * n) := by
  induction n with
  | zero => simp [dg]
  | succ n ih =>
    have h1 := h n
    have h2 : 2 ^ (s * n) * (f n + 1) ≤ 2 ^ (s * n) * 2 ^ s := Nat.mul_le_mul_left _ h1
    have h3 : 2 ^ (s * (n + 1)) = 2 ^ (s * n) * 2 ^ s := by rw [Nat.mul_add, Nat.mul_one, Nat.pow_add]
    rw [Nat.mul_add, Nat.mul_one] at h2
    simp only [dg]
    omega
theorem dg_bit (f : Nat → Nat) (s : Nat) (hs : 0 < s) (h : ∀ i, f i < 2 ^ s) (n k : Nat) : (dg f s n).testBit k = (decide (k / s < n) && (f (k / s)).testBit (k % s)) := by
  induction n with
  | zero => simp [dg]
  | succ n ih =>
    simp only [dg]
    rw [Nat.testBit_two_pow_mul_add _ (dg_lt f s h n)]
    by_cases hk : k < s * n
    · have h1 : k / s < n := Nat.div_lt_of_lt_mul hk
      rw [if_pos hk, ih, decide_eq_true h1, decide_eq_true (by omega : k / s < n + 1)]
    · rw [if_neg hk]
      have h1 : n ≤ k / s := (Nat.le_div_iff_mul_le hs).2 (by rw [Nat.mul_comm]; omega)
      have h2 := Nat.div_add_mod k s
      by_cases e : k / s = n
      · rw [e] at h2
        have h3 : k - s * n = k % s := by omega
        rw [h3, e, decide_eq_true (by omega : n < n + 1)]
        simp
      · rw [decide_eq_false (by omega : ¬ k / s < n + 1)]
        have h4 : s * (n + 1) ≤ s * (k / s) := Nat.mul_le_mul_left _ (by omega)
        rw [Nat.mul_add, Nat.mul_one] at h4
        have h5 : f n < 2 ^ (k - s * n) := Nat.lt_of_lt_of_le (h n) (Nat.pow_le_pow_right (by decide) (by omega))
        rw [Nat.testBit_lt_two_pow h5]; simp
theorem dg_add (f g : Nat → Nat) (s n : Nat) : dg f s n + dg g s n = dg (fun i => f i + g i) s n := by
  induction n with
  | zero => rfl
  | succ n ih => simp only [dg]; rw [← ih, Nat.mul_add]; omega
theorem dg_down (f : Nat → Nat) (s n : Nat) : dg f s (n + 1) = 2 ^ s * dg (fun i => f (i + 1)) s n + f 0 := by
  induction n with
  | zero => simp [dg]
  | succ n ih =>
    rw [dg, ih]
    simp only [dg]
    have h3 : 2 ^ (s * (n + 1)) = 2 ^ s * 2 ^ (s * n) := by rw [Nat.mul_add, Nat.mul_one, Nat.pow_add, Nat.mul_comm]
    rw [h3, Nat.mul_add, Nat.mul_assoc]
    omega
theorem dg_shift (f : Nat → Nat) (s n : Nat) (h : f 0 < 2 ^ s) : dg f s (n + 1) / 2 ^ s = dg (fun i => f (i + 1)) s n := by
  rw [dg_down, Nat.mul_add_div (Nat.two_pow_pos s), Nat.div_eq_of_lt h, Nat.add_zero]

/-- The digits at even places. -/
theorem dg_even (f : Nat → Nat) (s n : Nat) (hs : s = 1 ∨ s = 2 ∨ s = 4) (h : ∀ i, f i < 2 ^ s) : dg f s (2 * n) &&& dg (fun _ => 2 ^ s - 1) (2 * s) n = dg (fun i => f (2 * i)) (2 * s) n := by
  have hm : ∀ i : Nat, (fun _ : Nat => 2 ^ s - 1) i < 2 ^ (2 * s) := by
    intro i
    have : 2 ^ s ≤ 2 ^ (2 * s) := Nat.pow_le_pow_right (by decide) (by omega)
    have := Nat.two_pow_pos s
    show 2 ^ s - 1 < 2 ^ (2 * s)
    omega
  have hf : ∀ i, (fun i => f (2 * i)) i < 2 ^ (2 * s) := fun i => Nat.lt_of_lt_of_le (h (2 * i)) (Nat.pow_le_pow_right (by decide) (by omega))
  refine Nat.eq_of_testBit_eq fun k => ?_
  rw [Nat.testBit_and, dg_bit _ s (by omega) h, dg_bit _ (2 * s) (by omega) hm, dg_bit _ (2 * s) (by omega) hf]
  by_cases hr : k % (2 * s) < s
  · have e1 : k / s = 2 * (k / (2 * s)) ∧ k % s = k % (2 * s) := by rcases hs with rfl | rfl | rfl <;> omega
    rw [e1.1, e1.2, Nat.testBit_two_pow_sub_one, decide_eq_true hr]
    by_cases hn : k / (2 * s) < n
    · rw [decide_eq_true hn, decide_eq_true (by omega : 2 * (k / (2 * s)) < 2 * n)]; simp
    · rw [decide_eq_false hn, decide_eq_false (by omega : ¬ 2 * (k / (2 * s)) < 2 * n)]; simp
  · rw [Nat.testBit_two_pow_sub_one, decide_eq_false hr]
    have h5 : f (2 * (k / (2 * s))) < 2 ^ (k % (2 * s)) := Nat.lt_of_lt_of_le (h _) (Nat.pow_le_pow_right (by decide) (by omega))
    rw [Nat.testBit_lt_two_pow h5]; simp
/-- The digits at odd places. -/
theorem dg_odd (f : Nat → Nat) (s n : Nat) (hs : s = 1 ∨ s = 2 ∨ s = 4) (h : ∀ i, f i < 2 ^ s) (hl : f (2 * n) = 0) : (dg f s (2 * n) / 2 ^ s) &&& dg (fun _ => 2 ^ s - 1) (2 * s) n = dg (fun i => f (2 * i + 1)) (2 * s) n := by
  have e : dg f s (2 * n) / 2 ^ s = dg (fun i => f (i + 1)) s (2 * n) := by
    rw [← dg_shift f s (2 * n) (h 0)]
    simp only [dg, hl, Nat.mul_zero, Nat.zero_add]
  rw [e]
  exact dg_even (fun i => f (i + 1)) s n hs (fun i => h (i + 1))

/-- The bits of a word. -/
def bt (p : Nat → Bool) (j : Nat) (i : Nat) : Nat := if i < 64 then (if p (64 * j + i) then 1 else 0) else 0
theorem wdUp_dg (p : Nat → Bool) (j n : Nat) (h : n ≤ 64) : wdUp p j n = dg (bt p j) 1 n := by
  induction n with
  | zero => rfl
  | succ n ih =>
    simp only [wdUp, dg, ih (by omega), bt, if_pos (by omega : n < 64), Nat.one_mul]
    split <;> simp <;> omega
/-- How many of the first n bits of a word are set. -/
def cnt (p : Nat → Bool) (j n : Nat) : Nat := sm (bt p j) n
end Go.Proofs.Ytkdhdlokilgccaa
