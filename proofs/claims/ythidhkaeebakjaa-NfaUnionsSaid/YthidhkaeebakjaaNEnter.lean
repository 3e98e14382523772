import Derived.Test.YthidhkaeebakjaaNNew
import Derived.Maps.AppendAt
namespace Go.Proofs.Ythidhkaeebakjaa
open Go.RowKit Go.Maps Go.WideElems Go.ChangeMaps Go.MapKept
set_option linter.unusedVariables false
set_option linter.unusedSimpArgs false

/-- A walk under way. V is the world in which it was made; P tells where it is, l lists that; vK is a row that is kept aside. -/
structure WkR (w V : World) (M bW gF gB gI : Nat) (P : Nat → Bool) (l : List Nat) (vL v5 vK : Value) (nK : Nat) (xK : List Value) (wr : World) : Prop where
  kept : Kept [] [bW, gI] V wr
  below : Below w.heap.size w wr
  sw : St wr 78 bW #[.slice (some ⟨gF, 0, none⟩) M M, .slice (some ⟨gB, 0, none⟩) M M, .slice (some ⟨gI, 0, none⟩) M M, vL, v5]
  inn : wr.ownsRow w.heap.size 4 1 (.slice (some ⟨gI, 0, none⟩) M M) M (bls P M)
  lst : wr.ownsRow V.heap.size 3 1 vL l.length (nums64 l)
  kp : wr.ownsRow V.heap.size 3 1 vK nK xK
  sep : ∀ b, vL.ownBlock = some b → vK.ownBlock ≠ some b
  lo : w.heap.size ≤ bW ∧ w.heap.size ≤ gI ∧ V.heap.size ≤ wr.heap.size ∧ w.heap.size ≤ V.heap.size
theorem own_kinds {w : World} {B B' t t' s s' n n' : Nat} {v v' : Value} {xs xs' : List Value} (h : w.ownsRow B t s v n xs) (h' : w.ownsRow B' t' s' v' n' xs') (ht : t ≠ t') : ∀ g, v.ownBlock = some g → v'.ownBlock ≠ some g := by
  intro g e1 e2
  obtain ⟨c, fz, hc⟩ := own_kind h g e1
  obtain ⟨c', fz', hc'⟩ := own_kind h' g e2
  rw [hc] at hc'
  injection hc' with hc'
  injection hc' with _ hc'
  exact ht hc'
theorem WkR.fr {w V wr : World} {cs : Array Value} {M bW gF gB gI : Nat} {vF vB : Nat → Value} {L : List En} (HV : NwAt w cs M bW gF gB gI vF vB L V) (h : Kept [] [bW, gI] V wr) :
    GridAt wr w.heap.size 43 3 1 gF M vF (fun i => (rowF L i).length) (fun i => nums64 (rowF L i)) := by
  refine ⟨HV.fr.1.kept h (by simp) ?_, fun i hi => own_kept (HV.fr.2.1 i hi) h (by simp) (fun g hg => ?_), HV.fr.2.2⟩
  · have h1 := HV.fr.1.ne HV.sw (by decide)
    have h2 := own_ne HV.inn HV.fr.1 (by decide) gI rfl
    simp only [List.mem_cons, List.not_mem_nil, or_false, not_or]
    exact ⟨h1, fun e => h2 e.symm⟩
  · have h1 := own_ne (HV.fr.2.1 i hi) HV.sw (by decide) g hg
    have h2 := own_kinds (HV.fr.2.1 i hi) HV.inn (by decide) g hg
    simp only [List.mem_cons, List.not_mem_nil, or_false, not_or]
    exact ⟨h1, fun e => h2 (by rw [e]; rfl)⟩
theorem WkR.by_ {w V wr : World} {cs : Array Value} {M bW gF gB gI : Nat} {vF vB : Nat → Value} {L : List En} (HV : NwAt w cs M bW gF gB gI vF vB L V) (h : Kept [] [bW, gI] V wr) :
    GridAt wr w.heap.size 22 35 7 gB M vB (fun i => (rowB L i).length) (fun i => egs ((rowB L i).map En.z)) := by
  refine ⟨HV.by_.1.kept h (by simp) ?_, fun i hi => own_kept (HV.by_.2.1 i hi) h (by simp) (fun g hg => ?_), HV.by_.2.2⟩
  · have h1 := HV.by_.1.ne HV.sw (by decide)
    have h2 := own_ne HV.inn HV.by_.1 (by decide) gI rfl
    simp only [List.mem_cons, List.not_mem_nil, or_false, not_or]
    exact ⟨h1, fun e => h2 e.symm⟩
  · have h1 := own_ne (HV.by_.2.1 i hi) HV.sw (by decide) g hg
    have h2 := own_kinds (HV.by_.2.1 i hi) HV.inn (by decide) g hg
    simp only [List.mem_cons, List.not_mem_nil, or_false, not_or]
    exact ⟨h1, fun e => h2 (by rw [e]; rfl)⟩
theorem WkR.start {w V : World} {cs : Array Value} {M bW gF gB gI : Nat} {vF vB : Nat → Value} {L : List En} (HV : NwAt w cs M bW gF gB gI vF vB L V) : WkR w V M bW gF gB gI (fun _ => false) [] (.slice none 0 0) (.slice none 0 0) (.slice none 0 0) 0 [] V :=
  ⟨Kept.refl _ _ _, HV.below, HV.sw, HV.inn, World.ownsRow_nil _ _ _ _, World.ownsRow_nil _ _ _ _, fun b e => by simp [Value.ownBlock] at e, HV.lo.1, HV.lo.2.2.2, Nat.le_refl _, HV.below.size⟩
theorem WkR.keep {w V wr w1 : World} {M bW gF gB gI nK : Nat} {P : Nat → Bool} {l : List Nat} {vL v5 vK : Value} {xK : List Value} (h : WkR w V M bW gF gB gI P l vL v5 vK nK xK wr) (k : Below wr.heap.size wr w1) : WkR w V M bW gF gB gI P l vL v5 vK nK xK w1 :=
  ⟨h.kept.below k, h.below.trans (k.mono h.below.size), h.sw.keep k, ownsRow_keep h.inn k, ownsRow_keep h.lst k, ownsRow_keep h.kp k, h.sep, h.lo.1, h.lo.2.1, Nat.le_trans h.lo.2.2.1 k.size, h.lo.2.2.2⟩
theorem row5w {w : World} {g t : Nat} {c0 c1 c2 c3 c4 : Value} (h : St w t g #[c0, c1, c2, c3, c4]) : w.cell? ⟨g, 0, none⟩ = some c0 ∧ w.cell? ⟨g, 1, none⟩ = some c1 ∧ w.cell? ⟨g, 2, none⟩ = some c2 ∧ w.cell? ⟨g, 3, none⟩ = some c3 ∧ w.cell? ⟨g, 4, none⟩ = some c4 :=
  ⟨h.at_ 0, h.at_ 1, h.at_ 2, h.at_ 3, h.at_ 4⟩
/-- A store of a truth. -/
theorem WkR.put {w V wr : World} {M bW gF gB gI nK : Nat} {P : Nat → Bool} {l : List Nat} {vL v5 vK : Value} {xK : List Value} (h : WkR w V M bW gF gB gI P l vL v5 vK nK xK wr) (j : Nat) (hj : j < M) (v : Bool) : WkR w V M bW gF gB gI (fun i => if i = j then v else P i) l vL v5 vK nK xK (wr.setCell ⟨gI, j, none⟩ (.bool v)) := by
  obtain ⟨c, fz, hc⟩ := own_kind h.inn gI rfl
  have hset : ∀ {B t n : Nat} {u : Value} {xs : List Value}, wr.ownsRow B t 1 u n xs → t ≠ 4 → (wr.setCell ⟨gI, j, none⟩ (.bool v)).ownsRow B t 1 u n xs := fun ho ht =>
    own_kept (ts := []) (bs := [gI]) ho ((Kept.refl _ _ _).setCell _ _ (Or.inl (by simp))) (by simp) (fun g hg e => by
      simp at e
      subst e
      exact own_kinds ho h.inn ht g hg rfl)
  refine ⟨h.kept.setCell _ _ (Or.inl (by simp)), h.below.setCell (p := ⟨gI, j, none⟩) h.lo.2.1 _, h.sw.far (p := ⟨gI, j, none⟩) (fun e => own_ne h.inn h.sw (by decide) gI rfl e.symm) _, ?_, hset h.lst (by decide), hset h.kp (by decide), h.sep, h.lo.1, h.lo.2.1, ?_, h.lo.2.2.2⟩
  · rw [← bls_setv]
    exact own_put h.inn j hj _
  · have := h.lo.2.2.1
    simpa [World.setCell] using this
theorem WkR.cell {w V wr : World} {M bW gF gB gI nK : Nat} {P : Nat → Bool} {l : List Nat} {vL v5 vK : Value} {xK : List Value} (h : WkR w V M bW gF gB gI P l vL v5 vK nK xK wr) (j : Nat) (hj : j < M) : wr.cell? ⟨gI, j, none⟩ = some (.bool (P j)) ∧ wr.frozen? ⟨gI, j, none⟩ = false := by
  obtain ⟨g, e, _, _, hc⟩ := ownsRow_read h.inn (by omega)
  injection e with e
  injection e with e
  subst e
  obtain ⟨h1, h2⟩ := hc j (by omega)
  exact ⟨by rw [h1]; simp [bls, hj], h2⟩
theorem WkR.app {w V W w5 : World} {M bW gF gB gI nK : Nat} {P : Nat → Bool} {l : List Nat} {vL v5 vK v' : Value} {xK : List Value} (h : WkR w V M bW gF gB gI P l vL v5 vK nK xK W) (s : Nat) (ho : w5.ownsRow V.heap.size 3 1 v' (l.length + 1) (nums64 l ++ [.int .i64 ((s : Nat) : Int)])) (hg : W.grownBy w5 vL.ownBlock)
    (hat : v'.ownBlock = vL.ownBlock ∨ v'.ownBlock = some W.heap.size) : WkR w V M bW gF gB gI P (l ++ [s]) v' v5 vK nK xK (w5.setCell ⟨bW, 3, none⟩ v') := by
  have hsw := h.sw.grown_own h.lst (by decide) hg
  have hge := hg.size
  have hB : Below w.heap.size w w5 := h.below.grown hg h.below.size (fun g e => Nat.le_trans h.lo.2.2.2 (own_above h.lst g e))
  refine ⟨(h.kept.grown hg (fun g e => Or.inr (Or.inl (own_above h.lst g e)))).setCell _ _ (Or.inl (by simp)), hB.setCell (p := ⟨bW, 3, none⟩) h.lo.1 _, ?_, own_set (own_grown_own h.inn h.lst (by decide) hg) hsw (by decide) _ _, ?_, own_set (own_grown h.kp hg (fun g e1 e2 => h.sep g e2.symm e1)) hsw (by decide) _ _, fun b e1 e2 => ?_, h.lo.1, h.lo.2.1, ?_, h.lo.2.2.2⟩
  · have := hsw.set 3 v'
    simpa using this
  · rw [nums64_snoc, List.length_append]
    exact own_set ho hsw (by decide) _ _
  · rcases hat with h1 | h1
    · exact h.sep b (by rw [← h1]; exact e1) e2
    · rw [h1] at e1
      injection e1 with e1
      obtain ⟨c, fz, hc⟩ := own_kind h.kp b e2
      have := (Array.getElem?_eq_some_iff.1 hc).1
      omega
  · have := h.lo.2.2.1
    simp [World.setCell]
    omega
def EntPost (w V : World) (M bW gF gB gI : Nat) (P : Nat → Bool) (l : List Nat) (vL v5 vK : Value) (nK : Nat) (xK : List Value) (s : Nat) (e : Ending) (w' : World) : Prop :=
  ∃ vL', e = .returned (.tuple #[]) ∧ WkR w V M bW gF gB gI (ins P s) (if P s = true then l else l ++ [s]) vL' v5 vK nK xK w'

set_option maxHeartbeats 1000000 in
set_option maxRecDepth 100000 in
theorem enter_any (w V : World) (M bW gF gB gI : Nat) (P : Nat → Bool) (l : List Nat) (vL v5 vK : Value) (nK : Nat) (xK : List Value) (wr : World) (h : WkR w V M bW gF gB gI P l vL v5 vK nK xK wr) (hM : M ≤ 1000000) (hl : l.length ≤ 1000000) (s : Nat) (hs : s < M) :
    Calls Try.prog 33 #[.pointer (some ⟨bW, 0, none⟩), .int .i64 ((s : Nat) : Int)] wr (EntPost w V M bW gF gB gI P l vL v5 vK nK xK s) := by
  obtain ⟨aL, cL, rfl⟩ := ownsRow_slice h.lst
  obtain ⟨c0, c1, c2, c3, c4⟩ := row5w h.sw
  obtain ⟨d0, d1⟩ := h.cell s hs
  have i1 : (s : Int) < (M : Int) := by omega
  have H := Lib.hid h
  rcases hp : P s with _ | _
  · rw [hp] at d0
    have h1 := h.put s hs true
    rw [ins_if] at h1
    obtain ⟨q, hq⟩ : ∃ q, l.length = q := ⟨_, rfl⟩
    have H1 := Lib.hid h1
    obtain ⟨e0, e1, e2, e3, e4⟩ := row5w h1.sw
    have hO := h1.lst
    rw [hq] at hO e3 c3 hl
    obtain ⟨i0, hi, hz0, hz1, hz2⟩ := info_parts Try.info_int9
    have HP := Lib.hid (And.intro hp hq)
    have hV : V.heap.size ≤ (wr.setCell ⟨gI, s, none⟩ (.bool true)).heap.size := h1.lo.2.2.1
    clear h h1 hp hq
    go_enter Try.func33, Try.ntmps33
    go_upto_region 2 with fail
    generalize wr.setCell ⟨gI, s, none⟩ (.bool true) = W at H1 hO e0 e1 e2 e3 e4 hV ⊢
    clear c0 c1 c2 c3 c4 d0 d1
    go_wp2_with (at_builtin; refine wpList_append_own_at _ rfl _ _ 43 rfl V.heap.size 3 i0 (.int .i64 0) 1 8 Try.underlying43 hi hz0 hz1 hz2 rfl (by decide) _ _ _ rfl (hO.alloc _) ⟨W.heap.size, 0, none⟩ 1 1 [.int .i64 ((s : Nat) : Int)] rfl rfl (cell_one_new _ _ _) ?d2 ?d3 ?d4 ?d5 ?_)
    case d2 => intro u hu; simp at hu; subst hu; rfl
    case d3 => unfold maxLen; omega
    case d4 => omega
    case d5 => simp; omega
    intro v' w5 hown5 hgrow5 _ hat5
    obtain ⟨a5, c5, rfl⟩ := ownsRow_slice hown5
    have h2 := H1.out.keep (al W (.cells #[.int .i64 ((s : Nat) : Int)] 3))
    have hsw5 := h2.sw.grown_own h2.lst (by decide) (by rw [HP.out.2]; exact hgrow5)
    have p3 := hsw5.at_ 3
    simp only [List.getElem?_toArray, List.getElem?_cons_succ, List.getElem?_cons_zero] at p3
    have pf := hsw5.thaw_ 3
    have HF := Lib.hid (h2.app s (v' := .slice a5 (q + 1) c5) (by rw [HP.out.2]; exact hown5) (by rw [HP.out.2]; exact hgrow5) (by rw [HP.out.2, show (W.alloc (.cells #[.int .i64 ((s : Nat) : Int)] 3)).heap.size = W.heap.size + 1 by simp]; exact hat5))
    clear hown5 hgrow5 hat5 h2 hsw5 hO e0 e1 e2 e3 e4
    go_wp2_with fail
    refine bodyPost_ret (results_none rfl _ _ _) rfl ?_
    exact ⟨.slice a5 (q + 1) c5, rfl, by rw [if_neg (by rw [HP.out.1]; decide)]; exact HF.out⟩
  · rw [hp] at d0
    have HP := Lib.hid hp
    clear h hp
    go_enter Try.func33, Try.ntmps33
    go_wp2_with fail
    refine bodyPost_ret (results_none rfl _ _ _) rfl ?_
    refine ⟨.slice aL l.length cL, rfl, ?_⟩
    rw [if_pos HP.out, show ins P s = P from by funext j; by_cases e : j = s; subst e; simp [ins, HP.out]; simp [ins, e]]
    exact H.out
end Go.Proofs.Ythidhkaeebakjaa
