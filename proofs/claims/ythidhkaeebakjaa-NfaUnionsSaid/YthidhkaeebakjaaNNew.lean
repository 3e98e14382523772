import Derived.Test.YthidhkaeebakjaaNGrid
import Derived.Deep.RegionWith
import Derived.Deep.AppendLies
import Derived.Deep.RegionHeld3
import Derived.Deep.DeepCutAuto
namespace Go.Proofs.Ythidhkaeebakjaa
open Go.RowKit Go.Maps Go.WideElems Go.ChangeMaps Go.MapKept
set_option linter.unusedVariables false
set_option linter.unusedSimpArgs false

/-- A walk that is being made: its rows hold the edges of Lk. -/
structure NwAt (w : World) (cs : Array Value) (M bW gF gB gI : Nat) (vF vB : Nat → Value) (Lk : List En) (wr : World) : Prop where
  sn : St wr 24 w.heap.size cs
  sw : St wr 78 bW #[.slice (some ⟨gF, 0, none⟩) M M, .slice (some ⟨gB, 0, none⟩) M M, .slice (some ⟨gI, 0, none⟩) M M, .slice none 0 0, .slice none 0 0]
  fr : GridAt wr w.heap.size 43 3 1 gF M vF (fun i => (rowF Lk i).length) (fun i => nums64 (rowF Lk i))
  by_ : GridAt wr w.heap.size 22 35 7 gB M vB (fun i => (rowB Lk i).length) (fun i => egs ((rowB Lk i).map En.z))
  inn : wr.ownsRow w.heap.size 4 1 (.slice (some ⟨gI, 0, none⟩) M M) M (bls (fun _ => false) M)
  below : Below w.heap.size w wr
  lo : w.heap.size ≤ bW ∧ w.heap.size ≤ gF ∧ w.heap.size ≤ gB ∧ w.heap.size ≤ gI
theorem NwAt.keep {w wr w1 : World} {cs : Array Value} {M bW gF gB gI : Nat} {vF vB : Nat → Value} {Lk : List En} (h : NwAt w cs M bW gF gB gI vF vB Lk wr) (k : Below wr.heap.size wr w1) : NwAt w cs M bW gF gB gI vF vB Lk w1 :=
  ⟨h.sn.keep k, h.sw.keep k, h.fr.keep k, h.by_.keep k, ownsRow_keep h.inn k, h.below.trans (k.mono h.below.size), h.lo⟩

theorem Try.info_edge9 : (Try.prog.info? 35).map (fun i => (i.zero, i.size, i.bytes)) = some (some (.agg #[.int .i64 0, .int .i64 0, .int .u64 0, .int .u64 0, .int .u64 0, .int .u64 0, .bool false]), 7, 56) := by kernel_rfl
theorem NwAt.appF {w W w6 : World} {cs : Array Value} {M bW gF gB gI : Nat} {vF vB : Nat → Value} {Lk : List En} (h : NwAt w cs M bW gF gB gI vF vB Lk W) {x : En} (hb : x.b = true) (hf : x.f < M) {v' : Value} {p : Nat} (ho : w6.ownsRow w.heap.size 3 1 v' (p + 1) (nums64 (rowF Lk x.f) ++ [.int .i64 ((x.t : Nat) : Int)])) (hp : (rowF Lk x.f).length = p) (hg : W.grownBy w6 (vF x.f).ownBlock)
    (hat : ∀ b, v'.ownBlock = some b → (vF x.f).ownBlock = some b ∨ W.heap.size ≤ b) : NwAt w cs M bW gF gB gI (fun j => if j = x.f then v' else vF j) vB (Lk ++ [x]) (w6.setCell ⟨gF, x.f, none⟩ v') := by
  have hr := h.fr.2.1 x.f hf
  have hG := h.fr.1.grown_own hr (by decide) hg
  have hB := below_grown_own h.below hr h.below.size hg
  refine ⟨(h.sn.grown_own hr (by decide) hg).set_far hG (by decide) _ _, (h.sw.grown_own hr (by decide) hg).set_far hG (by decide) _ _, (h.fr.app (by decide) hf ho hg hat).congr (fun i hi => ?_), ((h.by_.grown_own hr (by decide) (by decide) hg).far hG (by decide) (by decide) _ _).congr (fun i hi => ?_),
    own_set (own_grown_own h.inn hr (by decide) hg) hG (by decide) _ _, hB.setCell (p := ⟨gF, x.f, none⟩) h.lo.2.1 _, h.lo⟩
  · rw [rowF_snoc]
    by_cases e : i = x.f
    · subst e
      rw [if_pos rfl, if_pos rfl, if_pos ⟨hb, rfl⟩, nums64_snoc, List.length_append, hp]
      exact ⟨rfl, rfl⟩
    · rw [if_neg e, if_neg e, if_neg (fun h => e h.2.symm)]
      exact ⟨rfl, rfl⟩
  · rw [rowB_snoc, if_neg (by simp [hb])]
    exact ⟨rfl, rfl⟩
theorem NwAt.appB {w W w6 : World} {cs : Array Value} {M bW gF gB gI : Nat} {vF vB : Nat → Value} {Lk : List En} (h : NwAt w cs M bW gF gB gI vF vB Lk W) {x : En} (hb : x.b = false) (hf : x.f < M) {v' : Value} {p : Nat} (ho : w6.ownsRow w.heap.size 35 7 v' (p + 1) (egs ((rowB Lk x.f).map En.z) ++ egCells x.z)) (hp : (rowB Lk x.f).length = p) (hg : W.grownBy w6 (vB x.f).ownBlock)
    (hat : ∀ b, v'.ownBlock = some b → (vB x.f).ownBlock = some b ∨ W.heap.size ≤ b) : NwAt w cs M bW gF gB gI vF (fun j => if j = x.f then v' else vB j) (Lk ++ [x]) (w6.setCell ⟨gB, x.f, none⟩ v') := by
  have hr := h.by_.2.1 x.f hf
  have hG := h.by_.1.grown_own hr (by decide) hg
  have hB := below_grown_own h.below hr h.below.size hg
  refine ⟨(h.sn.grown_own hr (by decide) hg).set_far hG (by decide) _ _, (h.sw.grown_own hr (by decide) hg).set_far hG (by decide) _ _, ((h.fr.grown_own hr (by decide) (by decide) hg).far hG (by decide) (by decide) _ _).congr (fun i hi => ?_), (h.by_.app (by decide) hf ho hg hat).congr (fun i hi => ?_),
    own_set (own_grown_own h.inn hr (by decide) hg) hG (by decide) _ _, hB.setCell (p := ⟨gB, x.f, none⟩) h.lo.2.2.1 _, h.lo⟩
  · rw [rowF_snoc, if_neg (by simp [hb])]
    exact ⟨rfl, rfl⟩
  · rw [rowB_snoc]
    by_cases e : i = x.f
    · subst e
      rw [if_pos rfl, if_pos rfl, if_pos ⟨hb, rfl⟩, List.length_append, hp, List.map_append, egs_append]
      exact ⟨rfl, by simp [egs]⟩
    · rw [if_neg e, if_neg e, if_neg (fun h => e h.2.symm)]
      exact ⟨rfl, rfl⟩
theorem al (w : World) (o : Obj) : Below w.heap.size w (w.alloc o) := (Below.refl _ _).alloc (Nat.le_refl _) _
theorem nw_start {w W0 V : World} {cs : Array Value} {M gF gB gI : Nat} (hS : St W0 24 w.heap.size cs) (hB : Below w.heap.size w W0) (hk : Below W0.heap.size W0 V)
    (hF : GridAt V w.heap.size 43 3 1 gF M (fun _ => .slice none 0 0) (fun _ => 0) (fun _ => [])) (hG : GridAt V w.heap.size 22 35 7 gB M (fun _ => .slice none 0 0) (fun _ => 0) (fun _ => []))
    (hI : V.ownsRow w.heap.size 4 1 (.slice (some ⟨gI, 0, none⟩) M M) M (List.replicate M (.bool false))) (lF : W0.heap.size ≤ gF) (lB : W0.heap.size ≤ gB) (lI : W0.heap.size ≤ gI) :
    NwAt w cs M V.heap.size gF gB gI (fun _ => .slice none 0 0) (fun _ => .slice none 0 0) [] ((V.alloc (.cells #[.slice (some ⟨gF, 0, none⟩) M M, .slice (some ⟨gB, 0, none⟩) M M, .slice (some ⟨gI, 0, none⟩) M M, .slice none 0 0, .slice none 0 0] 78)).drew) := by
  have hs := hB.size
  have hs2 := hk.size
  rw [rep_bls] at hI
  exact ⟨(hS.keep hk).alloc _, St.new V _ _, hF.keep (al _ _).drew, hG.keep (al _ _).drew, ownsRow_keep hI (al _ _).drew, ((hB.trans (hk.mono hs)).alloc (Nat.le_trans hs hs2) _).drew, by omega, by omega, by omega, by omega⟩
theorem below3 (W : World) (a b c : Obj) : Below W.heap.size W (((W.alloc a).alloc b).alloc c) := ((al W a).alloc (by simp) b).alloc (by simp; omega) c

def NwPost (w : World) (cs : Array Value) (M : Nat) (L : List En) (e : Ending) (w' : World) : Prop :=
  ∃ (bW gF gB gI : Nat) (vF vB : Nat → Value), e = .returned (.pointer (some ⟨bW, 0, none⟩)) ∧ NwAt w cs M bW gF gB gI vF vB L w'

set_option maxHeartbeats 4000000 in
set_option maxRecDepth 100000 in
theorem newWalk_any (L : List En) (M F T : Nat) (hE : ∀ e ∈ L, e.f < M ∧ e.t < M) (hM : M ≤ 1000000) (a : Option Addr) (n c : Nat) (w : World) (hL : EdAt w a (L.map En.z)) (hn : L.length = n) (hmax : n ≤ 1000) :
    Calls Try.prog 32 #[.agg #[.int .i64 ((M : Nat) : Int), .slice a n c, .int .i64 ((F : Nat) : Int), .int .i64 ((T : Nat) : Int)]] w (NwPost w #[.int .i64 ((M : Nat) : Int), .slice a n c, .int .i64 ((F : Nat) : Int), .int .i64 ((T : Nat) : Int)] M L) := by
  have hm1 := make_ints M (by omega)
  have hm2 := make_eds M (by omega)
  have hm3 := make_bl M (by omega)
  have HL := Lib.hid (And.intro hL (And.intro hn hE))
  have hS0 := nfa_new w ((M : Nat) : Int) ((F : Nat) : Int) ((T : Nat) : Int) a n c
  have hB0 : Below w.heap.size w (w.alloc (.cells #[.int .i64 ((M : Nat) : Int), .slice a n c, .int .i64 ((F : Nat) : Int), .int .i64 ((T : Nat) : Int)] 24)) := (Below.refl _ _).alloc (Nat.le_refl _) _
  have H0 := Lib.hid (And.intro hS0 hB0)
  clear hL hn hE hS0 hB0
  go_enter Try.func32, Try.ntmps32
  go_wp2_with fail
  generalize w.alloc (.cells #[.int .i64 ((M : Nat) : Int), .slice a n c, .int .i64 ((F : Nat) : Int), .int .i64 ((T : Nat) : Int)] 24) = W0 at H0 ⊢
  obtain ⟨r0, r1, r2, r3⟩ := H0.out.1.cells4
  have hlt0 := H0.out.1.lt
  go_cut [3] from 6 to 16 (fun v wx => ∃ bW gF gB gI, v = .pointer (some ⟨bW, 0, none⟩) ∧ NwAt w #[.int .i64 ((M : Nat) : Int), .slice a n c, .int .i64 ((F : Nat) : Int), .int .i64 ((T : Nat) : Int)] M bW gF gB gI (fun _ => .slice none 0 0) (fun _ => .slice none 0 0) [] wx)
  case first =>
    go_region
    all_goals
      go_wp2_with fail
      go_meet
      have mF := fun W => GridAt.made W w.heap.size 43 3 1 M
      have mB := fun W => GridAt.made W w.heap.size 22 35 7 M
      have hs0 := H0.out.2.size
      have mI := fun (W : World) (h : w.heap.size ≤ W.heap.size) => made_own W w.heap.size M 4 (.bool false) h (by unfold maxLen; omega)
      first
        | (refine ⟨W0.heap.size + 1 + 1 + 1, W0.heap.size, W0.heap.size + 1, W0.heap.size + 1 + 1, rfl, ?_⟩; have := nw_start H0.out.1 H0.out.2 (below3 W0 (.cells (madeCells #[.slice none 0 0] M) 43) (.cells (madeCells #[.slice none 0 0] M) 22) (.cells (madeCells #[.bool false] M) 4)) (((mF W0).keep (al _ _)).keep (al _ _)) ((mB (W0.alloc (.cells (madeCells #[.slice none 0 0] M) 43))).keep (al _ _)) (mI _ (by simp; omega)) (by simp) (by simp) (by simp; omega); simpa using this)
        | (refine ⟨W0.heap.size + 1 + 1 + 1, W0.heap.size, W0.heap.size + 1 + 1, W0.heap.size + 1, rfl, ?_⟩; have := nw_start H0.out.1 H0.out.2 (below3 W0 (.cells (madeCells #[.slice none 0 0] M) 43) (.cells (madeCells #[.bool false] M) 4) (.cells (madeCells #[.slice none 0 0] M) 22)) (((mF W0).keep (al _ _)).keep (al _ _)) (mB _) (ownsRow_keep (mI (W0.alloc (.cells (madeCells #[.slice none 0 0] M) 43)) (by simp; omega)) (al _ _)) (by simp) (by simp; omega) (by simp); simpa using this)
        | (refine ⟨W0.heap.size + 1 + 1 + 1, W0.heap.size + 1, W0.heap.size, W0.heap.size + 1 + 1, rfl, ?_⟩; have := nw_start H0.out.1 H0.out.2 (below3 W0 (.cells (madeCells #[.slice none 0 0] M) 22) (.cells (madeCells #[.slice none 0 0] M) 43) (.cells (madeCells #[.bool false] M) 4)) ((mF (W0.alloc (.cells (madeCells #[.slice none 0 0] M) 22))).keep (al _ _)) (((mB W0).keep (al _ _)).keep (al _ _)) (mI _ (by simp; omega)) (by simp) (by simp) (by simp; omega); simpa using this)
        | (refine ⟨W0.heap.size + 1 + 1 + 1, W0.heap.size + 1 + 1, W0.heap.size, W0.heap.size + 1, rfl, ?_⟩; have := nw_start H0.out.1 H0.out.2 (below3 W0 (.cells (madeCells #[.slice none 0 0] M) 22) (.cells (madeCells #[.bool false] M) 4) (.cells (madeCells #[.slice none 0 0] M) 43)) (mF _) (((mB W0).keep (al _ _)).keep (al _ _)) (ownsRow_keep (mI (W0.alloc (.cells (madeCells #[.slice none 0 0] M) 22)) (by simp; omega)) (al _ _)) (by simp; omega) (by simp) (by simp); simpa using this)
        | (refine ⟨W0.heap.size + 1 + 1 + 1, W0.heap.size + 1, W0.heap.size + 1 + 1, W0.heap.size, rfl, ?_⟩; have := nw_start H0.out.1 H0.out.2 (below3 W0 (.cells (madeCells #[.bool false] M) 4) (.cells (madeCells #[.slice none 0 0] M) 43) (.cells (madeCells #[.slice none 0 0] M) 22)) ((mF (W0.alloc (.cells (madeCells #[.bool false] M) 4))).keep (al _ _)) (mB _) (ownsRow_keep (ownsRow_keep (mI W0 hs0) (al _ _)) (al _ _)) (by simp) (by simp; omega) (by simp); simpa using this)
        | (refine ⟨W0.heap.size + 1 + 1 + 1, W0.heap.size + 1 + 1, W0.heap.size + 1, W0.heap.size, rfl, ?_⟩; have := nw_start H0.out.1 H0.out.2 (below3 W0 (.cells (madeCells #[.bool false] M) 4) (.cells (madeCells #[.slice none 0 0] M) 22) (.cells (madeCells #[.slice none 0 0] M) 43)) (mF _) ((mB (W0.alloc (.cells (madeCells #[.bool false] M) 4))).keep (al _ _)) (ownsRow_keep (ownsRow_keep (mI W0 hs0) (al _ _)) (al _ _)) (by simp; omega) (by simp) (by simp); simpa using this)
  case rest =>
    obtain ⟨bW, gF, gB, gI, rfl, R⟩ := hcut
    have HR := Lib.hid R
    obtain ⟨r0, r1, r2, r3⟩ := R.sn.cells4
    clear R hm1 hm2 hm3 hlt0 H0
    go_wp2_with fail
    clear r0 r1 r2 r3
    go_loopw [5, 20] (fun _ i wr => ∃ (k : Nat) (vF vB : Nat → Value), i = .int .i64 k ∧ k ≤ n ∧ Hid (NwAt w #[.int .i64 ((M : Nat) : Int), .slice a n c, .int .i64 ((F : Nat) : Int), .int .i64 ((T : Nat) : Int)] M bW gF gB gI vF vB (L.take k) wr)) (fun _ i _ => n - (intOf i).toNat)
    case atStart => exact ⟨0, _, _, rfl, Nat.zero_le _, HR⟩
    case round =>
      clear HR
      obtain ⟨k, vF, vB, rfl, hk, HA⟩ := hrel
      have hsz := HA.out.below.size
      by_cases hlt : k < n
      · have hkl : k < L.length := by rw [HL.out.2.1]; exact hlt
        obtain ⟨ge, off, rfl, hg, c0, c1, c2, c3, c4, c5, c6⟩ := (HL.out.1.below HA.out.below).getN k hkl
        have HS : Hid (L.take (k + 1) = L.take k ++ [L[k]]) := List.take_succ_eq_append_getElem hkl
        have hx := HL.out.2.2 L[k] (List.getElem_mem _)
        generalize L[k] = x at c0 c1 c2 c3 c4 c5 c6 HS hx
        have HA1 := Lib.hid (HA.out.keep (al wr (.cells #[.int .i64 ((x.f : Nat) : Int), .int .i64 ((x.t : Nat) : Int), .int .u64 ((wd x.p 0 : Nat) : Int), .int .u64 ((wd x.p 1 : Nat) : Int), .int .u64 ((wd x.p 2 : Nat) : Int), .int .u64 ((wd x.p 3 : Nat) : Int), .bool x.b] 35)))
        have HE1 := Lib.hid (St.new wr 35 #[.int .i64 ((x.f : Nat) : Int), .int .i64 ((x.t : Nat) : Int), .int .u64 ((wd x.p 0 : Nat) : Int), .int .u64 ((wd x.p 1 : Nat) : Int), .int .u64 ((wd x.p 2 : Nat) : Int), .int .u64 ((wd x.p 3 : Nat) : Int), .bool x.b])
        obtain ⟨xf, xt, xp, xb⟩ := x
        dsimp only at c0 c1 c2 c3 c4 c5 c6 HS hx HA1 HE1
        rcases xb with _ | _
        · skip
          -- ARM0
          have hbe : wr.heap.size < (wr.alloc (.cells #[.int .i64 ((xf : Nat) : Int), .int .i64 ((xt : Nat) : Int), .int .u64 ((wd xp 0 : Nat) : Int), .int .u64 ((wd xp 1 : Nat) : Int), .int .u64 ((wd xp 2 : Nat) : Int), .int .u64 ((wd xp 3 : Nat) : Int), .bool false] 35)).heap.size := HE1.out.lt
          have hown0 : ∀ b, (vB xf).ownBlock = some b → b < wr.heap.size := fun b e => (by obtain ⟨c, fz, hc⟩ := own_kind (HA.out.by_.2.1 xf hx.1) b e; exact (Array.getElem?_eq_some_iff.1 hc).1)
          go_wp2_with fail
          generalize wr.alloc (.cells #[.int .i64 ((xf : Nat) : Int), .int .i64 ((xt : Nat) : Int), .int .u64 ((wd xp 0 : Nat) : Int), .int .u64 ((wd xp 1 : Nat) : Int), .int .u64 ((wd xp 2 : Nat) : Int), .int .u64 ((wd xp 3 : Nat) : Int), .bool false] 35) = W1 at HA1 HE1 hbe ⊢
          obtain ⟨aR, cR, hv⟩ := ownsRow_slice (HA1.out.by_.2.1 xf hx.1)
          dsimp only at hv
          have hlen := rowB_len (L.take k) xf
          have htl : (L.take k).length ≤ k := List.length_take_le _ _
          have HA2 := Lib.hid (HA1.out.keep (al W1 (.cells #[.int .i64 ((xf : Nat) : Int), .int .i64 ((xt : Nat) : Int), .int .u64 ((wd xp 0 : Nat) : Int), .int .u64 ((wd xp 1 : Nat) : Int), .int .u64 ((wd xp 2 : Nat) : Int), .int .u64 ((wd xp 3 : Nat) : Int), .bool false] 35)).drew)
          have HE2 := Lib.hid (HE1.out.keep (al W1 (.cells #[.int .i64 ((xf : Nat) : Int), .int .i64 ((xt : Nat) : Int), .int .u64 ((wd xp 0 : Nat) : Int), .int .u64 ((wd xp 1 : Nat) : Int), .int .u64 ((wd xp 2 : Nat) : Int), .int .u64 ((wd xp 3 : Nat) : Int), .bool false] 35)).drew)
          have hrow := HA2.out.by_.2.1 xf hx.1
          rw [hv] at hrow
          dsimp only at hrow
          have hbne : ¬ ((Value.slice aR (rowB (L.take k) xf).length cR).ownBlock = some wr.heap.size) := fun e => Nat.lt_irrefl _ (hown0 _ (by rw [hv]; exact e))
          obtain ⟨p, hp⟩ : ∃ p, (rowB (L.take k) xf).length = p := ⟨_, rfl⟩
          have k0 : W1.cell? ⟨gB, xf, none⟩ = some (.slice aR p cR) := by rw [(HA1.out.by_.cell xf hx.1).1, hv, hp]
          have HV := Lib.hid (And.intro hv hp)
          have m2 : (W1.alloc (.cells #[.int .i64 ((xf : Nat) : Int), .int .i64 ((xt : Nat) : Int), .int .u64 ((wd xp 0 : Nat) : Int), .int .u64 ((wd xp 1 : Nat) : Int), .int .u64 ((wd xp 2 : Nat) : Int), .int .u64 ((wd xp 3 : Nat) : Int), .bool false] 35)).drew.cell? ⟨gB, xf, none⟩ = some (.slice aR p cR) := by rw [(HA2.out.by_.cell xf hx.1).1, hv, hp]
          have i1 : (xf : Int) < (M : Int) := by omega
          have i2 : (0 : Int) ≤ (xf : Int) := by omega
          have hH2 : w.heap.size ≤ ((W1.alloc (.cells #[.int .i64 ((xf : Nat) : Int), .int .i64 ((xt : Nat) : Int), .int .u64 ((wd xp 0 : Nat) : Int), .int .u64 ((wd xp 1 : Nat) : Int), .int .u64 ((wd xp 2 : Nat) : Int), .int .u64 ((wd xp 3 : Nat) : Int), .bool false] 35)).drew).heap.size := HA2.out.below.size
          rw [hp] at hrow hlen hbne
          obtain ⟨i0, hi, hz0, hz1, hz2⟩ := info_parts Try.info_edge9
          have hS : ∀ W, St W 78 bW #[.slice (some ⟨gF, 0, none⟩) M M, .slice (some ⟨gB, 0, none⟩) M M, .slice (some ⟨gI, 0, none⟩) M M, .slice none 0 0, .slice none 0 0] → St W 35 wr.heap.size #[.int .i64 ((xf : Nat) : Int), .int .i64 ((xt : Nat) : Int), .int .u64 ((wd xp 0 : Nat) : Int), .int .u64 ((wd xp 1 : Nat) : Int), .int .u64 ((wd xp 2 : Nat) : Int), .int .u64 ((wd xp 3 : Nat) : Int), .bool false] → (W.cell? ⟨bW, 1, none⟩ = some (.slice (some ⟨gB, 0, none⟩) M M) ∧ W.cell? ⟨wr.heap.size, 0, none⟩ = some (.int .i64 ((xf : Nat) : Int)) ∧ W.cell? ⟨wr.heap.size, 1, none⟩ = some (.int .i64 ((xt : Nat) : Int)) ∧ W.cell? ⟨wr.heap.size, 2, none⟩ = some (.int .u64 ((wd xp 0 : Nat) : Int)) ∧ W.cell? ⟨wr.heap.size, 3, none⟩ = some (.int .u64 ((wd xp 1 : Nat) : Int)) ∧ W.cell? ⟨wr.heap.size, 4, none⟩ = some (.int .u64 ((wd xp 2 : Nat) : Int)) ∧ W.cell? ⟨wr.heap.size, 5, none⟩ = some (.int .u64 ((wd xp 3 : Nat) : Int)) ∧ W.cell? ⟨wr.heap.size, 6, none⟩ = some (.bool false)) := fun W h1 h2 => ⟨h1.at_ 1, h2.at_ 0, h2.at_ 1, h2.at_ 2, h2.at_ 3, h2.at_ 4, h2.at_ 5, h2.at_ 6⟩
          have HS0 := Lib.hid hS
          clear hv hp hS
          refine wp_region_held_drew (S := fun W' => W'.cell? ⟨bW, 1, none⟩ = some (.slice (some ⟨gB, 0, none⟩) M M) ∧ W'.cell? ⟨wr.heap.size, 0, none⟩ = some (.int .i64 ((xf : Nat) : Int)) ∧ W'.cell? ⟨wr.heap.size, 1, none⟩ = some (.int .i64 ((xt : Nat) : Int)) ∧ W'.cell? ⟨wr.heap.size, 2, none⟩ = some (.int .u64 ((wd xp 0 : Nat) : Int)) ∧ W'.cell? ⟨wr.heap.size, 3, none⟩ = some (.int .u64 ((wd xp 1 : Nat) : Int)) ∧ W'.cell? ⟨wr.heap.size, 4, none⟩ = some (.int .u64 ((wd xp 2 : Nat) : Int)) ∧ W'.cell? ⟨wr.heap.size, 5, none⟩ = some (.int .u64 ((wd xp 3 : Nat) : Int)) ∧ W'.cell? ⟨wr.heap.size, 6, none⟩ = some (.bool false)) (by kernel_rfl) (HS0.out _ HA1.out.sw.drew HE1.out.drew) (fun hHeld => ?_)
          (refine wpAnyH_take (i := 0) (oi := ?_) (v := ?_) ?_ (by kernel_rfl) (by kernel_rfl) (by kernel_rfl) ?_ (Or.inl ⟨?_, ?_⟩) (by assumption) ?_; rotate_left 2; (focus ((simp only [List.getElem?_toArray, List.getElem?_cons_zero]); first | done | rfl)); (focus (exact fun _ _ _ h => h)); (focus rfl); (focus (intro wz hSw; (try dsimp only at hSw); go_simp; first | done | with_reducible rfl)); try simp only [Act.put, List.setIfInBounds_toArray, List.set_cons_zero, List.set_cons_succ])
          (refine wpAnyH_take (i := 1) (oi := ?_) (v := ?_) ?_ (by kernel_rfl) (by kernel_rfl) (by kernel_rfl) ?_ (Or.inl ⟨?_, ?_⟩) (by assumption) ?_; rotate_left 2; (focus ((simp only [List.getElem?_toArray, List.getElem?_cons_succ, List.getElem?_cons_zero]); first | done | rfl)); (focus (exact fun _ _ _ h => h)); (focus rfl); (focus (intro wz hSw; (try dsimp only at hSw); go_simp; first | done | with_reducible rfl)); try simp only [Act.put, List.setIfInBounds_toArray, List.set_cons_zero, List.set_cons_succ])
          (refine wpAnyH_take (i := 2) (oi := ?_) (v := ?_) ?_ (by kernel_rfl) (by kernel_rfl) (by kernel_rfl) ?_ (Or.inl ⟨?_, ?_⟩) (by assumption) ?_; rotate_left 2; (focus ((simp only [List.getElem?_toArray, List.getElem?_cons_succ, List.getElem?_cons_zero]); first | done | rfl)); (focus (exact fun _ _ _ h => h)); (focus rfl); (focus (intro wz hSw; (try dsimp only at hSw); go_simp; first | done | with_reducible rfl)); try simp only [Act.put, List.setIfInBounds_toArray, List.set_cons_zero, List.set_cons_succ])
          (refine wpAnyH_take (i := 3) (oi := ?_) (v := ?_) ?_ (by kernel_rfl) (by kernel_rfl) (by kernel_rfl) ?_ (Or.inl ⟨?_, ?_⟩) (by assumption) ?_; rotate_left 2; (focus ((simp only [List.getElem?_toArray, List.getElem?_cons_succ, List.getElem?_cons_zero]); first | done | rfl)); (focus (exact fun _ _ _ h => h)); (focus rfl); (focus (intro wz hSw; (try dsimp only at hSw); go_simp; first | done | with_reducible rfl)); try simp only [Act.put, List.setIfInBounds_toArray, List.set_cons_zero, List.set_cons_succ])
          (refine wpAnyH_take (i := 4) (oi := ?_) (v := ?_) ?_ (by kernel_rfl) (by kernel_rfl) (by kernel_rfl) ?_ (Or.inl ⟨?_, ?_⟩) (by assumption) ?_; rotate_left 2; (focus ((simp only [List.getElem?_toArray, List.getElem?_cons_succ, List.getElem?_cons_zero]); first | done | rfl)); (focus (exact fun _ _ _ h => h)); (focus rfl); (focus (intro wz hSw; (try dsimp only at hSw); go_simp; first | done | with_reducible rfl)); try simp only [Act.put, List.setIfInBounds_toArray, List.set_cons_zero, List.set_cons_succ])
          (refine wpAnyH_take (i := 5) (oi := ?_) (v := ?_) ?_ (by kernel_rfl) (by kernel_rfl) (by kernel_rfl) ?_ (Or.inl ⟨?_, ?_⟩) (by assumption) ?_; rotate_left 2; (focus ((simp only [List.getElem?_toArray, List.getElem?_cons_succ, List.getElem?_cons_zero]); first | done | rfl)); (focus (exact fun _ _ _ h => h)); (focus rfl); (focus (intro wz hSw; (try dsimp only at hSw); go_simp; first | done | with_reducible rfl)); try simp only [Act.put, List.setIfInBounds_toArray, List.set_cons_zero, List.set_cons_succ])
          (refine wpAnyH_take (i := 6) (oi := ?_) (v := ?_) ?_ (by kernel_rfl) (by kernel_rfl) (by kernel_rfl) ?_ (Or.inl ⟨?_, ?_⟩) (by assumption) ?_; rotate_left 2; (focus ((simp only [List.getElem?_toArray, List.getElem?_cons_succ, List.getElem?_cons_zero]); first | done | rfl)); (focus (exact fun _ _ _ h => h)); (focus rfl); (focus (intro wz hSw; (try dsimp only at hSw); go_simp; first | done | with_reducible rfl)); try simp only [Act.put, List.setIfInBounds_toArray, List.set_cons_zero, List.set_cons_succ])
          (refine wpAnyH_take (i := 7) (oi := ?_) (v := ?_) ?_ (by kernel_rfl) (by kernel_rfl) (by kernel_rfl) ?_ (Or.inl ⟨?_, ?_⟩) (by assumption) ?_; rotate_left 2; (focus ((simp only [List.getElem?_toArray, List.getElem?_cons_succ, List.getElem?_cons_zero]); first | done | rfl)); (focus (exact fun _ _ _ h => h)); (focus rfl); (focus (intro wz hSw; (try dsimp only at hSw); go_simp; first | done | with_reducible rfl)); try simp only [Act.put, List.setIfInBounds_toArray, List.set_cons_zero, List.set_cons_succ])
          (refine wpAnyH_take (i := 8) (oi := ?_) (v := ?_) ?_ (by kernel_rfl) (by kernel_rfl) (by kernel_rfl) ?_ (Or.inl ⟨?_, ?_⟩) (by assumption) ?_; rotate_left 2; (focus ((simp only [List.getElem?_toArray, List.getElem?_cons_succ, List.getElem?_cons_zero]); first | done | rfl)); (focus (exact fun _ _ _ h => h)); (focus rfl); (focus (intro wz hSw; (try dsimp only at hSw); go_simp; first | done | with_reducible rfl)); try simp only [Act.put, List.setIfInBounds_toArray, List.set_cons_zero, List.set_cons_succ])
          (refine wpAnyH_take (i := 9) (oi := ?_) (v := ?_) ?_ (by kernel_rfl) (by kernel_rfl) (by kernel_rfl) ?_ (Or.inl ⟨?_, ?_⟩) (by assumption) ?_; rotate_left 2; (focus ((simp only [List.getElem?_toArray, List.getElem?_cons_succ, List.getElem?_cons_zero]); first | done | rfl)); (focus (exact fun _ _ _ h => h)); (focus rfl); (focus (intro wz hSw; (try dsimp only at hSw); go_simp; first | done | with_reducible rfl)); try simp only [Act.put, List.setIfInBounds_toArray, List.set_cons_zero, List.set_cons_succ])
          (refine wpAnyH_take (i := 10) (oi := ?_) (v := ?_) ?_ (by kernel_rfl) (by kernel_rfl) (by kernel_rfl) ?_ (Or.inl ⟨?_, ?_⟩) (by assumption) ?_; rotate_left 2; (focus ((simp only [List.getElem?_toArray, List.getElem?_cons_succ, List.getElem?_cons_zero]); first | done | rfl)); (focus (exact fun _ _ _ h => h)); (focus rfl); (focus (intro wz hSw; (try dsimp only at hSw); go_simp; first | done | with_reducible rfl)); try simp only [Act.put, List.setIfInBounds_toArray, List.set_cons_zero, List.set_cons_succ])
          (refine wpAnyH_take (i := 11) (oi := ?_) (v := ?_) ?_ (by kernel_rfl) (by kernel_rfl) (by kernel_rfl) ?_ (Or.inl ⟨?_, ?_⟩) (by assumption) ?_; rotate_left 2; (focus ((simp only [List.getElem?_toArray, List.getElem?_cons_succ, List.getElem?_cons_zero]); first | done | rfl)); (focus (exact fun _ _ _ h => h)); (focus rfl); (focus (intro wz hSw; (try dsimp only at hSw); go_simp; first | done | with_reducible rfl)); try simp only [Act.put, List.setIfInBounds_toArray, List.set_cons_zero, List.set_cons_succ])
          (refine wpAnyH_take (i := 12) (oi := ?_) (v := ?_) ?_ (by kernel_rfl) (by kernel_rfl) (by kernel_rfl) ?_ (Or.inl ⟨?_, ?_⟩) (by assumption) ?_; rotate_left 2; (focus ((simp only [List.getElem?_toArray, List.getElem?_cons_succ, List.getElem?_cons_zero]); first | done | rfl)); (focus (exact fun _ _ _ h => h)); (focus rfl); (focus (intro wz hSw; (try dsimp only at hSw); go_simp; first | done | with_reducible rfl)); try simp only [Act.put, List.setIfInBounds_toArray, List.set_cons_zero, List.set_cons_succ])
          (refine wpAnyH_take (i := 14) (oi := ?_) (v := ?_) ?_ (by kernel_rfl) (by kernel_rfl) (by kernel_rfl) ?_ (Or.inl ⟨?_, ?_⟩) (by assumption) ?_; rotate_left 2; (focus ((simp only [List.getElem?_toArray, List.getElem?_cons_succ, List.getElem?_cons_zero]); first | done | rfl)); (focus (exact fun _ _ _ h => h)); (focus rfl); (focus (intro wz hSw; (try dsimp only at hSw); go_simp; first | done | with_reducible rfl)); try simp only [Act.put, List.setIfInBounds_toArray, List.set_cons_zero, List.set_cons_succ])
          refine wpAnyH_ready (rs := [13, 15]) (by kernel_rfl) (by simp) ?_
          refine AllReadyH.cons (o := ?_) ?_ (fun K hK => ?_) ?_
          rotate_left
          (focus ((simp only [List.getElem?_toArray, List.getElem?_cons_succ, List.getElem?_cons_zero]); first | done | rfl))
          · skip
            go_simp
            refine hK.out _ _ (HS0.out _ HA1.out.sw.drew HE1.out.drew) (fun hHeld => ?_)
            clear hK K
            try simp only [Act.put, List.setIfInBounds_toArray, List.set_cons_zero, List.set_cons_succ]
            refine wpAnyH_ready (rs := [15]) (by kernel_rfl) (by simp) ?_
            refine AllReadyH.cons (o := ?_) ?_ (fun K hK => ?_) ?_
            rotate_left
            (focus ((simp only [List.getElem?_toArray, List.getElem?_cons_succ, List.getElem?_cons_zero]); first | done | rfl))
            · skip
              go_simp
              refine hK.out _ _ (HS0.out _ HA2.out.sw HE2.out) (fun hHeld => ?_)
              clear hK K
              try simp only [Act.put, List.setIfInBounds_toArray, List.set_cons_zero, List.set_cons_succ]
              refine wpAnyH_ready (rs := [16]) (by kernel_rfl) (by simp) ?_
              refine AllReadyH.cons (o := ?_) ?_ (fun K hK => ?_) ?_
              rotate_left
              (focus ((simp only [List.getElem?_toArray, List.getElem?_cons_succ, List.getElem?_cons_zero]); first | done | rfl))
              · skip
                skip
                refine step_append_lies _ (by rfl) _ _ _ (by rfl) w.heap.size 35 i0 (.agg #[.int .i64 0, .int .i64 0, .int .u64 0, .int .u64 0, .int .u64 0, .int .u64 0, .bool false]) 7 56 Try.underlying22 hi hz0 hz1 hz2 (by rfl) (by decide) _ p (egs ((rowB (L.take k) xf).map En.z)) (by rfl) hrow ⟨W1.heap.size, 0, none⟩ 1 1 (#[.int .i64 ((xf : Nat) : Int), .int .i64 ((xt : Nat) : Int), .int .u64 ((wd xp 0 : Nat) : Int), .int .u64 ((wd xp 1 : Nat) : Int), .int .u64 ((wd xp 2 : Nat) : Int), .int .u64 ((wd xp 3 : Nat) : Int), .bool false]).toList (by rfl) (by rfl) (World.news_of_block (cs := #[.int .i64 ((xf : Nat) : Int), .int .i64 ((xt : Nat) : Int), .int .u64 ((wd xp 0 : Nat) : Int), .int .u64 ((wd xp 1 : Nat) : Int), .int .u64 ((wd xp 2 : Nat) : Int), .int .u64 ((wd xp 3 : Nat) : Int), .bool false]) (t := 35) (fr := (0, 0)) (heap_alloc_new W1 _)) (by simp [Value.oneCell']) (by omega) (by unfold maxLen; omega) (by omega) hH2 (W1.heap.size + 1) (by simp) ?_
                intro gg cap6 w6 hown6 hgrow6 hat6 hlt6
                have hsw6 := HA2.out.sw.grown_own hrow (by decide) hgrow6
                have hse6 := HE2.out.grown hgrow6 (fun e => hbne e.symm)
                have hgr6 := HA2.out.by_.1.grown_own hrow (by decide) hgrow6
                have t2 : w6.cell? ⟨gB, xf, none⟩ = some (.slice aR p cR) := by rw [hgr6.at_]; simp only [List.getElem?_toArray, List.getElem?_map, List.getElem?_range hx.1, Option.map_some, HV.out.1, HV.out.2]
                have t3 := hgr6.thaw_ xf
                have HF : Hid (NwAt w #[.int .i64 ((M : Nat) : Int), .slice (some ⟨ge, off, none⟩) n c, .int .i64 ((F : Nat) : Int), .int .i64 ((T : Nat) : Int)] M bW gF gB gI vF (fun j => if j = xf then (.slice (some ⟨gg, 0, none⟩) (p + 1) cap6) else vB j) (L.take (k + 1)) (w6.setCell ⟨gB, xf, none⟩ (.slice (some ⟨gg, 0, none⟩) (p + 1) cap6))) := by
                  show NwAt _ _ _ _ _ _ _ _ _ _ _
                  rw [HS.out]
                  exact HA2.out.appB (x := ⟨xf, xt, xp, false⟩) rfl hx.1 hown6 HV.out.2 (by rw [HV.out.1, HV.out.2]; exact hgrow6) (fun b e => by rw [HV.out.1, HV.out.2]; injection e with e; rw [← e]; rcases hat6 with h | h; exact Or.inl h; exact Or.inr (by rw [h]; simp))
                refine hK.out _ _ (HS0.out _ hsw6 hse6) (fun hHeld => ?_)
                clear hK K hown6 hgrow6 hat6 hlt6
                try simp only [Act.put, List.setIfInBounds_toArray, List.set_cons_zero, List.set_cons_succ]
                (refine wpAnyH_take (i := 17) (oi := ?_) (v := ?_) ?_ (by kernel_rfl) (by kernel_rfl) (by kernel_rfl) ?_ (Or.inl ⟨?_, ?_⟩) (by assumption) ?_; rotate_left 2; (focus ((simp only [List.getElem?_toArray, List.getElem?_cons_succ, List.getElem?_cons_zero]); first | done | rfl)); (focus (exact fun _ _ _ h => h)); (focus rfl); (focus (intro wz hSw; (try dsimp only at hSw); go_simp; first | done | with_reducible rfl)); try simp only [Act.put, List.setIfInBounds_toArray, List.set_cons_zero, List.set_cons_succ])
                refine wpAnyH_ready (rs := [18]) (by kernel_rfl) (by simp) ?_
                refine AllReadyH.cons (o := ?_) ?_ (fun K hK => ?_) ?_
                rotate_left
                (focus ((simp only [List.getElem?_toArray, List.getElem?_cons_succ, List.getElem?_cons_zero]); first | done | rfl))
                · skip
                  go_simp
                  refine hK.out _ _ (HS0.out _ (hsw6.set_far hgr6 (by decide) xf _) (hse6.set_far hgr6 (by decide) xf _)) (fun hHeld => ?_)
                  clear hK K
                  try simp only [Act.put, List.setIfInBounds_toArray, List.set_cons_zero, List.set_cons_succ]
                  refine wpAnyH_done (by kernel_rfl) ?_ _
                  clear hsw6 hse6 hgr6 t2 t3 hHeld
                  go_wp2_with fail
                  go_roundw
                  case rel => exact ⟨k + 1, _, _, by go_num, by omega, HF⟩
                  case measure => simp [intOf]; omega
                exact AllReadyH.nil
              exact AllReadyH.nil
            exact AllReadyH.nil
          refine AllReadyH.cons (o := ?_) ?_ (fun K hK => ?_) ?_
          rotate_left
          (focus ((simp only [List.getElem?_toArray, List.getElem?_cons_succ, List.getElem?_cons_zero]); first | done | rfl))
          · skip
            go_simp
            refine hK.out _ _ (HS0.out _ HA2.out.sw HE2.out) (fun hHeld => ?_)
            clear hK K
            try simp only [Act.put, List.setIfInBounds_toArray, List.set_cons_zero, List.set_cons_succ]
            refine wpAnyH_ready (rs := [13]) (by kernel_rfl) (by simp) ?_
            refine AllReadyH.cons (o := ?_) ?_ (fun K hK => ?_) ?_
            rotate_left
            (focus ((simp only [List.getElem?_toArray, List.getElem?_cons_succ, List.getElem?_cons_zero]); first | done | rfl))
            · skip
              go_simp
              refine hK.out _ _ (HS0.out _ HA2.out.sw HE2.out) (fun hHeld => ?_)
              clear hK K
              try simp only [Act.put, List.setIfInBounds_toArray, List.set_cons_zero, List.set_cons_succ]
              refine wpAnyH_ready (rs := [16]) (by kernel_rfl) (by simp) ?_
              refine AllReadyH.cons (o := ?_) ?_ (fun K hK => ?_) ?_
              rotate_left
              (focus ((simp only [List.getElem?_toArray, List.getElem?_cons_succ, List.getElem?_cons_zero]); first | done | rfl))
              · skip
                skip
                refine step_append_lies _ (by rfl) _ _ _ (by rfl) w.heap.size 35 i0 (.agg #[.int .i64 0, .int .i64 0, .int .u64 0, .int .u64 0, .int .u64 0, .int .u64 0, .bool false]) 7 56 Try.underlying22 hi hz0 hz1 hz2 (by rfl) (by decide) _ p (egs ((rowB (L.take k) xf).map En.z)) (by rfl) hrow ⟨W1.heap.size, 0, none⟩ 1 1 (#[.int .i64 ((xf : Nat) : Int), .int .i64 ((xt : Nat) : Int), .int .u64 ((wd xp 0 : Nat) : Int), .int .u64 ((wd xp 1 : Nat) : Int), .int .u64 ((wd xp 2 : Nat) : Int), .int .u64 ((wd xp 3 : Nat) : Int), .bool false]).toList (by rfl) (by rfl) (World.news_of_block (cs := #[.int .i64 ((xf : Nat) : Int), .int .i64 ((xt : Nat) : Int), .int .u64 ((wd xp 0 : Nat) : Int), .int .u64 ((wd xp 1 : Nat) : Int), .int .u64 ((wd xp 2 : Nat) : Int), .int .u64 ((wd xp 3 : Nat) : Int), .bool false]) (t := 35) (fr := (0, 0)) (heap_alloc_new W1 _)) (by simp [Value.oneCell']) (by omega) (by unfold maxLen; omega) (by omega) hH2 (W1.heap.size + 1) (by simp) ?_
                intro gg cap6 w6 hown6 hgrow6 hat6 hlt6
                have hsw6 := HA2.out.sw.grown_own hrow (by decide) hgrow6
                have hse6 := HE2.out.grown hgrow6 (fun e => hbne e.symm)
                have hgr6 := HA2.out.by_.1.grown_own hrow (by decide) hgrow6
                have t2 : w6.cell? ⟨gB, xf, none⟩ = some (.slice aR p cR) := by rw [hgr6.at_]; simp only [List.getElem?_toArray, List.getElem?_map, List.getElem?_range hx.1, Option.map_some, HV.out.1, HV.out.2]
                have t3 := hgr6.thaw_ xf
                have HF : Hid (NwAt w #[.int .i64 ((M : Nat) : Int), .slice (some ⟨ge, off, none⟩) n c, .int .i64 ((F : Nat) : Int), .int .i64 ((T : Nat) : Int)] M bW gF gB gI vF (fun j => if j = xf then (.slice (some ⟨gg, 0, none⟩) (p + 1) cap6) else vB j) (L.take (k + 1)) (w6.setCell ⟨gB, xf, none⟩ (.slice (some ⟨gg, 0, none⟩) (p + 1) cap6))) := by
                  show NwAt _ _ _ _ _ _ _ _ _ _ _
                  rw [HS.out]
                  exact HA2.out.appB (x := ⟨xf, xt, xp, false⟩) rfl hx.1 hown6 HV.out.2 (by rw [HV.out.1, HV.out.2]; exact hgrow6) (fun b e => by rw [HV.out.1, HV.out.2]; injection e with e; rw [← e]; rcases hat6 with h | h; exact Or.inl h; exact Or.inr (by rw [h]; simp))
                refine hK.out _ _ (HS0.out _ hsw6 hse6) (fun hHeld => ?_)
                clear hK K hown6 hgrow6 hat6 hlt6
                try simp only [Act.put, List.setIfInBounds_toArray, List.set_cons_zero, List.set_cons_succ]
                (refine wpAnyH_take (i := 17) (oi := ?_) (v := ?_) ?_ (by kernel_rfl) (by kernel_rfl) (by kernel_rfl) ?_ (Or.inl ⟨?_, ?_⟩) (by assumption) ?_; rotate_left 2; (focus ((simp only [List.getElem?_toArray, List.getElem?_cons_succ, List.getElem?_cons_zero]); first | done | rfl)); (focus (exact fun _ _ _ h => h)); (focus rfl); (focus (intro wz hSw; (try dsimp only at hSw); go_simp; first | done | with_reducible rfl)); try simp only [Act.put, List.setIfInBounds_toArray, List.set_cons_zero, List.set_cons_succ])
                refine wpAnyH_ready (rs := [18]) (by kernel_rfl) (by simp) ?_
                refine AllReadyH.cons (o := ?_) ?_ (fun K hK => ?_) ?_
                rotate_left
                (focus ((simp only [List.getElem?_toArray, List.getElem?_cons_succ, List.getElem?_cons_zero]); first | done | rfl))
                · skip
                  go_simp
                  refine hK.out _ _ (HS0.out _ (hsw6.set_far hgr6 (by decide) xf _) (hse6.set_far hgr6 (by decide) xf _)) (fun hHeld => ?_)
                  clear hK K
                  try simp only [Act.put, List.setIfInBounds_toArray, List.set_cons_zero, List.set_cons_succ]
                  refine wpAnyH_done (by kernel_rfl) ?_ _
                  clear hsw6 hse6 hgr6 t2 t3 hHeld
                  go_wp2_with fail
                  go_roundw
                  case rel => exact ⟨k + 1, _, _, by go_num, by omega, HF⟩
                  case measure => simp [intOf]; omega
                exact AllReadyH.nil
              exact AllReadyH.nil
            exact AllReadyH.nil
          exact AllReadyH.nil
          -- ARM1
        · skip
          have hbe : wr.heap.size < (wr.alloc (.cells #[.int .i64 ((xf : Nat) : Int), .int .i64 ((xt : Nat) : Int), .int .u64 ((wd xp 0 : Nat) : Int), .int .u64 ((wd xp 1 : Nat) : Int), .int .u64 ((wd xp 2 : Nat) : Int), .int .u64 ((wd xp 3 : Nat) : Int), .bool true] 35)).heap.size := HE1.out.lt
          go_wp2_with fail
          generalize wr.alloc (.cells #[.int .i64 ((xf : Nat) : Int), .int .i64 ((xt : Nat) : Int), .int .u64 ((wd xp 0 : Nat) : Int), .int .u64 ((wd xp 1 : Nat) : Int), .int .u64 ((wd xp 2 : Nat) : Int), .int .u64 ((wd xp 3 : Nat) : Int), .bool true] 35) = W1 at HA1 HE1 hbe ⊢
          obtain ⟨aR, cR, hv⟩ := ownsRow_slice (HA1.out.fr.2.1 xf hx.1)
          dsimp only at hv
          have hlen := rowF_len (L.take k) xf
          have htl : (L.take k).length ≤ k := List.length_take_le _ _
          have HA2 := Lib.hid (HA1.out.keep (al W1 (.cells #[.int .i64 ((xt : Nat) : Int)] 3)).drew)
          have HE2 := Lib.hid (HE1.out.keep (al W1 (.cells #[.int .i64 ((xt : Nat) : Int)] 3)).drew)
          have hrow := HA2.out.fr.2.1 xf hx.1
          rw [hv] at hrow
          dsimp only at hrow
          obtain ⟨p, hp⟩ : ∃ p, (rowF (L.take k) xf).length = p := ⟨_, rfl⟩
          have k0 : W1.cell? ⟨gF, xf, none⟩ = some (.slice aR p cR) := by rw [(HA1.out.fr.cell xf hx.1).1, hv, hp]
          have HV := Lib.hid (And.intro hv hp)
          have m2 : (W1.alloc (.cells #[.int .i64 ((xt : Nat) : Int)] 3)).drew.cell? ⟨gF, xf, none⟩ = some (.slice aR p cR) := by rw [(HA2.out.fr.cell xf hx.1).1, hv, hp]
          have i1 : (xf : Int) < (M : Int) := by omega
          have i2 : (0 : Int) ≤ (xf : Int) := by omega
          have hH2 : w.heap.size ≤ ((W1.alloc (.cells #[.int .i64 ((xt : Nat) : Int)] 3)).drew).heap.size := HA2.out.below.size
          rw [hp] at hrow hlen
          obtain ⟨i0, hi, hz0, hz1, hz2⟩ := info_parts Try.info_int9
          have hS : ∀ W, St W 78 bW #[.slice (some ⟨gF, 0, none⟩) M M, .slice (some ⟨gB, 0, none⟩) M M, .slice (some ⟨gI, 0, none⟩) M M, .slice none 0 0, .slice none 0 0] → St W 35 wr.heap.size #[.int .i64 ((xf : Nat) : Int), .int .i64 ((xt : Nat) : Int), .int .u64 ((wd xp 0 : Nat) : Int), .int .u64 ((wd xp 1 : Nat) : Int), .int .u64 ((wd xp 2 : Nat) : Int), .int .u64 ((wd xp 3 : Nat) : Int), .bool true] → (W.cell? ⟨bW, 0, none⟩ = some (.slice (some ⟨gF, 0, none⟩) M M) ∧ W.cell? ⟨wr.heap.size, 0, none⟩ = some (.int .i64 ((xf : Nat) : Int)) ∧ W.cell? ⟨wr.heap.size, 1, none⟩ = some (.int .i64 ((xt : Nat) : Int))) := fun W h1 h2 => ⟨h1.at_ 0, h2.at_ 0, h2.at_ 1⟩
          have HS0 := Lib.hid hS
          clear hv hp hS
          refine wp_region_held_drew (S := fun W' => W'.cell? ⟨bW, 0, none⟩ = some (.slice (some ⟨gF, 0, none⟩) M M) ∧ W'.cell? ⟨wr.heap.size, 0, none⟩ = some (.int .i64 ((xf : Nat) : Int)) ∧ W'.cell? ⟨wr.heap.size, 1, none⟩ = some (.int .i64 ((xt : Nat) : Int))) (by kernel_rfl) (HS0.out _ HA1.out.sw.drew HE1.out.drew) (fun hHeld => ?_)
          (refine wpAnyH_take (i := 0) (oi := ?_) (v := ?_) ?_ (by kernel_rfl) (by kernel_rfl) (by kernel_rfl) ?_ (Or.inl ⟨?_, ?_⟩) (by assumption) ?_; rotate_left 2; (focus ((simp only [List.getElem?_toArray, List.getElem?_cons_zero]); first | done | rfl)); (focus (exact fun _ _ _ h => h)); (focus rfl); (focus (intro wz hSw; (try dsimp only at hSw); go_simp; first | done | with_reducible rfl)); try simp only [Act.put, List.setIfInBounds_toArray, List.set_cons_zero, List.set_cons_succ])
          (refine wpAnyH_take (i := 1) (oi := ?_) (v := ?_) ?_ (by kernel_rfl) (by kernel_rfl) (by kernel_rfl) ?_ (Or.inl ⟨?_, ?_⟩) (by assumption) ?_; rotate_left 2; (focus ((simp only [List.getElem?_toArray, List.getElem?_cons_succ, List.getElem?_cons_zero]); first | done | rfl)); (focus (exact fun _ _ _ h => h)); (focus rfl); (focus (intro wz hSw; (try dsimp only at hSw); go_simp; first | done | with_reducible rfl)); try simp only [Act.put, List.setIfInBounds_toArray, List.set_cons_zero, List.set_cons_succ])
          (refine wpAnyH_take (i := 2) (oi := ?_) (v := ?_) ?_ (by kernel_rfl) (by kernel_rfl) (by kernel_rfl) ?_ (Or.inl ⟨?_, ?_⟩) (by assumption) ?_; rotate_left 2; (focus ((simp only [List.getElem?_toArray, List.getElem?_cons_succ, List.getElem?_cons_zero]); first | done | rfl)); (focus (exact fun _ _ _ h => h)); (focus rfl); (focus (intro wz hSw; (try dsimp only at hSw); go_simp; first | done | with_reducible rfl)); try simp only [Act.put, List.setIfInBounds_toArray, List.set_cons_zero, List.set_cons_succ])
          (refine wpAnyH_take (i := 3) (oi := ?_) (v := ?_) ?_ (by kernel_rfl) (by kernel_rfl) (by kernel_rfl) ?_ (Or.inl ⟨?_, ?_⟩) (by assumption) ?_; rotate_left 2; (focus ((simp only [List.getElem?_toArray, List.getElem?_cons_succ, List.getElem?_cons_zero]); first | done | rfl)); (focus (exact fun _ _ _ h => h)); (focus rfl); (focus (intro wz hSw; (try dsimp only at hSw); go_simp; first | done | with_reducible rfl)); try simp only [Act.put, List.setIfInBounds_toArray, List.set_cons_zero, List.set_cons_succ])
          (refine wpAnyH_take (i := 4) (oi := ?_) (v := ?_) ?_ (by kernel_rfl) (by kernel_rfl) (by kernel_rfl) ?_ (Or.inl ⟨?_, ?_⟩) (by assumption) ?_; rotate_left 2; (focus ((simp only [List.getElem?_toArray, List.getElem?_cons_succ, List.getElem?_cons_zero]); first | done | rfl)); (focus (exact fun _ _ _ h => h)); (focus rfl); (focus (intro wz hSw; (try dsimp only at hSw); go_simp; first | done | with_reducible rfl)); try simp only [Act.put, List.setIfInBounds_toArray, List.set_cons_zero, List.set_cons_succ])
          (refine wpAnyH_take (i := 5) (oi := ?_) (v := ?_) ?_ (by kernel_rfl) (by kernel_rfl) (by kernel_rfl) ?_ (Or.inl ⟨?_, ?_⟩) (by assumption) ?_; rotate_left 2; (focus ((simp only [List.getElem?_toArray, List.getElem?_cons_succ, List.getElem?_cons_zero]); first | done | rfl)); (focus (exact fun _ _ _ h => h)); (focus rfl); (focus (intro wz hSw; (try dsimp only at hSw); go_simp; first | done | with_reducible rfl)); try simp only [Act.put, List.setIfInBounds_toArray, List.set_cons_zero, List.set_cons_succ])
          (refine wpAnyH_take (i := 6) (oi := ?_) (v := ?_) ?_ (by kernel_rfl) (by kernel_rfl) (by kernel_rfl) ?_ (Or.inl ⟨?_, ?_⟩) (by assumption) ?_; rotate_left 2; (focus ((simp only [List.getElem?_toArray, List.getElem?_cons_succ, List.getElem?_cons_zero]); first | done | rfl)); (focus (exact fun _ _ _ h => h)); (focus rfl); (focus (intro wz hSw; (try dsimp only at hSw); go_simp; first | done | with_reducible rfl)); try simp only [Act.put, List.setIfInBounds_toArray, List.set_cons_zero, List.set_cons_succ])
          (refine wpAnyH_take (i := 7) (oi := ?_) (v := ?_) ?_ (by kernel_rfl) (by kernel_rfl) (by kernel_rfl) ?_ (Or.inl ⟨?_, ?_⟩) (by assumption) ?_; rotate_left 2; (focus ((simp only [List.getElem?_toArray, List.getElem?_cons_succ, List.getElem?_cons_zero]); first | done | rfl)); (focus (exact fun _ _ _ h => h)); (focus rfl); (focus (intro wz hSw; (try dsimp only at hSw); go_simp; first | done | with_reducible rfl)); try simp only [Act.put, List.setIfInBounds_toArray, List.set_cons_zero, List.set_cons_succ])
          (refine wpAnyH_take (i := 8) (oi := ?_) (v := ?_) ?_ (by kernel_rfl) (by kernel_rfl) (by kernel_rfl) ?_ (Or.inl ⟨?_, ?_⟩) (by assumption) ?_; rotate_left 2; (focus ((simp only [List.getElem?_toArray, List.getElem?_cons_succ, List.getElem?_cons_zero]); first | done | rfl)); (focus (exact fun _ _ _ h => h)); (focus rfl); (focus (intro wz hSw; (try dsimp only at hSw); go_simp; first | done | with_reducible rfl)); try simp only [Act.put, List.setIfInBounds_toArray, List.set_cons_zero, List.set_cons_succ])
          (refine wpAnyH_take (i := 9) (oi := ?_) (v := ?_) ?_ (by kernel_rfl) (by kernel_rfl) (by kernel_rfl) ?_ (Or.inl ⟨?_, ?_⟩) (by assumption) ?_; rotate_left 2; (focus ((simp only [List.getElem?_toArray, List.getElem?_cons_succ, List.getElem?_cons_zero]); first | done | rfl)); (focus (exact fun _ _ _ h => h)); (focus rfl); (focus (intro wz hSw; (try dsimp only at hSw); go_simp; first | done | with_reducible rfl)); try simp only [Act.put, List.setIfInBounds_toArray, List.set_cons_zero, List.set_cons_succ])
          (refine wpAnyH_take (i := 10) (oi := ?_) (v := ?_) ?_ (by kernel_rfl) (by kernel_rfl) (by kernel_rfl) ?_ (Or.inl ⟨?_, ?_⟩) (by assumption) ?_; rotate_left 2; (focus ((simp only [List.getElem?_toArray, List.getElem?_cons_succ, List.getElem?_cons_zero]); first | done | rfl)); (focus (exact fun _ _ _ h => h)); (focus rfl); (focus (intro wz hSw; (try dsimp only at hSw); go_simp; first | done | with_reducible rfl)); try simp only [Act.put, List.setIfInBounds_toArray, List.set_cons_zero, List.set_cons_succ])
          (refine wpAnyH_take (i := 11) (oi := ?_) (v := ?_) ?_ (by kernel_rfl) (by kernel_rfl) (by kernel_rfl) ?_ (Or.inl ⟨?_, ?_⟩) (by assumption) ?_; rotate_left 2; (focus ((simp only [List.getElem?_toArray, List.getElem?_cons_succ, List.getElem?_cons_zero]); first | done | rfl)); (focus (exact fun _ _ _ h => h)); (focus rfl); (focus (intro wz hSw; (try dsimp only at hSw); go_simp; first | done | with_reducible rfl)); try simp only [Act.put, List.setIfInBounds_toArray, List.set_cons_zero, List.set_cons_succ])
          (refine wpAnyH_take (i := 12) (oi := ?_) (v := ?_) ?_ (by kernel_rfl) (by kernel_rfl) (by kernel_rfl) ?_ (Or.inl ⟨?_, ?_⟩) (by assumption) ?_; rotate_left 2; (focus ((simp only [List.getElem?_toArray, List.getElem?_cons_succ, List.getElem?_cons_zero]); first | done | rfl)); (focus (exact fun _ _ _ h => h)); (focus rfl); (focus (intro wz hSw; (try dsimp only at hSw); go_simp; first | done | with_reducible rfl)); try simp only [Act.put, List.setIfInBounds_toArray, List.set_cons_zero, List.set_cons_succ])
          (refine wpAnyH_take (i := 14) (oi := ?_) (v := ?_) ?_ (by kernel_rfl) (by kernel_rfl) (by kernel_rfl) ?_ (Or.inl ⟨?_, ?_⟩) (by assumption) ?_; rotate_left 2; (focus ((simp only [List.getElem?_toArray, List.getElem?_cons_succ, List.getElem?_cons_zero]); first | done | rfl)); (focus (exact fun _ _ _ h => h)); (focus rfl); (focus (intro wz hSw; (try dsimp only at hSw); go_simp; first | done | with_reducible rfl)); try simp only [Act.put, List.setIfInBounds_toArray, List.set_cons_zero, List.set_cons_succ])
          (refine wpAnyH_take (i := 15) (oi := ?_) (v := ?_) ?_ (by kernel_rfl) (by kernel_rfl) (by kernel_rfl) ?_ (Or.inl ⟨?_, ?_⟩) (by assumption) ?_; rotate_left 2; (focus ((simp only [List.getElem?_toArray, List.getElem?_cons_succ, List.getElem?_cons_zero]); first | done | rfl)); (focus (exact fun _ _ _ h => h)); (focus rfl); (focus (intro wz hSw; (try dsimp only at hSw); go_simp; first | done | with_reducible rfl)); try simp only [Act.put, List.setIfInBounds_toArray, List.set_cons_zero, List.set_cons_succ])
          refine wpAnyH_ready (rs := [13, 16]) (by kernel_rfl) (by simp) ?_
          refine AllReadyH.cons (o := ?_) ?_ (fun K hK => ?_) ?_
          rotate_left
          (focus ((simp only [List.getElem?_toArray, List.getElem?_cons_succ, List.getElem?_cons_zero]); first | done | rfl))
          · skip
            go_simp
            refine hK.out _ _ (HS0.out _ HA1.out.sw.drew HE1.out.drew) (fun hHeld => ?_)
            clear hK K
            try simp only [Act.put, List.setIfInBounds_toArray, List.set_cons_zero, List.set_cons_succ]
            refine wpAnyH_ready (rs := [16]) (by kernel_rfl) (by simp) ?_
            refine AllReadyH.cons (o := ?_) ?_ (fun K hK => ?_) ?_
            rotate_left
            (focus ((simp only [List.getElem?_toArray, List.getElem?_cons_succ, List.getElem?_cons_zero]); first | done | rfl))
            · skip
              go_simp
              refine hK.out _ _ (HS0.out _ HA2.out.sw HE2.out) (fun hHeld => ?_)
              clear hK K
              try simp only [Act.put, List.setIfInBounds_toArray, List.set_cons_zero, List.set_cons_succ]
              refine wpAnyH_ready (rs := [17]) (by kernel_rfl) (by simp) ?_
              refine AllReadyH.cons (o := ?_) ?_ (fun K hK => ?_) ?_
              rotate_left
              (focus ((simp only [List.getElem?_toArray, List.getElem?_cons_succ, List.getElem?_cons_zero]); first | done | rfl))
              · skip
                skip
                refine step_append_lies _ (by rfl) _ _ _ (by rfl) w.heap.size 3 i0 (.int .i64 0) 1 8 Try.underlying43 hi hz0 hz1 hz2 (by rfl) (by decide) _ p (nums64 (rowF (L.take k) xf)) (by rfl) hrow ⟨W1.heap.size, 0, none⟩ 1 1 (#[.int .i64 ((xt : Nat) : Int)]).toList (by rfl) (by rfl) (World.news_of_block (cs := #[.int .i64 ((xt : Nat) : Int)]) (t := 3) (fr := (0, 0)) (heap_alloc_new W1 _)) (by simp [Value.oneCell']) (by omega) (by unfold maxLen; omega) (by omega) hH2 (W1.heap.size + 1) (by simp) ?_
                intro gg cap6 w6 hown6 hgrow6 hat6 hlt6
                have hsw6 := HA2.out.sw.grown_own hrow (by decide) hgrow6
                have hse6 := HE2.out.grown_own hrow (by decide) hgrow6
                have hgr6 := HA2.out.fr.1.grown_own hrow (by decide) hgrow6
                have t2 : w6.cell? ⟨gF, xf, none⟩ = some (.slice aR p cR) := by rw [hgr6.at_]; simp only [List.getElem?_toArray, List.getElem?_map, List.getElem?_range hx.1, Option.map_some, HV.out.1, HV.out.2]
                have t3 := hgr6.thaw_ xf
                have HF : Hid (NwAt w #[.int .i64 ((M : Nat) : Int), .slice (some ⟨ge, off, none⟩) n c, .int .i64 ((F : Nat) : Int), .int .i64 ((T : Nat) : Int)] M bW gF gB gI (fun j => if j = xf then (.slice (some ⟨gg, 0, none⟩) (p + 1) cap6) else vF j) vB (L.take (k + 1)) (w6.setCell ⟨gF, xf, none⟩ (.slice (some ⟨gg, 0, none⟩) (p + 1) cap6))) := by
                  show NwAt _ _ _ _ _ _ _ _ _ _ _
                  rw [HS.out]
                  exact HA2.out.appF (x := ⟨xf, xt, xp, true⟩) rfl hx.1 hown6 HV.out.2 (by rw [HV.out.1, HV.out.2]; exact hgrow6) (fun b e => by rw [HV.out.1, HV.out.2]; injection e with e; rw [← e]; rcases hat6 with h | h; exact Or.inl h; exact Or.inr (by rw [h]; simp))
                refine hK.out _ _ (HS0.out _ hsw6 hse6) (fun hHeld => ?_)
                clear hK K hown6 hgrow6 hat6 hlt6
                try simp only [Act.put, List.setIfInBounds_toArray, List.set_cons_zero, List.set_cons_succ]
                (refine wpAnyH_take (i := 18) (oi := ?_) (v := ?_) ?_ (by kernel_rfl) (by kernel_rfl) (by kernel_rfl) ?_ (Or.inl ⟨?_, ?_⟩) (by assumption) ?_; rotate_left 2; (focus ((simp only [List.getElem?_toArray, List.getElem?_cons_succ, List.getElem?_cons_zero]); first | done | rfl)); (focus (exact fun _ _ _ h => h)); (focus rfl); (focus (intro wz hSw; (try dsimp only at hSw); go_simp; first | done | with_reducible rfl)); try simp only [Act.put, List.setIfInBounds_toArray, List.set_cons_zero, List.set_cons_succ])
                refine wpAnyH_ready (rs := [19]) (by kernel_rfl) (by simp) ?_
                refine AllReadyH.cons (o := ?_) ?_ (fun K hK => ?_) ?_
                rotate_left
                (focus ((simp only [List.getElem?_toArray, List.getElem?_cons_succ, List.getElem?_cons_zero]); first | done | rfl))
                · skip
                  go_simp
                  refine hK.out _ _ (HS0.out _ (hsw6.set_far hgr6 (by decide) xf _) (hse6.set_far hgr6 (by decide) xf _)) (fun hHeld => ?_)
                  clear hK K
                  try simp only [Act.put, List.setIfInBounds_toArray, List.set_cons_zero, List.set_cons_succ]
                  refine wpAnyH_done (by kernel_rfl) ?_ _
                  clear hsw6 hse6 hgr6 t2 t3 hHeld
                  go_wp2_with fail
                  go_roundw
                  case rel => exact ⟨k + 1, _, _, by go_num, by omega, HF⟩
                  case measure => simp [intOf]; omega
                exact AllReadyH.nil
              exact AllReadyH.nil
            exact AllReadyH.nil
          refine AllReadyH.cons (o := ?_) ?_ (fun K hK => ?_) ?_
          rotate_left
          (focus ((simp only [List.getElem?_toArray, List.getElem?_cons_succ, List.getElem?_cons_zero]); first | done | rfl))
          · skip
            go_simp
            refine hK.out _ _ (HS0.out _ HA2.out.sw HE2.out) (fun hHeld => ?_)
            clear hK K
            try simp only [Act.put, List.setIfInBounds_toArray, List.set_cons_zero, List.set_cons_succ]
            refine wpAnyH_ready (rs := [13]) (by kernel_rfl) (by simp) ?_
            refine AllReadyH.cons (o := ?_) ?_ (fun K hK => ?_) ?_
            rotate_left
            (focus ((simp only [List.getElem?_toArray, List.getElem?_cons_succ, List.getElem?_cons_zero]); first | done | rfl))
            · skip
              go_simp
              refine hK.out _ _ (HS0.out _ HA2.out.sw HE2.out) (fun hHeld => ?_)
              clear hK K
              try simp only [Act.put, List.setIfInBounds_toArray, List.set_cons_zero, List.set_cons_succ]
              refine wpAnyH_ready (rs := [17]) (by kernel_rfl) (by simp) ?_
              refine AllReadyH.cons (o := ?_) ?_ (fun K hK => ?_) ?_
              rotate_left
              (focus ((simp only [List.getElem?_toArray, List.getElem?_cons_succ, List.getElem?_cons_zero]); first | done | rfl))
              · skip
                skip
                refine step_append_lies _ (by rfl) _ _ _ (by rfl) w.heap.size 3 i0 (.int .i64 0) 1 8 Try.underlying43 hi hz0 hz1 hz2 (by rfl) (by decide) _ p (nums64 (rowF (L.take k) xf)) (by rfl) hrow ⟨W1.heap.size, 0, none⟩ 1 1 (#[.int .i64 ((xt : Nat) : Int)]).toList (by rfl) (by rfl) (World.news_of_block (cs := #[.int .i64 ((xt : Nat) : Int)]) (t := 3) (fr := (0, 0)) (heap_alloc_new W1 _)) (by simp [Value.oneCell']) (by omega) (by unfold maxLen; omega) (by omega) hH2 (W1.heap.size + 1) (by simp) ?_
                intro gg cap6 w6 hown6 hgrow6 hat6 hlt6
                have hsw6 := HA2.out.sw.grown_own hrow (by decide) hgrow6
                have hse6 := HE2.out.grown_own hrow (by decide) hgrow6
                have hgr6 := HA2.out.fr.1.grown_own hrow (by decide) hgrow6
                have t2 : w6.cell? ⟨gF, xf, none⟩ = some (.slice aR p cR) := by rw [hgr6.at_]; simp only [List.getElem?_toArray, List.getElem?_map, List.getElem?_range hx.1, Option.map_some, HV.out.1, HV.out.2]
                have t3 := hgr6.thaw_ xf
                have HF : Hid (NwAt w #[.int .i64 ((M : Nat) : Int), .slice (some ⟨ge, off, none⟩) n c, .int .i64 ((F : Nat) : Int), .int .i64 ((T : Nat) : Int)] M bW gF gB gI (fun j => if j = xf then (.slice (some ⟨gg, 0, none⟩) (p + 1) cap6) else vF j) vB (L.take (k + 1)) (w6.setCell ⟨gF, xf, none⟩ (.slice (some ⟨gg, 0, none⟩) (p + 1) cap6))) := by
                  show NwAt _ _ _ _ _ _ _ _ _ _ _
                  rw [HS.out]
                  exact HA2.out.appF (x := ⟨xf, xt, xp, true⟩) rfl hx.1 hown6 HV.out.2 (by rw [HV.out.1, HV.out.2]; exact hgrow6) (fun b e => by rw [HV.out.1, HV.out.2]; injection e with e; rw [← e]; rcases hat6 with h | h; exact Or.inl h; exact Or.inr (by rw [h]; simp))
                refine hK.out _ _ (HS0.out _ hsw6 hse6) (fun hHeld => ?_)
                clear hK K hown6 hgrow6 hat6 hlt6
                try simp only [Act.put, List.setIfInBounds_toArray, List.set_cons_zero, List.set_cons_succ]
                (refine wpAnyH_take (i := 18) (oi := ?_) (v := ?_) ?_ (by kernel_rfl) (by kernel_rfl) (by kernel_rfl) ?_ (Or.inl ⟨?_, ?_⟩) (by assumption) ?_; rotate_left 2; (focus ((simp only [List.getElem?_toArray, List.getElem?_cons_succ, List.getElem?_cons_zero]); first | done | rfl)); (focus (exact fun _ _ _ h => h)); (focus rfl); (focus (intro wz hSw; (try dsimp only at hSw); go_simp; first | done | with_reducible rfl)); try simp only [Act.put, List.setIfInBounds_toArray, List.set_cons_zero, List.set_cons_succ])
                refine wpAnyH_ready (rs := [19]) (by kernel_rfl) (by simp) ?_
                refine AllReadyH.cons (o := ?_) ?_ (fun K hK => ?_) ?_
                rotate_left
                (focus ((simp only [List.getElem?_toArray, List.getElem?_cons_succ, List.getElem?_cons_zero]); first | done | rfl))
                · skip
                  go_simp
                  refine hK.out _ _ (HS0.out _ (hsw6.set_far hgr6 (by decide) xf _) (hse6.set_far hgr6 (by decide) xf _)) (fun hHeld => ?_)
                  clear hK K
                  try simp only [Act.put, List.setIfInBounds_toArray, List.set_cons_zero, List.set_cons_succ]
                  refine wpAnyH_done (by kernel_rfl) ?_ _
                  clear hsw6 hse6 hgr6 t2 t3 hHeld
                  go_wp2_with fail
                  go_roundw
                  case rel => exact ⟨k + 1, _, _, by go_num, by omega, HF⟩
                  case measure => simp [intOf]; omega
                exact AllReadyH.nil
              exact AllReadyH.nil
            exact AllReadyH.nil
          exact AllReadyH.nil
          -- ARMS
      · obtain rfl : k = n := by omega
        have HF : Hid (NwAt w #[.int .i64 ((M : Nat) : Int), .slice a k c, .int .i64 ((F : Nat) : Int), .int .i64 ((T : Nat) : Int)] M bW gF gB gI vF vB L wr) := by
          have h := HA.out
          rwa [List.take_of_length_le (by rw [HL.out.2.1]; exact Nat.le_refl _)] at h
        go_wp2_with fail
        go_ret
        exact ⟨bW, gF, gB, gI, vF, vB, rfl, HF.out⟩
end Go.Proofs.Ythidhkaeebakjaa
