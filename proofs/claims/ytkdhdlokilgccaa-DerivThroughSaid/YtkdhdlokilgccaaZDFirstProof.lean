/-
  What is proved: for every list of pieces and every byte, the law DerivFirst returns true and leaves its arguments as they were. No condition.
-/
import Derived.Test.YtkdhdlokilgccaaZChk
import Derived.Test.YtkdhdlokilgccaaZDRFirst
import Derived.Test.YtkdhdlokilgccaaZRChk
import Derived.Test.YtkdhdlokilgccaaZDRFirstA
import Derived.Test.YtkdhdlokilgccaaZStart
import Derived.Deep.RegionHeld3
namespace Go.Proofs.Ytkdhdlokilgccaa
open Go.RowKit Go.Maps Go.WideElems Go.ChangeMaps Go.MapKept
set_option linter.unusedVariables false

/-! ### Pieces without bytes beyond the last -/
def canP (x : Pc) : Pc := ⟨x.k, fun i => decide (i < 256) && x.p i⟩
theorem canP_can (x : Pc) : (canP x).can := fun b hb => by
  show (decide (b < 256) && x.p b) = false
  rw [decide_eq_false (by omega)]; rfl
theorem canP_cells (x : Pc) : pcCells (canP x) = pcCells x := by
  have h := (wd_iff (canP x).p x.p).2 (fun b hb => by
    show (decide (b < 256) && x.p b) = x.p b
    rw [decide_eq_true hb]; rfl)
  obtain ⟨h0, h1, h2, h3⟩ := h
  unfold pcCells
  rw [h0, h1, h2, h3]
  rfl
theorem can_pcs (l : List Pc) : pcs (l.map canP) = pcs l := by
  induction l with
  | nil => rfl
  | cons x l ih =>
    show pcCells (canP x) ++ pcs (l.map canP) = pcCells x ++ pcs l
    rw [canP_cells, ih]
theorem can_rx {w : World} {a : Option Addr} {l : List Pc} (h : RxAt w a l) : RxAt w a (l.map canP) := by
  intro h0
  simp only [List.length_map] at h0
  obtain ⟨g, off, ha, hg, hc⟩ := h h0
  exact ⟨g, off, ha, hg, fun j hj => by rw [can_pcs]; exact hc j (by simpa using hj)⟩
theorem fld_left (x : Bool) (a : Option Addr) (n c : Nat) (W : World) : (Instr.field 34 (.agg #[.bool x, .slice a n c]) 0).run Try.prog W = .ok (.bool x) W := by kernel_rfl

set_option maxHeartbeats 4000000 in
set_option maxRecDepth 100000 in
theorem derivFirst_can (l : List Pc) (hcan : ∀ x ∈ l, x.can) (a : Option Addr) (n cap : Nat) (b : Nat) (hb : b < 256) (w : World) (hL : RxAt w a l) (hn : l.length = n) (hcap : n ≤ cap ∧ cap ≤ maxLen) :
    Calls Try.prog 3 #[.slice a n cap, .int .u8 b] w fun e w' => e = .returned (.bool true) ∧ Below w.heap.size w w' := by
  have H0 := Lib.hid (And.intro hL (And.intro hn (And.intro hcan hcap)))
  have hn9 : n ≤ 9223372036854775807 := by have := hcap.1; have := hcap.2; unfold maxLen at this; omega
  clear hL hn hcan hcap
  go_enter Try.func3, Try.ntmps3
  go_wp2_with fail
  refine (awk_any w).mono ?_
  rintro e w1 ⟨rfl, b1⟩
  have H1 := Lib.hid b1
  clear b1
  by_cases hbig : 60 < n
  · go_wp2_with fail
    go_ret
    exact ⟨rfl, H1.out⟩
  · go_wp2_with fail
    refine (rcheck_any l a n cap w1 (H0.out.1.below H1.out) H0.out.2.1 (by omega)).mono ?_
    rintro e w2 ⟨rfl, b2⟩
    have H2 := Lib.hid (H1.out.trans (b2.mono H1.out.size))
    clear b2
    by_cases hck : chkT l = 0
    · obtain ⟨hl4, t, hw, rfl⟩ := chk_tree l hck
      have hen : EnterOk t := by
        refine enter_any t hw ?_ H0.out.2.2.1
        have := chkT_of t.flat (by omega) _ rfl
        rw [hck] at this
        by_cases h : chkGo t.flat 0 = some 1
        · exact h
        · rw [if_neg h] at this; cases this
      rw [hck]
      have hL2 := H0.out.1.below H2.out
      obtain ⟨g, off, rfl, _, _⟩ := hL2 t.flat_pos
      have HK := Lib.hid (And.intro hw (And.intro hck (And.intro hen hL2)))
      clear hw hck hen hL2 hl4
      go_wp2_with fail
      refine (rfirst_any t HK.out.1 g off n cap w2 HK.out.2.2.2 H0.out.2.1 (by omega) H0.out.2.2.2).mono ?_
      rintro e w3 ⟨rfl, b3⟩
      obtain ⟨q, hq⟩ : ∃ q, (refF t).s = q := ⟨_, rfl⟩
      obtain ⟨e0, he0⟩ : ∃ e0, (refF t).e = e0 := ⟨_, rfl⟩
      have hfo := refF_ok t HK.out.1
      unfold FOk at hfo
      rw [hq, he0] at hfo
      rw [hq, he0]
      have HF := Lib.hid hfo
      have H3 := Lib.hid (And.intro (H2.out.trans (b3.mono H2.out.size)) (HK.out.2.2.2.below b3))
      clear b3 hq he0 hfo
      have hS := St.new w3 28 #[.int .u64 ((wd q 0 : Nat) : Int), .int .u64 ((wd q 1 : Nat) : Int), .int .u64 ((wd q 2 : Nat) : Int), .int .u64 ((wd q 3 : Nat) : Int)]
      have hWb : Below w3.heap.size w3 (w3.alloc (.cells #[.int .u64 ((wd q 0 : Nat) : Int), .int .u64 ((wd q 1 : Nat) : Int), .int .u64 ((wd q 2 : Nat) : Int), .int .u64 ((wd q 3 : Nat) : Int)] 28)) := (Below.refl _ _).alloc (Nat.le_refl _) _
      have HS := Lib.hid (And.intro hS hWb)
      have heq := run_eq_set
      have hfl := fld_left
      clear hS hWb
      go_wp2_with fail
      generalize w3.alloc (.cells #[.int .u64 ((wd q 0 : Nat) : Int), .int .u64 ((wd q 1 : Nat) : Int), .int .u64 ((wd q 2 : Nat) : Int), .int .u64 ((wd q 3 : Nat) : Int)] 28) = V at HS ⊢
      have hgs3 : w3.heap.size < V.heap.size := HS.out.1.lt
      have HBV := Lib.hid (H3.out.1.trans (HS.out.2.mono H3.out.1.size))
      have HLV := Lib.hid (H3.out.2.below HS.out.2)
      obtain ⟨s0, s1, s2, s3, _, _, _, _⟩ := row4 HS.out.1
      generalize w3.heap.size = gs at s0 s1 s2 s3 hgs3 ⊢
      have HE : Hid (∀ W, Below V.heap.size V W → Calls Try.prog 10 #[.slice (some ⟨g, off, none⟩) n cap] W fun e w' => e = .returned (.bool e0) ∧ Below W.heap.size W w') := Lib.hid fun W hW =>
        (dempty_any t HK.out.2.2.1 _ n cap W (HLV.out.below hW) H0.out.2.1 (by omega) H0.out.2.2.2).mono (by
          rintro e w' ⟨x, rfl, hx, h⟩
          have : x = e0 := by
            have h1 := hx.trans HF.out.1.symm
            cases x <;> cases e0 <;> simp at h1 ⊢
          rw [this]
          exact ⟨rfl, h⟩)
      have HFi : Hid (∀ W, Below V.heap.size V W → Calls Try.prog 11 #[.slice (some ⟨g, off, none⟩) n cap] W fun e w' => e = .returned (.agg #[.int .u64 ((wd q 0 : Nat) : Int), .int .u64 ((wd q 1 : Nat) : Int), .int .u64 ((wd q 2 : Nat) : Int), .int .u64 ((wd q 3 : Nat) : Int)]) ∧ Below W.heap.size W w') := Lib.hid fun W hW =>
        (dfirst_any t HK.out.2.2.1 _ n cap W (HLV.out.below hW) H0.out.2.1 (by omega) H0.out.2.2.2).mono (by
          rintro e w' ⟨p, rfl, hp, h⟩
          obtain ⟨e0', e1, e2, e3⟩ := (wd_iff p q).2 (fun c hc => by
            have h1 := (hp c hc).trans (HF.out.2.1 c hc).symm
            cases hx : p c <;> cases hy : q c <;> simp [hx, hy] at h1 ⊢)
          rw [e0', e1, e2, e3]
          exact ⟨rfl, h⟩)
      have HHas : Hid (∀ W, Below V.heap.size V W → Calls Try.prog 13 #[(.agg #[.int .u64 ((wd q 0 : Nat) : Int), .int .u64 ((wd q 1 : Nat) : Int), .int .u64 ((wd q 2 : Nat) : Int), .int .u64 ((wd q 3 : Nat) : Int)]), .int .i64 (IntKind.i64.wrap ((b : Nat) : Int))] W fun e w' => e = .returned (.bool (q b)) ∧ Below W.heap.size W w') := Lib.hid fun W _ => by
        rw [show IntKind.i64.wrap ((b : Nat) : Int) = ((b : Nat) : Int) from IntWalk.i64_in _ (by omega)]
        exact rhas_any q b hb W
      have HBy : Hid (∀ W, Below V.heap.size V W → Calls Try.prog 12 #[.slice (some ⟨g, off, none⟩) n cap, .int .u8 b] W fun e w' => (∃ (a9 : Option Addr) (n9 c9 : Nat), e = .returned (.agg #[.bool (!q b), .slice a9 n9 c9])) ∧ Below W.heap.size W w') := Lib.hid fun W hW =>
        (by_any t HK.out.2.1 HK.out.2.2.1 _ n cap W (HLV.out.below hW) H0.out.2.1 (by omega) H0.out.2.2.2 b hb).mono (by
          rintro e w' ⟨h, vd, a9, n9, c9, rfl, hc⟩
          have hv : vd = !q b := by
            rcases hc with ⟨rfl, hno⟩ | ⟨rfl, u', _, _, _, _, hw', _, _, _, _, _, hl'⟩
            · cases hy : q b
              · rfl
              · obtain ⟨s, hs⟩ := (HF.out.2.1 b hb).1 hy
                exact absurd hs (hno s)
            · obtain ⟨s, hs⟩ := lan_some u' hw'
              rw [(HF.out.2.1 b hb).2 ⟨s, (hl' s).1 hs⟩]; rfl
          rw [hv]
          exact ⟨⟨a9, n9, c9, rfl⟩, h⟩)
      have hdV : Below V.heap.size V V.drew := (Below.refl _ _).drew
      have hh : Below V.heap.size V V.drew ∧ V.drew.cell? ⟨gs, 0, none⟩ = some (.int .u64 ((wd q 0 : Nat) : Int)) ∧ V.drew.cell? ⟨gs, 1, none⟩ = some (.int .u64 ((wd q 1 : Nat) : Int)) ∧ V.drew.cell? ⟨gs, 2, none⟩ = some (.int .u64 ((wd q 2 : Nat) : Int)) ∧ V.drew.cell? ⟨gs, 3, none⟩ = some (.int .u64 ((wd q 3 : Nat) : Int)) := ⟨hdV, s0, s1, s2, s3⟩
      clear s0 s1 s2 s3 hdV
      generalize q b = y at HHas HBy
      cases y
      · simp only [Bool.not_false] at HBy
        go_region_held3 (fun W' => Below V.heap.size V W' ∧ W'.cell? ⟨gs, 0, none⟩ = some (.int .u64 ((wd q 0 : Nat) : Int)) ∧ W'.cell? ⟨gs, 1, none⟩ = some (.int .u64 ((wd q 1 : Nat) : Int)) ∧ W'.cell? ⟨gs, 2, none⟩ = some (.int .u64 ((wd q 2 : Nat) : Int)) ∧ W'.cell? ⟨gs, 3, none⟩ = some (.int .u64 ((wd q 3 : Nat) : Int))) (first | exact hh | exact hHeld)
          (first
            | (go_at_call 10; refine (HE.out _ (by first | exact hh.1 | exact hHeld.1)).mono ?_; rintro e wx ⟨rfl, bx⟩; (have hh' : Below V.heap.size V wx ∧ wx.cell? ⟨gs, 0, none⟩ = some (.int .u64 ((wd q 0 : Nat) : Int)) ∧ wx.cell? ⟨gs, 1, none⟩ = some (.int .u64 ((wd q 1 : Nat) : Int)) ∧ wx.cell? ⟨gs, 2, none⟩ = some (.int .u64 ((wd q 2 : Nat) : Int)) ∧ wx.cell? ⟨gs, 3, none⟩ = some (.int .u64 ((wd q 3 : Nat) : Int)) := by first | exact ⟨hh.1.trans (bx.mono hh.1.size), (bx.cell (p := ⟨gs, 0, none⟩) (Nat.lt_of_lt_of_le hgs3 hh.1.size)).trans hh.2.1, (bx.cell (p := ⟨gs, 1, none⟩) (Nat.lt_of_lt_of_le hgs3 hh.1.size)).trans hh.2.2.1, (bx.cell (p := ⟨gs, 2, none⟩) (Nat.lt_of_lt_of_le hgs3 hh.1.size)).trans hh.2.2.2.1, (bx.cell (p := ⟨gs, 3, none⟩) (Nat.lt_of_lt_of_le hgs3 hh.1.size)).trans hh.2.2.2.2⟩ | exact ⟨hHeld.1.trans (bx.mono hHeld.1.size), (bx.cell (p := ⟨gs, 0, none⟩) (Nat.lt_of_lt_of_le hgs3 hHeld.1.size)).trans hHeld.2.1, (bx.cell (p := ⟨gs, 1, none⟩) (Nat.lt_of_lt_of_le hgs3 hHeld.1.size)).trans hHeld.2.2.1, (bx.cell (p := ⟨gs, 2, none⟩) (Nat.lt_of_lt_of_le hgs3 hHeld.1.size)).trans hHeld.2.2.2.1, (bx.cell (p := ⟨gs, 3, none⟩) (Nat.lt_of_lt_of_le hgs3 hHeld.1.size)).trans hHeld.2.2.2.2⟩); clear hh; (have hh := hh'); clear hh' bx)
            | (go_at_call 11; refine (HFi.out _ (by first | exact hh.1 | exact hHeld.1)).mono ?_; rintro e wx ⟨rfl, bx⟩; (have hh' : Below V.heap.size V wx ∧ wx.cell? ⟨gs, 0, none⟩ = some (.int .u64 ((wd q 0 : Nat) : Int)) ∧ wx.cell? ⟨gs, 1, none⟩ = some (.int .u64 ((wd q 1 : Nat) : Int)) ∧ wx.cell? ⟨gs, 2, none⟩ = some (.int .u64 ((wd q 2 : Nat) : Int)) ∧ wx.cell? ⟨gs, 3, none⟩ = some (.int .u64 ((wd q 3 : Nat) : Int)) := by first | exact ⟨hh.1.trans (bx.mono hh.1.size), (bx.cell (p := ⟨gs, 0, none⟩) (Nat.lt_of_lt_of_le hgs3 hh.1.size)).trans hh.2.1, (bx.cell (p := ⟨gs, 1, none⟩) (Nat.lt_of_lt_of_le hgs3 hh.1.size)).trans hh.2.2.1, (bx.cell (p := ⟨gs, 2, none⟩) (Nat.lt_of_lt_of_le hgs3 hh.1.size)).trans hh.2.2.2.1, (bx.cell (p := ⟨gs, 3, none⟩) (Nat.lt_of_lt_of_le hgs3 hh.1.size)).trans hh.2.2.2.2⟩ | exact ⟨hHeld.1.trans (bx.mono hHeld.1.size), (bx.cell (p := ⟨gs, 0, none⟩) (Nat.lt_of_lt_of_le hgs3 hHeld.1.size)).trans hHeld.2.1, (bx.cell (p := ⟨gs, 1, none⟩) (Nat.lt_of_lt_of_le hgs3 hHeld.1.size)).trans hHeld.2.2.1, (bx.cell (p := ⟨gs, 2, none⟩) (Nat.lt_of_lt_of_le hgs3 hHeld.1.size)).trans hHeld.2.2.2.1, (bx.cell (p := ⟨gs, 3, none⟩) (Nat.lt_of_lt_of_le hgs3 hHeld.1.size)).trans hHeld.2.2.2.2⟩); clear hh; (have hh := hh'); clear hh' bx)
            | (go_at_call 12; refine (HBy.out _ (by first | exact hh.1 | exact hHeld.1)).mono ?_; rintro e wx ⟨⟨a9, n9, c9, rfl⟩, bx⟩; (have hh' : Below V.heap.size V wx ∧ wx.cell? ⟨gs, 0, none⟩ = some (.int .u64 ((wd q 0 : Nat) : Int)) ∧ wx.cell? ⟨gs, 1, none⟩ = some (.int .u64 ((wd q 1 : Nat) : Int)) ∧ wx.cell? ⟨gs, 2, none⟩ = some (.int .u64 ((wd q 2 : Nat) : Int)) ∧ wx.cell? ⟨gs, 3, none⟩ = some (.int .u64 ((wd q 3 : Nat) : Int)) := by first | exact ⟨hh.1.trans (bx.mono hh.1.size), (bx.cell (p := ⟨gs, 0, none⟩) (Nat.lt_of_lt_of_le hgs3 hh.1.size)).trans hh.2.1, (bx.cell (p := ⟨gs, 1, none⟩) (Nat.lt_of_lt_of_le hgs3 hh.1.size)).trans hh.2.2.1, (bx.cell (p := ⟨gs, 2, none⟩) (Nat.lt_of_lt_of_le hgs3 hh.1.size)).trans hh.2.2.2.1, (bx.cell (p := ⟨gs, 3, none⟩) (Nat.lt_of_lt_of_le hgs3 hh.1.size)).trans hh.2.2.2.2⟩ | exact ⟨hHeld.1.trans (bx.mono hHeld.1.size), (bx.cell (p := ⟨gs, 0, none⟩) (Nat.lt_of_lt_of_le hgs3 hHeld.1.size)).trans hHeld.2.1, (bx.cell (p := ⟨gs, 1, none⟩) (Nat.lt_of_lt_of_le hgs3 hHeld.1.size)).trans hHeld.2.2.1, (bx.cell (p := ⟨gs, 2, none⟩) (Nat.lt_of_lt_of_le hgs3 hHeld.1.size)).trans hHeld.2.2.2.1, (bx.cell (p := ⟨gs, 3, none⟩) (Nat.lt_of_lt_of_le hgs3 hHeld.1.size)).trans hHeld.2.2.2.2⟩); clear hh; (have hh := hh'); clear hh' bx)
            | (go_at_call 13; refine (HHas.out _ (by first | exact hh.1 | exact hHeld.1)).mono ?_; rintro e wx ⟨rfl, bx⟩; (have hh' : Below V.heap.size V wx ∧ wx.cell? ⟨gs, 0, none⟩ = some (.int .u64 ((wd q 0 : Nat) : Int)) ∧ wx.cell? ⟨gs, 1, none⟩ = some (.int .u64 ((wd q 1 : Nat) : Int)) ∧ wx.cell? ⟨gs, 2, none⟩ = some (.int .u64 ((wd q 2 : Nat) : Int)) ∧ wx.cell? ⟨gs, 3, none⟩ = some (.int .u64 ((wd q 3 : Nat) : Int)) := by first | exact ⟨hh.1.trans (bx.mono hh.1.size), (bx.cell (p := ⟨gs, 0, none⟩) (Nat.lt_of_lt_of_le hgs3 hh.1.size)).trans hh.2.1, (bx.cell (p := ⟨gs, 1, none⟩) (Nat.lt_of_lt_of_le hgs3 hh.1.size)).trans hh.2.2.1, (bx.cell (p := ⟨gs, 2, none⟩) (Nat.lt_of_lt_of_le hgs3 hh.1.size)).trans hh.2.2.2.1, (bx.cell (p := ⟨gs, 3, none⟩) (Nat.lt_of_lt_of_le hgs3 hh.1.size)).trans hh.2.2.2.2⟩ | exact ⟨hHeld.1.trans (bx.mono hHeld.1.size), (bx.cell (p := ⟨gs, 0, none⟩) (Nat.lt_of_lt_of_le hgs3 hHeld.1.size)).trans hHeld.2.1, (bx.cell (p := ⟨gs, 1, none⟩) (Nat.lt_of_lt_of_le hgs3 hHeld.1.size)).trans hHeld.2.2.1, (bx.cell (p := ⟨gs, 2, none⟩) (Nat.lt_of_lt_of_le hgs3 hHeld.1.size)).trans hHeld.2.2.2.1, (bx.cell (p := ⟨gs, 3, none⟩) (Nat.lt_of_lt_of_le hgs3 hHeld.1.size)).trans hHeld.2.2.2.2⟩); clear hh; (have hh := hh'); clear hh' bx))
        all_goals
          have H9 := Lib.hid (HBV.out.trans (hh.1.mono HBV.out.size))
          clear hh
          go_wp2_with fail
          go_ret
          exact ⟨rfl, H9.out⟩
      · simp only [Bool.not_true] at HBy
        go_region_held3 (fun W' => Below V.heap.size V W' ∧ W'.cell? ⟨gs, 0, none⟩ = some (.int .u64 ((wd q 0 : Nat) : Int)) ∧ W'.cell? ⟨gs, 1, none⟩ = some (.int .u64 ((wd q 1 : Nat) : Int)) ∧ W'.cell? ⟨gs, 2, none⟩ = some (.int .u64 ((wd q 2 : Nat) : Int)) ∧ W'.cell? ⟨gs, 3, none⟩ = some (.int .u64 ((wd q 3 : Nat) : Int))) (first | exact hh | exact hHeld)
          (first
            | (go_at_call 10; refine (HE.out _ (by first | exact hh.1 | exact hHeld.1)).mono ?_; rintro e wx ⟨rfl, bx⟩; (have hh' : Below V.heap.size V wx ∧ wx.cell? ⟨gs, 0, none⟩ = some (.int .u64 ((wd q 0 : Nat) : Int)) ∧ wx.cell? ⟨gs, 1, none⟩ = some (.int .u64 ((wd q 1 : Nat) : Int)) ∧ wx.cell? ⟨gs, 2, none⟩ = some (.int .u64 ((wd q 2 : Nat) : Int)) ∧ wx.cell? ⟨gs, 3, none⟩ = some (.int .u64 ((wd q 3 : Nat) : Int)) := by first | exact ⟨hh.1.trans (bx.mono hh.1.size), (bx.cell (p := ⟨gs, 0, none⟩) (Nat.lt_of_lt_of_le hgs3 hh.1.size)).trans hh.2.1, (bx.cell (p := ⟨gs, 1, none⟩) (Nat.lt_of_lt_of_le hgs3 hh.1.size)).trans hh.2.2.1, (bx.cell (p := ⟨gs, 2, none⟩) (Nat.lt_of_lt_of_le hgs3 hh.1.size)).trans hh.2.2.2.1, (bx.cell (p := ⟨gs, 3, none⟩) (Nat.lt_of_lt_of_le hgs3 hh.1.size)).trans hh.2.2.2.2⟩ | exact ⟨hHeld.1.trans (bx.mono hHeld.1.size), (bx.cell (p := ⟨gs, 0, none⟩) (Nat.lt_of_lt_of_le hgs3 hHeld.1.size)).trans hHeld.2.1, (bx.cell (p := ⟨gs, 1, none⟩) (Nat.lt_of_lt_of_le hgs3 hHeld.1.size)).trans hHeld.2.2.1, (bx.cell (p := ⟨gs, 2, none⟩) (Nat.lt_of_lt_of_le hgs3 hHeld.1.size)).trans hHeld.2.2.2.1, (bx.cell (p := ⟨gs, 3, none⟩) (Nat.lt_of_lt_of_le hgs3 hHeld.1.size)).trans hHeld.2.2.2.2⟩); clear hh; (have hh := hh'); clear hh' bx)
            | (go_at_call 11; refine (HFi.out _ (by first | exact hh.1 | exact hHeld.1)).mono ?_; rintro e wx ⟨rfl, bx⟩; (have hh' : Below V.heap.size V wx ∧ wx.cell? ⟨gs, 0, none⟩ = some (.int .u64 ((wd q 0 : Nat) : Int)) ∧ wx.cell? ⟨gs, 1, none⟩ = some (.int .u64 ((wd q 1 : Nat) : Int)) ∧ wx.cell? ⟨gs, 2, none⟩ = some (.int .u64 ((wd q 2 : Nat) : Int)) ∧ wx.cell? ⟨gs, 3, none⟩ = some (.int .u64 ((wd q 3 : Nat) : Int)) := by first | exact ⟨hh.1.trans (bx.mono hh.1.size), (bx.cell (p := ⟨gs, 0, none⟩) (Nat.lt_of_lt_of_le hgs3 hh.1.size)).trans hh.2.1, (bx.cell (p := ⟨gs, 1, none⟩) (Nat.lt_of_lt_of_le hgs3 hh.1.size)).trans hh.2.2.1, (bx.cell (p := ⟨gs, 2, none⟩) (Nat.lt_of_lt_of_le hgs3 hh.1.size)).trans hh.2.2.2.1, (bx.cell (p := ⟨gs, 3, none⟩) (Nat.lt_of_lt_of_le hgs3 hh.1.size)).trans hh.2.2.2.2⟩ | exact ⟨hHeld.1.trans (bx.mono hHeld.1.size), (bx.cell (p := ⟨gs, 0, none⟩) (Nat.lt_of_lt_of_le hgs3 hHeld.1.size)).trans hHeld.2.1, (bx.cell (p := ⟨gs, 1, none⟩) (Nat.lt_of_lt_of_le hgs3 hHeld.1.size)).trans hHeld.2.2.1, (bx.cell (p := ⟨gs, 2, none⟩) (Nat.lt_of_lt_of_le hgs3 hHeld.1.size)).trans hHeld.2.2.2.1, (bx.cell (p := ⟨gs, 3, none⟩) (Nat.lt_of_lt_of_le hgs3 hHeld.1.size)).trans hHeld.2.2.2.2⟩); clear hh; (have hh := hh'); clear hh' bx)
            | (go_at_call 12; refine (HBy.out _ (by first | exact hh.1 | exact hHeld.1)).mono ?_; rintro e wx ⟨⟨a9, n9, c9, rfl⟩, bx⟩; (have hh' : Below V.heap.size V wx ∧ wx.cell? ⟨gs, 0, none⟩ = some (.int .u64 ((wd q 0 : Nat) : Int)) ∧ wx.cell? ⟨gs, 1, none⟩ = some (.int .u64 ((wd q 1 : Nat) : Int)) ∧ wx.cell? ⟨gs, 2, none⟩ = some (.int .u64 ((wd q 2 : Nat) : Int)) ∧ wx.cell? ⟨gs, 3, none⟩ = some (.int .u64 ((wd q 3 : Nat) : Int)) := by first | exact ⟨hh.1.trans (bx.mono hh.1.size), (bx.cell (p := ⟨gs, 0, none⟩) (Nat.lt_of_lt_of_le hgs3 hh.1.size)).trans hh.2.1, (bx.cell (p := ⟨gs, 1, none⟩) (Nat.lt_of_lt_of_le hgs3 hh.1.size)).trans hh.2.2.1, (bx.cell (p := ⟨gs, 2, none⟩) (Nat.lt_of_lt_of_le hgs3 hh.1.size)).trans hh.2.2.2.1, (bx.cell (p := ⟨gs, 3, none⟩) (Nat.lt_of_lt_of_le hgs3 hh.1.size)).trans hh.2.2.2.2⟩ | exact ⟨hHeld.1.trans (bx.mono hHeld.1.size), (bx.cell (p := ⟨gs, 0, none⟩) (Nat.lt_of_lt_of_le hgs3 hHeld.1.size)).trans hHeld.2.1, (bx.cell (p := ⟨gs, 1, none⟩) (Nat.lt_of_lt_of_le hgs3 hHeld.1.size)).trans hHeld.2.2.1, (bx.cell (p := ⟨gs, 2, none⟩) (Nat.lt_of_lt_of_le hgs3 hHeld.1.size)).trans hHeld.2.2.2.1, (bx.cell (p := ⟨gs, 3, none⟩) (Nat.lt_of_lt_of_le hgs3 hHeld.1.size)).trans hHeld.2.2.2.2⟩); clear hh; (have hh := hh'); clear hh' bx)
            | (go_at_call 13; refine (HHas.out _ (by first | exact hh.1 | exact hHeld.1)).mono ?_; rintro e wx ⟨rfl, bx⟩; (have hh' : Below V.heap.size V wx ∧ wx.cell? ⟨gs, 0, none⟩ = some (.int .u64 ((wd q 0 : Nat) : Int)) ∧ wx.cell? ⟨gs, 1, none⟩ = some (.int .u64 ((wd q 1 : Nat) : Int)) ∧ wx.cell? ⟨gs, 2, none⟩ = some (.int .u64 ((wd q 2 : Nat) : Int)) ∧ wx.cell? ⟨gs, 3, none⟩ = some (.int .u64 ((wd q 3 : Nat) : Int)) := by first | exact ⟨hh.1.trans (bx.mono hh.1.size), (bx.cell (p := ⟨gs, 0, none⟩) (Nat.lt_of_lt_of_le hgs3 hh.1.size)).trans hh.2.1, (bx.cell (p := ⟨gs, 1, none⟩) (Nat.lt_of_lt_of_le hgs3 hh.1.size)).trans hh.2.2.1, (bx.cell (p := ⟨gs, 2, none⟩) (Nat.lt_of_lt_of_le hgs3 hh.1.size)).trans hh.2.2.2.1, (bx.cell (p := ⟨gs, 3, none⟩) (Nat.lt_of_lt_of_le hgs3 hh.1.size)).trans hh.2.2.2.2⟩ | exact ⟨hHeld.1.trans (bx.mono hHeld.1.size), (bx.cell (p := ⟨gs, 0, none⟩) (Nat.lt_of_lt_of_le hgs3 hHeld.1.size)).trans hHeld.2.1, (bx.cell (p := ⟨gs, 1, none⟩) (Nat.lt_of_lt_of_le hgs3 hHeld.1.size)).trans hHeld.2.2.1, (bx.cell (p := ⟨gs, 2, none⟩) (Nat.lt_of_lt_of_le hgs3 hHeld.1.size)).trans hHeld.2.2.2.1, (bx.cell (p := ⟨gs, 3, none⟩) (Nat.lt_of_lt_of_le hgs3 hHeld.1.size)).trans hHeld.2.2.2.2⟩); clear hh; (have hh := hh'); clear hh' bx))
        all_goals
          have H9 := Lib.hid (HBV.out.trans (hh.1.mono HBV.out.size))
          clear hh
          go_wp2_with fail
          go_ret
          exact ⟨rfl, H9.out⟩
    · have hck2 : (((chkT l : Nat) : Int) == 0) = false := by simp; omega
      have hck3 : (((chkT l : Nat) : Int) != 0) = true := by simp; omega
      generalize chkT l = ck at hck2 hck3 hck ⊢
      go_wp2_with fail
      go_ret
      exact ⟨rfl, H2.out⟩
end Go.Proofs.Ytkdhdlokilgccaa

namespace Go.Proofs.Ytkdhdlokilgccaa.derivFirst
open Go.ChangeShapes Go.WideShapes Go.ChangeAt Go.RowKit Go.Deep
set_option linter.unusedVariables false

theorem walk (l : List Pc) (a : Option Addr) (len cap : Nat) (y : Int) (w : World) (hL : RxAt w a l) (hn : l.length = len) (hcap : len ≤ cap ∧ cap ≤ maxLen) (w1 : (Lit.int .u8 y).wf = true) :
    Calls Try.prog 3 #[.slice a len cap, .int .u8 y] w fun e w' => e = .returned (.bool true) ∧ Below w.heap.size w w' := by
  have h2 := bounds_u8 w1
  obtain ⟨m, rfl⟩ := Int.eq_ofNat_of_zero_le h2.1
  exact derivFirst_can (l.map canP) (fun x hx => by
    obtain ⟨z, _, rfl⟩ := List.mem_map.1 hx
    exact canP_can z) a len cap m (by omega) w (can_rx hL) (by simpa using hn) hcap

set_option maxRecDepth 100000 in
theorem lifted (os : Os) (started : os.Started) (H : Type) (enc : TypeId × Value → H) :
    ReturnsInHanded {} Try.checked os 3 .any (Rows.derivFirstSpec.pre6 enc Try.prog Try.f3 Rows.derivFirstRow.domain false) (Rows.derivFirstSpec.post enc Try.prog Try.f3 false true false false) := by
  refine returnsInHanded_of_change (C := Try.checked) own started (by kernel_rfl) Try.func3
    (ChangeSpec.witness6 (enc := enc) (C := Try.checked) false ⟨#[], #[.slice none 0 0, .int .u8 0], []⟩ 8 (by kernel_rfl) (by kernel_rfl) (by kernel_rfl) (by kernel_rfl)) ?_
  intro W base args ds gs before hval0 hW hcnd _
  have hval : ∀ (j : Nat) t v, Try.f3.params[j]? = some t → args[j]? = some v → Value.okWide Try.prog W .any base t v := hval0
  have hW' := hW
  obtain ⟨p, q, hA0, hV, rfl, hfz, hnd⟩ := hW
  have hA : DataW.TrodAll enc Try.prog W 0 (fun _ => true) true Try.f3.params.toList args.toList ds p := hA0
  rw [Try.params3] at hA hval
  obtain ⟨v0, vs0, d0, ds0, p0, q0, hargs, rfl, rfl, h0, r0⟩ := trodAll_cons hA
  obtain ⟨v1, vs1, d1, ds1, p1, q1, rfl, rfl, rfl, h1, r1⟩ := trodAll_cons r0
  obtain ⟨rfl, rfl, rfl⟩ := trodAll_nil r1
  obtain rfl : args = #[v0, v1] := by cases args; simp_all
  obtain ⟨rfl, rfl⟩ := trodVars_none hV
  obtain ⟨a0, len0, cap0, rfl⟩ := okWide_slice Try.underlying23 (hval 0 23 v0 rfl rfl)
  obtain ⟨a1, rfl, rfl, rfl, w1⟩ := open_int Try.underlying5 (hval 1 5 v1 rfl rfl) h1
  have k0 := h0
  have lt0 : ∀ x ∈ p0, x.block < W.heap.size := by obtain ⟨m, hm⟩ := k0; exact DataW.trod_lt m _ _ _ hm
  have hs : ∃ l : List Pc, l.length = len0 ∧ RxAt W a0 l ∧ len0 ≤ cap0 ∧ cap0 ≤ maxLen := by
    obtain ⟨fuel, hf⟩ := h0
    exact open_pieces (by simpa [Value.cells] using hf)
  obtain ⟨l, hl1, hl2, hl3, hl4⟩ := hs
  clear hA0 hval0
  refine (walk l a0 len0 cap0 a1 W hl2 hl1 ⟨hl3, hl4⟩ w1).mono fun e W' ⟨he, bel⟩ => ?_
  subst he
  exact ⟨_, rfl, _, _, _, [], _, [], hW', trodAll_mk1 (shut_bool Try.underlying4 _), (trodAll_cons_mk (Below.trod laidOut (by kernel_rfl) (of_decide_eq_true (by kernel_rfl)) k0 bel lt0) (trodAll_cons_mk (shut_int Try.underlying5 w1) trodAll_mk0)), rfl, bel.frame _, fun h => by cases h⟩

theorem over : Rows.derivFirstRow.holds Try.pinned (OpenSpec.ofChange Rows.derivFirstSpec) :=
  OpenClaim.holds_of_wide 3 Try.f3 rfl rfl rfl rfl rfl rfl rfl ⟨rfl, rfl, rfl, rfl, rfl⟩ rfl rfl rfl rfl rfl (by kernel_rfl) Try.func3 (by kernel_rfl)
    (of_decide_eq_true (by kernel_rfl)) (by unfold Func.isWrapper; first | (rw [if_pos (by decide +kernel)]; kernel_rfl) | (rw [if_neg (by decide +kernel)]; exact ⟨rfl, rfl⟩))
    (fun os started H enc _ => lifted os started H enc)

/-- The statement. -/
theorem proved : Rows.DerivFirstSaid := over
end Go.Proofs.Ytkdhdlokilgccaa.derivFirst
