import Derived.Test.YtohgbkajnhgnaaaZLCirc
import Derived.Test.YtohgbkajnhgnaaaZLExT
namespace Go.Proofs.Ytohgbkajnhgnaaa
open Go.RowKit Go.Maps Go.WideElems Go.ChangeMaps Go.MapKept
set_option linter.unusedVariables false
set_option linter.unusedSimpArgs false

/-! ### A tally in memory -/
theorem OI.far {W0 wr : World} {g g2 n : Nat} {f : Nat → Int} (h : OI W0 g n f wr) (e : g ≠ g2) (hl : W0.heap.size ≤ g2) (j : Nat) (v : Value) : OI W0 g n f (wr.setCell ⟨g2, j, none⟩ v) := by
  refine ⟨?_, h.bel.setCell (p := ⟨g2, j, none⟩) hl _, h.lo⟩
  exact own_kept (ts := []) (bs := [g2]) h.own ((Kept.refl _ _ _).setCell _ _ (Or.inl (by simp))) (by simp) (fun b e2 hm => by
    have e3 : g = b := by simpa [Value.ownBlock] using e2
    rw [List.mem_singleton.1 hm] at e3
    exact absurd e3 e)
structure TaC (cs : Array Value) (D : Dd) (most : Int) (gz gc gh gs N M : Nat) : Prop where
  hd : ∀ j, j < 258 → cs[j]? = D.cD[j]?
  hm : cs[258]? = some (.int .i64 most)
  hz : cs[259]? = some (.slice (some ⟨gz, 0, none⟩) M M)
  hc : cs[260]? = some (.slice (some ⟨gc, 0, none⟩) N N)
  hh : cs[261]? = some (.slice (some ⟨gh, 0, none⟩) N N)
  hs : cs[262]? = some (.slice (some ⟨gs, 0, none⟩) N N)
structure TaM (W0 : World) (b : Nat) (cs : Array Value) (gz gc gh gs N M : Nat) (sz ct ch sm : Nat → Int) (w : World) : Prop where
  st : St w 60 b cs
  z : OI W0 gz M sz w
  c : OI W0 gc N ct w
  h : OI W0 gh N ch w
  s : OI W0 gs N sm w
  nzc : gz ≠ gc
  nzh : gz ≠ gh
  nzs : gz ≠ gs
  nch : gc ≠ gh
  ncs : gc ≠ gs
  nhs : gh ≠ gs
section
variable {W0 w w' : World} {b : Nat} {cs : Array Value} {gz gc gh gs N M : Nat} {sz ct ch sm f' : Nat → Int}
theorem TaM.keep (h : TaM W0 b cs gz gc gh gs N M sz ct ch sm w) (k : Below w.heap.size w w') : TaM W0 b cs gz gc gh gs N M sz ct ch sm w' :=
  ⟨h.st.keep k, h.z.keep k, h.c.keep k, h.h.keep k, h.s.keep k, h.nzc, h.nzh, h.nzs, h.nch, h.ncs, h.nhs⟩
theorem TaM.bel (h : TaM W0 b cs gz gc gh gs N M sz ct ch sm w) : Below W0.heap.size W0 w := h.z.bel
theorem OI.st_far {n g t : Nat} {f : Nat → Int} (h : OI W0 g n f w) (hs : St w t b cs) (ht : t ≠ 3) (j : Nat) (v : Value) : St (w.setCell ⟨g, j, none⟩ v) t b cs :=
  hs.far (p := ⟨g, j, none⟩) (fun e => own_ne h.own hs (fun e => ht e.symm) g rfl e.symm) _
theorem TaM.putS (h : TaM W0 b cs gz gc gh gs N M sz ct ch sm w) (j : Nat) (hj : j < N) (x : Int) (e : ∀ i, i < N → (if i = j then x else sm i) = f' i) :
    TaM W0 b cs gz gc gh gs N M sz ct ch f' (w.setCell ⟨gs, j, none⟩ (.int .i64 x)) :=
  ⟨h.s.st_far h.st (by decide) _ _, h.z.far h.nzs h.s.lo _ _, h.c.far h.ncs h.s.lo _ _, h.h.far h.nhs h.s.lo _ _, h.s.put j hj x e, h.nzc, h.nzh, h.nzs, h.nch, h.ncs, h.nhs⟩
theorem TaM.putC (h : TaM W0 b cs gz gc gh gs N M sz ct ch sm w) (j : Nat) (hj : j < N) (x : Int) (e : ∀ i, i < N → (if i = j then x else ct i) = f' i) :
    TaM W0 b cs gz gc gh gs N M sz f' ch sm (w.setCell ⟨gc, j, none⟩ (.int .i64 x)) :=
  ⟨h.c.st_far h.st (by decide) _ _, h.z.far h.nzc h.c.lo _ _, h.c.put j hj x e, h.h.far (fun e => h.nch e.symm) h.c.lo _ _, h.s.far (fun e => h.ncs e.symm) h.c.lo _ _, h.nzc, h.nzh, h.nzs, h.nch, h.ncs, h.nhs⟩
theorem TaM.putH (h : TaM W0 b cs gz gc gh gs N M sz ct ch sm w) (j : Nat) (hj : j < N) (x : Int) (e : ∀ i, i < N → (if i = j then x else ch i) = f' i) :
    TaM W0 b cs gz gc gh gs N M sz ct f' sm (w.setCell ⟨gh, j, none⟩ (.int .i64 x)) :=
  ⟨h.h.st_far h.st (by decide) _ _, h.z.far h.nzh h.h.lo _ _, h.c.far h.nch h.h.lo _ _, h.h.put j hj x e, h.s.far (fun e => h.nhs e.symm) h.h.lo _ _, h.nzc, h.nzh, h.nzs, h.nch, h.ncs, h.nhs⟩
theorem TaM.putZ (h : TaM W0 b cs gz gc gh gs N M sz ct ch sm w) (j : Nat) (hj : j < M) (x : Int) (e : ∀ i, i < M → (if i = j then x else sz i) = f' i) :
    TaM W0 b cs gz gc gh gs N M f' ct ch sm (w.setCell ⟨gz, j, none⟩ (.int .i64 x)) :=
  ⟨h.z.st_far h.st (by decide) _ _, h.z.put j hj x e, h.c.far (fun e => h.nzc e.symm) h.z.lo _ _, h.h.far (fun e => h.nzh e.symm) h.z.lo _ _, h.s.far (fun e => h.nzs e.symm) h.z.lo _ _, h.nzc, h.nzh, h.nzs, h.nch, h.ncs, h.nhs⟩
theorem TaM.congr {sz2 ct2 ch2 sm2 : Nat → Int} (h : TaM W0 b cs gz gc gh gs N M sz ct ch sm w) (e1 : ∀ j, j < M → sz j = sz2 j) (e2 : ∀ j, j < N → ct j = ct2 j) (e3 : ∀ j, j < N → ch j = ch2 j) (e4 : ∀ j, j < N → sm j = sm2 j) :
    TaM W0 b cs gz gc gh gs N M sz2 ct2 ch2 sm2 w := ⟨h.st, h.z.congr e1, h.c.congr e2, h.h.congr e3, h.s.congr e4, h.nzc, h.nzh, h.nzs, h.nch, h.ncs, h.nhs⟩
end
/-! ### What one state adds -/
def exSz (c : Nat) : Int := if c = 0 then 253 else 1
def adF (i : Nat) (x : Int) (sm : Nat → Int) : Nat → Nat → Int
  | 0 => sm
  | c + 1 => upI (adF i x sm c) (exN10 i c) (x * exSz c)
def AdB (i : Nat) (x : Int) (sm : Nat → Int) : Prop := ∀ c, c < 4 → exN10 i c = -1 ∨ ((-1000 ≤ x * exSz c ∧ x * exSz c ≤ 1000) ∧ (-1000 ≤ adF i x sm c (exN10 i c).toNat ∧ adF i x sm c (exN10 i c).toNat ≤ 1000))
def AdP (W0 : World) (b : Nat) (cs : Array Value) (gz gc gh gs N M : Nat) (ct ch sm : Nat → Int) (w : World) (e : Ending) (w' : World) : Prop :=
  e = .returned (.tuple #[]) ∧ TaM W0 b cs gz gc gh gs N M exSz ct ch sm w' ∧ Kept [] [gc, gh, gs] w w'

set_option maxHeartbeats 2000000 in
set_option maxRecDepth 100000 in
theorem add_ex (D : Dd) (h : Ex10 D) (hR : DR D 4) (W0 : World) (hD : DM W0 D) (b : Nat) (cs : Array Value) (most : Int) (gz gc gh gs : Nat) (hC : TaC cs D most gz gc gh gs 3 4) (ct ch sm : Nat → Int) (i : Nat) (hi : i < 3) (x : Int) (hx : -1000 ≤ x ∧ x ≤ 1000) (hb : AdB i x sm)
    (w : World) (hT : TaM W0 b cs gz gc gh gs 3 4 exSz ct ch sm w) :
    Calls Try.prog 52 #[.pointer (some ⟨b, 0, none⟩), .int .i64 ((i : Nat) : Int), .int .i64 x] w (AdP W0 b cs gz gc gh gs 3 4 ct ch (adF i x sm 4) w) := by
  have hn := h.n
  obtain ⟨N, hN⟩ : ∃ N, 3 = N := ⟨_, rfl⟩
  obtain ⟨M, hM⟩ : ∃ M, 4 = M := ⟨_, rfl⟩
  have hrN := hD.rN
  have hfN := hD.fN
  rw [hn, hN] at hrN hfN
  have hl4 := hR.len i (by omega)
  have hx4 : ∀ c, c < 4 → D.nx i c = exN10 i c := fun c hc => h.nx i c hi hc
  obtain ⟨gN, oN, eN, _, cN0⟩ := (hrN.below hT.bel) (by omega)
  obtain ⟨cN, _⟩ := cN0 i (by omega)
  have HZ : Hid (ZAt W0 (D.A i) M (D.nx i)) := by
    obtain ⟨_, _, _, _, cLw⟩ := hrN (by omega)
    have := (cLw i (by omega)).2
    rwa [hl4, hM] at this
  rw [hl4, hM] at cN
  rw [eN] at hfN
  rw [hN, hM] at hC hT
  have HC := Lib.hid hC
  have HT := Lib.hid hT
  have HX := Lib.hid hx4
  have HM := Lib.hid (And.intro hN hM)
  have HBd := Lib.hid hb
  have hN1 : N ≤ 3 ∧ 3 ≤ N := by omega
  have hM1 : M ≤ 4 ∧ 4 ≤ M := by omega
  have hxl := hx.1
  have hxh := hx.2
  have i1 : (i : Int) < (N : Int) := by omega
  have c1 : w.cell? ⟨b, 256, none⟩ = some (.slice (some ⟨gN, oN, none⟩) N D.cN) := by rw [hT.st.at_, hC.hd 256 (by omega), hfN]
  generalize D.A i = ax at cN HZ
  generalize D.Cp i = cx at cN
  clear hrN hfN hl4 hx4 cN0 hC hT hb h hR hD hx hN hM hn eN
  go_enter Try.func52, Try.ntmps52
  go_wp2_with fail
  clear c1 cN
  go_loopw [6, 7, 17] (fun _ _ vc wr => ∃ c : Nat, vc = .int .i64 c ∧ c ≤ M ∧ Hid (TaM W0 b cs gz gc gh gs N M exSz ct ch (adF i x sm c) wr ∧ Kept [] [gc, gh, gs] w wr)) (fun _ _ v _ => M - (intOf v).toNat)
  case atStart => exact ⟨0, rfl, by omega, HT.out, Kept.refl _ _ _⟩
  case round =>
    obtain ⟨c, rfl, hc, HK⟩ := hrel
    by_cases hlc : c < M
    · obtain ⟨gA, oA, eA, _, cA0⟩ := (HZ.out.below HK.out.1.bel) (by omega)
      have cA := cA0 c hlc
      have ht3 := exN10_lt i hi c (by omega)
      have HS : Hid (adF i x sm (c + 1) = upI (adF i x sm c) (exN10 i c) (x * exSz c)) := rfl
      have hb := HBd.out c (by omega)
      rw [HX.out c (by omega)] at cA
      rw [eA]
      have HeA := Lib.hid eA
      have i3 : (c : Int) < (M : Int) := by omega
      clear cA0 eA
      generalize exN10 i c = t at cA ht3 HS hb
      by_cases ht : t = -1
      · subst ht
        clear hb
        have HZ2 : Hid (TaM W0 b cs gz gc gh gs N M exSz ct ch (adF i x sm (c + 1)) wr ∧ Kept [] [gc, gh, gs] w wr) := by
          rw [HS.out]
          exact HK.out
        go_wp2_with fail
        go_roundw
        case rel => exact ⟨c + 1, by go_num, by omega, HZ2.out⟩
        case measure => simp [intOf]; omega
      · obtain ⟨u, rfl⟩ : ∃ u : Nat, t = (u : Int) := ⟨t.toNat, by omega⟩
        obtain ⟨⟨b1, b2⟩, b3, b4⟩ := hb.resolve_left ht
        rw [Int.toNat_natCast] at b3 b4
        have hu : u < N := by omega
        have i4 : (u : Int) < (N : Int) := by omega
        have ht2 : ((u : Int) != (-1 : Int)) = true := by first | (simp; done) | (simp; omega)
        obtain ⟨y0, y1⟩ := HK.out.1.s.cell u hu
        obtain ⟨y2, _⟩ := HK.out.1.z.cell c hlc
        have c1 : wr.cell? ⟨b, 262, none⟩ = some (.slice (some ⟨gs, 0, none⟩) N N) := by rw [HK.out.1.st.at_, HC.out.hs]
        have c2 : wr.cell? ⟨b, 259, none⟩ = some (.slice (some ⟨gz, 0, none⟩) M M) := by rw [HK.out.1.st.at_, HC.out.hz]
        obtain ⟨z, hz⟩ : ∃ z, adF i x sm c u = z := ⟨_, rfl⟩
        obtain ⟨s, hs⟩ : ∃ s, exSz c = s := ⟨_, rfl⟩
        have HT2 : Hid (TaM W0 b cs gz gc gh gs N M exSz ct ch (adF i x sm (c + 1)) (wr.setCell ⟨gs, u, none⟩ (.int .i64 (z + x * s))) ∧ Kept [] [gc, gh, gs] w (wr.setCell ⟨gs, u, none⟩ (.int .i64 (z + x * s)))) := by
          refine ⟨HK.out.1.putS u hu _ (fun k hk => ?_), HK.out.2.setCell _ _ (Or.inl (by simp))⟩
          rw [HS.out, hs]
          exact upI_at _ u (x * s) _ (by rw [hz]) k (by omega)
        rw [hz] at y0 b3 b4
        rw [hs] at y2 b1 b2
        clear hz hs ht ht3 hb
        go_wp2_with fail
        go_region
        go_wp2_with fail
        go_roundw
        case rel => exact ⟨c + 1, by go_num, by omega, HT2.out.1.keep (Below.refl _ _).drew, HT2.out.2.drew⟩
        case measure => simp [intOf]; omega
    · obtain rfl : c = M := by omega
      have HF : Hid (AdP W0 b cs gz gc gh gs N c ct ch (adF i x sm c) w (.returned (.tuple #[])) wr) := ⟨rfl, HK.out⟩
      go_wp2_with fail
      go_end0
      rw [HM.out.1, HM.out.2]
      exact HF.out
end Go.Proofs.Ytohgbkajnhgnaaa

namespace Go.Proofs.Ytohgbkajnhgnaaa
open Go.RowKit Go.Maps Go.WideElems Go.ChangeMaps Go.MapKept
set_option linter.unusedVariables false
set_option linter.unusedSimpArgs false

/-! ### A step of the example's tally -/
def smF (p : (Nat → Int) × (Nat → Int) × (Nat → Int)) : Nat → Nat → Int
  | 0 => p.2.2
  | i + 1 => if p.2.1 i = 0 then smF p i else adF i (p.2.1 i) (smF p i) 4
def exT : Nat → (Nat → Int) × (Nat → Int) × (Nat → Int)
  | 0 => (fun j => if j = 0 then 1 else 0, fun j => if j = 0 then 1 else 0, fun _ => 0)
  | k + 1 => (fun j => min (smF (exT k) 3 j) 9, fun j => min (smF (exT k) 3 j) 9 - (exT k).1 j, smF (exT k) 3)
theorem exT_o1 : ∀ k, k < 2 → ∀ i, i < 3 → -1000 ≤ (exT k).2.1 i ∧ (exT k).2.1 i ≤ 1000 := by decide
theorem exT_o2 : ∀ k, k < 2 → ∀ i, i < 3 → -1000 ≤ (exT k).1 i ∧ (exT k).1 i ≤ 1000 := by decide
theorem exT_o3 : ∀ k, k < 2 → ∀ i, i < 3 → -1000 ≤ smF (exT k) 3 i ∧ smF (exT k) 3 i ≤ 1000 := by decide
set_option synthInstance.maxHeartbeats 200000 in
theorem exT_o4 : ∀ k, k < 2 → ∀ i, i < 3 → ∀ c, c < 4 → exN10 i c = -1 ∨ ((-1000 ≤ (exT k).2.1 i * exSz c ∧ (exT k).2.1 i * exSz c ≤ 1000) ∧ (-1000 ≤ adF i ((exT k).2.1 i) (smF (exT k) i) c (exN10 i c).toNat ∧ adF i ((exT k).2.1 i) (smF (exT k) i) c (exN10 i c).toNat ≤ 1000)) := by decide
theorem exT_b (k : Nat) (hk : k < 2) (i : Nat) (hi : i < 3) : AdB i ((exT k).2.1 i) (smF (exT k) i) := exT_o4 k hk i hi
def minF (sm : Nat → Int) (j : Nat) : Int := min (sm j) 9
def tilF (i : Nat) (f g : Nat → Int) (j : Nat) : Int := if j < i then f j else g j
theorem til_put (i : Nat) (f g : Nat → Int) (v : Int) (hv : f i = v) (j : Nat) : (if j = i then v else tilF i f g j) = tilF (i + 1) f g j := by
  unfold tilF
  by_cases e : j = i
  · subst e
    rw [if_pos rfl, if_pos (by omega), hv]
  · rw [if_neg e]
    by_cases h : j < i
    · rw [if_pos h, if_pos (by omega)]
    · rw [if_neg h, if_neg (by omega)]
theorem til_all (n : Nat) (f g : Nat → Int) (j : Nat) (h : j < n) : tilF n f g j = f j := if_pos h
theorem til_none (f g : Nat → Int) (j : Nat) : g j = tilF 0 f g j := by unfold tilF; rw [if_neg (by omega)]
def StP9 (W0 : World) (b : Nat) (cs : Array Value) (gz gc gh gs : Nat) (p : (Nat → Int) × (Nat → Int) × (Nat → Int)) (w : World) (e : Ending) (w' : World) : Prop :=
  e = .returned (.tuple #[]) ∧ TaM W0 b cs gz gc gh gs 3 4 exSz p.1 p.2.1 p.2.2 w' ∧ Kept [] [gc, gh, gs] w w'

set_option maxHeartbeats 2000000 in
set_option maxRecDepth 100000 in
theorem step_ex (D : Dd) (h : Ex10 D) (hR : DR D 4) (W0 : World) (hD : DM W0 D) (b : Nat) (cs : Array Value) (gz gc gh gs : Nat) (hC : TaC cs D 9 gz gc gh gs 3 4) (k : Nat) (hk : k < 2)
    (w : World) (hT : TaM W0 b cs gz gc gh gs 3 4 exSz (exT k).1 (exT k).2.1 (exT k).2.2 w) :
    Calls Try.prog 40 #[.pointer (some ⟨b, 0, none⟩)] w (StP9 W0 b cs gz gc gh gs (exT (k + 1)) w) := by
  have HAd : Hid (∀ i, i < 3 → ∀ W, TaM W0 b cs gz gc gh gs 3 4 exSz (exT k).1 (exT k).2.1 (smF (exT k) i) W → Calls Try.prog 52 #[.pointer (some ⟨b, 0, none⟩), .int .i64 ((i : Nat) : Int), .int .i64 ((exT k).2.1 i)] W (AdP W0 b cs gz gc gh gs 3 4 (exT k).1 (exT k).2.1 (adF i ((exT k).2.1 i) (smF (exT k) i) 4) W)) :=
    fun i hi W hW => add_ex D h hR W0 hD b cs 9 gz gc gh gs hC _ _ _ i hi _ (exT_o1 k hk i hi) (exT_b k hk i hi) W hW
  have HOk := Lib.hid (fun i hi => And.intro (exT_o2 k hk i hi) (exT_o3 k hk i hi))
  have HC := Lib.hid hC
  have HT := Lib.hid hT
  have c1 : w.cell? ⟨b, 261, none⟩ = some (.slice (some ⟨gh, 0, none⟩) 3 3) := by rw [hT.st.at_, hC.hh]
  clear h hR hD hC hT hk
  obtain ⟨N, hN⟩ : ∃ N, 3 = N := ⟨_, rfl⟩
  have HN := Lib.hid hN
  rw [hN] at c1 HAd
  have hN1 : N ≤ 3 ∧ 3 ≤ N := by omega
  clear hN
  go_enter Try.func40, Try.ntmps40
  go_wp2_with fail
  clear c1
  go_loopw [2, 3, 12] (fun _ _ vi wr => ∃ i : Nat, vi = .int .i64 i ∧ i ≤ N ∧ Hid (TaM W0 b cs gz gc gh gs N 4 exSz (exT k).1 (exT k).2.1 (smF (exT k) i) wr ∧ Kept [] [gc, gh, gs] w wr)) (fun _ _ v _ => N - (intOf v).toNat)
  case atStart => exact ⟨0, rfl, by omega, by rw [← HN.out]; exact ⟨HT.out, Kept.refl _ _ _⟩⟩
  case round =>
    clear HT
    obtain ⟨i, rfl, hi, HK⟩ := hrel
    by_cases hlt : i < N
    · have i1 : (i : Int) < (N : Int) := by omega
      obtain ⟨y0, _⟩ := HK.out.1.h.cell i hlt
      have HS : Hid (smF (exT k) (i + 1) = if (exT k).2.1 i = 0 then smF (exT k) i else adF i ((exT k).2.1 i) (smF (exT k) i) 4) := rfl
      have HAi := Lib.hid (HAd.out i hlt)
      obtain ⟨x, hx⟩ : ∃ x, (exT k).2.1 i = x := ⟨_, rfl⟩
      rw [hx] at y0 HS HAi
      clear hx
      by_cases h0 : x = 0
      · have HZ : Hid (TaM W0 b cs gz gc gh gs N 4 exSz (exT k).1 (exT k).2.1 (smF (exT k) (i + 1)) wr ∧ Kept [] [gc, gh, gs] w wr) := by
          rw [HS.out, if_pos h0]
          exact HK.out
        have h1 : ((x : Int) != 0) = false := by rw [h0]; rfl
        clear h0
        go_wp2_with fail
        go_roundw
        case rel => exact ⟨i + 1, by go_num, by omega, HZ.out⟩
        case measure => simp [intOf]; omega
      · have HZ : Hid (smF (exT k) (i + 1) = adF i x (smF (exT k) i) 4) := by show _ = _; rw [HS.out, if_neg h0]
        have h1 : ((x : Int) != 0) = true := by rw [bne_iff_ne]; exact h0
        have HC1 := Lib.hid (HAi.out wr (by have := HK.out.1; exact this))
        clear h0 HS HAi
        go_wp2_with fail
        refine HC1.out.mono ?_
        rintro e w2 ⟨rfl, t2, k2⟩
        have H2 : Hid (TaM W0 b cs gz gc gh gs N 4 exSz (exT k).1 (exT k).2.1 (smF (exT k) (i + 1)) w2 ∧ Kept [] [gc, gh, gs] w w2) := by
          rw [HZ.out]
          exact ⟨t2, HK.out.2.trans k2⟩
        clear t2 k2 HC1 y0
        go_wp2_with fail
        go_roundw
        case rel => exact ⟨i + 1, by go_num, by omega, H2.out⟩
        case measure => simp [intOf]; omega
    · obtain rfl : i = N := by omega
      have c2 : wr.cell? ⟨b, 262, none⟩ = some (.slice (some ⟨gs, 0, none⟩) i i) := by rw [HK.out.1.st.at_, HC.out.hs, HN.out]
      have HL0 : Hid (TaM W0 b cs gz gc gh gs i 4 exSz (tilF 0 (minF (smF (exT k) 3)) (exT k).1) (tilF 0 (exT (k + 1)).2.1 (exT k).2.1) (smF (exT k) 3) wr ∧ Kept [] [gc, gh, gs] w wr) := by
        have h := HK.out
        rw [← HN.out] at h ⊢
        exact ⟨h.1.congr (fun _ _ => rfl) (fun j _ => til_none _ _ j) (fun j _ => til_none _ _ j) (fun _ _ => rfl), h.2⟩
      go_wp2_with fail
      clear c2 HK
      go_loopw [4, 5, 6, 29] (fun _ _ _ vi wq => ∃ j : Nat, vi = .int .i64 j ∧ j ≤ i ∧ Hid (TaM W0 b cs gz gc gh gs i 4 exSz (tilF j (minF (smF (exT k) 3)) (exT k).1) (tilF j (exT (k + 1)).2.1 (exT k).2.1) (smF (exT k) 3) wq ∧ Kept [] [gc, gh, gs] w wq)) (fun _ _ _ v _ => i - (intOf v).toNat)
      case atStart => exact ⟨0, rfl, by omega, HL0.out⟩
      case round =>
        clear HL0
        obtain ⟨j, rfl, hj, HK⟩ := hrel
        by_cases hlj : j < i
        · have i2 : (j : Int) < (i : Int) := by omega
          obtain ⟨y0, _⟩ := HK.out.1.s.cell j hlj
          obtain ⟨y1, _⟩ := HK.out.1.c.cell j hlj
          obtain ⟨y2, y3⟩ := HK.out.1.h.cell j hlj
          have e1 : tilF j (minF (smF (exT k) 3)) (exT k).1 j = (exT k).1 j := by unfold tilF; rw [if_neg (by omega)]
          obtain ⟨⟨o1, o2⟩, o3, o4⟩ := HOk.out j (by omega)
          rw [e1] at y1
          have c1 : wr.cell? ⟨b, 258, none⟩ = some (.int .i64 9) := by rw [HK.out.1.st.at_, HC.out.hm]
          have c2 : wr.cell? ⟨b, 260, none⟩ = some (.slice (some ⟨gc, 0, none⟩) i i) := by rw [HK.out.1.st.at_, HC.out.hc, HN.out]
          have c3 : wr.cell? ⟨b, 261, none⟩ = some (.slice (some ⟨gh, 0, none⟩) i i) := by rw [HK.out.1.st.at_, HC.out.hh, HN.out]
          obtain ⟨m, hm⟩ : ∃ m, min (smF (exT k) 3 j) 9 = m := ⟨_, rfl⟩
          have hm1 : -1000 ≤ m ∧ m ≤ 1000 := by omega
          obtain ⟨m1, m2⟩ := hm1
          have HT1 : Hid (TaM W0 b cs gz gc gh gs i 4 exSz (tilF j (minF (smF (exT k) 3)) (exT k).1) (tilF (j + 1) (exT (k + 1)).2.1 (exT k).2.1) (smF (exT k) 3) (wr.setCell ⟨gh, j, none⟩ (.int .i64 (m - (exT k).1 j))) ∧ Kept [] [gc, gh, gs] w (wr.setCell ⟨gh, j, none⟩ (.int .i64 (m - (exT k).1 j)))) :=
            ⟨HK.out.1.putH j hlj _ (fun q _ => til_put j _ _ _ (by show min (smF (exT k) 3 j) 9 - (exT k).1 j = _; rw [hm]) q), HK.out.2.setCell _ _ (Or.inl (by simp))⟩
          have Hm : Hid (minF (smF (exT k) 3) j = m) := hm
          obtain ⟨z, hz⟩ : ∃ z, smF (exT k) 3 j = z := ⟨_, rfl⟩
          obtain ⟨y, hy⟩ : ∃ y, (exT k).1 j = y := ⟨_, rfl⟩
          rw [hz] at y0 hm o3 o4
          rw [hy] at y1 o1 o2 HT1
          clear hz hy e1
          go_wp2_with fail
          go_region
          have HT2 : Hid (TaM W0 b cs gz gc gh gs i 4 exSz (tilF j (minF (smF (exT k) 3)) (exT k).1) (tilF (j + 1) (exT (k + 1)).2.1 (exT k).2.1) (smF (exT k) 3) (wr.setCell ⟨gh, j, none⟩ (.int .i64 (m - y))).drew ∧ Kept [] [gc, gh, gs] w (wr.setCell ⟨gh, j, none⟩ (.int .i64 (m - y))).drew) := ⟨HT1.out.1.keep (Below.refl _ _).drew, HT1.out.2.drew⟩
          go_upto_region 11 with fail
          clear y0 y1 y2 y3 c1 c2 c3 HT1 HK
          generalize (wr.setCell ⟨gh, j, none⟩ (.int .i64 (m - y))).drew = W5 at HT2 ⊢
          obtain ⟨y1, y2⟩ := HT2.out.1.c.cell j hlj
          have c2 : W5.cell? ⟨b, 260, none⟩ = some (.slice (some ⟨gc, 0, none⟩) i i) := by rw [HT2.out.1.st.at_, HC.out.hc, HN.out]
          have HT3 : Hid (TaM W0 b cs gz gc gh gs i 4 exSz (tilF (j + 1) (minF (smF (exT k) 3)) (exT k).1) (tilF (j + 1) (exT (k + 1)).2.1 (exT k).2.1) (smF (exT k) 3) (W5.setCell ⟨gc, j, none⟩ (.int .i64 m)) ∧ Kept [] [gc, gh, gs] w (W5.setCell ⟨gc, j, none⟩ (.int .i64 m))) :=
            ⟨HT2.out.1.putC j hlj _ (fun q _ => til_put j _ _ _ Hm.out q), HT2.out.2.setCell _ _ (Or.inl (by simp))⟩
          go_wp2_with fail
          go_roundw
          case rel => exact ⟨j + 1, by go_num, by omega, HT3.out⟩
          case measure => simp [intOf]; omega
        · obtain rfl : j = i := by omega
          have HF : Hid (StP9 W0 b cs gz gc gh gs (exT (k + 1)) w (.returned (.tuple #[])) wr) := by
            have h := HK.out
            rw [← HN.out] at h
            exact ⟨rfl, h.1.congr (fun _ _ => rfl) (fun q hq => til_all _ _ _ q hq) (fun q hq => til_all _ _ _ q hq) (fun _ _ => rfl), h.2⟩
          go_wp2_with fail
          go_end0
          exact HF.out
end Go.Proofs.Ytohgbkajnhgnaaa

namespace Go.Proofs.Ytohgbkajnhgnaaa
open Go.RowKit Go.Maps Go.WideElems Go.ChangeMaps Go.MapKept
set_option linter.unusedVariables false
set_option linter.unusedSimpArgs false

/-! ### Are two rows of numbers equal? -/
def EqlP (n : Nat) (f f' : Nat → Int) (w : World) (e : Ending) (w' : World) : Prop :=
  ∃ bo : Bool, e = .returned (.bool bo) ∧ (bo = true ↔ ∀ j, j < n → f j = f' j) ∧ Below w.heap.size w w'

set_option maxHeartbeats 1000000 in
set_option maxRecDepth 100000 in
theorem sleq_any (n c c' : Nat) (a a' : Option Addr) (f f' : Nat → Int) (hn : n ≤ 1000000) (w : World) (hz : ZAt w a n f) (hz' : ZAt w a' n f') :
    Calls Try.prog 41 #[.slice a n c, .slice a' n c'] w (EqlP n f f' w) := by
  have HZ := Lib.hid (And.intro hz hz')
  clear hz hz'
  go_enter Try.func41, Try.ntmps41
  go_wp2_with fail
  go_loopw [5, 13] (fun _ vi wr => ∃ i : Nat, vi = .int .i64 i ∧ i ≤ n ∧ Hid ((∀ j, j < i → f j = f' j) ∧ Below w.heap.size w wr)) (fun _ v _ => n - (intOf v).toNat)
  case atStart => exact ⟨0, rfl, by omega, fun j hj => absurd hj (by omega), Below.refl _ _⟩
  case round =>
    obtain ⟨i, rfl, hi, HI⟩ := hrel
    by_cases hlt : i < n
    · have i1 : (i : Int) < (n : Int) := by omega
      obtain ⟨g, o, e1, _, cA⟩ := (HZ.out.1.below HI.out.2) (by omega)
      obtain ⟨g', o', e2, _, cB⟩ := (HZ.out.2.below HI.out.2) (by omega)
      have y0 := cA i hlt
      have y1 := cB i hlt
      rw [e1, e2]
      have HE := Lib.hid (And.intro e1 e2)
      clear cA cB e1 e2
      obtain ⟨x, hx⟩ : ∃ x, f i = x := ⟨_, rfl⟩
      obtain ⟨y, hy⟩ : ∃ y, f' i = y := ⟨_, rfl⟩
      have Hxy := Lib.hid (And.intro hx hy)
      rw [hx] at y0
      rw [hy] at y1
      clear hx hy
      by_cases h0 : x = y
      · have h1 : ((x : Int) != y) = false := by rw [h0]; simp
        have HN : Hid ((∀ j, j < i + 1 → f j = f' j) ∧ Below w.heap.size w wr.drew) := ⟨fun j hj => by
          by_cases e : j = i
          · subst e; rw [Hxy.out.1, Hxy.out.2, h0]
          · exact HI.out.1 j (by omega), HI.out.2.drew⟩
        clear h0
        go_wp2_with fail
        go_region
        go_wp2_with fail
        go_roundw
        case rel => exact ⟨i + 1, by go_num, by omega, HN.out⟩
        case measure => simp [intOf]; omega
      · have h1 : ((x : Int) != y) = true := by rw [bne_iff_ne]; exact h0
        have HF : Hid (EqlP n f f' w (.returned (.bool false)) wr.drew) := ⟨false, rfl, ⟨fun h => (by cases h), fun h => absurd (by rw [← Hxy.out.1, ← Hxy.out.2]; exact h i hlt) h0⟩, HI.out.2.drew⟩
        clear h0
        go_wp2_with fail
        go_region
        go_wp2_with fail
        go_ret
        exact HF.out
    · obtain rfl : i = n := by omega
      have HF : Hid (EqlP i f f' w (.returned (.bool true)) wr) := ⟨true, rfl, ⟨fun _ => HI.out.1, fun _ => rfl⟩, HI.out.2⟩
      go_wp2_with fail
      go_ret
      exact HF.out
end Go.Proofs.Ytohgbkajnhgnaaa

namespace Go.Proofs.Ytohgbkajnhgnaaa
open Go.RowKit Go.Maps Go.WideElems Go.ChangeMaps Go.MapKept
set_option linter.unusedVariables false
set_option linter.unusedSimpArgs false

/-! ### Two bytes on -/
theorem exT_ne : ∀ k, k < 2 → ¬ ∀ j, j < 3 → (exT (k + 1)).1 j = (exT k).1 j := by decide
theorem OI.zat {W0 w : World} {g n : Nat} {f : Nat → Int} (h : OI W0 g n f w) : ZAt w (some ⟨g, 0, none⟩) n f := fun h0 => by
  refine ⟨g, 0, rfl, own_lt9 h.own g rfl, fun j hj => ?_⟩
  have := (h.cell j hj).1
  simpa using this
theorem own_zatn {w : World} {B n c : Nat} {a : Option Addr} {f : Nat → Int} (h : w.ownsRow B 3 1 (.slice a n c) n (nmZ f n)) : ZAt w a n f := fun h0 => by
  obtain ⟨g, e, _, _, hc⟩ := ownsRow_read h (by omega)
  refine ⟨g, 0, e, own_lt9 h g (by rw [e]; rfl), fun j hj => ?_⟩
  have := (hc j (by omega)).1
  rw [nmZ_at _ _ _ hj] at this
  simpa using this
theorem ints_nmZ (f : Nat → Int) (n : Nat) : ints ((List.range n).map f) = nmZ f n := by simp [ints, nmZ]
def AvP (W0 : World) (b : Nat) (cs : Array Value) (gz gc gh gs : Nat) (p : (Nat → Int) × (Nat → Int) × (Nat → Int)) (e : Ending) (w' : World) : Prop :=
  e = .returned (.tuple #[]) ∧ TaM W0 b cs gz gc gh gs 3 4 exSz p.1 p.2.1 p.2.2 w'

set_option maxHeartbeats 2000000 in
set_option maxRecDepth 100000 in
theorem advance_ex (D : Dd) (h : Ex10 D) (hR : DR D 4) (W0 : World) (hD : DM W0 D) (b : Nat) (cs : Array Value) (gz gc gh gs : Nat) (hC : TaC cs D 9 gz gc gh gs 3 4)
    (w : World) (hT : TaM W0 b cs gz gc gh gs 3 4 exSz (exT 0).1 (exT 0).2.1 (exT 0).2.2 w) :
    Calls Try.prog 22 #[.pointer (some ⟨b, 0, none⟩), .int .i64 2] w (AvP W0 b cs gz gc gh gs (exT 2)) := by
  have HSt : Hid (∀ k, k < 2 → ∀ W, TaM W0 b cs gz gc gh gs 3 4 exSz (exT k).1 (exT k).2.1 (exT k).2.2 W → Calls Try.prog 40 #[.pointer (some ⟨b, 0, none⟩)] W (StP9 W0 b cs gz gc gh gs (exT (k + 1)) W)) :=
    fun k hk W hW => step_ex D h hR W0 hD b cs gz gc gh gs hC k hk W hW
  have HC := Lib.hid hC
  have HT := Lib.hid hT
  clear h hR hD hC hT
  go_enter Try.func22, Try.ntmps22
  go_wp2_with fail
  go_loopw [1, 4, 5, 6] (fun v1 v4 _ _ wr => ∃ (k n iv : Nat), v1 = .int .i64 n ∧ v4 = .int .i64 iv ∧ n + k ≤ 2 ∧ 2 ≤ n + k ∧ (k < 2 → iv ≤ k + 1 ∧ k + 1 ≤ iv) ∧ iv ≤ 4 ∧ Hid (TaM W0 b cs gz gc gh gs 3 4 exSz (exT k).1 (exT k).2.1 (exT k).2.2 wr)) (fun v _ _ _ _ => (intOf v).toNat)
  case atStart => exact ⟨0, 2, 1, rfl, rfl, by omega, by omega, fun _ => by omega, by omega, HT.out⟩
  case round =>
    clear HT
    obtain ⟨k, n, iv, rfl, rfl, hk1, hk2, hiv, hiv4, HK⟩ := hrel
    by_cases hlt : k < 2
    · obtain ⟨iv1, iv2⟩ := hiv hlt
      have i1 : (0 : Int) < (n : Int) := by omega
      have c1 : wr.cell? ⟨b, 260, none⟩ = some (.slice (some ⟨gc, 0, none⟩) 3 3) := by rw [HK.out.st.at_, HC.out.hc]
      have HCl := Lib.hid (clone_any 3 3 (some ⟨gc, 0, none⟩) (exT k).1 (by omega) wr HK.out.c.zat (fun h => by cases h) (fun ad h => by injection h with h; rw [← h]))
      clear hiv
      go_wp2_with fail
      refine HCl.out.mono ?_
      rintro e w2 ⟨a2, c2, rfl, hown, b2⟩
      rw [ints_nmZ] at hown
      have H2 : Hid (TaM W0 b cs gz gc gh gs 3 4 exSz (exT k).1 (exT k).2.1 (exT k).2.2 w2 ∧ w2.ownsRow wr.heap.size 3 1 (.slice a2 3 c2) 3 (nmZ (exT k).1 3)) := ⟨HK.out.keep b2, hown⟩
      have Hlt : Hid (gc < wr.heap.size ∧ gh < wr.heap.size ∧ gs < wr.heap.size) := ⟨own_lt9 HK.out.c.own gc rfl, own_lt9 HK.out.h.own gh rfl, own_lt9 HK.out.s.own gs rfl⟩
      clear hown b2 c1 HCl
      obtain ⟨W9, hW9⟩ : ∃ W9, wr = W9 := ⟨_, rfl⟩
      rw [hW9] at H2 Hlt
      clear hW9 HK
      go_wp2_with fail
      go_loopw [1, 6] (fun v1 v6 wq => ∃ (j n2 age : Nat), v1 = .int .i64 n2 ∧ v6 = .int .i64 age ∧ k ≤ j ∧ j ≤ k + 1 ∧ n2 + j ≤ 2 ∧ 2 ≤ n2 + j ∧ age + k ≤ j + 1 ∧ j + 1 ≤ age + k ∧ Hid (TaM W0 b cs gz gc gh gs 3 4 exSz (exT j).1 (exT j).2.1 (exT j).2.2 wq ∧ wq.ownsRow W9.heap.size 3 1 (.slice a2 3 c2) 3 (nmZ (exT k).1 3))) (fun v _ _ => (intOf v).toNat)
      case atStart => exact ⟨k, n, 1, rfl, rfl, by omega, by omega, by omega, by omega, by omega, by omega, H2.out⟩
      case round =>
        clear H2
        obtain ⟨j, n2, age, rfl, rfl, hj1, hj2, hj3, hj4, hj5, hj6, HK⟩ := hrel
        by_cases hjk : j < k + 1
        · have i2 : (age : Int) ≤ (iv : Int) := by omega
          have i3 : (0 : Int) < (n2 : Int) := by omega
          have HSj : Hid (Calls Try.prog 40 #[.pointer (some ⟨b, 0, none⟩)] wr (StP9 W0 b cs gz gc gh gs (exT (k + 1)) wr)) := by
            refine HSt.out k hlt wr ?_
            have := HK.out.1
            rwa [show j = k by omega] at this
          go_wp2_with fail
          refine HSj.out.mono ?_
          rintro e w3 ⟨rfl, t3, k3⟩
          have H3 : Hid (TaM W0 b cs gz gc gh gs 3 4 exSz (exT (k + 1)).1 (exT (k + 1)).2.1 (exT (k + 1)).2.2 w3 ∧ w3.ownsRow W9.heap.size 3 1 (.slice a2 3 c2) 3 (nmZ (exT k).1 3)) := by
            refine ⟨t3, own_kept (ts := []) (bs := [gc, gh, gs]) HK.out.2 k3 (by simp) (fun g e hm => ?_)⟩
            have h1 := own_above HK.out.2 g e
            have h2 := Hlt.out
            simp at hm
            omega
          have HEq := Lib.hid (sleq_any 3 3 c2 (some ⟨gc, 0, none⟩) a2 (exT (k + 1)).1 (exT k).1 (by omega) w3 t3.c.zat (own_zatn H3.out.2))
          have c1 : w3.cell? ⟨b, 260, none⟩ = some (.slice (some ⟨gc, 0, none⟩) 3 3) := by rw [t3.st.at_, HC.out.hc]
          clear t3 k3 HSj
          go_wp2_with fail
          refine HEq.out.mono ?_
          rintro e w4 ⟨bo, rfl, hbo, b4⟩
          have hb : bo = false := by
            cases bo with
            | false => rfl
            | true => exact absurd (hbo.1 rfl) (exT_ne k hlt)
          subst hb
          have H4 : Hid (TaM W0 b cs gz gc gh gs 3 4 exSz (exT (k + 1)).1 (exT (k + 1)).2.1 (exT (k + 1)).2.2 w4 ∧ w4.ownsRow W9.heap.size 3 1 (.slice a2 3 c2) 3 (nmZ (exT k).1 3)) := ⟨H3.out.1.keep b4, ownsRow_keep H3.out.2 b4⟩
          clear hbo b4 c1 H3 HEq
          go_wp2_with fail
          go_roundw
          case rel => exact ⟨k + 1, n2 - 1, age + 1, by go_num, by go_num, by omega, by omega, by omega, by omega, by omega, by omega, H4.out⟩
          case measure => simp [intOf]; omega
        · have HZ : Hid (TaM W0 b cs gz gc gh gs 3 4 exSz (exT (k + 1)).1 (exT (k + 1)).2.1 (exT (k + 1)).2.2 wr) := by
            have := HK.out.1
            rwa [show j = k + 1 by omega] at this
          by_cases hk0 : k = 0
          · have i2 : ¬ ((age : Int) ≤ (iv : Int)) := by omega
            clear hk0
            go_wp2_with fail
            go_roundw
            case rel => exact ⟨k + 1, n2, 2 * iv, by go_num, by go_num, by omega, by omega, fun _ => by omega, by omega, HZ.out⟩
            case measure => simp [intOf]; omega
          · have i2 : (age : Int) ≤ (iv : Int) := by omega
            have i3 : ¬ ((0 : Int) < (n2 : Int)) := by omega
            clear hk0
            go_wp2_with fail
            go_roundw
            case rel => exact ⟨k + 1, n2, 2 * iv, by go_num, by go_num, by omega, by omega, fun _ => by omega, by omega, HZ.out⟩
            case measure => simp [intOf]; omega
    · have i1 : ¬ ((0 : Int) < (n : Int)) := by omega
      have HF : Hid (AvP W0 b cs gz gc gh gs (exT 2) (.returned (.tuple #[])) wr) := by
        have := HK.out
        rw [show k = 2 by omega] at this
        exact ⟨rfl, this⟩
      go_wp2_with fail
      go_end0
      exact HF.out
end Go.Proofs.Ytohgbkajnhgnaaa

namespace Go.Proofs.Ytohgbkajnhgnaaa
open Go.RowKit Go.Maps Go.WideElems Go.ChangeMaps Go.MapKept
set_option linter.unusedVariables false
set_option linter.unusedSimpArgs false

/-! ### How many are accepted -/
def acF (f : Nat → Int) : Nat → Int
  | 0 => 0
  | i + 1 => if i = 1 then acF f i + f i else acF f i
theorem acF_ok : ∀ i, i < 3 → (-1000 ≤ acF (exT 2).1 i ∧ acF (exT 2).1 i ≤ 1000) ∧ -1000 ≤ (exT 2).1 i ∧ (exT 2).1 i ≤ 1000 := by decide
theorem acF_end : acF (exT 2).1 3 = 1 := by decide

set_option maxHeartbeats 2000000 in
set_option maxRecDepth 100000 in
theorem accepted_ex (D : Dd) (h : Ex10 D) (hR : DR D 4) (W0 : World) (hD : DM W0 D) (b : Nat) (cs : Array Value) (gz gc gh gs : Nat) (hC : TaC cs D 9 gz gc gh gs 3 4) (ch sm : Nat → Int)
    (w : World) (hT : TaM W0 b cs gz gc gh gs 3 4 exSz (exT 2).1 ch sm w) :
    Calls Try.prog 23 #[.pointer (some ⟨b, 0, none⟩)] w fun e w' => e = .returned (.int .i64 1) ∧ Below w.heap.size w w' := by
  have HDp : Hid (∀ (W : World), Below w.heap.size w W → (∀ j v, D.cD.toList[j]? = some v → W.cell? ((⟨b, 0, none⟩ : Addr).add j) = some v) ∧ DM W D) := fun W hW => by
    refine ⟨fun j v hj => ?_, hD.below (hT.bel.trans (hW.mono hT.bel.size))⟩
    have hj8 : j < 258 := by have := (List.getElem?_eq_some_iff.1 hj).1; simpa [hD.sz] using this
    have e : (⟨b, 0, none⟩ : Addr).add j = ⟨b, j, none⟩ := by unfold Addr.add; split <;> simp_all
    rw [e, (hT.st.keep hW).at_, hC.hd j hj8, ← hj, Array.getElem?_toList]
  have HM : Hid (∀ i W, i < 3 → Below w.heap.size w W → Calls Try.prog 32 #[.agg D.cD, .int .i64 ((i : Nat) : Int)] W fun e w' => e = .returned (.int .i64 (if i = 1 then 5 else -1)) ∧ Below W.heap.size W w') := fun i W hi hW => by
    have := dmark_any D 4 hR ((i : Nat) : Int) W (hD.below (hT.bel.trans (hW.mono hT.bel.size)))
    rwa [h.mark i hi] at this
  have Hin : Hid ((Try.prog.info? 26).map (·.size) = some D.cD.size) := hD.info
  have HT : Hid (∀ W, Below w.heap.size w W → TaM W0 b cs gz gc gh gs 3 4 exSz (exT 2).1 ch sm W) := fun W hW => hT.keep hW
  have HC := Lib.hid hC
  have c1 : w.cell? ⟨b, 260, none⟩ = some (.slice (some ⟨gc, 0, none⟩) 3 3) := by rw [hT.st.at_, hC.hc]
  clear h hR hD hC hT
  go_enter Try.func23, Try.ntmps23
  go_wp2_with fail
  clear c1
  go_loopw [3, 4, 5, 11] (fun v3 _ _ vi wr => ∃ i : Nat, vi = .int .i64 i ∧ i ≤ 3 ∧ v3 = .int .i64 (acF (exT 2).1 i) ∧ Hid (Below w.heap.size w wr)) (fun _ _ _ v _ => 3 - (intOf v).toNat)
  case atStart => exact ⟨0, rfl, by omega, rfl, Below.refl _ _⟩
  case round =>
    obtain ⟨i, rfl, hi, rfl, HB⟩ := hrel
    by_cases hlt : i < 3
    · have i1 : (i : Int) < (3 : Int) := by omega
      have HTi := Lib.hid (HT.out wr HB.out)
      obtain ⟨y0, _⟩ := HTi.out.c.cell i hlt
      have HMi := Lib.hid (HM.out i wr hlt HB.out)
      obtain ⟨⟨o1, o2⟩, o3, o4⟩ := acF_ok i hlt
      have HS : Hid (acF (exT 2).1 (i + 1) = if i = 1 then acF (exT 2).1 i + (exT 2).1 i else acF (exT 2).1 i) := rfl
      have HP := Lib.hid (HDp.out wr HB.out).1
      obtain ⟨a, ha⟩ : ∃ a, acF (exT 2).1 i = a := ⟨_, rfl⟩
      obtain ⟨z, hz⟩ : ∃ z, (exT 2).1 i = z := ⟨_, rfl⟩
      rw [ha, hz] at HS
      rw [ha] at o1 o2
      rw [hz] at y0 o3 o4
      rw [ha]
      clear ha hz
      by_cases h1 : i = 1
      · rw [if_pos h1] at HMi
        have HS1 : Hid (acF (exT 2).1 (i + 1) = a + z) := by show _ = _; rw [HS.out, if_pos h1]
        clear h1 HS
        go_wp2_with (refine wpList_load_any9 (by rfl) 26 _ rfl ⟨b, 0, none⟩ rfl D.cD _ HP.out Try.underlying26 rfl Hin.out ?_)
        refine HMi.out.mono ?_
        rintro e w2 ⟨rfl, b2⟩
        have H2 : Hid (Below w.heap.size w w2) := HB.out.trans (b2.mono HB.out.size)
        clear b2 HMi y0
        go_wp2_with fail
        go_roundw
        case rel => exact ⟨i + 1, by go_num, by omega, by rw [HS1.out], H2.out⟩
        case measure => simp [intOf]; omega
      · rw [if_neg h1] at HMi
        have HS1 : Hid (acF (exT 2).1 (i + 1) = a) := by show _ = _; rw [HS.out, if_neg h1]
        clear h1 HS
        go_wp2_with (refine wpList_load_any9 (by rfl) 26 _ rfl ⟨b, 0, none⟩ rfl D.cD _ HP.out Try.underlying26 rfl Hin.out ?_)
        refine HMi.out.mono ?_
        rintro e w2 ⟨rfl, b2⟩
        have H2 : Hid (Below w.heap.size w w2) := HB.out.trans (b2.mono HB.out.size)
        clear b2 HMi y0
        go_wp2_with fail
        go_roundw
        case rel => exact ⟨i + 1, by go_num, by omega, by rw [HS1.out], H2.out⟩
        case measure => simp [intOf]; omega
    · obtain rfl : i = 3 := by omega
      have c1 : wr.cell? ⟨b, 258, none⟩ = some (.int .i64 9) := by rw [(HT.out wr HB.out).st.at_, HC.out.hm]
      rw [acF_end]
      have HF := Lib.hid HB.out
      go_wp2_with fail
      go_ret
      exact ⟨rfl, HF.out⟩
end Go.Proofs.Ytohgbkajnhgnaaa
