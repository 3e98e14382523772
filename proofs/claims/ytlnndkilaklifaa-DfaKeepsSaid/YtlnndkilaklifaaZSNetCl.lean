import Derived.Test.YtlnndkilaklifaaZSKeys
import Derived.Test.YtlnndkilaklifaaZSNetNum
import Derived.Test.YtlnndkilaklifaaZSt
namespace Go.Proofs.Ytlnndkilaklifaa
open Go.RowKit Go.Maps Go.WideElems Go.ChangeMaps Go.MapKept
set_option linter.unusedVariables false
set_option linter.unusedSimpArgs false

theorem zero_ints9 (w : World) : (zeroValue 25).run Try.prog w = .ok (.slice none 0 0) w := by kernel_rfl
/-- The classes of a set's bytes. -/
def clR (lr : List Nat) (p : Nat → Bool) : List Nat := lst (fun c => p (lr.getD c 0)) lr.length
theorem clR_congr {lr : List Nat} (hl : ∀ x ∈ lr, x < 256) {p q : Nat → Bool} (h : ∀ b, b < 256 → p b = q b) : clR lr p = clR lr q := by
  unfold clR lst
  refine List.filter_congr fun c hc => ?_
  have hc2 : c < lr.length := by simpa using hc
  have : lr.getD c 0 = lr[c] := by simp [List.getD, hc2]
  rw [this]
  exact h _ (hl _ (List.getElem_mem hc2))
/-- Numbers in a block that no one changes. -/
def IAp (w : World) (P : Nat → Prop) (a : Option Addr) (l : List Nat) : Prop := 0 < l.length → ∃ g off, a = some ⟨g, off, none⟩ ∧ g < w.heap.size ∧ ¬ P g ∧ ∀ j (h : j < l.length), w.cell? ⟨g, off + j, none⟩ = some (.int .i64 ((l[j] : Nat) : Int))
def LQ (lr : List Nat) (DL : List ((Nat → Bool) × Option Addr × Nat)) (x y : Value) : Prop := ∃ d ∈ DL, x = (.agg #[.int .u64 ((wd d.1 0 : Nat) : Int), .int .u64 ((wd d.1 1 : Nat) : Int), .int .u64 ((wd d.1 2 : Nat) : Int), .int .u64 ((wd d.1 3 : Nat) : Int)]) ∧ y = .slice d.2.1 (clR lr d.1).length d.2.2
/-- The lists of classes that were made. -/
structure LsA (B b7 b8 bL n : Nat) (lr : List Nat) (aR : Option Addr) (cR : Nat) (P : Nat → Prop) (DL : List ((Nat → Bool) × Option Addr × Nat)) (w : World) : Prop where
  s7 : St w 91 b7 #[.slice aR lr.length cR]
  s8 : St w 116 b8 #[.map (some bL)]
  row : w.ownsRow B 5 1 (.slice aR lr.length cR) lr.length (u8s lr)
  map : MapEx w 41 bL n (LQ lr DL)
  at_ : ∀ d ∈ DL, IAp w P d.2.1 (clR lr d.1)
  lo : B ≤ bL ∧ B ≤ w.heap.size
  lr : ∀ x ∈ lr, x < 256
theorem LsA.keep {B b7 b8 bL n : Nat} {lr : List Nat} {aR : Option Addr} {cR : Nat} {P : Nat → Prop} {DL : List ((Nat → Bool) × Option Addr × Nat)} {w w' : World} (h : LsA B b7 b8 bL n lr aR cR P DL w) (k : Below w.heap.size w w') : LsA B b7 b8 bL n lr aR cR P DL w' :=
  ⟨h.s7.keep k, h.s8.keep k, ownsRow_keep h.row k, h.map.same (k.block _ h.map.lt), fun d hd h0 => by
    obtain ⟨g, off, e, hg, hn, hc⟩ := h.at_ d hd h0
    exact ⟨g, off, e, Nat.lt_of_lt_of_le hg k.size, hn, fun j hj => (k.cell (p := ⟨g, off + j, none⟩) hg).trans (hc j hj)⟩, ⟨h.lo.1, Nat.le_trans h.lo.2 k.size⟩, h.lr⟩
theorem LsA.frame {B bn b7 b8 bL n : Nat} {lr : List Nat} {aR : Option Addr} {cR : Nat} {P P' : Nat → Prop} {DL : List ((Nat → Bool) × Option Addr × Nat)} {w w' : World} (h : LsA B b7 b8 bL n lr aR cR P DL w) (F : NtF B bn P P' w w') (h7 : ¬ P b7) (h8 : ¬ P b8) (hL : ¬ P bL) (hR : ∀ g, (Value.slice aR lr.length cR).ownBlock = some g → ¬ P g) : LsA B b7 b8 bL n lr aR cR P' DL w' :=
  ⟨F.st h.s7 h7, F.st h.s8 h8, F.own h.row hR, F.map h.map hL, fun d hd => F.ian (h.at_ d hd), ⟨h.lo.1, Nat.le_trans h.lo.2 F.below.size⟩, h.lr⟩
def NClsP (B bn b7 b8 bL n : Nat) (lr : List Nat) (aR : Option Addr) (cR : Nat) (P : Nat → Prop) (DL : List ((Nat → Bool) × Option Addr × Nat)) (p : Nat → Bool) (w : World) (e : Ending) (w' : World) : Prop :=
  ∃ (a : Option Addr) (c : Nat) (DL' : List ((Nat → Bool) × Option Addr × Nat)), e = .returned (.slice a (clR lr p).length c) ∧ LsA B b7 b8 bL (n + 1) lr aR cR P DL' w' ∧ IAp w' P a (clR lr p) ∧ (∃ bs, Kept [] bs w w' ∧ ∀ x ∈ bs, x = bL) ∧ Below B w w'

set_option maxHeartbeats 1000000 in
set_option maxRecDepth 100000 in
theorem ncls_any (B bn b7 b8 bL n : Nat) (lr : List Nat) (aR : Option Addr) (cR : Nat) (P : Nat → Prop) (DL : List ((Nat → Bool) × Option Addr × Nat)) (w : World) (h : LsA B b7 b8 bL n lr aR cR P DL w) (hP : ∀ x, P x → x < w.heap.size) (hn : n ≤ 100000) (hlr : lr.length ≤ 256) (p : Nat → Bool) :
    Calls Try.prog 80 #[(.agg #[.int .u64 ((wd p 0 : Nat) : Int), .int .u64 ((wd p 1 : Nat) : Int), .int .u64 ((wd p 2 : Nat) : Int), .int .u64 ((wd p 3 : Nat) : Int)]), .pointer (some ⟨b8, 0, none⟩), .pointer (some ⟨b7, 0, none⟩)] w (NClsP B bn b7 b8 bL n lr aR cR P DL p w) := by
  obtain ⟨kl, hkl⟩ := key_of_set9 p
  obtain ⟨W, hW⟩ : ∃ W, w.alloc (.cells #[.int .u64 ((wd p 0 : Nat) : Int), .int .u64 ((wd p 1 : Nat) : Int), .int .u64 ((wd p 2 : Nat) : Int), .int .u64 ((wd p 3 : Nat) : Int)] 41) = W := ⟨_, rfl⟩
  have hk0 : Below w.heap.size w W := by rw [← hW]; exact al w _
  have h1 := h.keep hk0
  have hSs : St W 41 w.heap.size #[.int .u64 ((wd p 0 : Nat) : Int), .int .u64 ((wd p 1 : Nat) : Int), .int .u64 ((wd p 2 : Nat) : Int), .int .u64 ((wd p 3 : Nat) : Int)] := by rw [← hW]; exact St.new _ _ _
  have m0 : W.cell? ⟨b8, 0, none⟩ = some (.map (some bL)) := h1.s8.at_ 0
  obtain ⟨t0, t1, t2, t3⟩ := row4 hSs
  have H := Lib.hid h
  have HP := Lib.hid hP
  have H1 := Lib.hid h1
  have HK := Lib.hid (And.intro hk0 (And.intro hSs hkl))
  have hsz := hk0.size
  have hS := Lib.hid h.lo.2
  rcases h1.map.look2 law_set9 Try.underlying116 (zero_ints9 W) hkl with ⟨hrun, hno⟩ | ⟨v, ⟨d, hd, hde, rfl⟩, hrun⟩
  rotate_left
  · have HD := Lib.hid (And.intro hd hde)
    have HF : Hid (NClsP B bn b7 b8 bL n lr aR cR P DL p w (.returned (.slice d.2.1 (clR lr d.1).length d.2.2)) W) := by
      have e : clR lr p = clR lr d.1 := clR_congr H.out.lr (by
        have := HD.out.2
        simp only [Value.agg.injEq, Array.mk.injEq, List.cons.injEq, Value.int.injEq, Int.ofNat_inj, true_and, and_true] at this
        exact (wd_iff p d.1).1 ⟨this.1, this.2.1, this.2.2.1, this.2.2.2⟩)
      refine ⟨d.2.1, d.2.2, DL, by rw [e], ⟨H1.out.s7, H1.out.s8, H1.out.row, H1.out.map.more (by omega), H1.out.at_, H1.out.lo, H1.out.lr⟩, by rw [e]; exact H1.out.at_ d HD.out.1, ⟨[], Kept.below (Kept.refl _ _ _) HK.out.1, by simp⟩, HK.out.1.mono hS.out⟩
    clear h h1 hP hk0 hSs hd hde hkl
    go_enter Try.func80, Try.ntmps80
    go_upto_region 1 with fail
    try rw [hW]
    go_wp2_with fail
    go_ret
    exact HF.out
  · have HNo := Lib.hid hno
    have c7 : W.cell? ⟨b7, 0, none⟩ = some (.slice aR lr.length cR) := h1.s7.at_ 0
    clear h h1 hP hk0 hSs hkl hno
    go_enter Try.func80, Try.ntmps80
    go_upto_region 1 with fail
    try rw [hW]
    obtain ⟨q, hq⟩ : ∃ q, lr.length = q := ⟨_, rfl⟩
    have HQ := Lib.hid hq
    rw [hq] at c7 hlr
    obtain ⟨i0, hi, hz0, hz1, hz2⟩ := info_parts Try.info_int9
    clear hq
    go_wp2_with fail
    go_loopw [5, 7, 8, 19] (fun v _ _ x wr => ∃ (k m : Nat) (a : Option Addr) (c : Nat), x = .int .i64 k ∧ k ≤ q ∧ m ≤ 256 ∧ v = .slice a m c ∧ Hid ((lst (fun c => p (lr.getD c 0)) k).length = m ∧ wr.ownsRow W.heap.size 3 1 (.slice a m c) m (nums64 (lst (fun c => p (lr.getD c 0)) k)) ∧ Below W.heap.size W wr)) (fun _ _ _ x _ => q - (intOf x).toNat)
    case atStart => exact ⟨0, 0, none, 0, rfl, Nat.zero_le _, Nat.zero_le _, rfl, rfl, World.ownsRow_nil _ _ _ _, Below.refl _ _⟩
    case round =>
      obtain ⟨k, m, a, c, rfl, hk, hm, rfl, HA⟩ := hrel
      by_cases hlt : k < q
      · have hkl : k < lr.length := by rw [HQ.out]; exact hlt
        obtain ⟨gR, rfl, _, hgR, hcR⟩ := ownsRow_read H1.out.row (by omega)
        have d0 := (HA.out.2.2.cell (p := ⟨gR, k, none⟩) hgR).trans (hcR k (by omega)).1
        rw [u8s_get lr k hkl] at d0
        have hrk : lr.getD k 0 < 256 := by
          have : lr.getD k 0 = lr[k] := by simp [List.getD, hkl]
          rw [this]; exact H1.out.lr _ (List.getElem_mem hkl)
        have s := (HK.out.2.1).keep HA.out.2.2
        obtain ⟨r0, r1, r2, r3⟩ := row4 s
        have HL1 := lst_yes (fun c => p (lr.getD c 0)) k
        have HL0 := lst_no (fun c => p (lr.getD c 0)) k
        try dsimp only at HL1 HL0
        have HL := Lib.hid (And.intro HL1 HL0)
        have hle := lst_le (fun c => p (lr.getD c 0)) k
        rw [HA.out.1] at hle
        generalize lr.getD k 0 = b at d0 hrk HL
        have i1 : (k : Int) < (q : Int) := by omega
        clear hcR hkl s HL1 HL0
        go_wp2_with fail
        refine (has_any p b hrk _).mono ?_
        rintro e w3 ⟨rfl, hB3⟩
        have hB := HA.out.2.2.trans (hB3.mono HA.out.2.2.size)
        have hO := ownsRow_keep HA.out.2.1 hB3
        have hBs := hB.size
        rcases hpb : p b with _ | _
        · have HZ : Hid ((lst (fun c => p (lr.getD c 0)) (k + 1)).length = m ∧ w3.ownsRow W.heap.size 3 1 (.slice a m c) m (nums64 (lst (fun c => p (lr.getD c 0)) (k + 1))) ∧ Below W.heap.size W w3) := by
            rw [HL.out.2 hpb]; exact ⟨HA.out.1, hO, hB⟩
          clear hO hB hB3 hpb HA
          go_wp2_with fail
          go_roundw
          case rel => exact ⟨k + 1, m, a, c, by go_num, by omega, hm, rfl, HZ⟩
          case measure => simp [intOf]; omega
        · have HE := Lib.hid (HL.out.1 hpb)
          have HA1 := Lib.hid HA.out.1
          clear hpb hB3 HA
          go_wp2_with (at_builtin; refine wpList_append_own _ rfl _ _ 25 rfl W.heap.size 3 i0 (.int .i64 0) 1 8 Try.underlying25 hi hz0 hz1 hz2 rfl (by decide) _ _ _ rfl (hO.alloc _) ⟨w3.heap.size, 0, none⟩ 1 1 [.int .i64 ((k : Nat) : Int)] rfl rfl (cell_one_new _ _ _) ?d2 ?d3 ?d4 ?d5 ?_)
          case d2 => intro u hu; simp at hu; subst hu; rfl
          case d3 => unfold maxLen; omega
          case d4 => omega
          case d5 => simp; omega
          intro v' w5 hown5 hgrow5 _
          obtain ⟨a5, c5, rfl⟩ := ownsRow_slice hown5
          have hB5 := below_grown_own (hB.trans ((al w3 (.cells #[.int .i64 ((k : Nat) : Int)] 3)).mono hBs)) (hO.alloc _) (by simp; omega) hgrow5
          have HZ : Hid ((lst (fun c => p (lr.getD c 0)) (k + 1)).length = m + 1 ∧ w5.ownsRow W.heap.size 3 1 (.slice a5 (m + 1) c5) (m + 1) (nums64 (lst (fun c => p (lr.getD c 0)) (k + 1))) ∧ Below W.heap.size W w5) := by
            rw [HE.out]
            refine ⟨by rw [List.length_append, HA1.out]; rfl, ?_, hB5⟩
            rw [nums64_snoc]
            exact hown5
          clear hown5 hgrow5 hB5 hO hB
          go_wp2_with fail
          go_roundw
          case rel => exact ⟨k + 1, m + 1, a5, c5, by go_num, by omega, by omega, rfl, HZ⟩
          case measure => simp [intOf]; omega
      · obtain rfl : k = q := by omega
        have hB := HA.out.2.2
        have hs := HK.out.2.1.keep hB
        obtain ⟨r0, r1, r2, r3⟩ := row4 hs
        have h2 := H1.out.keep hB
        have m1 : wr.cell? ⟨b8, 0, none⟩ = some (.map (some bL)) := h2.s8.at_ 0
        have hcl : clR lr p = lst (fun c => p (lr.getD c 0)) k := by unfold clR; rw [HQ.out]
        obtain ⟨w5, hup, hM5, hg5⟩ := h2.map.update (Q' := LQ lr (DL ++ [(p, a, c)])) (val := .slice a m c) law_set9 Try.underlying116 (by unfold maxLen; omega) HK.out.2.2 HNo.out
          (fun x y ⟨d, h1, h2, h3⟩ => ⟨d, List.mem_append.2 (Or.inl h1), h2, h3⟩) ⟨(p, a, c), by simp, rfl, by simp only [hcl, HA.out.1]⟩
          (fun x y ⟨d, h1, h2, h3⟩ hne => by
            rcases List.mem_append.1 h1 with h1 | h1
            · exact ⟨y, d, h1, h2, h3⟩
            · rw [List.mem_singleton.1 h1] at h2
              exact absurd h2 hne)
        have hBw : Below w.heap.size w wr := HK.out.1.trans (hB.mono hsz)
        have hk5 : Kept [] [bL] wr w5 := (Kept.refl _ _ _).grown hg5 (fun g e => by injection e with e; exact Or.inl (by simp [← e]))
        have hB5 : Below B wr w5 := (Below.refl _ _).grown hg5 h2.lo.2 (fun g e => by injection e with e; rw [← e]; exact H.out.lo.1)
        have hO5 := own_grown_map HA.out.2.1 h2.map.of hg5
        have HF : Hid (NClsP B bn b7 b8 bL n lr aR cR P DL p w (.returned (.slice a m c)) w5) := by
          have hnew : IAp w5 P a (clR lr p) := fun h0 => by
            rw [hcl, HA.out.1] at h0
            obtain ⟨g, rfl, hlo, hhi, hcs⟩ := ownsRow_read hO5 h0
            refine ⟨g, 0, rfl, hhi, fun hp => by have := HP.out g hp; omega, fun j hj => ?_⟩
            rw [Nat.zero_add, (hcs j (by rw [hcl, HA.out.1] at hj; omega)).1]
            rw [hcl] at hj
            rw [nums64_get _ j hj]
            simp only [hcl]
          refine ⟨a, c, DL ++ [(p, a, c)], by rw [hcl, HA.out.1], ⟨h2.s7.grown_map h2.map.of hg5, h2.s8.grown_map h2.map.of hg5, own_grown_map h2.row h2.map.of hg5, hM5, fun d hd => ?_, ⟨h2.lo.1, Nat.le_trans h2.lo.2 hB5.size⟩, h2.lr⟩, hnew, ⟨[bL], (Kept.below (Kept.refl _ _ _) hBw).trans hk5, fun x hx => List.mem_singleton.1 hx⟩, (hBw.mono hS.out).trans hB5⟩
          rcases List.mem_append.1 hd with hd | hd
          · intro h0
            obtain ⟨g, off, e, hg, hn, hc⟩ := h2.at_ d hd h0
            have hgL : g ≠ bL := fun e2 => by
              obtain ⟨es, ck, hb, _⟩ := h2.map.of
              have h5 := hc 0 h0
              rw [e2] at h5
              simp [World.cell?, hb] at h5
            exact ⟨g, off, e, Nat.lt_of_lt_of_le hg hB5.size, hn, fun j hj => by rw [hk5.cell9 (by simpa using hgL) hg]; exact hc j hj⟩
          · rw [List.mem_singleton.1 hd]
            exact hnew
        clear hB hs h2 hM5 hg5 hBw hk5 hB5 hO5 hcl
        go_wp2_with fail
        go_ret
        exact HF.out
end Go.Proofs.Ytlnndkilaklifaa
