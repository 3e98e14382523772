import Derived.Test.YthidhkaeebakjaaNHas
import Derived.Test.YthidhkaeebakjaaNMove
import Derived.Laws.CopyOwn
namespace Go.Proofs.Ythidhkaeebakjaa
open Go.RowKit Go.Maps Go.WideElems Go.ChangeMaps Go.MapKept
set_option linter.unusedVariables false
set_option linter.unusedSimpArgs false

theorem splice_bls (g : Nat → Bool) (N m q : Nat) (hq : q = Nat.min m N) : splice (bls (fun _ => false) N) 0 (bls g q) = bls (fun j => decide (j < m) && g j) N := by
  unfold splice
  apply List.ext_getElem?
  intro i
  have hl : (bls g q).length = q := bls_len g q
  simp only [List.take_zero, List.nil_append, Nat.zero_add, hl]
  by_cases hi : i < q
  · have h1 : i < N := by rw [hq] at hi; exact Nat.lt_of_lt_of_le hi (Nat.min_le_right _ _)
    have h2 : i < m := by rw [hq] at hi; exact Nat.lt_of_lt_of_le hi (Nat.min_le_left _ _)
    rw [List.getElem?_append_left (by rw [hl]; exact hi)]
    simp [bls, hi, h1, h2]
  · rw [List.getElem?_append_right (by rw [hl]; omega), hl, List.getElem?_drop]
    by_cases h1 : i < N
    · have h2 : ¬ i < m := by intro h; apply hi; rw [hq]; exact Nat.lt_min.2 ⟨h, h1⟩
      rw [show q + (i - q) = i by omega]
      simp [bls, h1, h2]
    · rw [List.getElem?_eq_none (by rw [bls_len]; omega), List.getElem?_eq_none (by rw [bls_len]; omega)]
theorem own_block {w : World} {B g N : Nat} {f : Nat → Bool} (h : w.heap[g]? = some (.cells (bls f N).toArray 4 (0, 0))) (hB : B ≤ g) (hN : N ≤ maxLen) : w.ownsRow B 4 1 (.slice (some ⟨g, 0, none⟩) N N) N (bls f N) :=
  ⟨by rw [bls_len]; omega, Or.inr ⟨g, N, _, rfl, hB, h, Nat.le_refl _, hN, by simp [bls_len], List.take_of_length_le (by simp [bls_len])⟩⟩

set_option maxHeartbeats 2000000 in
set_option maxRecDepth 100000 in
theorem close_any (L : List En) (N F T : Nat) (hO : Ok L N F T) (hR : riB (N : Int) (L.map En.z) (F : Int) (T : Int) = true) (hN : N ≤ 60) (a : Option Addr) (n c : Nat) (w : World) (hL : EdAt w a (L.map En.z)) (hn : L.length = n) (hmax : n ≤ 1000) (ai : Option Addr) (m ci : Nat) (g : Nat → Bool) (hi : BAt w ai m g) (hm : m ≤ 1000000) :
    Calls Try.prog 14 #[.agg #[.int .i64 ((N : Nat) : Int), .slice a n c, .int .i64 ((F : Nat) : Int), .int .i64 ((T : Nat) : Int)], .slice ai m ci] w (SetPost w N (FR L (fun x => x < N ∧ On g m x))) := by
  have hB0 : Below w.heap.size w (w.alloc (.cells #[.int .i64 ((N : Nat) : Int), .slice a n c, .int .i64 ((F : Nat) : Int), .int .i64 ((T : Nat) : Int)] 24)) := al _ _
  have HLi := Lib.hid (listable_any N F T a n c (L.map En.z) _ (hL.below hB0) (by simpa using hn) (by unfold maxLen; omega) hR (by omega))
  have HB := Lib.hid (And.intro hB0 (nfa_new w N F T a n c))
  have HL := Lib.hid (And.intro hL (And.intro hn (And.intro hO hi)))
  have hmk := make_bl N (by omega)
  have hNp : 0 < N := by have := hO.f; omega
  clear hL hn hO hi hB0 hR
  go_enter Try.func14, Try.ntmps14
  go_wp2_with fail
  refine HLi.out.mono ?_
  rintro e w2 ⟨rfl, v2⟩
  have hS2 := HB.out.2.keep v2
  have hB2 := HB.out.1.trans (v2.mono HB.out.1.size)
  have hR2 := CrAt.made (N := N) hS2 hB2 (by unfold maxLen; omega)
  have HR := Lib.hid hR2
  obtain ⟨r0, r1, r2, r3⟩ := hS2.cells4
  have hz2 : w.heap.size < w2.heap.size := hS2.lt
  obtain ⟨q, hq⟩ : ∃ q, q = Nat.min m N := ⟨_, rfl⟩
  have hblk : (w2.alloc (.cells (madeCells #[.bool false] N) 4)).heap[w2.heap.size]? = some (.cells (bls (fun _ => false) N).toArray 4 (0, 0)) := by
    have e1 : madeCells #[.bool false] N = (bls (fun _ => false) N).toArray := by
      rw [← rep_bls]
      apply Array.ext'
      apply List.ext_getElem?
      intro i
      by_cases hi : i < N
      · simp [madeCells, hi, Nat.mod_one]
      · simp [madeCells, hi]
    rw [← e1]
    exact St.new w2 _ _
  have hsrc : 0 < (bls g q).length → ∃ ad, ai = some ad ∧ ∀ j v, (bls g q)[j]? = some v → (w2.alloc (.cells (madeCells #[.bool false] N) 4)).cell? (ad.add j) = some v := by
    intro h0
    rw [bls_len] at h0
    have hqm : q ≤ m := by rw [hq]; exact Nat.min_le_left _ _
    obtain ⟨gi, oi, rfl, hgi, qi⟩ := HL.out.2.2.2.below hR2.below (by omega)
    refine ⟨_, rfl, fun j v hv => ?_⟩
    have hj : j < q := by have := (List.getElem?_eq_some_iff.1 hv).1; rwa [bls_len] at this
    rw [show (⟨gi, oi, none⟩ : Addr).add j = ⟨gi, oi + j, none⟩ by unfold Addr.add; split <;> simp_all, qi j (by omega), ← hv]
    simp [bls, hj]
  clear v2 hS2 hR2
  have hszb : (Try.prog.info? 4).map (·.size) = some 1 := by kernel_rfl
  have h1b : ∀ v ∈ bls g q, v.oneCell' = true := by intro v hv; simp [bls] at hv; obtain ⟨x, _, rfl⟩ := hv; rfl
  have hfit : 0 + (bls g q).length ≤ (bls (fun _ => false) N).length := by rw [bls_len, bls_len, hq, Nat.zero_add]; exact Nat.min_le_right _ _
  have hnn : (bls g q).length = Nat.min m N := by rw [bls_len]; exact hq
  have HX := Lib.hid (And.intro hblk (And.intro hnn (And.intro hsrc (And.intro hfit h1b))))
  have HQ := Lib.hid hq
  clear hblk hnn hsrc hfit h1b hq
  go_upto_region 4 with fail
  go_wp2_with (refine wpList_copy_splice rfl _ _ _ _ rfl 4 Try.underlying25 hszb (some ⟨w2.heap.size, 0, none⟩) ai N N m ci rfl rfl w2.heap.size 0 (bls (fun _ => false) N) 4 HX.out.1 (bls g q) HX.out.2.1 (fun h => ⟨rfl, HX.out.2.2.1 h⟩) HX.out.2.2.2.1 HX.out.2.2.2.2 (w.heap.size + 1) _ (Below.refl _ _) (by omega) ?_)
  intro wc hbk hbc
  have hblk2 : wc.heap[w2.heap.size]? = some (.cells (bls (fun j => decide (j < m) && g j) N).toArray 4 (0, 0)) := by
    have h := hbk.out
    rwa [splice_bls g N m q HQ.out] at h
  have HC := Lib.hid (show CrAt w w2.heap.size #[.int .i64 ((N : Nat) : Int), .slice a n c, .int .i64 ((F : Nat) : Int), .int .i64 ((T : Nat) : Int)] N (fun j => decide (j < m) && g j) wc from ⟨HR.out.s0.below hbc (by omega), own_block hblk2 (by omega) (by unfold maxLen; omega), HR.out.below.trans (hbc.mono (by omega)), by omega⟩)
  obtain ⟨c0, c1, c2, c3⟩ := HC.out.s0.cells4
  clear hbk hbc HX hblk2 r0 r1 r2 r3 HR
  generalize w2.heap.size = gO at HC hz2 ⊢
  generalize hf0 : (fun j => decide (j < m) && g j) = f0 at HC
  have HF0 : Hid (∀ x, x < N → (f0 x = true ↔ x < N ∧ On g m x)) := fun x hx => by rw [← hf0]; simp [On, hx]
  clear hf0
  go_wp2_with fail
  refine (narrow_any L N F T HL.out.2.2.1 (by omega) a n c wc (HL.out.1.below HC.out.below) HL.out.2.1 hmax).mono ?_
  rintro e w3 ⟨nm, L', f, l, aE, cE, aN, cN, rfl, hoE, hoN, hnd, hLr, hbd, hf, hl, hnm, hsr, v3⟩
  have HNm := Lib.hid (And.intro hnd (And.intro hLr (And.intro hf hl)))
  have hn' : L'.length = n := by have := congrArg List.length hLr; rw [List.length_map, HL.out.2.1] at this; exact this.symm
  have HNS : Hid (∀ x ∈ nm, x < N) := fun x hx => by
    rcases hsr x hx with rfl | rfl | ⟨e, he, rfl | rfl⟩
    · exact HL.out.2.2.1.f
    · exact HL.out.2.2.1.t
    · exact (HL.out.2.2.1.e e he).1
    · exact (HL.out.2.2.1.e e he).2
  obtain ⟨M, hM⟩ : ∃ M, nm.length = M := ⟨_, rfl⟩
  rw [hM] at hbd hnm hoN
  have hB3 : Below wc.heap.size wc (w3.alloc (.cells #[.int .i64 ((M : Nat) : Int), .slice aE n cE, .int .i64 ((f : Nat) : Int), .int .i64 ((l : Nat) : Int)] 24)) := v3.alloc v3.size _
  have hE3 : EdAt (w3.alloc (.cells #[.int .i64 ((M : Nat) : Int), .slice aE n cE, .int .i64 ((f : Nat) : Int), .int .i64 ((l : Nat) : Int)] 24)) aE (L'.map En.z) := (own_edges hoE).below (al w3 (.cells #[.int .i64 ((M : Nat) : Int), .slice aE n cE, .int .i64 ((f : Nat) : Int), .int .i64 ((l : Nat) : Int)] 24))
  have H3 := Lib.hid (And.intro (HC.out.keep hB3) (And.intro (ownsRow_keep hoN (al w3 (.cells #[.int .i64 ((M : Nat) : Int), .slice aE n cE, .int .i64 ((f : Nat) : Int), .int .i64 ((l : Nat) : Int)] 24))) (And.intro hE3 (And.intro hn' (And.intro hbd hM)))))
  clear hoE hoN hnd hLr hbd hf hl hsr v3 hB3 hE3 hn' c0 c1 c2 c3
  rw [hM]
  go_wp2_with fail
  generalize hwn : w3.alloc (.cells #[.int .i64 ((M : Nat) : Int), .slice aE n cE, .int .i64 ((f : Nat) : Int), .int .i64 ((l : Nat) : Int)] 24) = Wn at H3 ⊢
  clear hwn
  generalize w3.heap.size = bs at H3 ⊢
  refine (newWalk_any L' M f l H3.out.2.2.2.2.1 (by omega) aE n cE Wn H3.out.2.2.1 H3.out.2.2.2.1 hmax).mono ?_
  rintro e V ⟨bW, gF, gB, gI, vF, vB, rfl, HV⟩
  have HVh := Lib.hid HV
  have HA0 := Lib.hid (WkA.start HV)
  clear HV
  go_wp2_with fail
  have HNL := Lib.hid hM
  clear hM
  go_loopw [9, 10, 31] (fun _ _ v wq => ∃ (k : Nat) (lk : List Nat) (vLk : Value), v = .int .i64 k ∧ k ≤ M ∧ Hid (WkA Wn V M bW gF gB gI lk vLk (.slice none 0 0) (.slice none 0 0) 0 [] wq) ∧ Hid (∀ x, x ∈ lk ↔ x < k ∧ f0 (nm.getD x 0) = true)) (fun _ _ v _ => M - (intOf v).toNat)
  case atStart => exact ⟨0, [], _, rfl, Nat.zero_le _, HA0, fun x => by simp⟩
  case round =>
    obtain ⟨k, lk, vLk, rfl, hk, HA, HM⟩ := hrel
    clear HA0
    have hcr := H3.out.1.keep HA.out.r.below
    by_cases hlt : k < M
    · have hkn : k < nm.length := by rw [HNL.out]; exact hlt
      have hon := ownsRow_keep H3.out.2.1 HA.out.r.below
      obtain ⟨gN, rfl, _, _, hcn⟩ := ownsRow_read hon (by omega)
      have d0 := (hcn k (by omega)).1
      rw [nums64_get nm k hkn] at d0
      have hst := HNS.out nm[k] (List.getElem_mem _)
      have HGD : Hid (nm.getD k 0 = nm[k]) := getD_of (List.getElem?_eq_getElem hkn)
      generalize nm[k] = st at d0 hst HGD
      obtain ⟨y0, y1⟩ := hcr.cell st hst
      have i1 : (k : Int) < (M : Int) := by omega
      have i2 : (st : Int) < (N : Int) := by omega
      clear hon hcn hkn hcr
      rcases hv : f0 st with _ | _
      · have HZ : Hid (∀ x, x ∈ lk ↔ x < k + 1 ∧ f0 (nm.getD x 0) = true) := fun x => by
          rw [HM.out x]
          constructor
          · rintro ⟨h1, h2⟩; exact ⟨by omega, h2⟩
          · rintro ⟨h1, h2⟩
            by_cases e : x = k
            · subst e; rw [HGD.out, hv] at h2; cases h2
            · exact ⟨by omega, h2⟩
        rw [hv] at y0
        clear hv
        go_wp2_with fail
        go_roundw
        case rel => exact ⟨k + 1, lk, vLk, by go_num, by omega, HA, HZ⟩
        case measure => simp [intOf]; omega
      · have HVV := Lib.hid hv
        rw [hv] at y0
        clear hv
        go_wp2_with fail
        refine (enter_wk Wn V M bW gF gB gI lk vLk _ _ 0 [] wr HA.out (by omega) k hlt).mono ?_
        rintro e w4 ⟨l4, vL4, rfl, h4, hent⟩
        have H4 := Lib.hid h4
        have HZ : Hid (∀ x, x ∈ l4 ↔ x < k + 1 ∧ f0 (nm.getD x 0) = true) := fun x => by
          rw [hent.mem x, HM.out x]
          constructor
          · rintro (⟨h1, h2⟩ | rfl)
            · exact ⟨by omega, h2⟩
            · exact ⟨by omega, by rw [HGD.out]; exact HVV.out⟩
          · rintro ⟨h1, h2⟩
            by_cases e : x = k
            · exact Or.inr e
            · exact Or.inl ⟨by omega, h2⟩
        clear h4 hent y0 y1 d0
        go_wp2_with fail
        go_roundw
        case rel => exact ⟨k + 1, l4, vL4, by go_num, by omega, H4, HZ⟩
        case measure => simp [intOf]; omega
    · obtain rfl : k = M := by omega
      clear hcr
      go_wp2_with fail
      refine (followFree_any Wn V _ k bW gF gB gI vF vB L' HVh.out H3.out.2.2.2.2.1 (by omega) (by rw [H3.out.2.2.2.1]; exact hmax) lk vLk _ _ 0 [] wr HA.out).mono ?_
      rintro e w5 ⟨l5, vL5, rfl, h5, hfr⟩
      have HFR := Lib.hid hfr
      have hc5 := H3.out.1.keep h5.r.below
      have hon5 := ownsRow_keep H3.out.2.1 h5.r.below
      have hll5 := h5.r.lst
      have hlt5 := Lib.hid h5.lt
      obtain ⟨p, hp⟩ : ∃ p, l5.length = p := ⟨_, rfl⟩
      have hpM : p ≤ k := by rw [← hp]; exact h5.len
      obtain ⟨a5, c5, rfl⟩ := ownsRow_slice hll5
      obtain ⟨q0, q1, q2, q3, q4⟩ := row5w h5.r.sw
      rw [hp] at hll5 q3
      have HP := Lib.hid hp
      have H5 := Lib.hid (And.intro hc5 (And.intro hon5 hll5))
      clear hfr h5 hc5 hon5 hll5 hp
      go_wp2_with fail
      clear q0 q1 q2 q3 q4
      go_loopw [12, 51] (fun _ v wq => ∃ (j : Nat) (fj : Nat → Bool), v = .int .i64 j ∧ j ≤ p ∧ Hid (CrAt w gO #[.int .i64 ((N : Nat) : Int), .slice a n c, .int .i64 ((F : Nat) : Int), .int .i64 ((T : Nat) : Int)] N fj wq ∧ wq.ownsRow wc.heap.size 3 1 (.slice aN k cN) k (nums64 nm) ∧ wq.ownsRow V.heap.size 3 1 (.slice a5 p c5) p (nums64 l5)) ∧ Hid (∀ x, x < N → (fj x = true ↔ f0 x = true ∨ ∃ i ∈ l5.take j, nm.getD i 0 = x))) (fun _ v _ => p - (intOf v).toNat)
      case atStart => exact ⟨0, f0, rfl, Nat.zero_le _, H5, fun x _ => by simp⟩
      case round =>
        obtain ⟨j, fj, rfl, hj, HB, HD⟩ := hrel
        clear H5
        by_cases hjp : j < p
        · have hjl : j < l5.length := by rw [HP.out]; exact hjp
          obtain ⟨g5, rfl, _, _, hc5⟩ := ownsRow_read HB.out.2.2 (by omega)
          have d0 := (hc5 j (by omega)).1
          rw [nums64_get l5 j hjl] at d0
          have hsl := hlt5.out l5[j] (List.getElem_mem _)
          have HT : Hid (l5.take (j + 1) = l5.take j ++ [l5[j]]) := List.take_succ_eq_append_getElem hjl
          generalize l5[j] = sl at d0 hsl HT
          obtain ⟨gN, rfl, _, _, hcn⟩ := ownsRow_read HB.out.2.1 (by omega)
          have hkn : sl < nm.length := by rw [HNL.out]; exact hsl
          have d1 := (hcn sl (by omega)).1
          rw [nums64_get nm sl hkn] at d1
          have hst := HNS.out nm[sl] (List.getElem_mem _)
          have HGD : Hid (nm.getD sl 0 = nm[sl]) := getD_of (List.getElem?_eq_getElem hkn)
          generalize nm[sl] = st at d1 hst HGD
          obtain ⟨y0, y1⟩ := HB.out.1.cell st hst
          have hset : ∀ {B t n : Nat} {u : Value} {xs : List Value}, wr.ownsRow B t 1 u n xs → t ≠ 4 → (wr.setCell ⟨gO, st, none⟩ (.bool true)).ownsRow B t 1 u n xs := fun ho ht =>
            own_kept (ts := []) (bs := [gO]) ho ((Kept.refl _ _ _).setCell _ _ (Or.inl (by simp))) (by simp) (fun g hg e => by
              simp at e
              subst e
              exact own_kinds ho HB.out.1.own ht g hg rfl)
          have HB2 := Lib.hid (And.intro (HB.out.1.tru st hst) (And.intro (hset HB.out.2.1 (by decide)) (hset HB.out.2.2 (by decide))))
          have HZ : Hid (∀ x, x < N → (ins fj st x = true ↔ f0 x = true ∨ ∃ i ∈ l5.take (j + 1), nm.getD i 0 = x)) := fun x hx => by
            simp only [ins, Bool.or_eq_true, beq_iff_eq, HD.out x hx, HT.out, List.mem_append, List.mem_singleton]
            constructor
            · rintro ((h | ⟨i, h1, h2⟩) | rfl)
              · exact Or.inl h
              · exact Or.inr ⟨i, Or.inl h1, h2⟩
              · exact Or.inr ⟨sl, Or.inr rfl, HGD.out⟩
            · rintro (h | ⟨i, h1 | rfl, h2⟩)
              · exact Or.inl (Or.inl h)
              · exact Or.inl (Or.inr ⟨i, h1, h2⟩)
              · exact Or.inr (by rw [← h2]; exact HGD.out)
          have i1 : (j : Int) < (p : Int) := by omega
          have i2 : (sl : Int) < (k : Int) := by omega
          have i3 : (st : Int) < (N : Int) := by omega
          clear hc5 hcn hkn hjl hset
          go_wp2_with fail
          go_roundw
          case rel => exact ⟨j + 1, _, by go_num, by omega, HB2, HZ⟩
          case measure => simp [intOf]; omega
        · obtain rfl : j = p := by omega
          have HF : Hid (∀ x, x < N → (fj x = true ↔ FR L (fun x => x < N ∧ On g m x) x)) := fun x hx => by
            obtain ⟨hnd, hLr, hf, hl⟩ := HNm.out
            have hbd := H3.out.2.2.2.2.1
            rw [← HNL.out] at hbd
            have hpart := fr_part hnd hbd (A' := fun i => i < nm.length ∧ f0 (nm.getD i 0) = true) (A := fun x => x < N ∧ On g m x) (fun i => by
              constructor
              · rintro ⟨h1, h2⟩
                have h3 : nm.getD i 0 < N := by rw [getD_of (List.getElem?_eq_getElem h1)]; exact HNS.out _ (List.getElem_mem _)
                exact ⟨h1, (HF0.out _ h3).1 h2⟩
              · rintro ⟨h1, h2⟩; exact ⟨h1, (HF0.out _ h2.1).2 h2⟩) x
            rw [← hLr] at hpart
            rw [HD.out x hx, hpart, HF0.out x hx, List.take_of_length_le (by rw [HP.out]; exact Nat.le_refl _)]
            refine or_congr Iff.rfl ⟨fun ⟨i, h1, h2⟩ => ⟨i, ?_, h2⟩, fun ⟨i, h1, h2⟩ => ⟨i, ?_, h2⟩⟩
            · exact (FR.congr (fun y => by rw [HM.out y, HNL.out]) i).1 ((HFR.out i).1 h1)
            · exact (HFR.out i).2 ((FR.congr (fun y => by rw [HM.out y, HNL.out]) i).2 h1)
          have HG : Hid (SetPost w N (FR L (fun x => x < N ∧ On g m x)) (.returned (.slice (some ⟨gO, 0, none⟩) N N)) wr) := by
            refine ⟨fun x => decide (x < N) && fj x, _, _, rfl, ?_, fun x => ?_, HB.out.1.below⟩
            · rw [bls_congr (g := fj) (fun j hj => by simp [hj])]
              exact HB.out.1.own
            · by_cases hx : x < N
              · simp [hx, HF.out x hx]
              · simp only [hx, decide_false, Bool.false_and]
                exact ⟨fun h => (by cases h), fun h => absurd (FR.lt (fun x hx => hx.1) (fun e he => (HL.out.2.2.1.e e he).2) h) hx⟩
          go_wp2_with fail
          go_ret
          exact HG.out
end Go.Proofs.Ythidhkaeebakjaa
