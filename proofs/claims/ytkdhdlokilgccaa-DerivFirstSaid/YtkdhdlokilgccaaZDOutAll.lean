import Derived.Test.YtkdhdlokilgccaaZDOut
namespace Go.Proofs.Ytkdhdlokilgccaa
open Go.RowKit Go.Maps Go.WideElems Go.ChangeMaps Go.MapKept
set_option linter.unusedVariables false

set_option maxHeartbeats 1000000 in
set_option maxRecDepth 100000 in
/-- Nothing is ahead: the empty string. -/
theorem ahead_nil {W0 : World} {B kr : Nat} {cur : Array Value} {E : List Ex} {F : List Fa} {T : List Tl} {b1 b2 n0 : Nat} {S : List (List Rx)} {bl : Nat} {ll : List Nat} {m : Nat} {vA vI : Value} {f : Nat → Option (List Nat)} (hO : Out W0 B kr cur E F T b1 b2 n0 S bl ll m vA vI f) (bt bL n : Nat) (hn : f n = some []) (hm : n ∈ ll) (w : World) (vR : Value) (lr : List Pc) (hTr : TrAt W0 w kr bl bt bL T f vR lr) (hl : lr.length ≤ 1000000000000) :
    Calls Try.prog 63 #[.pointer (some ⟨bt, 0, none⟩), .int .i64 n] w (APost W0 kr bl bt bL T f w vR lr (AheadT E T f ll n [])) := by
  have hTl := hO.rd.si.tlen
  have hnT := hO.good.lt n [] hn
  obtain ⟨v, hv⟩ := hTr.lg.look (by unfold maxLen; omega) (by omega) hn
  obtain ⟨t0, t1, t2, t3⟩ := row4t hTr.st
  have hrun : (Instr.lookup 131 (.map (some bL)) (.int .i64 ((n : Nat) : Int)) false).run Try.prog w = .ok v w := by simpa using hv.run false w rfl
  obtain ⟨aV, cV, rfl⟩ := ownsRow_slice hv.row
  simp only [List.length_nil] at hrun
  have HT := Lib.hid (And.intro hTr (And.intro hn (And.intro hm hl)))
  clear hTr hn hm hl hv
  go_enter Try.func63, Try.ntmps63
  go_wp2_with fail
  go_loopw [15] (fun tv wr => tv = .int .i64 0 ∧ wr = w) (fun _ _ => 0)
  case atStart => exact ⟨rfl, rfl⟩
  case round =>
    obtain ⟨rfl, rfl⟩ := hrel
    go_wp2_with fail
    refine (tadd_any W0 _ kr bl bt bL T f vR lr 0 (by decide) HT.out.1 HT.out.2.2.2).mono ?_
    rintro e w4 ⟨v4, rfl, hT4', hF4⟩
    have H4 := Lib.hid (And.intro hT4' hF4)
    clear hT4' hF4
    go_wp2_with fail
    go_end0
    refine ⟨.leaf ⟨0, emp⟩, ⟨⟨by show takesZ 0 = 0; decide, okSet_emp 0 (by decide)⟩, fun s => ?_, fun _ => rfl, fun h => absurd rfl h⟩, v4, rfl, H4.out.1, H4.out.2⟩
    rw [hO.leaf HT.out.2.1 HT.out.2.2.1 s, lan_leaf, if_neg (by decide)]
/-- Some strings of the first ones, and those of one more. -/
theorem alts {L M N : List Nat → Prop} {u v : Rx} (hu : ∀ s, Lan u s ↔ L s) (hv : ∀ s, Lan v s ↔ M s) (h : ∀ s, N s ↔ L s ∨ M s) (s : List Nat) : Lan (.bin ⟨3, emp⟩ u v) s ↔ N s := by
  rw [lan_bin, if_neg (by decide), hu, hv, h]
/-- The strings of the first k of the tails ahead. -/
def Upto (E : List Ex) (T : List Tl) (ll l : List Nat) (k : Nat) (s : List Nat) : Prop := ∃ c u τ, c ∈ l.take k ∧ TD E T c (u :: τ) ∧ Cat (Ahd E T ll c) (Lan u) s
/-- What is written behind k of them. -/
structure OutK (W0 : World) (kr bl bt bL : Nat) (E : List Ex) (T : List Tl) (f : Nat → Option (List Nat)) (ll l : List Nat) (w : World) (vR : Value) (lr : List Pc) (k : Nat) (wr : World) (vK : Value) (more : List Pc) : Prop where
  tr : TrAt W0 wr kr bl bt bL T f vK (lr ++ more)
  fr : WFr bt w vR wr vK
  nil : k = 0 → more = []
  tree : 0 < k → ∃ u : Rx, u.wf ∧ u.flat = more ∧ (∀ s, Lan u s ↔ Upto E T ll l k s) ∧ more.length + 1 = ((l.take k).map (subSum E T f (vv E T f ll))).sum
theorem OutK.first {W0 : World} {kr bl bt bL : Nat} {E : List Ex} {T : List Tl} {f : Nat → Option (List Nat)} {ll l : List Nat} {w : World} {vR : Value} {lr : List Pc} {wr : World} {vK : Value} {more : List Pc} (h : OutK W0 kr bl bt bL E T f ll l w vR lr 0 wr vK more) (hl : 0 < l.length) {c : Nat} (hc : l[0] = c) {hd : Rx} {τ : List Rx} (htd : TD E T c (hd :: τ))
    {u : Rx} (ht : ToT E T f ll c hd u) {w2 : World} {v2 : Value} (hT : TrAt W0 w2 kr bl bt bL T f v2 ((lr ++ more) ++ u.flat)) (hF : WFr bt wr vK w2 v2) : OutK W0 kr bl bt bL E T f ll l w vR lr 1 w2 v2 u.flat := by
  have hm := h.nil rfl
  subst hm
  have ht1 : l.take 1 = [c] := by
    rw [List.take_succ_eq_append_getElem hl, hc]; simp
  refine ⟨by simpa using hT, h.fr.trans hF, fun e => absurd e (by decide), fun _ => ⟨u, ht.1, rfl, fun s => ?_, ?_⟩⟩
  · rw [ht.2.1]
    unfold Upto
    rw [ht1]
    constructor
    · exact fun hs => ⟨c, hd, τ, by simp, htd, hs⟩
    · rintro ⟨c', u', τ', h1, h2, h3⟩
      rw [List.mem_singleton.1 h1] at h2 h3
      have := htd.one h2
      injection this with e1 _
      rw [e1]; exact h3
  · rw [ht1]
    simp only [List.map_cons, List.map_nil, List.sum_cons, List.sum_nil, Nat.add_zero]
    exact ht.2.2
theorem OutK.next {W0 : World} {kr bl bt bL : Nat} {E : List Ex} {T : List Tl} {f : Nat → Option (List Nat)} {ll l : List Nat} {w : World} {vR : Value} {lr : List Pc} {k : Nat} {wr : World} {vK : Value} {more : List Pc} (h : OutK W0 kr bl bt bL E T f ll l w vR lr k wr vK more) (hk : 0 < k) (hl : k < l.length) {c : Nat} (hc : l[k] = c) {hd : Rx} {τ : List Rx} (htd : TD E T c (hd :: τ))
    {u : Rx} (ht : ToT E T f ll c hd u) {w3 : World} {v3 : Value} (hT : TrAt W0 w3 kr bl bt bL T f v3 ((lr ++ more) ++ u.flat ++ [⟨3, emp⟩])) (hF : WFr bt wr vK w3 v3) : OutK W0 kr bl bt bL E T f ll l w vR lr (k + 1) w3 v3 (more ++ (u.flat ++ [⟨3, emp⟩])) := by
  obtain ⟨u0, h1, h2, h3, h4⟩ := h.tree hk
  have ht1 : l.take (k + 1) = l.take k ++ [c] := by rw [List.take_succ_eq_append_getElem hl, hc]
  refine ⟨by simpa using hT, h.fr.trans hF, fun e => absurd e (by omega), fun _ => ⟨.bin ⟨3, emp⟩ u0 u, ⟨by show takesZ 3 = 2; decide, okSet_emp 3 (by decide), h1, ht.1⟩, by simp [Rx.flat, h2], fun s => ?_, ?_⟩⟩
  · refine alts h3 ht.2.1 (fun s => ?_) s
    unfold Upto
    rw [ht1]
    constructor
    · rintro ⟨c', u', τ', g1, g2, g3⟩
      rcases List.mem_append.1 g1 with g1 | g1
      · exact Or.inl ⟨c', u', τ', g1, g2, g3⟩
      · rw [List.mem_singleton.1 g1] at g2 g3
        have := htd.one g2
        injection this with e1 _
        rw [e1]; exact Or.inr g3
    · rintro (⟨c', u', τ', g1, g2, g3⟩ | g)
      · exact ⟨c', u', τ', List.mem_append_left _ g1, g2, g3⟩
      · exact ⟨c, hd, τ, by simp, htd, g⟩
  · rw [ht1, List.map_append, List.sum_append, ← h4]
    have := ht.2.2
    simp only [List.length_append, List.length_cons, List.length_nil, List.map_cons, List.map_nil, List.sum_cons, List.sum_nil, Nat.add_zero]
    omega

set_option maxHeartbeats 2000000 in
set_option maxRecDepth 100000 in
/-- Some are. -/
theorem ahead_cons {W0 : World} {B kr : Nat} {cur : Array Value} {E : List Ex} {F : List Fa} {T : List Tl} {b1 b2 n0 : Nat} {S : List (List Rx)} {bl : Nat} {ll : List Nat} {m : Nat} {vA vI : Value} {f : Nat → Option (List Nat)} (hO : Out W0 B kr cur E F T b1 b2 n0 S bl ll m vA vI f) (bt bL n : Nat) (l : List Nat) (hn : f n = some l) (hne : 0 < l.length) (hK : ∀ c, c ∈ l → TOk W0 kr bl bt bL E T f ll c) (w : World) (vR : Value) (lr : List Pc) (hTr : TrAt W0 w kr bl bt bL T f vR lr) (hl : lr.length + (l.map (subSum E T f (vv E T f ll))).sum + 2 ≤ 1000000000000) :
    Calls Try.prog 63 #[.pointer (some ⟨bt, 0, none⟩), .int .i64 n] w (APost W0 kr bl bt bL T f w vR lr (AheadT E T f ll n l)) := by
  have hTl := hO.rd.si.tlen
  have hnT := hO.good.lt n l hn
  have hll := hO.good.len hn
  obtain ⟨v, hv⟩ := hTr.lg.look (by unfold maxLen; omega) (by omega) hn
  obtain ⟨t0, t1, t2, t3⟩ := row4t hTr.st
  have hrun : (Instr.lookup 131 (.map (some bL)) (.int .i64 ((n : Nat) : Int)) false).run Try.prog w = .ok v w := by simpa using hv.run false w rfl
  obtain ⟨aV, cV, rfl⟩ := ownsRow_slice hv.row
  obtain ⟨p, hp⟩ : ∃ p, l.length = p := ⟨_, rfl⟩
  rw [hp] at hrun hne hll
  have hI0 : OutK W0 kr bl bt bL E T f ll l w vR lr 0 w vR [] := ⟨by simpa using hTr, WFr.refl _ _ _, fun _ => rfl, fun h => absurd h (by decide)⟩
  have hpe : ((p : Int) == 0) = false := by simp; omega
  have hpe2 : (p == 0) = false := by simp; omega
  have HT := Lib.hid (And.intro hTr (And.intro hn (And.intro hv (And.intro hK (And.intro hl hp)))))
  have HI0 := Lib.hid hI0
  clear hTr hn hv hK hl hp hI0
  go_enter Try.func63, Try.ntmps63
  go_wp2_with fail
  clear t0 t1 t2 t3 hrun
  go_loopw [15] (fun tv wr => ∃ (k : Nat) (vK : Value) (more : List Pc), tv = .int .i64 ((k : Nat) : Int) ∧ k ≤ p ∧ Hid (OutK W0 kr bl bt bL E T f ll l w vR lr k wr vK more)) (fun tv _ => p - (intOf tv).toNat)
  case atStart => exact ⟨0, vR, [], rfl, Nat.zero_le _, HI0⟩
  case round =>
    obtain ⟨k, vK, more, rfl, hk, HI⟩ := hrel
    by_cases hlt : k < p
    · have hkl : k < l.length := by have := HT.out.2.2.2.2.2; omega
      have hrow : wr.ownsRow W0.heap.size 3 1 (.slice aV l.length cV) l.length (nums64 l) := own_kept HT.out.2.2.1.row HI.out.fr.kept (by simp) (fun g e hm => by
        simp only [List.mem_cons, Option.mem_toList] at hm
        obtain ⟨c', fz, hc⟩ := own_kind HT.out.2.2.1.row g e
        rcases hm with e2 | e2
        · have h1 : w.heap[bt]? = _ := HT.out.1.st
          rw [e2, h1] at hc
          injection hc with hc
          injection hc with _ hc
          exact absurd hc (by decide)
        · exact own_ne_own HT.out.2.2.1.row HT.out.1.row (by decide) g e (Option.mem_def.1 e2))
      obtain ⟨gV, rfl, _, hgV, hc⟩ := ownsRow_read hrow (by omega)
      have d0 := (hc k (by omega)).1
      have ej : (nums64 l)[k]? = some (.int .i64 ((l[k] : Nat) : Int)) := by simp [nums64, List.getElem?_eq_getElem hkl]
      rw [ej] at d0
      obtain ⟨c, hcl⟩ : ∃ c, l[k] = c := ⟨_, rfl⟩
      rw [hcl] at d0
      have hcm : c ∈ l := by rw [← hcl]; exact List.getElem_mem _
      obtain ⟨⟨hh, hTc⟩, hnc, lc, hlc⟩ := hO.good.down n l HT.out.2.1 c hcm
      obtain ⟨τc, htd, _⟩ := hO.rd.si.td c (hO.good.lt c lc hlc)
      obtain ⟨hd, τ, _, _, rfl, _⟩ := htd.consE (by omega)
      have hlen : (lr ++ more).length + subSum E T f (vv E T f ll) c + 2 ≤ 1000000000000 := by
        have h1 := HT.out.2.2.2.2.1
        have h2 : l = l.take k ++ (l[k] :: l.drop (k + 1)) := by rw [← List.drop_eq_getElem_cons hkl, List.take_append_drop]
        rw [hcl] at h2
        rw [h2, List.map_append, List.sum_append, List.map_cons, List.sum_cons] at h1
        rcases Nat.eq_zero_or_pos k with e | e
        · rw [HI.out.nil e]; simp; omega
        · obtain ⟨_, _, _, _, h4⟩ := HI.out.tree e
          simp only [List.length_append]
          omega
      have HC := Lib.hid (And.intro hcl (And.intro htd (And.intro hcm (And.intro (show ∃ lc, f c = some lc from ⟨lc, hlc⟩) hlen))))
      have ik : (k : Int) < (p : Int) := by omega
      clear hc hrow ej hcl hcm hTc hnc hlc htd hlen
      go_wp2_with fail
      refine (HT.out.2.2.2.1 c HC.out.2.2.1 wr vK (lr ++ more) hd τ HC.out.2.1 HC.out.2.2.2.1 HI.out.tr HC.out.2.2.2.2).mono ?_
      rintro e w2 ⟨u, hu, v2, rfl, hT2, hF2⟩
      have H2 := Lib.hid (And.intro hu (And.intro hT2 hF2))
      have hul : (lr ++ more ++ u.flat).length ≤ 1000000000000 := by have := hu.2.2; have := HC.out.2.2.2.2; simp only [List.length_append] at this ⊢; omega
      clear hu hT2 hF2 d0
      have hk1 : k + 1 ≤ p := by omega
      rcases Nat.eq_zero_or_pos k with rfl | hkp
      · have h1 := HI.out.first (by omega) HC.out.1 HC.out.2.1 H2.out.1 H2.out.2.1 H2.out.2.2
        have H1 := Lib.hid h1
        clear h1
        go_wp2_with fail
        go_roundw
        case rel => exact ⟨1, v2, u.flat, by go_num, hk1, H1⟩
        case measure => simp [intOf]; omega
      · have ikp : (0 : Int) < (k : Int) := by omega
        go_wp2_with fail
        refine (tadd_any W0 w2 kr bl bt bL T f v2 (lr ++ more ++ u.flat) 3 (by decide) H2.out.2.1 hul).mono ?_
        rintro e w3 ⟨v3, rfl, hT3, hF3⟩
        have h1 := HI.out.next hkp (by have := HT.out.2.2.2.2.2; omega) HC.out.1 HC.out.2.1 H2.out.1 hT3 (H2.out.2.2.trans hF3)
        have H1 := Lib.hid h1
        clear h1 hT3 hF3
        go_wp2_with fail
        go_roundw
        case rel => exact ⟨k + 1, v3, _, by go_num, hk1, H1⟩
        case measure => simp [intOf]; omega
    · obtain rfl : k = p := by omega
      obtain ⟨u, hu1, hu2, hu3, hu4⟩ := HI.out.tree hne
      have hlp := HT.out.2.2.2.2.2
      rw [List.take_of_length_le (by omega)] at hu4
      have hup : ∀ s, Upto E T ll l k s ↔ ∃ c u τ, c ∈ l ∧ TD E T c (u :: τ) ∧ Cat (Ahd E T ll c) (Lan u) s := fun s => by unfold Upto; rw [List.take_of_length_le (by omega)]
      have hah := fun s => ahd_iff hO.rd.si.inv hO.rd.si.nd hO.good hO.all (fun i hi => (hO.rd.si.td i hi).imp fun _ h => h.1) HT.out.2.1 s
      have hPl : PileAt wr B bl ll m vA vI := hO.pl.kept (bs := []) ((Kept.refl _ _ _).below HI.out.tr.below) (by simp)
      obtain ⟨t0, t1, t2, t3⟩ := row4t HI.out.tr.st
      have hnot : ¬ l = [] := fun e => by rw [e] at hlp; simp at hlp; omega
      have HU := Lib.hid (And.intro hu1 (And.intro hu2 (And.intro hu3 (And.intro hu4 (And.intro hup (And.intro hah (And.intro hPl hnot)))))))
      have hlr : (lr ++ more).length ≤ 1000000000000 := by have := HT.out.2.2.2.2.1; simp only [List.length_append]; omega
      clear hu1 hu2 hu3 hu4 hup hah hPl hlp hnot
      go_wp2_with fail
      refine (pile_has wr B bl ll m vA vI HU.out.2.2.2.2.2.2.1 n (by omega)).mono ?_
      rintro e w2 ⟨rfl, rfl⟩
      by_cases hmem : n ∈ ll
      · rw [decide_eq_true hmem]
        have HM := Lib.hid hmem
        clear hmem
        go_wp2_with fail
        refine (tadd_any W0 wr kr bl bt bL T f vK (lr ++ more) 6 (by decide) HI.out.tr hlr).mono ?_
        rintro e w3 ⟨v3, rfl, hT3, hF3⟩
        have H3 := Lib.hid (And.intro hT3 hF3)
        clear hT3 hF3
        go_wp2_with fail
        go_end0
        obtain ⟨hu1, hu2, hu3, hu4, hup, hah, hPl, hnot⟩ := HU.out
        have hov : optv f ll n = 1 := by unfold optv; rw [if_pos ⟨fun e => hnot (Option.some.inj (HT.out.2.1.symm.trans e)), HM.out⟩]
        refine ⟨.un ⟨6, emp⟩ u, ⟨⟨by show takesZ 6 = 1; decide, okSet_emp 6 (by decide), hu1⟩, fun s => ?_, fun e => absurd e hnot, fun _ => ?_⟩, v3, rfl, ?_, HI.out.fr.trans H3.out.2⟩
        · rw [lan_un, if_neg (by decide), if_neg (by decide), hah, hu3, hup]
          constructor
          · rintro (h | h)
            · exact Or.inl ⟨HM.out, h⟩
            · exact Or.inr h
          · rintro (⟨_, h⟩ | h)
            · exact Or.inl h
            · exact Or.inr h
        · simp only [Rx.flat, List.length_append, List.length_cons, List.length_nil, hu2]
          omega
        · simp only [Rx.flat, hu2]
          rw [← List.append_assoc]
          exact H3.out.1
      · rw [decide_eq_false hmem]
        have HM := Lib.hid hmem
        clear hmem
        go_wp2_with fail
        go_end0
        obtain ⟨hu1, hu2, hu3, hu4, hup, hah, hPl, hnot⟩ := HU.out
        have hov : optv f ll n = 0 := by unfold optv; rw [if_neg (fun h => HM.out h.2)]
        refine ⟨u, ⟨hu1, fun s => ?_, fun e => absurd e hnot, fun _ => ?_⟩, vK, rfl, by rw [hu2]; exact HI.out.tr, HI.out.fr⟩
        · rw [hah, hu3, hup]
          constructor
          · exact Or.inr
          · rintro (⟨h, _⟩ | h)
            · exact absurd h HM.out
            · exact h
        · rw [hu2]; omega
end Go.Proofs.Ytkdhdlokilgccaa

namespace Go.Proofs.Ytkdhdlokilgccaa
open Go.RowKit Go.Maps Go.WideElems Go.ChangeMaps Go.MapKept
set_option linter.unusedVariables false

/-- All that is planted can be written. -/
theorem out_any {W0 : World} {B kr : Nat} {cur : Array Value} {E : List Ex} {F : List Fa} {T : List Tl} {b1 b2 n0 : Nat} {S : List (List Rx)} {bl : Nat} {ll : List Nat} {m : Nat} {vA vI : Value} {f : Nat → Option (List Nat)} (hO : Out W0 B kr cur E F T b1 b2 n0 S bl ll m vA vI f) (bt bL : Nat) :
    ∀ (d n : Nat), T.length - n = d → AOk W0 kr bl bt bL E T f ll n := by
  intro d
  induction d using Nat.strongRecOn with
  | ind d ih =>
    intro n hd w vR lr _ ln hn hnil hTr hlen
    cases ln with
    | nil => exact ahead_nil hO bt bL n hn (hnil rfl) w vR lr hTr (by simp at hlen; omega)
    | cons c ln' =>
      refine ahead_cons hO bt bL n (c :: ln') hn (by simp) (fun c' hc' => ?_) w vR lr hTr hlen
      obtain ⟨_, h1, l', h2⟩ := hO.good.down n _ hn c' hc'
      have h3 := hO.good.lt c' l' h2
      exact to_any hO bt bL c' (ih (T.length - c') (by omega) c' rfl)
/-- If anything is planted, something is right ahead of the end. -/
theorem Good.top {T : List Tl} {f : Nat → Option (List Nat)} {L : Nat → Prop} (hg : Good T f L) : ∀ (m : Nat) (l : List Nat), f m = some l → m ≠ 0 → ∀ l0, f 0 = some l0 → l0 ≠ [] := by
  intro m
  induction m using Nat.strongRecOn with
  | ind m ih =>
    intro l hl h0 l0 hl0
    obtain ⟨h, r, l', _, hr, hl', hm⟩ := hg.up m l hl h0
    by_cases e : r = 0
    · subst e
      rw [hl0] at hl'
      obtain rfl := Option.some.inj hl'
      exact List.ne_nil_of_mem hm
    · exact ih r hr l' hl' e l0 hl0
/-- A head has no more pieces than the biggest expression. -/
theorem hsz_le {E : List Ex} {F : List Fa} (hI : Inv E F) (T : List Tl) (m : Nat) : hsz E T m ≤ 400 := by
  by_cases hex : ∃ (u : Rx) (τ : List Rx), TD E T m (u :: τ)
  · obtain ⟨u, τ, h⟩ := hex
    rw [hsz_eq h]
    cases h with
    | cons _ _ _ h2 _ =>
      obtain ⟨t, f, h3, _, _, h4⟩ := hI.den _ h2.lt
      rw [h2.one h3]; exact h4
  · unfold hsz; rw [dif_neg hex]; omega
theorem vv_le {E : List Ex} {F : List Fa} (hI : Inv E F) (T : List Tl) (f : Nat → Option (List Nat)) (ll : List Nat) (m : Nat) : vv E T f ll m ≤ 402 := by
  have := hsz_le hI T m
  unfold vv optv
  split <;> omega
theorem subSum_le {E : List Ex} {F : List Fa} (hI : Inv E F) (T : List Tl) (f : Nat → Option (List Nat)) (ll : List Nat) (m : Nat) : subSum E T f (vv E T f ll) m ≤ T.length * 402 := by
  unfold subSum
  refine sumTo_le _ _ _ (fun i _ => ?_)
  have := vv_le hI T f ll i
  split <;> omega
/-- What an expression of a pile is: the strings of all its tails. -/
theorem ahead_all {E : List Ex} {T : List Tl} {ll : List Nat} (h0 : 0 < T.length) (s : List Nat) : Ahd E T ll 0 s ↔ ∃ (m : Nat) (τ : List Rx), m ∈ ll ∧ TD E T m τ ∧ TLan τ s := by
  constructor
  · rintro ⟨m, us, τ, hm, hz, htd, hs⟩
    have e := hz.one (TD.nil h0)
    subst e
    rw [List.append_nil] at htd
    exact ⟨m, us, hm, htd, hs⟩
  · rintro ⟨m, τ, hm, htd, hs⟩
    exact ⟨m, τ, [], hm, .nil h0, by rw [List.append_nil]; exact htd, hs⟩
def ExprPost (W0 : World) (kr bl bt bL : Nat) (E : List Ex) (T : List Tl) (ll : List Nat) (f : Nat → Option (List Nat)) (e : Ending) (w' : World) : Prop :=
  ∃ (u : Rx) (v : Value) (l0 : List Nat), e = .returned v ∧ f 0 = some l0 ∧ AheadT E T f ll 0 l0 u ∧ TrAt W0 w' kr bl bt bL T f v u.flat

set_option maxHeartbeats 1000000 in
set_option maxRecDepth 100000 in
theorem expr_any {W0 : World} {B kr : Nat} {cur : Array Value} {E : List Ex} {F : List Fa} {T : List Tl} {b1 b2 n0 : Nat} {S : List (List Rx)} {bl : Nat} {ll : List Nat} {m : Nat} {vA vI : Value} {f : Nat → Option (List Nat)} (hO : Out W0 B kr cur E F T b1 b2 n0 S bl ll m vA vI f) (bt bL : Nat) (hne : ll ≠ []) (w : World) (hTr : TrAt W0 w kr bl bt bL T f (.slice none 0 0) []) :
    Calls Try.prog 39 #[.pointer (some ⟨bt, 0, none⟩)] w (ExprPost W0 kr bl bt bL E T ll f) := by
  obtain ⟨l0, hl0⟩ := hO.good.root
  have hTl := hO.rd.si.tlen
  have hb := subSum_le hO.rd.si.inv T f ll 0
  have hk := hO.kids hl0
  have hA := out_any hO bt bL _ 0 rfl
  have hnil : l0 = [] → 0 ∈ ll := fun e => by
    cases ll with
    | nil => exact absurd rfl hne
    | cons m ll =>
      by_cases h0 : m = 0
      · rw [h0]; exact List.mem_cons_self
      · obtain ⟨l, hl⟩ := hO.all m List.mem_cons_self
        exact absurd e (hO.good.top m l hl h0 l0 hl0)
  obtain ⟨t0, t1, t2, t3, z0, z1, z2, z3⟩ := row4 hTr.st
  have hstc : w.setCell ⟨bt, 3, none⟩ (.slice none 0 0) = w := by
    have hh : w.heap[bt]? = _ := hTr.st
    have e : (w.setCell ⟨bt, 3, none⟩ (.slice none 0 0)).heap = w.heap := by
      refine Array.ext_getElem? fun i => ?_
      by_cases hi : i = bt
      · subst hi
        rw [heap_setCell_same w i 3 _ _ _ hh, hh]
        rfl
      · exact Below.heap_setCell w ⟨bt, 3, none⟩ _ i hi
    show ({w with heap := (w.setCell ⟨bt, 3, none⟩ (.slice none 0 0)).heap} : World) = w
    rw [e]
  have HA := Lib.hid (hA w (.slice none 0 0) [] [] l0 hl0 hnil hTr (by simp; omega))
  have HL := Lib.hid hl0
  clear hO hTl hb hk hA hnil hTr
  go_enter Try.func39, Try.ntmps39
  go_wp2_with fail
  refine HA.out.mono ?_
  rintro e w2 ⟨u, hu, v2, rfl, hT2, hF2⟩
  obtain ⟨t0, t1, t2, t3⟩ := row4t hT2.st
  have H2 := Lib.hid (And.intro hu hT2)
  clear hu hT2 hF2
  go_wp2_with fail
  go_ret
  exact ⟨u, v2, l0, rfl, HL.out, H2.out.1, by simpa using H2.out.2⟩
end Go.Proofs.Ytkdhdlokilgccaa
