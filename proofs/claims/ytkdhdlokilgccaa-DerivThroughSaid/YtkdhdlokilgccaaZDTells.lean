import Derived.Test.YtkdhdlokilgccaaZDRHas
import Derived.Test.YtkdhdlokilgccaaZOnesMath
import Derived.Test.YtkdhdlokilgccaaZRefOf
namespace Go.Proofs.Ytkdhdlokilgccaa
open Go.RowKit
set_option linter.unusedVariables false

/-- The bytes from place i to place j. -/
def seg (L : List Nat) (i j : Nat) : List Nat := (L.drop i).take (j - i)
theorem seg_nil (L : List Nat) (i : Nat) : seg L i i = [] := by simp [seg]
theorem seg_cat (L : List Nat) (i m j : Nat) (h1 : i ≤ m) (h2 : m ≤ j) : seg L i j = seg L i m ++ seg L m j := by
  unfold seg
  rw [show j - i = (m - i) + (j - m) by omega, List.take_add, List.drop_drop, show i + (m - i) = m by omega]
theorem seg_len (L : List Nat) (i j : Nat) (h1 : i ≤ j) (h2 : j ≤ L.length) : (seg L i j).length = j - i := by simp [seg]; omega
theorem seg_split (L : List Nat) (i j : Nat) (h1 : i ≤ j) (h2 : j ≤ L.length) (u v : List Nat) (h : seg L i j = u ++ v) : ∃ m, i ≤ m ∧ m ≤ j ∧ u = seg L i m ∧ v = seg L m j := by
  have hl := congrArg List.length h
  rw [seg_len L i j h1 h2, List.length_append] at hl
  refine ⟨i + u.length, by omega, by omega, ?_⟩
  have h3 := seg_cat L i (i + u.length) j (by omega) (by omega)
  rw [h] at h3
  have h4 : (seg L i (i + u.length)).length = u.length := by rw [seg_len L _ _ (by omega) (by omega)]; omega
  exact List.append_inj h3 h4.symm
theorem seg_one (L : List Nat) (i : Nat) (h : i < L.length) : seg L i (i + 1) = [L[i]] := by
  unfold seg
  rw [show i + 1 - i = 1 by omega, List.take_one, List.head?_drop, List.getElem?_eq_getElem h]; rfl
/-- E leads on by just the texts of A. -/
def Lin (L : List Nat) (N : Nat) (A : List Nat → Prop) (E : (Nat → Bool) → Nat → Bool) : Prop := ∀ f j, j ≤ N → (E f j = true ↔ ∃ i, i ≤ j ∧ f i = true ∧ A (seg L i j))
theorem sameF_iff (f h : Nat → Bool) (n : Nat) : sameF f h n = true ↔ ∀ j, j < n → f j = h j := by
  induction n with
  | zero => simp [sameF]
  | succ n ih =>
    simp only [sameF, Bool.and_eq_true, ih, beq_iff_eq]
    constructor
    · rintro ⟨h1, h2⟩ j hj
      rcases Nat.lt_or_ge j n with h | h
      · exact h1 j h
      · rw [show j = n by omega]; exact h2
    · exact fun h => ⟨fun j hj => h j (by omega), h n (by omega)⟩
/-- How many places are missing? -/
def miss (f : Nat → Bool) : Nat → Nat
  | 0 => 0
  | n + 1 => miss f n + if f n = true then 0 else 1
theorem miss_le (f : Nat → Bool) (n : Nat) : miss f n ≤ n := by
  induction n with
  | zero => simp [miss]
  | succ n ih => simp only [miss]; split <;> omega
theorem miss_mono (f h : Nat → Bool) (n : Nat) (hs : ∀ j, j < n → f j = true → h j = true) : miss h n ≤ miss f n := by
  induction n with
  | zero => simp [miss]
  | succ n ih =>
    have h1 := ih (fun j hj => hs j (by omega))
    have h2 := hs n (by omega)
    simp only [miss]
    by_cases hf : f n = true
    · rw [if_pos hf, if_pos (h2 hf)]; omega
    · rw [if_neg hf]; split <;> omega
theorem miss_less (f h : Nat → Bool) (n : Nat) (hs : ∀ j, j < n → f j = true → h j = true) (j : Nat) (hj : j < n) (h0 : f j = false) (h1 : h j = true) : miss h n < miss f n := by
  induction n with
  | zero => omega
  | succ n ih =>
    have hm := miss_mono f h n (fun j hj => hs j (by omega))
    simp only [miss]
    by_cases he : j = n
    · subst he
      rw [if_pos h1, h0]; simp; omega
    · have := ih (fun j hj => hs j (by omega)) (by omega)
      have h2 := hs n (by omega)
      by_cases hf : f n = true
      · rw [if_pos hf, if_pos (h2 hf)]; omega
      · rw [if_neg hf]; split <;> omega
theorem miss_some (f : Nat → Bool) (n j : Nat) (hj : j < n) (h : f j = true) : miss f n < n := by
  induction n with
  | zero => omega
  | succ n ih =>
    have hl := miss_le f n
    simp only [miss]
    by_cases he : j = n
    · subst he; rw [if_pos h]; omega
    · have := ih (by omega); split <;> omega
def ClosedF (N : Nat) (E : (Nat → Bool) → Nat → Bool) (f : Nat → Bool) : Prop := ∀ j, j ≤ N → E f j = true → f j = true
theorem lin_congr {L : List Nat} {N : Nat} {A : List Nat → Prop} {E : (Nat → Bool) → Nat → Bool} (hE : Lin L N A E) {f h : Nat → Bool} (e : ∀ j, j ≤ N → f j = h j) (j : Nat) (hj : j ≤ N) : E f j = true ↔ E h j = true := by
  rw [hE f j hj, hE h j hj]
  exact ⟨fun ⟨i, h1, h2, h3⟩ => ⟨i, h1, by rw [← e i (by omega)]; exact h2, h3⟩, fun ⟨i, h1, h2, h3⟩ => ⟨i, h1, by rw [e i (by omega)]; exact h2, h3⟩⟩
theorem again_closed {L : List Nat} {N : Nat} {A : List Nat → Prop} {E : (Nat → Bool) → Nat → Bool} (hE : Lin L N A E) : ∀ (k : Nat) (f : Nat → Bool), (miss f (N + 1) < k ∨ (0 < k ∧ ∀ j, j ≤ N → f j = false)) → ClosedF N E (againF E (N + 1) k f)
  | 0, f, h => by omega
  | k + 1, f, h => by
    unfold againF
    by_cases hs : sameF (orF f (E f)) f (N + 1) = true
    · rw [if_pos hs]
      have he := (sameF_iff _ _ _).1 hs
      intro j hj h1
      have h2 := (lin_congr hE (fun j hj => he j (by omega)) j hj).1 h1
      simp [orF, h2]
    · rw [if_neg hs]
      refine again_closed hE k _ ?_
      have hne : ∃ j, j ≤ N ∧ f j = false ∧ E f j = true := by
        refine Classical.byContradiction fun hno => hs ((sameF_iff _ _ _).2 fun j hj => ?_)
        by_cases hf : f j = true
        · simp [orF, hf]
        · have hf' : f j = false := by simpa using hf
          have : E f j = false := by
            by_cases hE' : E f j = true
            · exact absurd ⟨j, by omega, hf', hE'⟩ hno
            · simpa using hE'
          simp [orF, hf', this]
      obtain ⟨j, hj, h0, h1⟩ := hne
      rcases h with h | ⟨_, h⟩
      · have := miss_less f (orF f (E f)) (N + 1) (fun i hi hfi => by simp [orF, hfi]) j (by omega) h0 (by simp [orF, h1])
        exact Or.inl (by omega)
      · obtain ⟨i, hi, hfi, _⟩ := (hE f j hj).1 h1
        rw [h i (by omega)] at hfi
        cases hfi
theorem again_sub {L : List Nat} {N : Nat} (hN : L.length = N) {A : List Nat → Prop} {E : (Nat → Bool) → Nat → Bool} (hE : Lin L N A E) : ∀ (k : Nat) (f : Nat → Bool), (∀ j, j ≤ N → f j = true → againF E (N + 1) k f j = true) ∧ ∀ j, j ≤ N → againF E (N + 1) k f j = true → ∃ i, i ≤ j ∧ f i = true ∧ Star A (seg L i j)
  | 0, f => ⟨fun j _ h => h, fun j _ h => ⟨j, Nat.le_refl _, h, by rw [seg_nil]; exact Star.nil⟩⟩
  | k + 1, f => by
    have hor : ∀ j, j ≤ N → orF f (E f) j = true → ∃ i, i ≤ j ∧ f i = true ∧ Star A (seg L i j) := by
      intro j hj h
      simp only [orF, Bool.or_eq_true] at h
      rcases h with h | h
      · exact ⟨j, Nat.le_refl _, h, by rw [seg_nil]; exact Star.nil⟩
      · obtain ⟨i, h1, h2, h3⟩ := (hE f j hj).1 h
        exact ⟨i, h1, h2, Star.one h3⟩
    obtain ⟨h1, h2⟩ := again_sub hN hE k (orF f (E f))
    unfold againF
    by_cases hs : sameF (orF f (E f)) f (N + 1) = true
    · rw [if_pos hs]
      exact ⟨fun j _ h => by simp [orF, h], hor⟩
    · rw [if_neg hs]
      refine ⟨fun j hj h => h1 j hj (by simp [orF, h]), fun j hj h => ?_⟩
      obtain ⟨m, h3, h4, h5⟩ := h2 j hj h
      obtain ⟨i, h6, h7, h8⟩ := hor m (by omega) h4
      exact ⟨i, by omega, h7, by rw [seg_cat L i m j h6 h3]; exact h8.cat h5⟩
theorem closed_star {L : List Nat} {N : Nat} (hN : L.length = N) {A : List Nat → Prop} {E : (Nat → Bool) → Nat → Bool} (hE : Lin L N A E) {f : Nat → Bool} (hc : ClosedF N E f) {s : List Nat} (h : Star A s) : ∀ i j, i ≤ j → j ≤ N → seg L i j = s → f i = true → f j = true := by
  induction h with
  | nil =>
    intro i j h1 h2 h3 h4
    have := seg_len L i j h1 (by omega)
    rw [h3] at this
    simp at this
    rw [show j = i by omega]; exact h4
  | @app u v hu hv ih =>
    intro i j h1 h2 h3 h4
    obtain ⟨m, h5, h6, rfl, rfl⟩ := seg_split L i j h1 (by omega) u v h3
    exact ih m j h6 h2 rfl (hc m (by omega) ((hE f m (by omega)).2 ⟨i, h5, h4, hu⟩))
theorem again_lin {L : List Nat} {N : Nat} (hN : L.length = N) {A : List Nat → Prop} {E : (Nat → Bool) → Nat → Bool} (hE : Lin L N A E) : Lin L N (Star A) (againF E (N + 1) (N + 1)) := by
  intro f j hj
  obtain ⟨h1, h2⟩ := again_sub hN hE (N + 1) f
  refine ⟨h2 j hj, fun ⟨i, h3, h4, h5⟩ => ?_⟩
  have hc := again_closed hE (N + 1) f (Or.inl (miss_some f (N + 1) i (by omega) h4))
  exact closed_star hN hE hc h5 i j h3 hj rfl (h1 i (by omega) h4)

/-- The reference's places are the language's. -/
theorem endF_lin (s : ByteArray) (L : List Nat) (N : Nat) (hN : L.length = N) (hb : ∀ i (h : i < L.length), L[i] = (s.get! i).toNat) (t : Rx) (hw : t.wf) : Lin L N (Lan t) (endF s N t) := by
  induction t with
  | leaf x =>
    intro f j hj
    show (if x.k = 1 then _ else _ : (Nat → Bool)) j = true ↔ _
    by_cases hk : x.k = 1
    · rw [if_pos hk]
      constructor
      · intro h
        match j, hj, h with
        | i + 1, hj, h =>
          simp only [Bool.and_eq_true] at h
          have hi : i < L.length := by omega
          refine ⟨i, by omega, h.1, ?_⟩
          rw [seg_one L i hi, lan_leaf, if_pos hk]
          exact ⟨_, rfl, by rw [hb i hi]; exact UInt8.toNat_lt _, by rw [hb i hi]; exact h.2⟩
      · rintro ⟨i, h1, h2, h3⟩
        rw [lan_leaf, if_pos hk] at h3
        obtain ⟨b, h4, h5, h6⟩ := h3
        have hl := seg_len L i j h1 (by omega)
        rw [h4] at hl
        have hji : j = i + 1 := by simp at hl; omega
        subst hji
        rw [seg_one L i (by omega)] at h4
        have hbb : L[i]'(by omega) = b := by simpa using h4
        show (f i && x.p (s.get! i).toNat) = true
        rw [← hb i (by omega), hbb, h2, h6]; rfl
    · rw [if_neg hk]
      constructor
      · exact fun h => ⟨j, Nat.le_refl _, h, by rw [seg_nil, lan_leaf, if_neg hk]⟩
      · rintro ⟨i, h1, h2, h3⟩
        rw [lan_leaf, if_neg hk] at h3
        have hl := seg_len L i j h1 (by omega)
        rw [h3] at hl
        simp at hl
        rw [show j = i by omega]; exact h2
  | un x a ih =>
    have hE := ih hw.2.2
    have hS := again_lin hN hE
    have hk : x.k = 4 ∨ x.k = 5 ∨ x.k = 6 := by have := takesZ_cases x.k; have := hw.1; omega
    intro f j hj
    show (if x.k = 6 then orF f (endF s N a f) else if x.k = 4 then againF (endF s N a) (N + 1) (N + 1) f else againF (endF s N a) (N + 1) (N + 1) (endF s N a f)) j = true ↔ _
    rcases hk with h | h | h
    · rw [if_neg (by omega), if_pos h, hS f j hj]
      simp only [lan_un, h, if_true]
    · rw [if_neg (by omega), if_neg (by omega), hS _ j hj]
      simp only [lan_un, h, show ¬ ((5 : Int) = 4) by decide, if_false, if_true]
      constructor
      · rintro ⟨m, h1, h2, h3⟩
        obtain ⟨i, h4, h5, h6⟩ := (hE f m (by omega)).1 h2
        exact ⟨i, by omega, h5, _, _, seg_cat L i m j h4 h1, h6, h3⟩
      · rintro ⟨i, h1, h2, u, v, h3, h4, h5⟩
        obtain ⟨m, h6, h7, rfl, rfl⟩ := seg_split L i j h1 (by omega) u v h3
        exact ⟨m, h7, (hE f m (by omega)).2 ⟨i, h6, h2, h4⟩, h5⟩
    · rw [if_pos h]
      simp only [lan_un, h, show ¬ ((6 : Int) = 4) by decide, show ¬ ((6 : Int) = 5) by decide, if_false, orF, Bool.or_eq_true, hE f j hj]
      constructor
      · rintro (h1 | ⟨i, h1, h2, h3⟩)
        · exact ⟨j, Nat.le_refl _, h1, Or.inl (seg_nil L j)⟩
        · exact ⟨i, h1, h2, Or.inr h3⟩
      · rintro ⟨i, h1, h2, h3 | h3⟩
        · have hl := seg_len L i j h1 (by omega)
          rw [h3] at hl
          simp at hl
          exact Or.inl (by rw [show j = i by omega]; exact h2)
        · exact Or.inr ⟨i, h1, h2, h3⟩
  | bin x a b iha ihb =>
    have hA := iha hw.2.2.1
    have hB := ihb hw.2.2.2
    have hk : x.k = 2 ∨ x.k = 3 := by have := takesZ_cases x.k; have := hw.1; omega
    intro f j hj
    show (if x.k = 2 then endF s N b (endF s N a f) else orF (endF s N a f) (endF s N b f)) j = true ↔ _
    rcases hk with h | h
    · rw [if_pos h, hB _ j hj]
      simp only [lan_bin, h, if_true]
      constructor
      · rintro ⟨m, h1, h2, h3⟩
        obtain ⟨i, h4, h5, h6⟩ := (hA f m (by omega)).1 h2
        exact ⟨i, by omega, h5, _, _, seg_cat L i m j h4 h1, h6, h3⟩
      · rintro ⟨i, h1, h2, u, v, h3, h4, h5⟩
        obtain ⟨m, h6, h7, rfl, rfl⟩ := seg_split L i j h1 (by omega) u v h3
        exact ⟨m, h7, (hA f m (by omega)).2 ⟨i, h6, h2, h4⟩, h5⟩
    · rw [if_neg (by omega)]
      simp only [lan_bin, h, show ¬ ((3 : Int) = 2) by decide, if_false, orF, Bool.or_eq_true, hA f j hj, hB f j hj]
      constructor
      · rintro (⟨i, h1, h2, h3⟩ | ⟨i, h1, h2, h3⟩)
        · exact ⟨i, h1, h2, Or.inl h3⟩
        · exact ⟨i, h1, h2, Or.inr h3⟩
      · rintro ⟨i, h1, h2, h3 | h3⟩
        · exact Or.inl ⟨i, h1, h2, h3⟩
        · exact Or.inr ⟨i, h1, h2, h3⟩
/-- The reference's Has is the language. -/
theorem endF_has (s : ByteArray) (L : List Nat) (N : Nat) (hN : L.length = N) (hb : ∀ i (h : i < L.length), L[i] = (s.get! i).toNat) (t : Rx) (hw : t.wf) : endF s N t at0 N = true ↔ Lan t L := by
  rw [endF_lin s L N hN hb t hw at0 N (Nat.le_refl _)]
  have hall : seg L 0 N = L := by simp [seg, ← hN]
  constructor
  · rintro ⟨i, h1, h2, h3⟩
    have : i = 0 := by simpa [at0] using h2
    subst this
    rw [hall] at h3
    exact h3
  · exact fun h => ⟨0, Nat.zero_le _, rfl, by rw [hall]; exact h⟩
end Go.Proofs.Ytkdhdlokilgccaa

namespace Go.Proofs.Ytkdhdlokilgccaa
open Go.RowKit
set_option linter.unusedVariables false

/-- Does each piece find its operands? How many expressions are there behind the pieces? -/
def fitGo : List Pc → Int → Option Int
  | [], n => some n
  | x :: r, n => if 0 ≤ takesZ x.k ∧ takesZ x.k ≤ n then fitGo r (n + 1 - takesZ x.k) else none
def fitT (l : List Pc) : Bool := decide (fitGo l 0 = some 1)
theorem fitGo_step (l : List Pc) (k : Nat) (hk : k < l.length) (n : Int) : fitGo (l.drop k) n = if 0 ≤ takesZ l[k].k ∧ takesZ l[k].k ≤ n then fitGo (l.drop (k + 1)) (n + 1 - takesZ l[k].k) else none := by
  rw [List.drop_eq_getElem_cons hk]; rfl
theorem fitGo_end (l : List Pc) (k : Nat) (hk : l.length ≤ k) (n : Int) : fitGo (l.drop k) n = some n := by rw [List.drop_eq_nil_of_le hk]; rfl
theorem fitGo_tree (t : Rx) (hw : t.wf) (r : List Pc) (n : Int) (hn : 0 ≤ n) : fitGo (t.flat ++ r) n = fitGo r (n + 1) := by
  induction t generalizing r n with
  | leaf x => simp only [Rx.flat, List.singleton_append, fitGo, hw.1]; rw [if_pos ⟨by omega, by omega⟩]; congr 1; omega
  | un x a ih =>
    simp only [Rx.flat, List.append_assoc, List.singleton_append]
    rw [ih hw.2.2 _ n hn]
    simp only [fitGo, hw.1]
    rw [if_pos ⟨by omega, by omega⟩]; congr 1; omega
  | bin x a b iha ihb =>
    simp only [Rx.flat, List.append_assoc, List.singleton_append]
    rw [iha hw.2.2.1 _ n hn, ihb hw.2.2.2 _ (n + 1) (by omega)]
    simp only [fitGo, hw.1]
    rw [if_pos ⟨by omega, by omega⟩]; congr 1; omega
theorem fit_tree (t : Rx) (hw : t.wf) : fitT t.flat = true := by
  have := fitGo_tree t hw [] 0 (by omega)
  rw [List.append_nil] at this
  simp [fitT, this, fitGo]

set_option maxHeartbeats 1000000 in
set_option maxRecDepth 100000 in
theorem rfits_any (l : List Pc) (a : Option Addr) (n cap : Nat) (w : World) (hL : RxAt w a l) (hn : l.length = n) (hmax : n ≤ 1000000) :
    Calls Try.prog 16 #[.slice a n cap] w fun e w' => e = .returned (.bool (fitT l)) ∧ Below w.heap.size w w' := by
  have HL := Lib.hid hL
  have HN := Lib.hid hn
  obtain ⟨R, hR⟩ : ∃ R, fitT l = R := ⟨_, rfl⟩
  rw [hR]
  have HG0 : Hid (∀ o, fitGo l 0 = o → decide (o = some 1) = R) := Lib.hid fun o ho => by rw [← hR, ← ho]; rfl
  clear hL hn hR
  go_enter Try.func16, Try.ntmps16
  go_wp2_with fail
  go_loopw [3, 4] (fun v i wr => ∃ (k : Nat) (m : Int), i = .int .i64 k ∧ k ≤ n ∧ v = .int .i64 m ∧ 0 ≤ m ∧ m ≤ k ∧ Hid (fitGo l 0 = fitGo (l.drop k) m) ∧ Below w.heap.size w wr) (fun _ i _ => n - (intOf i).toNat)
  case atStart => exact ⟨0, 0, rfl, Nat.zero_le _, rfl, by omega, by omega, rfl, Below.refl _ _⟩
  case round =>
    obtain ⟨k, m, rfl, hk, rfl, hm0, hm1, HG, hbel⟩ := hrel
    by_cases hlt : k < n
    · have hkl : k < l.length := by rw [HN.out]; exact hlt
      obtain ⟨g, off, rfl, hg, c0, -⟩ := (HL.out.below hbel).get k hkl
      have HS := Lib.hid (fitGo_step l k hkl m)
      generalize l[k] = x at c0 HS
      obtain ⟨t, ht⟩ : ∃ t, takesZ x.k = t := ⟨_, rfl⟩
      have ht1 : -1 ≤ t ∧ t ≤ 2 := by have := takesZ_cases x.k; omega
      have HT := Lib.hid ht
      clear ht hkl
      go_wp2_with fail
      refine (rtakes_any _ _).mono ?_
      rintro e w1 ⟨rfl, b1⟩
      rw [HT.out]
      have hb1 := hbel.trans (b1.mono hbel.size)
      by_cases h1 : t < 0
      · have HZ : Hid (R = false) := by
          show _ = _
          rw [← HG0.out none (by rw [HG.out, HS.out, HT.out, if_neg (by omega)])]; rfl
        go_wp2_with fail
        go_ret
        exact ⟨by rw [HZ.out]; rfl, hb1⟩
      · by_cases h2 : m < t
        · have HZ : Hid (R = false) := by
            show _ = _
            rw [← HG0.out none (by rw [HG.out, HS.out, HT.out, if_neg (by omega)])]; rfl
          go_wp2_with fail
          go_ret
          exact ⟨by rw [HZ.out]; rfl, hb1⟩
        · have HZ : Hid (fitGo l 0 = fitGo (l.drop (k + 1)) (m - t + 1)) := by
            show _ = _
            rw [HG.out, HS.out, HT.out, if_pos (by omega)]; congr 1; omega
          go_wp2_with fail
          go_roundw
          case rel => exact ⟨k + 1, m - t + 1, by go_num, by omega, by go_num, by omega, by omega, HZ, hb1⟩
          case measure => simp [intOf]; omega
    · obtain rfl : k = n := by omega
      have HE : Hid (decide (some m = some 1) = R) := HG0.out _ (by rw [HG.out, fitGo_end l k (by rw [HN.out]; exact Nat.le_refl _)])
      by_cases h1 : m = 1
      · have HZ : Hid (R = true) := by show _ = _; rw [← HE.out, h1]; rfl
        have e1 : (m == 1) = true := by simp [h1]
        clear h1
        go_wp2_with fail
        go_ret
        exact ⟨by rw [HZ.out]; rfl, hbel⟩
      · have HZ : Hid (R = false) := by show _ = _; rw [← HE.out]; simp [h1]
        have e1 : (m == 1) = false := by simpa using h1
        go_wp2_with fail
        go_ret
        exact ⟨by rw [HZ.out]; rfl, hbel⟩
end Go.Proofs.Ytkdhdlokilgccaa

namespace Go.Proofs.Ytkdhdlokilgccaa
open Go.RowKit
set_option linter.unusedVariables false

set_option maxRecDepth 100000 in
theorem fld_e (f : Fa) (W : World) : (Instr.field 72 (.agg #[.bool f.e, .int .u64 ((wd f.s 0 : Nat) : Int), .int .u64 ((wd f.s 1 : Nat) : Int), .int .u64 ((wd f.s 2 : Nat) : Int), .int .u64 ((wd f.s 3 : Nat) : Int), .int .i64 ((f.n : Nat) : Int)]) 0).run Try.prog W = .ok (.bool f.e) W := by kernel_rfl
set_option maxRecDepth 100000 in
theorem fld_s (f : Fa) (W : World) : (Instr.field 72 (.agg #[.bool f.e, .int .u64 ((wd f.s 0 : Nat) : Int), .int .u64 ((wd f.s 1 : Nat) : Int), .int .u64 ((wd f.s 2 : Nat) : Int), .int .u64 ((wd f.s 3 : Nat) : Int), .int .i64 ((f.n : Nat) : Int)]) 1).run Try.prog W = .ok (.agg #[.int .u64 ((wd f.s 0 : Nat) : Int), .int .u64 ((wd f.s 1 : Nat) : Int), .int .u64 ((wd f.s 2 : Nat) : Int), .int .u64 ((wd f.s 3 : Nat) : Int)]) W := by kernel_rfl
set_option maxHeartbeats 1000000 in
set_option maxRecDepth 100000 in
theorem dempty_any (t : Rx) (hen : EnterOk t) (a : Option Addr) (n c : Nat) (w : World) (hL : RxAt w a t.flat) (hn : t.flat.length = n) (hmax : n ≤ 400) (hcap : n ≤ c ∧ c ≤ maxLen) :
    Calls Try.prog 10 #[.slice a n c] w fun e w' => ∃ b : Bool, e = .returned (.bool b) ∧ (b = true ↔ Lan t []) ∧ Below w.heap.size w w' := by
  have HC := Lib.hid (factsOf_any t hen a n c w hL hn hmax hcap)
  clear hL hn hcap
  go_enter Try.func10, Try.ntmps10
  go_wp2_with fail
  refine HC.out.mono ?_
  rintro e w5 ⟨f, rfl, h1, _, hb⟩
  have H1 := Lib.hid h1
  clear h1
  have hfl := fld_e f
  go_wp2_with fail
  go_ret
  exact ⟨f.e, rfl, H1.out, hb⟩

set_option maxHeartbeats 1000000 in
set_option maxRecDepth 100000 in
theorem dfirst_any (t : Rx) (hen : EnterOk t) (a : Option Addr) (n c : Nat) (w : World) (hL : RxAt w a t.flat) (hn : t.flat.length = n) (hmax : n ≤ 400) (hcap : n ≤ c ∧ c ≤ maxLen) :
    Calls Try.prog 11 #[.slice a n c] w fun e w' => ∃ p : Nat → Bool, e = .returned (.agg #[.int .u64 ((wd p 0 : Nat) : Int), .int .u64 ((wd p 1 : Nat) : Int), .int .u64 ((wd p 2 : Nat) : Int), .int .u64 ((wd p 3 : Nat) : Int)]) ∧ (∀ b, b < 256 → (p b = true ↔ ∃ s, Lan t (b :: s))) ∧ Below w.heap.size w w' := by
  have hB0 : Below w.heap.size w (w.alloc (.cells #[.int .u64 0, .int .u64 0, .int .u64 0, .int .u64 0] 28)) := (Below.refl _ _).alloc (Nat.le_refl _) _
  have HR := Lib.hid (St.new w 28 #[.int .u64 0, .int .u64 0, .int .u64 0, .int .u64 0])
  have HC := Lib.hid (factsOf_any t hen a n c _ (hL.below hB0) hn hmax hcap)
  have HB := Lib.hid hB0
  have hsz := hB0.size
  clear hL hn hcap hB0
  go_enter Try.func11, Try.ntmps11
  go_wp2_with fail
  refine HC.out.mono ?_
  rintro e w5 ⟨f, rfl, _, h2, hb⟩
  have H2 := Lib.hid h2
  have hR5 := HR.out.keep hb
  have hB5 := HB.out.trans (hb.mono hsz)
  obtain ⟨r0, r1, r2, r3, f0, f1, f2, f3⟩ := row4 hR5
  obtain ⟨s0, s1, s2, s3, _, _, _, _⟩ := row4 (hR5.set4 (.int .u64 ((wd f.s 0 : Nat) : Int)) (.int .u64 ((wd f.s 1 : Nat) : Int)) (.int .u64 ((wd f.s 2 : Nat) : Int)) (.int .u64 ((wd f.s 3 : Nat) : Int)))
  clear h2
  have hfl := fld_s f
  go_wp2_with fail
  exact bodyPost_ret (v := (.agg #[.int .u64 ((wd f.s 0 : Nat) : Int), .int .u64 ((wd f.s 1 : Nat) : Int), .int .u64 ((wd f.s 2 : Nat) : Int), .int .u64 ((wd f.s 3 : Nat) : Int)])) (by simp [results, Try.results11, go_sem, s0, s1, s2, s3]) rfl ⟨f.s, rfl, H2.out, below4 hB5 (Nat.le_refl _) _ _ _ _⟩
end Go.Proofs.Ytkdhdlokilgccaa
