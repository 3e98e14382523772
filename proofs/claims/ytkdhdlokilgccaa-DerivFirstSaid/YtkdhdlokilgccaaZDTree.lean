import Derived.Test.YtkdhdlokilgccaaZDPlant
namespace Go.Proofs.Ytkdhdlokilgccaa
open Go.RowKit
set_option linter.unusedVariables false

/-! ### What stands ahead of a planted tail -/
def Ahd (E : List Ex) (T : List Tl) (ll : List Nat) (n : Nat) (s : List Nat) : Prop := ∃ (m : Nat) (us τ : List Rx), m ∈ ll ∧ TD E T n τ ∧ TD E T m (us ++ τ) ∧ TLan us s
theorem tlan_app (us vs : List Rx) (s : List Nat) : TLan (us ++ vs) s ↔ Cat (TLan us) (TLan vs) s := by
  induction us generalizing s with
  | nil =>
    constructor
    · exact fun h => ⟨[], s, rfl, rfl, h⟩
    · rintro ⟨u, v, rfl, hu, hv⟩
      rw [show u = [] from hu]; exact hv
  | cons u us ih =>
    show Cat (Lan u) (TLan (us ++ vs)) s ↔ Cat (Cat (Lan u) (TLan us)) (TLan vs) s
    rw [Cat.congr (fun _ => Iff.rfl) ih, Cat.assoc]
theorem tlan_one (u : Rx) (s : List Nat) : TLan [u] s ↔ Lan u s := by
  constructor
  · rintro ⟨a, b, rfl, ha, hb⟩
    rw [show b = [] from hb, List.append_nil]; exact ha
  · exact fun h => ⟨s, [], by simp, h, rfl⟩
/-- The tail that begins further on. -/
theorem TD.inner {E : List Ex} {T : List Tl} {m : Nat} {us τ : List Rx} (h : TD E T m (us ++ τ)) : ∃ c, TD E T c τ := by
  induction us generalizing m with
  | nil => exact ⟨m, h⟩
  | cons u us ih =>
    cases h with
    | cons _ _ _ _ h3 => exact ih h3
/-- Planted tails' rests are planted, all the way. -/
theorem Good.chain {E : List Ex} {F : List Fa} {T : List Tl} {f : Nat → Option (List Nat)} {L : Nat → Prop} (hI : Inv E F) (hnd : T.Nodup) (hg : Good T f L) {us τ : List Rx} {u : Rx} {m c : Nat} (hm : TD E T m (us ++ u :: τ)) (hc : TD E T c (u :: τ)) (hp : ∃ l, f m = some l) : ∃ l, f c = some l := by
  induction us generalizing m with
  | nil => rw [← hm.inj hI hnd hc]; exact hp
  | cons v us ih =>
    cases hm with
    | @cons _ h r _ _ h0 hi h1 h2 h3 =>
      obtain ⟨l, hl⟩ := hp
      obtain ⟨h', r', l', k1, k2, k3, k4⟩ := hg.up m l hl (by omega)
      rw [h0] at k1
      injection Option.some.inj k1 with e1 e2
      have e2' := Int.ofNat.inj e2
      subst e2'
      exact ih h3 ⟨l', k3⟩
/-- Its kids tell what stands ahead of a planted tail. -/
theorem ahd_iff {E : List Ex} {F : List Fa} {T : List Tl} {f : Nat → Option (List Nat)} {ll : List Nat} (hI : Inv E F) (hnd : T.Nodup) (hg : Good T f (fun m => m ∈ ll)) (hall : ∀ n, n ∈ ll → ∃ l, f n = some l) (htd : ∀ i, i < T.length → ∃ τ, TD E T i τ) {n : Nat} {l : List Nat} (hn : f n = some l) (s : List Nat) :
    Ahd E T ll n s ↔ (n ∈ ll ∧ s = []) ∨ ∃ c u τ, c ∈ l ∧ TD E T c (u :: τ) ∧ Cat (Ahd E T ll c) (Lan u) s := by
  constructor
  · rintro ⟨m, us, τ, hm, htn, htm, hs⟩
    rcases List.eq_nil_or_concat us with rfl | ⟨us', u, rfl⟩
    · rw [htm.inj hI hnd htn] at hm
      exact Or.inl ⟨hm, hs⟩
    · rw [List.concat_eq_append] at htm hs
      rw [List.append_assoc] at htm
      obtain ⟨c, hc⟩ := htm.inner
      have hc' : TD E T c (u :: τ) := hc
      obtain ⟨lc, hlc⟩ := hg.chain hI hnd (by simpa using htm) hc' (hall m hm)
      have hc0 : c ≠ 0 := fun e => by subst e; cases hc'; omega
      obtain ⟨h', r', l', k1, k2, k3, k4⟩ := hg.up c lc hlc hc0
      have hrn : r' = n := by
        cases hc' with
        | cons h0 _ _ _ h3 =>
          rw [h0] at k1
          injection Option.some.inj k1 with e1 e2
          have e2' := Int.ofNat.inj e2
          subst e2'
          exact h3.inj hI hnd htn
      subst hrn
      rw [hn] at k3
      obtain rfl := Option.some.inj k3
      obtain ⟨a, b, rfl, ha, hb⟩ := (tlan_app us' [u] s).1 hs
      exact Or.inr ⟨c, u, τ, k4, hc', a, b, rfl, ⟨m, us', u :: τ, hm, hc', by simpa using htm, ha⟩, (tlan_one u b).1 hb⟩
  · rintro (⟨hm, rfl⟩ | ⟨c, u, τ, hc, htc, a, b, rfl, ⟨m, us, τ', hm, htc', htm, ha⟩, hb⟩)
    · obtain ⟨τ, hτ⟩ := htd n (hg.lt n l hn)
      exact ⟨n, [], τ, hm, hτ, hτ, rfl⟩
    · obtain rfl := htc.one htc'
      obtain ⟨⟨h', k1⟩, k2, _⟩ := hg.down n l hn c hc
      have htn : TD E T n τ := by
        cases htc with
        | cons h0 _ _ _ h3 =>
          rw [h0] at k1
          injection Option.some.inj k1 with e1 e2
          have e2' := Int.ofNat.inj e2
          subst e2'
          exact h3
      exact ⟨m, us ++ [u], τ, hm, htn, by simpa using htm, (tlan_app us [u] _).2 ⟨a, b, rfl, ha, (tlan_one u b).2 hb⟩⟩

/-! ### How many pieces -/
def sumTo (N : Nat) (g : Nat → Nat) : Nat := match N with | 0 => 0 | n + 1 => sumTo n g + g n
theorem sumTo_congr {N : Nat} {g h : Nat → Nat} (e : ∀ m, m < N → g m = h m) : sumTo N g = sumTo N h := by
  induction N with
  | zero => rfl
  | succ n ih => simp only [sumTo]; rw [ih (fun m hm => e m (by omega)), e n (by omega)]
theorem sumTo_add (N : Nat) (g h : Nat → Nat) : sumTo N (fun m => g m + h m) = sumTo N g + sumTo N h := by
  induction N with
  | zero => rfl
  | succ n ih => simp only [sumTo, ih]; omega
theorem sumTo_zero (N : Nat) : sumTo N (fun _ => 0) = 0 := by
  induction N with
  | zero => rfl
  | succ n ih => simp only [sumTo, ih]
theorem sumTo_one (N n : Nat) (hn : n < N) (v : Nat → Nat) : sumTo N (fun m => if m = n then v m else 0) = v n := by
  induction N with
  | zero => omega
  | succ k ih =>
    simp only [sumTo]
    by_cases h : n = k
    · subst h
      rw [if_pos rfl, sumTo_congr (h := fun _ => 0) (fun m hm => if_neg (by omega)), sumTo_zero, Nat.zero_add]
    · rw [ih (by omega), if_neg (by omega), Nat.add_zero]
theorem sumTo_list (N : Nat) (l : List Nat) (g : Nat → Nat → Nat) : sumTo N (fun m => (l.map (fun c => g c m)).sum) = (l.map (fun c => sumTo N (g c))).sum := by
  induction l with
  | nil => simp [sumTo_zero]
  | cons c l ih => simp only [List.map_cons, List.sum_cons, sumTo_add, ih]
theorem sumTo_le (N : Nat) (g : Nat → Nat) (b : Nat) (h : ∀ m, m < N → g m ≤ b) : sumTo N g ≤ N * b := by
  induction N with
  | zero => simp [sumTo]
  | succ n ih => simp only [sumTo]; have := ih (fun m hm => h m (by omega)); have := h n (by omega); rw [Nat.succ_mul]; omega
theorem sum_none (l : List Nat) (P : Nat → Prop) [DecidablePred P] (v : Nat) (h : ∀ x, x ∈ l → ¬ P x) : (l.map (fun x => if P x then v else 0)).sum = 0 := by
  induction l with
  | nil => rfl
  | cons x l ih => simp only [List.map_cons, List.sum_cons, if_neg (h x (by simp)), Nat.zero_add]; exact ih (fun y hy => h y (List.mem_cons_of_mem _ hy))
theorem sum_one (l : List Nat) (hnd : l.Nodup) (P : Nat → Prop) [DecidablePred P] (v : Nat) (c : Nat) (hc : c ∈ l) (hP : ∀ x, x ∈ l → (P x ↔ x = c)) : (l.map (fun x => if P x then v else 0)).sum = v := by
  induction l with
  | nil => cases hc
  | cons x l ih =>
    have hx := List.nodup_cons.1 hnd
    simp only [List.map_cons, List.sum_cons]
    rcases List.mem_cons.1 hc with rfl | hc
    · have hz : (l.map (fun x => if P x then v else 0)).sum = 0 := sum_none l P v (fun y hy h => hx.1 (by rw [← (hP y (List.mem_cons_of_mem _ hy)).1 h]; exact hy))
      rw [if_pos ((hP c (by simp)).2 rfl), hz, Nat.add_zero]
    · rw [if_neg (fun h => hx.1 (by rw [(hP x (by simp)).1 h]; exact hc)), Nat.zero_add]
      exact ih hx.2 hc (fun y hy => hP y (List.mem_cons_of_mem _ hy))
open Classical in
/-- Tail m is planted and ends with tail n. -/
def Sub (E : List Ex) (T : List Tl) (f : Nat → Option (List Nat)) (n m : Nat) : Prop := (∃ l, f m = some l) ∧ ∃ us τ, TD E T n τ ∧ TD E T m (us ++ τ)
theorem sub_kids {E : List Ex} {F : List Fa} {T : List Tl} {f : Nat → Option (List Nat)} {L : Nat → Prop} (hI : Inv E F) (hnd : T.Nodup) (hg : Good T f L) {n : Nat} {l : List Nat} (hn : f n = some l) {m : Nat} (hmn : m ≠ n) (h : Sub E T f n m) : ∃ c, c ∈ l ∧ ∀ x, x ∈ l → (Sub E T f x m ↔ x = c) := by
  obtain ⟨hm, us, τ, htn, htm⟩ := h
  rcases List.eq_nil_or_concat us with rfl | ⟨us', u, rfl⟩
  · exact absurd (htm.inj hI hnd htn) hmn
  · rw [List.concat_eq_append] at htm
    have htm' : TD E T m (us' ++ u :: τ) := by simpa using htm
    obtain ⟨c, hc⟩ := htm'.inner
    obtain ⟨lc, hlc⟩ := hg.chain hI hnd htm' hc hm
    have hc0 : c ≠ 0 := fun e => by subst e; cases hc; omega
    obtain ⟨h', r', l', k1, k2, k3, k4⟩ := hg.up c lc hlc hc0
    have hrn : r' = n := by
      cases hc with
      | cons h0 _ _ _ h3 =>
        rw [h0] at k1
        injection Option.some.inj k1 with e1 e2
        have e2' := Int.ofNat.inj e2
        subst e2'
        exact h3.inj hI hnd htn
    subst hrn
    rw [hn] at k3
    obtain rfl := Option.some.inj k3
    refine ⟨c, k4, fun x hx => ⟨fun ⟨_, us2, τ2, htx, htm2⟩ => ?_, fun e => by rw [e]; exact ⟨hm, us', u :: τ, hc, htm'⟩⟩⟩
    obtain ⟨⟨hx', q1⟩, q2, _⟩ := hg.down r' l hn x hx
    have hxe : ∃ v, τ2 = v :: τ := by
      cases htx with
      | nil _ => omega
      | @cons _ _ _ v ρ h0 _ _ _ h3 =>
        rw [h0] at q1
        injection Option.some.inj q1 with e1 e2
        have e2' := Int.ofNat.inj e2
        subst e2'
        exact ⟨v, by rw [h3.one htn]⟩
    obtain ⟨v, rfl⟩ := hxe
    have e3 := htm'.one htm2
    have e4 : us' ++ [u] = us2 ++ [v] := by
      have : (us' ++ [u]) ++ τ = (us2 ++ [v]) ++ τ := by simpa using e3
      exact List.append_cancel_right this
    have e5 := List.append_inj_right' e4 rfl
    injection e5 with e5
    subst e5
    exact htx.inj hI hnd hc
open Classical in
/-- How many pieces the planted tails are worth that end with n. -/
noncomputable def subSum (E : List Ex) (T : List Tl) (f : Nat → Option (List Nat)) (v : Nat → Nat) (n : Nat) : Nat := sumTo T.length (fun m => if Sub E T f n m then v m else 0)
open Classical in
theorem subSum_kids {E : List Ex} {F : List Fa} {T : List Tl} {f : Nat → Option (List Nat)} {L : Nat → Prop} (hI : Inv E F) (hnd : T.Nodup) (hg : Good T f L) (htd : ∀ i, i < T.length → ∃ τ, TD E T i τ) (v : Nat → Nat) {n : Nat} {l : List Nat} (hn : f n = some l) :
    subSum E T f v n = v n + (l.map (subSum E T f v)).sum := by
  have hnl := hg.lt n l hn
  have e1 : ∀ m, m < T.length → (if Sub E T f n m then v m else 0) = (if m = n then v m else 0) + (l.map (fun c => if Sub E T f c m then v m else 0)).sum := fun m hm => by
    by_cases hmn : m = n
    · subst hmn
      have hs : Sub E T f m m := by
        obtain ⟨τ, hτ⟩ := htd m hm
        exact ⟨⟨l, hn⟩, [], τ, hτ, hτ⟩
      rw [if_pos hs, if_pos rfl, sum_none l (fun c => Sub E T f c m) (v m) (fun x hx ⟨_, us, τ, htx, htm⟩ => ?_), Nat.add_zero]
      obtain ⟨⟨hx', q1⟩, q2, _⟩ := hg.down m l hn x hx
      cases htx with
      | nil _ => omega
      | @cons _ _ _ u ρ h0 _ _ _ h3 =>
        rw [h0] at q1
        injection Option.some.inj q1 with e1 e2
        have e2' := Int.ofNat.inj e2
        subst e2'
        have := congrArg List.length (h3.one htm)
        simp at this
        omega
    · rw [if_neg hmn, Nat.zero_add]
      by_cases hs : Sub E T f n m
      · obtain ⟨c, hc, hP⟩ := sub_kids hI hnd hg hn hmn hs
        rw [if_pos hs, sum_one l (hg.nd n l hn) (fun c => Sub E T f c m) (v m) c hc hP]
      · rw [if_neg hs, sum_none l (fun c => Sub E T f c m) (v m) (fun x hx ⟨hm', us, τ, htx, htm⟩ => hs ?_)]
        obtain ⟨⟨hx', q1⟩, q2, _⟩ := hg.down n l hn x hx
        cases htx with
        | nil _ => omega
        | @cons _ _ _ u ρ h0 _ _ _ h3 =>
          rw [h0] at q1
          injection Option.some.inj q1 with e1 e2
          have e2' := Int.ofNat.inj e2
          subst e2'
          exact ⟨hm', us ++ [u], ρ, h3, by simpa using htm⟩
  unfold subSum
  rw [sumTo_congr e1, sumTo_add, sumTo_one _ _ hnl, sumTo_list]
end Go.Proofs.Ytkdhdlokilgccaa

namespace Go.Proofs.Ytkdhdlokilgccaa
open Go.RowKit Go.Maps Go.WideElems Go.ChangeMaps Go.MapKept
set_option linter.unusedVariables false

/-- What tree gives: all tails are planted, nothing else ends. -/
def TreePost (W0 : World) (kr bl : Nat) (T : List Tl) (ll : List Nat) (e : Ending) (w' : World) : Prop :=
  ∃ (bt bL : Nat) (f : Nat → Option (List Nat)), e = .returned (.pointer (some ⟨bt, 0, none⟩)) ∧ TrAt W0 w' kr bl bt bL T f (.slice none 0 0) [] ∧ Good T f (fun m => m ∈ ll) ∧ ∀ n, n ∈ ll → ∃ l, f n = some l
theorem good_new (T : List Tl) (h : 0 < T.length) : Good T (upd (fun _ => none) 0 []) (fun m => m ∈ ([] : List Nat)) := by
  have hz : ∀ m l, upd (fun _ => none) 0 [] m = some l → m = 0 ∧ l = [] := fun m l hm => by
    by_cases e : m = 0
    · subst e
      rw [upd_same] at hm
      exact ⟨rfl, (Option.some.inj hm).symm⟩
    · rw [upd_ne _ _ e] at hm
      cases hm
  refine ⟨⟨[], upd_same _ _ _⟩, fun n l hn h0 => absurd (hz n l hn).1 h0, fun r l hr m hm => ?_, fun r l hr => ?_, fun n hn h0 => absurd (hz n _ hn).1 h0, fun n l hn => ?_⟩
  · rw [(hz r l hr).2] at hm; cases hm
  · rw [(hz r l hr).2]; exact List.nodup_nil
  · rw [(hz n l hn).1]; exact h
/-- A new map with the end alone. -/
theorem lg_new (w : World) (H : Nat) (hH : H ≤ w.heap.size) : ∃ w2, (Instr.mapUpdate 131 (.map (some w.heap.size)) (.int .i64 0) (.slice none 0 0)).run Try.prog (w.alloc (.map #[] 0)) = .ok () w2 ∧ LgAt w2 H w.heap.size 1 (upd (fun _ => none) 0 []) ∧ (w.alloc (.map #[] 0)).grownBy w2 (some w.heap.size) := by
  have h0 : LgAt (w.alloc (.map #[] 0)) H w.heap.size 0 (fun _ => none) := ⟨#[], 0, (MapKept.heap_alloc w _).1, ⟨by simp, stamped_empty 0, by simp⟩, Nat.le_refl _, by simp, by simp, by simp⟩
  exact h0.insert (by unfold maxLen; omega) (k := 0) (by omega)

set_option maxHeartbeats 2000000 in
set_option maxRecDepth 100000 in
theorem tree_any (W0 : World) (B kr : Nat) (cur : Array Value) (E : List Ex) (F : List Fa) (T : List Tl) (b1 b2 n0 : Nat) (S : List (List Rx)) (hR : RdAt W0 B kr cur E F T b1 b2 n0 S) (bl : Nat) (ll : List Nat) (m : Nat) (vA vI : Value) (hP : PileAt W0 B bl ll m vA vI) (hlT : ∀ i, i ∈ ll → i < T.length) :
    Calls Try.prog 37 #[.pointer (some ⟨kr, 0, none⟩), .pointer (some ⟨bl, 0, none⟩)] W0 (TreePost W0 kr bl T ll) := by
  have hmm := @run_makeMap Try.prog
  obtain ⟨w2, hrun2, hlg2, hg2⟩ := lg_new W0 W0.heap.size (Nat.le_refl _)
  obtain ⟨aA, cA, rfl⟩ := ownsRow_slice hP.all
  have hs2 := hg2.size
  have hbW2 : Below W0.heap.size W0 w2 := ((Below.refl _ _).alloc (Nat.le_refl _) _).grown hg2 (by simp) (fun g e => by injection e with e; omega)
  have hs1 : (W0.alloc (.map #[] 0)).heap.size = W0.heap.size + 1 := by simp
  have hTr : TrAt W0 (w2.alloc (.cells #[.pointer (some ⟨kr, 0, none⟩), .pointer (some ⟨bl, 0, none⟩), .map (some W0.heap.size), .slice none 0 0] 133)) kr bl w2.heap.size W0.heap.size T (upd (fun _ => none) 0 []) (.slice none 0 0) [] := by
    have hal : Below w2.heap.size w2 (w2.alloc (.cells #[.pointer (some ⟨kr, 0, none⟩), .pointer (some ⟨bl, 0, none⟩), .map (some W0.heap.size), .slice none 0 0] 133)) := (Below.refl _ _).alloc (Nat.le_refl _) _
    refine ⟨hbW2.trans (hal.mono (by omega)), St.new _ _ _, (hlg2.below hal).tight (fun k l hk => ?_), World.ownsRow_nil _ _ _ _, by omega, Nat.le_refl _⟩
    by_cases e : k = 0
    · have := hR.si.zero
      have := (List.getElem?_eq_some_iff.1 this).1
      omega
    · rw [upd_ne _ _ e] at hk; cases hk
  have hT0 : 0 < T.length := (List.getElem?_eq_some_iff.1 hR.si.zero).1
  have hGd := good_new T hT0
  have hPL := hP.st.lt
  have hcell : (w2.alloc (.cells #[.pointer (some ⟨kr, 0, none⟩), .pointer (some ⟨bl, 0, none⟩), .map (some W0.heap.size), .slice none 0 0] 133)).cell? ⟨bl, 0, none⟩ = some (.slice aA ll.length cA) := by
    rw [hTr.below.cell (p := ⟨bl, 0, none⟩) hPL]
    exact (row2 hP.st).1
  obtain ⟨n, hn⟩ : ∃ n, ll.length = n := ⟨_, rfl⟩
  have hn6 : n ≤ 1000000 := by have := nodup_below hP.nd hP.lt; have := hP.big; omega
  rw [hn] at hcell
  have HN := Lib.hid hn
  have H0 := Lib.hid (And.intro hTr hGd)
  have HP := Lib.hid (And.intro hP hlT)
  clear hlg2 hg2 hTr hGd hP hlT hn hs1 hs2 hbW2
  go_enter Try.func37, Try.ntmps37
  go_wp2_with fail
  generalize w2.alloc (.cells #[.pointer (some ⟨kr, 0, none⟩), .pointer (some ⟨bl, 0, none⟩), .map (some W0.heap.size), .slice none 0 0] 133) = A at H0 hcell ⊢
  generalize w2.heap.size = bt at H0 ⊢
  go_loopw [19] (fun tv wr => ∃ (k : Nat) (f : Nat → Option (List Nat)), tv = .int .i64 ((k : Nat) : Int) ∧ k ≤ n ∧ Hid (TrAt W0 wr kr bl bt W0.heap.size T f (.slice none 0 0) [] ∧ Good T f (fun m => m ∈ ll.take k) ∧ ∀ j, j ∈ ll.take k → ∃ l, f j = some l)) (fun tv _ => n - (intOf tv).toNat)
  case atStart => exact ⟨0, _, rfl, Nat.zero_le _, Lib.hid ⟨H0.out.1, H0.out.2, fun j hj => by simp at hj⟩⟩
  case round =>
    obtain ⟨k, f, rfl, hk, HI⟩ := hrel
    by_cases hlt : k < n
    · have hkl : k < ll.length := by have := HN.out; omega
      have hrowL := ownsRow_keep HP.out.1.all HI.out.1.below
      obtain ⟨gL, rfl, _, hgL, hc⟩ := ownsRow_read hrowL (by omega)
      have d0 := (hc k (by omega)).1
      have ej : (nums64 ll)[k]? = some (.int .i64 ((ll[k] : Nat) : Int)) := by simp [nums64, List.getElem?_eq_getElem hkl]
      rw [ej] at d0
      obtain ⟨j, hj⟩ : ∃ j, ll[k] = j := ⟨_, rfl⟩
      rw [hj] at d0
      have hjT : j < T.length := HP.out.2 j (by rw [← hj]; exact List.getElem_mem _)
      have HJ := Lib.hid hj
      have ik : (k : Int) < (n : Int) := by omega
      clear hc hrowL ej hj
      go_wp2_with fail
      refine (plant_any W0 B kr cur E F T b1 b2 n0 S hR bl bt W0.heap.size (.slice none 0 0) [] j wr f (fun m => m ∈ ll.take k) hjT HI.out.1 HI.out.2.1).mono ?_
      rintro e w3 ⟨f3, rfl, hTr3, hG3, hl3, hs3, hk3⟩
      have hI3 : TrAt W0 w3 kr bl bt W0.heap.size T f3 (.slice none 0 0) [] ∧ Good T f3 (fun m => m ∈ ll.take (k + 1)) ∧ ∀ i, i ∈ ll.take (k + 1) → ∃ l, f3 i = some l := by
        rw [List.take_succ_eq_append_getElem hkl, HJ.out]
        refine ⟨hTr3, ⟨hG3.root, hG3.up, hG3.down, hG3.nd, fun m h1 h2 => ?_, hG3.lt⟩, fun i hi => ?_⟩
        · rcases hG3.leaf m h1 h2 with h | h
          · exact List.mem_append_left _ h
          · exact List.mem_append_right _ (List.mem_singleton.2 h)
        · rcases List.mem_append.1 hi with h | h
          · obtain ⟨l, hl⟩ := HI.out.2.2 i h
            exact hk3 i l hl
          · rw [List.mem_singleton.1 h]; exact hl3
      have HI3 := Lib.hid hI3
      have hk1 : k + 1 ≤ n := by omega
      clear hTr3 hG3 hl3 hs3 hk3 hI3 d0
      go_wp2_with fail
      go_roundw
      case rel => exact ⟨k + 1, f3, by go_num, hk1, HI3⟩
      case measure => simp [intOf]; omega
    · obtain rfl : k = n := by omega
      go_wp2_with fail
      go_ret
      have h := HI.out
      rw [List.take_of_length_le (by have := HN.out; omega)] at h
      exact ⟨bt, W0.heap.size, f, rfl, h⟩
end Go.Proofs.Ytkdhdlokilgccaa
