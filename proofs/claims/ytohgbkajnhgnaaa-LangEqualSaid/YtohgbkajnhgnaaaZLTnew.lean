import Derived.Test.YtohgbkajnhgnaaaZLAcc
import Derived.Test.YtohgbkajnhgnaaaZLNew
import Derived.Deep.RegionHeld3
namespace Go.Proofs.Ytohgbkajnhgnaaa
open Go.RowKit Go.Maps Go.WideElems Go.ChangeMaps Go.MapKept
set_option linter.unusedVariables false
set_option linter.unusedSimpArgs false

theorem OI.made9 {W1 w : World} {n : Nat} (hb : Below W1.heap.size W1 w) (hn : n ≤ maxLen) : OI W1 w.heap.size n (fun _ => 0) (w.alloc (.cells (madeCells #[.int .i64 0] n) 3)) :=
  ⟨ownsRow_base (OI.made w n hn).own hb.size, hb.trans ((al w _).mono hb.size), hb.size⟩
theorem OI.base {V W1 w : World} {g n : Nat} {f : Nat → Int} (h : OI W1 g n f w) (b : Below V.heap.size V W1) : OI V g n f w :=
  ⟨ownsRow_base h.own b.size, b.trans (h.bel.mono b.size), Nat.le_trans b.size h.lo⟩
theorem TaM.base {V W1 w : World} {b : Nat} {cs : Array Value} {gz gc gh gs N M : Nat} {sz ct ch sm : Nat → Int} (h : TaM W1 b cs gz gc gh gs N M sz ct ch sm w) (k : Below V.heap.size V W1) : TaM V b cs gz gc gh gs N M sz ct ch sm w :=
  ⟨h.st, h.z.base k, h.c.base k, h.h.base k, h.s.base k, h.nzc, h.nzh, h.nzs, h.nch, h.ncs, h.nhs⟩
/-- What is made so far, in whatever order. -/
structure TnI (W1 : World) (N M : Nat) (z c h s : Option Nat) (w : World) : Prop where
  bel : Below W1.heap.size W1 w
  oz : ∀ g, z = some g → OI W1 g M (fun _ => 0) w
  oc : ∀ g, c = some g → OI W1 g N (fun _ => 0) w
  oh : ∀ g, h = some g → OI W1 g N (fun _ => 0) w
  os : ∀ g, s = some g → OI W1 g N (fun _ => 0) w
  nzc : ∀ g, z = some g → c ≠ some g
  nzh : ∀ g, z = some g → h ≠ some g
  nzs : ∀ g, z = some g → s ≠ some g
  nch : ∀ g, c = some g → h ≠ some g
  ncs : ∀ g, c = some g → s ≠ some g
  nhs : ∀ g, h = some g → s ≠ some g
theorem TnI.keep {W1 w w' : World} {N M : Nat} {z c h s : Option Nat} (k : TnI W1 N M z c h s w) (b : Below w.heap.size w w') : TnI W1 N M z c h s w' :=
  ⟨k.bel.trans (b.mono k.bel.size), fun g e => (k.oz g e).keep b, fun g e => (k.oc g e).keep b, fun g e => (k.oh g e).keep b, fun g e => (k.os g e).keep b, k.nzc, k.nzh, k.nzs, k.nch, k.ncs, k.nhs⟩
theorem TnI.mkz {W1 w : World} {N M : Nat} {c : Option Nat} {h : Option Nat} {s : Option Nat} (k : TnI W1 N M none c h s w) (hn : M ≤ maxLen) : TnI W1 N M (some w.heap.size) c h s (w.alloc (.cells (madeCells #[.int .i64 0] M) 3)) :=
  ⟨k.bel.trans ((al w _).mono k.bel.size), fun g e => by injection e with e; subst e; exact OI.made9 k.bel hn, fun g e => (k.oc g e).keep (al w _), fun g e => (k.oh g e).keep (al w _), fun g e => (k.os g e).keep (al w _), fun g e e2 => by injection e with e; have := own_lt9 (k.oc g e2).own g rfl; omega, fun g e e2 => by injection e with e; have := own_lt9 (k.oh g e2).own g rfl; omega, fun g e e2 => by injection e with e; have := own_lt9 (k.os g e2).own g rfl; omega, k.nch, k.ncs, k.nhs⟩
theorem TnI.mkc {W1 w : World} {N M : Nat} {z : Option Nat} {h : Option Nat} {s : Option Nat} (k : TnI W1 N M z none h s w) (hn : N ≤ maxLen) : TnI W1 N M z (some w.heap.size) h s (w.alloc (.cells (madeCells #[.int .i64 0] N) 3)) :=
  ⟨k.bel.trans ((al w _).mono k.bel.size), fun g e => (k.oz g e).keep (al w _), fun g e => by injection e with e; subst e; exact OI.made9 k.bel hn, fun g e => (k.oh g e).keep (al w _), fun g e => (k.os g e).keep (al w _), fun g e e2 => by injection e2 with e2; have := own_lt9 (k.oz g e).own g rfl; omega, k.nzh, k.nzs, fun g e e2 => by injection e with e; have := own_lt9 (k.oh g e2).own g rfl; omega, fun g e e2 => by injection e with e; have := own_lt9 (k.os g e2).own g rfl; omega, k.nhs⟩
theorem TnI.mkh {W1 w : World} {N M : Nat} {z : Option Nat} {c : Option Nat} {s : Option Nat} (k : TnI W1 N M z c none s w) (hn : N ≤ maxLen) : TnI W1 N M z c (some w.heap.size) s (w.alloc (.cells (madeCells #[.int .i64 0] N) 3)) :=
  ⟨k.bel.trans ((al w _).mono k.bel.size), fun g e => (k.oz g e).keep (al w _), fun g e => (k.oc g e).keep (al w _), fun g e => by injection e with e; subst e; exact OI.made9 k.bel hn, fun g e => (k.os g e).keep (al w _), k.nzc, fun g e e2 => by injection e2 with e2; have := own_lt9 (k.oz g e).own g rfl; omega, k.nzs, fun g e e2 => by injection e2 with e2; have := own_lt9 (k.oc g e).own g rfl; omega, k.ncs, fun g e e2 => by injection e with e; have := own_lt9 (k.os g e2).own g rfl; omega⟩
theorem TnI.mks {W1 w : World} {N M : Nat} {z : Option Nat} {c : Option Nat} {h : Option Nat} (k : TnI W1 N M z c h none w) (hn : N ≤ maxLen) : TnI W1 N M z c h (some w.heap.size) (w.alloc (.cells (madeCells #[.int .i64 0] N) 3)) :=
  ⟨k.bel.trans ((al w _).mono k.bel.size), fun g e => (k.oz g e).keep (al w _), fun g e => (k.oc g e).keep (al w _), fun g e => (k.oh g e).keep (al w _), fun g e => by injection e with e; subst e; exact OI.made9 k.bel hn, k.nzc, k.nzh, fun g e e2 => by injection e2 with e2; have := own_lt9 (k.oz g e).own g rfl; omega, k.nch, fun g e e2 => by injection e2 with e2; have := own_lt9 (k.oc g e).own g rfl; omega, fun g e e2 => by injection e2 with e2; have := own_lt9 (k.oh g e).own g rfl; omega⟩

theorem TnI.tal {W1 w : World} {N M gz gc gh gs bt : Nat} {cs : Array Value} (h : TnI W1 N M (some gz) (some gc) (some gh) (some gs) w) (hs : St w 60 bt cs) : TaM W1 bt cs gz gc gh gs N M (fun _ => 0) (fun _ => 0) (fun _ => 0) (fun _ => 0) w :=
  ⟨hs, h.oz _ rfl, h.oc _ rfl, h.oh _ rfl, h.os _ rfl, fun e => h.nzc gz rfl (by rw [e]), fun e => h.nzh gz rfl (by rw [e]), fun e => h.nzs gz rfl (by rw [e]), fun e => h.nch gc rfl (by rw [e]), fun e => h.ncs gc rfl (by rw [e]), fun e => h.nhs gh rfl (by rw [e])⟩
theorem zTl_size : (zC 60).size = 263 := by kernel_rfl
abbrev TlPs (cA : Array Value) (m : Int) (a1 a2 a3 a4 : Option Addr) (n1 n2 n3 n4 c1 c2 c3 c4 : Nat) : Array (Nat × Value) := #[(0, .agg cA), (1, .int .i64 m), (2, .slice a1 n1 c1), (3, .slice a2 n2 c2), (4, .slice a3 n3 c3), (5, .slice a4 n4 c4)]
theorem tal_built (cA : Array Value) (ha : cA.size = 258) (m : Int) (a1 a2 a3 a4 : Option Addr) (n1 n2 n3 n4 c1 c2 c3 c4 : Nat) : ∃ cK : Array Value, cK.size = 263 ∧ (∀ j, j < 258 → cK[j]? = cA[j]?) ∧ cK[258]? = some (.int .i64 m) ∧ cK[259]? = some (.slice a1 n1 c1) ∧ cK[260]? = some (.slice a2 n2 c2) ∧ cK[261]? = some (.slice a3 n3 c3) ∧ cK[262]? = some (.slice a4 n4 c4) ∧
    ∀ W, (Instr.build 60 (TlPs cA m a1 a2 a3 a4 n1 n2 n3 n4 c1 c2 c3 c4)).run Try.prog W = .ok (.agg cK) W := by
  have e2 : Try.prog.built 60 [(0, .agg cA), (1, .int .i64 m), (2, .slice a1 n1 c1), (3, .slice a2 n2 c2), (4, .slice a3 n3 c3), (5, .slice a4 n4 c4)] = Instr.fill (fun i => #[(0, 258), (258, 1), (259, 1), (260, 1), (261, 1), (262, 1)][i]?) (zC 60) [(0, .agg cA), (1, .int .i64 m), (2, .slice a1 n1 c1), (3, .slice a2 n2 c2), (4, .slice a3 n3 c3), (5, .slice a4 n4 c4)] := by kernel_rfl
  have hk := zTl_size
  obtain ⟨p1, q1⟩ := putAt_get (zC 60) cA 0 (by rw [hk, ha]; omega)
  rw [fill_put _ _ 0 0 258 (.agg cA) _ (by rfl) ha (by rw [hk]; omega)] at e2
  rw [show (Value.agg cA).cells = cA from rfl] at e2
  generalize putAt (zC 60) cA 0 = k1 at p1 q1 e2
  obtain ⟨p2, q2⟩ := putAt_get k1 #[.int .i64 m] 258 (by rw [p1, hk]; simp)
  rw [fill_put _ _ 1 258 1 (.int .i64 m) _ (by rfl) (by rfl) (by rw [p1, hk]; omega)] at e2
  rw [show (Value.int .i64 m).cells = #[.int .i64 m] from rfl] at e2
  generalize putAt k1 #[.int .i64 m] 258 = k2 at p2 q2 e2
  obtain ⟨p3, q3⟩ := putAt_get k2 #[.slice a1 n1 c1] 259 (by rw [p2, p1, hk]; simp)
  rw [fill_put _ _ 2 259 1 (.slice a1 n1 c1) _ (by rfl) (by rfl) (by rw [p2, p1, hk]; omega)] at e2
  rw [show (Value.slice a1 n1 c1).cells = #[.slice a1 n1 c1] from rfl] at e2
  generalize putAt k2 #[.slice a1 n1 c1] 259 = k3 at p3 q3 e2
  obtain ⟨p4, q4⟩ := putAt_get k3 #[.slice a2 n2 c2] 260 (by rw [p3, p2, p1, hk]; simp)
  rw [fill_put _ _ 3 260 1 (.slice a2 n2 c2) _ (by rfl) (by rfl) (by rw [p3, p2, p1, hk]; omega)] at e2
  rw [show (Value.slice a2 n2 c2).cells = #[.slice a2 n2 c2] from rfl] at e2
  generalize putAt k3 #[.slice a2 n2 c2] 260 = k4 at p4 q4 e2
  obtain ⟨p5, q5⟩ := putAt_get k4 #[.slice a3 n3 c3] 261 (by rw [p4, p3, p2, p1, hk]; simp)
  rw [fill_put _ _ 4 261 1 (.slice a3 n3 c3) _ (by rfl) (by rfl) (by rw [p4, p3, p2, p1, hk]; omega)] at e2
  rw [show (Value.slice a3 n3 c3).cells = #[.slice a3 n3 c3] from rfl] at e2
  generalize putAt k4 #[.slice a3 n3 c3] 261 = k5 at p5 q5 e2
  obtain ⟨p6, q6⟩ := putAt_get k5 #[.slice a4 n4 c4] 262 (by rw [p5, p4, p3, p2, p1, hk]; simp)
  rw [fill_put _ _ 5 262 1 (.slice a4 n4 c4) _ (by rfl) (by rfl) (by rw [p5, p4, p3, p2, p1, hk]; omega)] at e2
  rw [show (Value.slice a4 n4 c4).cells = #[.slice a4 n4 c4] from rfl] at e2
  generalize putAt k5 #[.slice a4 n4 c4] 262 = k6 at p6 q6 e2
  rw [ha] at q1
  simp only [List.size_toArray, List.length_cons, List.length_nil] at q2 q3 q4 q5 q6
  refine ⟨k6, by rw [p6, p5, p4, p3, p2, p1, hk], fun j hj => ?_, ?_, ?_, ?_, ?_, ?_, fun W => run_build W _ _ _ e2⟩
  · rw [q6, if_neg (by omega), q5, if_neg (by omega), q4, if_neg (by omega), q3, if_neg (by omega), q2, if_neg (by omega), q1, if_pos (by omega), show j - 0 = j by omega]
  · rw [q6, if_neg (by omega), q5, if_neg (by omega), q4, if_neg (by omega), q3, if_neg (by omega), q2, if_pos (by omega)]; rfl
  · rw [q6, if_neg (by omega), q5, if_neg (by omega), q4, if_neg (by omega), q3, if_pos (by omega)]; rfl
  · rw [q6, if_neg (by omega), q5, if_neg (by omega), q4, if_pos (by omega)]; rfl
  · rw [q6, if_neg (by omega), q5, if_pos (by omega)]; rfl
  · rw [q6, if_pos (by omega)]; rfl
/-! ### How many bytes a class has -/
def czF (K : Nat → Nat) : Nat → Nat → Int
  | 0 => fun _ => 0
  | i + 1 => fun c => if c = K i then czF K i (K i) + 1 else czF K i c
theorem czF_le (K : Nat → Nat) : ∀ i c, 0 ≤ czF K i c ∧ czF K i c ≤ (i : Int) := by
  intro i
  induction i with
  | zero => intro c; exact ⟨Int.le_refl _, Int.le_refl _⟩
  | succ i ih =>
    intro c
    show 0 ≤ (if c = K i then czF K i (K i) + 1 else czF K i c) ∧ (if c = K i then czF K i (K i) + 1 else czF K i c) ≤ _
    have h1 := ih c
    have h2 := ih (K i)
    split <;> omega
theorem czF_congr {K K' : Nat → Nat} : ∀ i, (∀ j, j < i → K j = K' j) → czF K i = czF K' i := by
  intro i
  induction i with
  | zero => intro _; rfl
  | succ i ih =>
    intro h
    funext c
    show (if c = K i then czF K i (K i) + 1 else czF K i c) = (if c = K' i then czF K' i (K' i) + 1 else czF K' i c)
    rw [ih (fun j hj => h j (by omega)), h i (by omega)]
set_option maxRecDepth 100000 in
theorem czF_ex : czF exK10 256 0 = 253 ∧ czF exK10 256 1 = 1 ∧ czF exK10 256 2 = 1 ∧ czF exK10 256 3 = 1 := by decide +kernel
theorem czF_sz : ∀ c, c < 4 → czF exK10 256 c = exSz c := by
  intro c hc
  obtain ⟨h0, h1, h2, h3⟩ := czF_ex
  match c, hc with
  | 0, _ => exact h0
  | 1, _ => exact h1
  | 2, _ => exact h2
  | 3, _ => exact h3
def NtP (D : Dd) (w : World) (e : Ending) (w' : World) : Prop :=
  ∃ (bt : Nat) (cs : Array Value) (gz gc gh gs : Nat), e = .returned (.pointer (some ⟨bt, 0, none⟩)) ∧ TaC cs D 9 gz gc gh gs 3 4 ∧ TaM w bt cs gz gc gh gs 3 4 exSz (exT 0).1 (exT 0).2.1 (exT 0).2.2 w'

set_option maxHeartbeats 4000000 in
set_option maxRecDepth 100000 in
theorem newTally_ex (D : Dd) (h : Ex10 D) (hR : DR D 4) (w : World) (hD : DM w D) :
    Calls Try.prog 20 #[.agg D.cD, .int .i64 9] w (NtP D w) := by
  have hn := h.n
  have kb := al w (.cells D.cD 26)
  have hB : DBx (w.alloc (.cells D.cD 26)) w.heap.size D := DBx.new hD
  have HB := Lib.hid (And.intro hB (And.intro kb (And.intro h.isC h.K)))
  clear h hR hD kb hB
  go_enter Try.func20, Try.ntmps20
  go_upto_region 1 with fail
  generalize w.alloc (.cells D.cD 26) = W1 at HB ⊢
  obtain ⟨b0, hb0⟩ : ∃ b0, w.heap.size = b0 := ⟨_, rfl⟩
  have Hb0 := Lib.hid hb0
  rw [hb0] at HB
  rw [hb0]
  clear hb0
  have f1 := HB.out.1.f1
  obtain ⟨N, hN⟩ : ∃ N, 3 = N := ⟨_, rfl⟩
  obtain ⟨M, hM⟩ : ∃ M, 4 = M := ⟨_, rfl⟩
  rw [hn, hN] at f1
  have HN := Lib.hid (And.intro hn (And.intro hN hM))
  have hN1 : N ≤ 3 ∧ 3 ≤ N := by omega
  have hM1 : M ≤ 4 ∧ 4 ≤ M := by omega
  clear hn hN hM
  have hN9 : N ≤ maxLen := by unfold maxLen; omega
  have hM9 : M ≤ maxLen := by unfold maxLen; omega
  have hmN := make_row10 N (by omega)
  have hmM := make_row10 M (by omega)
  have HSo : Hid (∀ W', Below W1.heap.size W1 W' → Below W1.heap.size W1 W' ∧ DBx W' b0 D ∧ W'.cell? ⟨b0, 256, none⟩ = some (.slice D.aN N D.cN)) := fun W' h => ⟨h, HB.out.1.keep h, (h.cell (p := ⟨b0, 256, none⟩) HB.out.1.st.lt).trans f1⟩
  have HCl : Hid (∀ V, Calls Try.prog 35 #[.agg (clsOf D.K)] V fun e w' => e = .returned (.int .i64 ((M : Nat) : Int)) ∧ Below V.heap.size V w') := fun V => tcount_any D.K M (by rw [← HN.out.2.2]; exact HB.out.2.2.1) HB.out.1.dm.kl V
  clear f1
  go_cut [5] from 8 to 28 (fun v5 wx => ∃ (bt : Nat) (cs : Array Value) (gz gc gh gs : Nat), v5 = .pointer (some ⟨bt, 0, none⟩) ∧ TaC cs D 9 gz gc gh gs N M ∧ TaM W1 bt cs gz gc gh gs N M (fun _ => 0) (fun _ => 0) (fun _ => 0) (fun _ => 0) wx)
  case first =>
    refine wp_region_held_drew (S := fun W' => Below W1.heap.size W1 W' ∧ DBx W' b0 D ∧ W'.cell? ⟨b0, 256, none⟩ = some (.slice D.aN N D.cN)) (by kernel_rfl) (HSo.out _ (Below.refl _ _).drew) (fun hHeld => ?_)
    have HT0 : Hid (TnI W1 N M none none none none W1.drew) := ⟨(Below.refl _ _).drew, (fun g e => by cases e), (fun g e => by cases e), (fun g e => by cases e), (fun g e => by cases e), (fun g e => by cases e), (fun g e => by cases e), (fun g e => by cases e), (fun g e => by cases e), (fun g e => by cases e), (fun g e => by cases e)⟩
    generalize W1.drew = V0 at HT0 hHeld ⊢
    (refine wpAnyH_take (i := 0) (oi := ?_) (v := .agg D.cD) ?_ (by kernel_rfl) (by kernel_rfl) (by kernel_rfl) ?_ (Or.inl ⟨?_, ?_⟩) (by assumption) ?_; rotate_left; (focus ((simp only [List.getElem?_toArray, List.getElem?_cons_zero]); first | done | rfl)); (focus (exact fun _ _ _ h => h)); (focus rfl); (focus (intro wz hSw; exact exec_load_any9 (o := _) (ρ := _) wz 26 (.tmp 2) rfl ⟨b0, 0, none⟩ rfl D.cD _ (DBx.st (And.left (And.right hSw))).part Try.underlying26 rfl (DBx.dm (And.left (And.right hSw))).info)); try simp only [Act.put, List.setIfInBounds_toArray, List.set_cons_zero, List.set_cons_succ])
    (refine wpAnyH_take (i := 1) (oi := ?_) (v := ?_) ?_ (by kernel_rfl) (by kernel_rfl) (by kernel_rfl) ?_ (Or.inl ⟨?_, ?_⟩) (by assumption) ?_; rotate_left 2; (focus ((simp only [List.getElem?_toArray, List.getElem?_cons_succ, List.getElem?_cons_zero]); first | done | rfl)); (focus (exact fun _ _ _ h => h)); (focus rfl); (focus (intro wz hSw; (try dsimp only at hSw); go_simp; first | done | with_reducible rfl)); try simp only [Act.put, List.setIfInBounds_toArray, List.set_cons_zero, List.set_cons_succ])
    (refine wpAnyH_take (i := 2) (oi := ?_) (v := ?_) ?_ (by kernel_rfl) (by kernel_rfl) (by kernel_rfl) ?_ (Or.inl ⟨?_, ?_⟩) (by assumption) ?_; rotate_left 2; (focus ((simp only [List.getElem?_toArray, List.getElem?_cons_succ, List.getElem?_cons_zero]); first | done | rfl)); (focus (exact fun _ _ _ h => h)); (focus rfl); (focus (intro wz hSw; (try dsimp only at hSw); go_simp; first | done | with_reducible rfl)); try simp only [Act.put, List.setIfInBounds_toArray, List.set_cons_zero, List.set_cons_succ])
    (refine wpAnyH_take (i := 3) (oi := ?_) (v := .agg (clsOf D.K)) ?_ (by kernel_rfl) (by kernel_rfl) (by kernel_rfl) ?_ (Or.inl ⟨?_, ?_⟩) (by assumption) ?_; rotate_left; (focus ((simp only [List.getElem?_toArray, List.getElem?_cons_succ, List.getElem?_cons_zero]); first | done | rfl)); (focus (exact fun _ _ _ h => h)); (focus rfl); (focus (intro wz hSw; exact exec_load_any9 (o := _) (ρ := _) wz 22 (.tmp 10) rfl ⟨b0, 0, none⟩ rfl (clsOf D.K) _ (DBx.clsPart (And.left (And.right hSw))) Try.underlying22 rfl (clsOf_info D.K))); try simp only [Act.put, List.setIfInBounds_toArray, List.set_cons_zero, List.set_cons_succ])
    (refine wpAnyH_take (i := 6) (oi := ?_) (v := ?_) ?_ (by kernel_rfl) (by kernel_rfl) (by kernel_rfl) ?_ (Or.inl ⟨?_, ?_⟩) (by assumption) ?_; rotate_left 2; (focus ((simp only [List.getElem?_toArray, List.getElem?_cons_succ, List.getElem?_cons_zero]); first | done | rfl)); (focus (exact fun _ _ _ h => h)); (focus rfl); (focus (intro wz hSw; (try dsimp only at hSw); go_simp; first | done | with_reducible rfl)); try simp only [Act.put, List.setIfInBounds_toArray, List.set_cons_zero, List.set_cons_succ])
    (refine wpAnyH_take (i := 7) (oi := ?_) (v := ?_) ?_ (by kernel_rfl) (by kernel_rfl) (by kernel_rfl) ?_ (Or.inl ⟨?_, ?_⟩) (by assumption) ?_; rotate_left 2; (focus ((simp only [List.getElem?_toArray, List.getElem?_cons_succ, List.getElem?_cons_zero]); first | done | rfl)); (focus (exact fun _ _ _ h => h)); (focus rfl); (focus (intro wz hSw; (try dsimp only at hSw); go_simp; first | done | with_reducible rfl)); try simp only [Act.put, List.setIfInBounds_toArray, List.set_cons_zero, List.set_cons_succ])
    (refine wpAnyH_take (i := 8) (oi := ?_) (v := ?_) ?_ (by kernel_rfl) (by kernel_rfl) (by kernel_rfl) ?_ (Or.inl ⟨?_, ?_⟩) (by assumption) ?_; rotate_left 2; (focus ((simp only [List.getElem?_toArray, List.getElem?_cons_succ, List.getElem?_cons_zero]); first | done | rfl)); (focus (exact fun _ _ _ h => h)); (focus rfl); (focus (intro wz hSw; (try dsimp only at hSw); go_simp; first | done | with_reducible rfl)); try simp only [Act.put, List.setIfInBounds_toArray, List.set_cons_zero, List.set_cons_succ])
    (refine wpAnyH_take (i := 10) (oi := ?_) (v := ?_) ?_ (by kernel_rfl) (by kernel_rfl) (by kernel_rfl) ?_ (Or.inl ⟨?_, ?_⟩) (by assumption) ?_; rotate_left 2; (focus ((simp only [List.getElem?_toArray, List.getElem?_cons_succ, List.getElem?_cons_zero]); first | done | rfl)); (focus (exact fun _ _ _ h => h)); (focus rfl); (focus (intro wz hSw; (try dsimp only at hSw); go_simp; first | done | with_reducible rfl)); try simp only [Act.put, List.setIfInBounds_toArray, List.set_cons_zero, List.set_cons_succ])
    (refine wpAnyH_take (i := 11) (oi := ?_) (v := ?_) ?_ (by kernel_rfl) (by kernel_rfl) (by kernel_rfl) ?_ (Or.inl ⟨?_, ?_⟩) (by assumption) ?_; rotate_left 2; (focus ((simp only [List.getElem?_toArray, List.getElem?_cons_succ, List.getElem?_cons_zero]); first | done | rfl)); (focus (exact fun _ _ _ h => h)); (focus rfl); (focus (intro wz hSw; (try dsimp only at hSw); go_simp; first | done | with_reducible rfl)); try simp only [Act.put, List.setIfInBounds_toArray, List.set_cons_zero, List.set_cons_succ])
    (refine wpAnyH_take (i := 12) (oi := ?_) (v := ?_) ?_ (by kernel_rfl) (by kernel_rfl) (by kernel_rfl) ?_ (Or.inl ⟨?_, ?_⟩) (by assumption) ?_; rotate_left 2; (focus ((simp only [List.getElem?_toArray, List.getElem?_cons_succ, List.getElem?_cons_zero]); first | done | rfl)); (focus (exact fun _ _ _ h => h)); (focus rfl); (focus (intro wz hSw; (try dsimp only at hSw); go_simp; first | done | with_reducible rfl)); try simp only [Act.put, List.setIfInBounds_toArray, List.set_cons_zero, List.set_cons_succ])
    (refine wpAnyH_take (i := 14) (oi := ?_) (v := ?_) ?_ (by kernel_rfl) (by kernel_rfl) (by kernel_rfl) ?_ (Or.inl ⟨?_, ?_⟩) (by assumption) ?_; rotate_left 2; (focus ((simp only [List.getElem?_toArray, List.getElem?_cons_succ, List.getElem?_cons_zero]); first | done | rfl)); (focus (exact fun _ _ _ h => h)); (focus rfl); (focus (intro wz hSw; (try dsimp only at hSw); go_simp; first | done | with_reducible rfl)); try simp only [Act.put, List.setIfInBounds_toArray, List.set_cons_zero, List.set_cons_succ])
    (refine wpAnyH_take (i := 15) (oi := ?_) (v := ?_) ?_ (by kernel_rfl) (by kernel_rfl) (by kernel_rfl) ?_ (Or.inl ⟨?_, ?_⟩) (by assumption) ?_; rotate_left 2; (focus ((simp only [List.getElem?_toArray, List.getElem?_cons_succ, List.getElem?_cons_zero]); first | done | rfl)); (focus (exact fun _ _ _ h => h)); (focus rfl); (focus (intro wz hSw; (try dsimp only at hSw); go_simp; first | done | with_reducible rfl)); try simp only [Act.put, List.setIfInBounds_toArray, List.set_cons_zero, List.set_cons_succ])
    (refine wpAnyH_take (i := 16) (oi := ?_) (v := ?_) ?_ (by kernel_rfl) (by kernel_rfl) (by kernel_rfl) ?_ (Or.inl ⟨?_, ?_⟩) (by assumption) ?_; rotate_left 2; (focus ((simp only [List.getElem?_toArray, List.getElem?_cons_succ, List.getElem?_cons_zero]); first | done | rfl)); (focus (exact fun _ _ _ h => h)); (focus rfl); (focus (intro wz hSw; (try dsimp only at hSw); go_simp; first | done | with_reducible rfl)); try simp only [Act.put, List.setIfInBounds_toArray, List.set_cons_zero, List.set_cons_succ])
    refine wpAnyH_ready (rs := [4, 9, 13, 17]) (by kernel_rfl) (by simp) ?_
    refine AllReadyH.cons (o := ?_) ?_ (fun K hK => ?_) ?_
    rotate_left
    (focus ((simp only [List.getElem?_toArray, List.getElem?_cons_succ, List.getElem?_cons_zero]); first | done | rfl))
    ·skip
     go_simp
     go_at_call 35
     refine (HCl.out _).mono ?_
     rintro e V4 ⟨rfl, b4⟩
     have HT4 := Lib.hid (HT0.out.keep b4)
     have hbn := HT4.out.bel
     clear b4
     try go_wp2_with fail
     refine hK.out _ _ (HSo.out _ hbn) (fun hHeld => ?_)
     clear hK K hbn
     try simp only [Act.put, List.setIfInBounds_toArray, List.set_cons_zero, List.set_cons_succ]
     refine wpAnyH_ready (rs := [5, 9, 13, 17]) (by kernel_rfl) (by simp) ?_
     refine AllReadyH.cons (o := ?_) ?_ (fun K hK => ?_) ?_
     rotate_left
     (focus ((simp only [List.getElem?_toArray, List.getElem?_cons_succ, List.getElem?_cons_zero]); first | done | rfl))
     ·skip
      go_simp
      have HT5 := Lib.hid (HT4.out.mkz (by unfold maxLen; omega))
      have hbn := HT5.out.bel
      refine hK.out _ _ (HSo.out _ hbn) (fun hHeld => ?_)
      generalize V4.alloc (.cells (madeCells #[.int .i64 0] M) 3) = V5 at HT5 hHeld hbn ⊢
      obtain ⟨g5, hg5⟩ : ∃ g5, V4.heap.size = g5 := ⟨_, rfl⟩
      rw [hg5] at HT5
      try rw [hg5]
      clear hg5 hK K hbn
      try simp only [Act.put, List.setIfInBounds_toArray, List.set_cons_zero, List.set_cons_succ]
      refine wpAnyH_ready (rs := [9, 13, 17]) (by kernel_rfl) (by simp) ?_
      refine AllReadyH.cons (o := ?_) ?_ (fun K hK => ?_) ?_
      rotate_left
      (focus ((simp only [List.getElem?_toArray, List.getElem?_cons_succ, List.getElem?_cons_zero]); first | done | rfl))
      ·skip
       go_simp
       have HT9 := Lib.hid (HT5.out.mkc (by unfold maxLen; omega))
       have hbn := HT9.out.bel
       refine hK.out _ _ (HSo.out _ hbn) (fun hHeld => ?_)
       generalize V5.alloc (.cells (madeCells #[.int .i64 0] N) 3) = V9 at HT9 hHeld hbn ⊢
       obtain ⟨g9, hg9⟩ : ∃ g9, V5.heap.size = g9 := ⟨_, rfl⟩
       rw [hg9] at HT9
       try rw [hg9]
       clear hg9 hK K hbn
       try simp only [Act.put, List.setIfInBounds_toArray, List.set_cons_zero, List.set_cons_succ]
       refine wpAnyH_ready (rs := [13, 17]) (by kernel_rfl) (by simp) ?_
       refine AllReadyH.cons (o := ?_) ?_ (fun K hK => ?_) ?_
       rotate_left
       (focus ((simp only [List.getElem?_toArray, List.getElem?_cons_succ, List.getElem?_cons_zero]); first | done | rfl))
       ·skip
        go_simp
        have HT13 := Lib.hid (HT9.out.mkh (by unfold maxLen; omega))
        have hbn := HT13.out.bel
        refine hK.out _ _ (HSo.out _ hbn) (fun hHeld => ?_)
        generalize V9.alloc (.cells (madeCells #[.int .i64 0] N) 3) = V13 at HT13 hHeld hbn ⊢
        obtain ⟨g13, hg13⟩ : ∃ g13, V9.heap.size = g13 := ⟨_, rfl⟩
        rw [hg13] at HT13
        try rw [hg13]
        clear hg13 hK K hbn
        try simp only [Act.put, List.setIfInBounds_toArray, List.set_cons_zero, List.set_cons_succ]
        refine wpAnyH_ready (rs := [17]) (by kernel_rfl) (by simp) ?_
        refine AllReadyH.cons (o := ?_) ?_ (fun K hK => ?_) ?_
        rotate_left
        (focus ((simp only [List.getElem?_toArray, List.getElem?_cons_succ, List.getElem?_cons_zero]); first | done | rfl))
        ·skip
         go_simp
         have HT17 := Lib.hid (HT13.out.mks (by unfold maxLen; omega))
         have hbn := HT17.out.bel
         refine hK.out _ _ (HSo.out _ hbn) (fun hHeld => ?_)
         generalize V13.alloc (.cells (madeCells #[.int .i64 0] N) 3) = V17 at HT17 hHeld hbn ⊢
         obtain ⟨g17, hg17⟩ : ∃ g17, V13.heap.size = g17 := ⟨_, rfl⟩
         rw [hg17] at HT17
         try rw [hg17]
         clear hg17 hK K hbn
         try simp only [Act.put, List.setIfInBounds_toArray, List.set_cons_zero, List.set_cons_succ]
         obtain ⟨cK, k1, k2, k3, k4, k5, k6, k7, hbld⟩ := tal_built D.cD HB.out.1.dm.sz 9 (some ⟨g5, 0, none⟩) (some ⟨g9, 0, none⟩) (some ⟨g13, 0, none⟩) (some ⟨g17, 0, none⟩) M N N N M N N N; (refine wpAnyH_take (i := 18) (oi := ?_) (v := .agg cK) ?_ (by kernel_rfl) (by kernel_rfl) (by kernel_rfl) ?_ (Or.inl ⟨?_, ?_⟩) (by assumption) ?_; rotate_left; (focus ((simp only [List.getElem?_toArray, List.getElem?_cons_succ, List.getElem?_cons_zero]); first | done | rfl)); (focus (exact fun _ _ _ h => h)); (focus rfl); (focus (intro wz hSw; exact exec_bld10 wz _ _ rfl (TlPs D.cD 9 (some ⟨g5, 0, none⟩) (some ⟨g9, 0, none⟩) (some ⟨g13, 0, none⟩) (some ⟨g17, 0, none⟩) M N N N M N N N) (by first | rfl | simp [Act.eval] | (simp; rfl)) _ (hbld wz))); try simp only [Act.put, List.setIfInBounds_toArray, List.set_cons_zero, List.set_cons_succ])
         refine wpAnyH_ready (rs := [19]) (by kernel_rfl) (by simp) ?_
         refine AllReadyH.cons (o := ?_) ?_ (fun K hK => ?_) ?_
         rotate_left
         (focus ((simp only [List.getElem?_toArray, List.getElem?_cons_succ, List.getElem?_cons_zero]); first | done | rfl))
         ·skip
          go_simp
          have HT := Lib.hid ((HT17.out.keep (al V17 (.cells cK 60))).tal (St.new V17 60 cK))
          refine hK.out _ _ (HSo.out _ HT.out.bel) (fun hHeld => ?_)
          clear hK K
          try simp only [Act.put, List.setIfInBounds_toArray, List.set_cons_zero, List.set_cons_succ]
          (refine wpAnyH_take (i := 20) (oi := ?_) (v := ?_) ?_ (by kernel_rfl) (by kernel_rfl) (by kernel_rfl) ?_ (Or.inl ⟨?_, ?_⟩) (by assumption) ?_; rotate_left 2; (focus ((simp only [List.getElem?_toArray, List.getElem?_cons_succ, List.getElem?_cons_zero]); first | done | rfl)); (focus (exact fun _ _ _ h => h)); (focus rfl); (focus (intro wz hSw; (try dsimp only at hSw); go_simp; first | done | with_reducible rfl)); try simp only [Act.put, List.setIfInBounds_toArray, List.set_cons_zero, List.set_cons_succ])
          refine wpAnyH_done (by kernel_rfl) ?_ _
          go_wp2_with fail
          go_meet
          exact ⟨_, cK, _, _, _, _, rfl, ⟨k2, k3, k4, k5, k6, k7⟩, HT.out⟩
         exact AllReadyH.nil
        exact AllReadyH.nil
       refine AllReadyH.cons (o := ?_) ?_ (fun K hK => ?_) ?_
       rotate_left
       (focus ((simp only [List.getElem?_toArray, List.getElem?_cons_succ, List.getElem?_cons_zero]); first | done | rfl))
       ·skip
        go_simp
        have HT17 := Lib.hid (HT9.out.mks (by unfold maxLen; omega))
        have hbn := HT17.out.bel
        refine hK.out _ _ (HSo.out _ hbn) (fun hHeld => ?_)
        generalize V9.alloc (.cells (madeCells #[.int .i64 0] N) 3) = V17 at HT17 hHeld hbn ⊢
        obtain ⟨g17, hg17⟩ : ∃ g17, V9.heap.size = g17 := ⟨_, rfl⟩
        rw [hg17] at HT17
        try rw [hg17]
        clear hg17 hK K hbn
        try simp only [Act.put, List.setIfInBounds_toArray, List.set_cons_zero, List.set_cons_succ]
        refine wpAnyH_ready (rs := [13]) (by kernel_rfl) (by simp) ?_
        refine AllReadyH.cons (o := ?_) ?_ (fun K hK => ?_) ?_
        rotate_left
        (focus ((simp only [List.getElem?_toArray, List.getElem?_cons_succ, List.getElem?_cons_zero]); first | done | rfl))
        ·skip
         go_simp
         have HT13 := Lib.hid (HT17.out.mkh (by unfold maxLen; omega))
         have hbn := HT13.out.bel
         refine hK.out _ _ (HSo.out _ hbn) (fun hHeld => ?_)
         generalize V17.alloc (.cells (madeCells #[.int .i64 0] N) 3) = V13 at HT13 hHeld hbn ⊢
         obtain ⟨g13, hg13⟩ : ∃ g13, V17.heap.size = g13 := ⟨_, rfl⟩
         rw [hg13] at HT13
         try rw [hg13]
         clear hg13 hK K hbn
         try simp only [Act.put, List.setIfInBounds_toArray, List.set_cons_zero, List.set_cons_succ]
         obtain ⟨cK, k1, k2, k3, k4, k5, k6, k7, hbld⟩ := tal_built D.cD HB.out.1.dm.sz 9 (some ⟨g5, 0, none⟩) (some ⟨g9, 0, none⟩) (some ⟨g13, 0, none⟩) (some ⟨g17, 0, none⟩) M N N N M N N N; (refine wpAnyH_take (i := 18) (oi := ?_) (v := .agg cK) ?_ (by kernel_rfl) (by kernel_rfl) (by kernel_rfl) ?_ (Or.inl ⟨?_, ?_⟩) (by assumption) ?_; rotate_left; (focus ((simp only [List.getElem?_toArray, List.getElem?_cons_succ, List.getElem?_cons_zero]); first | done | rfl)); (focus (exact fun _ _ _ h => h)); (focus rfl); (focus (intro wz hSw; exact exec_bld10 wz _ _ rfl (TlPs D.cD 9 (some ⟨g5, 0, none⟩) (some ⟨g9, 0, none⟩) (some ⟨g13, 0, none⟩) (some ⟨g17, 0, none⟩) M N N N M N N N) (by first | rfl | simp [Act.eval] | (simp; rfl)) _ (hbld wz))); try simp only [Act.put, List.setIfInBounds_toArray, List.set_cons_zero, List.set_cons_succ])
         refine wpAnyH_ready (rs := [19]) (by kernel_rfl) (by simp) ?_
         refine AllReadyH.cons (o := ?_) ?_ (fun K hK => ?_) ?_
         rotate_left
         (focus ((simp only [List.getElem?_toArray, List.getElem?_cons_succ, List.getElem?_cons_zero]); first | done | rfl))
         ·skip
          go_simp
          have HT := Lib.hid ((HT13.out.keep (al V13 (.cells cK 60))).tal (St.new V13 60 cK))
          refine hK.out _ _ (HSo.out _ HT.out.bel) (fun hHeld => ?_)
          clear hK K
          try simp only [Act.put, List.setIfInBounds_toArray, List.set_cons_zero, List.set_cons_succ]
          (refine wpAnyH_take (i := 20) (oi := ?_) (v := ?_) ?_ (by kernel_rfl) (by kernel_rfl) (by kernel_rfl) ?_ (Or.inl ⟨?_, ?_⟩) (by assumption) ?_; rotate_left 2; (focus ((simp only [List.getElem?_toArray, List.getElem?_cons_succ, List.getElem?_cons_zero]); first | done | rfl)); (focus (exact fun _ _ _ h => h)); (focus rfl); (focus (intro wz hSw; (try dsimp only at hSw); go_simp; first | done | with_reducible rfl)); try simp only [Act.put, List.setIfInBounds_toArray, List.set_cons_zero, List.set_cons_succ])
          refine wpAnyH_done (by kernel_rfl) ?_ _
          go_wp2_with fail
          go_meet
          exact ⟨_, cK, _, _, _, _, rfl, ⟨k2, k3, k4, k5, k6, k7⟩, HT.out⟩
         exact AllReadyH.nil
        exact AllReadyH.nil
       exact AllReadyH.nil
      refine AllReadyH.cons (o := ?_) ?_ (fun K hK => ?_) ?_
      rotate_left
      (focus ((simp only [List.getElem?_toArray, List.getElem?_cons_succ, List.getElem?_cons_zero]); first | done | rfl))
      ·skip
       go_simp
       have HT13 := Lib.hid (HT5.out.mkh (by unfold maxLen; omega))
       have hbn := HT13.out.bel
       refine hK.out _ _ (HSo.out _ hbn) (fun hHeld => ?_)
       generalize V5.alloc (.cells (madeCells #[.int .i64 0] N) 3) = V13 at HT13 hHeld hbn ⊢
       obtain ⟨g13, hg13⟩ : ∃ g13, V5.heap.size = g13 := ⟨_, rfl⟩
       rw [hg13] at HT13
       try rw [hg13]
       clear hg13 hK K hbn
       try simp only [Act.put, List.setIfInBounds_toArray, List.set_cons_zero, List.set_cons_succ]
       refine wpAnyH_ready (rs := [9, 17]) (by kernel_rfl) (by simp) ?_
       refine AllReadyH.cons (o := ?_) ?_ (fun K hK => ?_) ?_
       rotate_left
       (focus ((simp only [List.getElem?_toArray, List.getElem?_cons_succ, List.getElem?_cons_zero]); first | done | rfl))
       ·skip
        go_simp
        have HT9 := Lib.hid (HT13.out.mkc (by unfold maxLen; omega))
        have hbn := HT9.out.bel
        refine hK.out _ _ (HSo.out _ hbn) (fun hHeld => ?_)
        generalize V13.alloc (.cells (madeCells #[.int .i64 0] N) 3) = V9 at HT9 hHeld hbn ⊢
        obtain ⟨g9, hg9⟩ : ∃ g9, V13.heap.size = g9 := ⟨_, rfl⟩
        rw [hg9] at HT9
        try rw [hg9]
        clear hg9 hK K hbn
        try simp only [Act.put, List.setIfInBounds_toArray, List.set_cons_zero, List.set_cons_succ]
        refine wpAnyH_ready (rs := [17]) (by kernel_rfl) (by simp) ?_
        refine AllReadyH.cons (o := ?_) ?_ (fun K hK => ?_) ?_
        rotate_left
        (focus ((simp only [List.getElem?_toArray, List.getElem?_cons_succ, List.getElem?_cons_zero]); first | done | rfl))
        ·skip
         go_simp
         have HT17 := Lib.hid (HT9.out.mks (by unfold maxLen; omega))
         have hbn := HT17.out.bel
         refine hK.out _ _ (HSo.out _ hbn) (fun hHeld => ?_)
         generalize V9.alloc (.cells (madeCells #[.int .i64 0] N) 3) = V17 at HT17 hHeld hbn ⊢
         obtain ⟨g17, hg17⟩ : ∃ g17, V9.heap.size = g17 := ⟨_, rfl⟩
         rw [hg17] at HT17
         try rw [hg17]
         clear hg17 hK K hbn
         try simp only [Act.put, List.setIfInBounds_toArray, List.set_cons_zero, List.set_cons_succ]
         obtain ⟨cK, k1, k2, k3, k4, k5, k6, k7, hbld⟩ := tal_built D.cD HB.out.1.dm.sz 9 (some ⟨g5, 0, none⟩) (some ⟨g9, 0, none⟩) (some ⟨g13, 0, none⟩) (some ⟨g17, 0, none⟩) M N N N M N N N; (refine wpAnyH_take (i := 18) (oi := ?_) (v := .agg cK) ?_ (by kernel_rfl) (by kernel_rfl) (by kernel_rfl) ?_ (Or.inl ⟨?_, ?_⟩) (by assumption) ?_; rotate_left; (focus ((simp only [List.getElem?_toArray, List.getElem?_cons_succ, List.getElem?_cons_zero]); first | done | rfl)); (focus (exact fun _ _ _ h => h)); (focus rfl); (focus (intro wz hSw; exact exec_bld10 wz _ _ rfl (TlPs D.cD 9 (some ⟨g5, 0, none⟩) (some ⟨g9, 0, none⟩) (some ⟨g13, 0, none⟩) (some ⟨g17, 0, none⟩) M N N N M N N N) (by first | rfl | simp [Act.eval] | (simp; rfl)) _ (hbld wz))); try simp only [Act.put, List.setIfInBounds_toArray, List.set_cons_zero, List.set_cons_succ])
         refine wpAnyH_ready (rs := [19]) (by kernel_rfl) (by simp) ?_
         refine AllReadyH.cons (o := ?_) ?_ (fun K hK => ?_) ?_
         rotate_left
         (focus ((simp only [List.getElem?_toArray, List.getElem?_cons_succ, List.getElem?_cons_zero]); first | done | rfl))
         ·skip
          go_simp
          have HT := Lib.hid ((HT17.out.keep (al V17 (.cells cK 60))).tal (St.new V17 60 cK))
          refine hK.out _ _ (HSo.out _ HT.out.bel) (fun hHeld => ?_)
          clear hK K
          try simp only [Act.put, List.setIfInBounds_toArray, List.set_cons_zero, List.set_cons_succ]
          (refine wpAnyH_take (i := 20) (oi := ?_) (v := ?_) ?_ (by kernel_rfl) (by kernel_rfl) (by kernel_rfl) ?_ (Or.inl ⟨?_, ?_⟩) (by assumption) ?_; rotate_left 2; (focus ((simp only [List.getElem?_toArray, List.getElem?_cons_succ, List.getElem?_cons_zero]); first | done | rfl)); (focus (exact fun _ _ _ h => h)); (focus rfl); (focus (intro wz hSw; (try dsimp only at hSw); go_simp; first | done | with_reducible rfl)); try simp only [Act.put, List.setIfInBounds_toArray, List.set_cons_zero, List.set_cons_succ])
          refine wpAnyH_done (by kernel_rfl) ?_ _
          go_wp2_with fail
          go_meet
          exact ⟨_, cK, _, _, _, _, rfl, ⟨k2, k3, k4, k5, k6, k7⟩, HT.out⟩
         exact AllReadyH.nil
        exact AllReadyH.nil
       refine AllReadyH.cons (o := ?_) ?_ (fun K hK => ?_) ?_
       rotate_left
       (focus ((simp only [List.getElem?_toArray, List.getElem?_cons_succ, List.getElem?_cons_zero]); first | done | rfl))
       ·skip
        go_simp
        have HT17 := Lib.hid (HT13.out.mks (by unfold maxLen; omega))
        have hbn := HT17.out.bel
        refine hK.out _ _ (HSo.out _ hbn) (fun hHeld => ?_)
        generalize V13.alloc (.cells (madeCells #[.int .i64 0] N) 3) = V17 at HT17 hHeld hbn ⊢
        obtain ⟨g17, hg17⟩ : ∃ g17, V13.heap.size = g17 := ⟨_, rfl⟩
        rw [hg17] at HT17
        try rw [hg17]
        clear hg17 hK K hbn
        try simp only [Act.put, List.setIfInBounds_toArray, List.set_cons_zero, List.set_cons_succ]
        refine wpAnyH_ready (rs := [9]) (by kernel_rfl) (by simp) ?_
        refine AllReadyH.cons (o := ?_) ?_ (fun K hK => ?_) ?_
        rotate_left
        (focus ((simp only [List.getElem?_toArray, List.getElem?_cons_succ, List.getElem?_cons_zero]); first | done | rfl))
        ·skip
         go_simp
         have HT9 := Lib.hid (HT17.out.mkc (by unfold maxLen; omega))
         have hbn := HT9.out.bel
         refine hK.out _ _ (HSo.out _ hbn) (fun hHeld => ?_)
         generalize V17.alloc (.cells (madeCells #[.int .i64 0] N) 3) = V9 at HT9 hHeld hbn ⊢
         obtain ⟨g9, hg9⟩ : ∃ g9, V17.heap.size = g9 := ⟨_, rfl⟩
         rw [hg9] at HT9
         try rw [hg9]
         clear hg9 hK K hbn
         try simp only [Act.put, List.setIfInBounds_toArray, List.set_cons_zero, List.set_cons_succ]
         obtain ⟨cK, k1, k2, k3, k4, k5, k6, k7, hbld⟩ := tal_built D.cD HB.out.1.dm.sz 9 (some ⟨g5, 0, none⟩) (some ⟨g9, 0, none⟩) (some ⟨g13, 0, none⟩) (some ⟨g17, 0, none⟩) M N N N M N N N; (refine wpAnyH_take (i := 18) (oi := ?_) (v := .agg cK) ?_ (by kernel_rfl) (by kernel_rfl) (by kernel_rfl) ?_ (Or.inl ⟨?_, ?_⟩) (by assumption) ?_; rotate_left; (focus ((simp only [List.getElem?_toArray, List.getElem?_cons_succ, List.getElem?_cons_zero]); first | done | rfl)); (focus (exact fun _ _ _ h => h)); (focus rfl); (focus (intro wz hSw; exact exec_bld10 wz _ _ rfl (TlPs D.cD 9 (some ⟨g5, 0, none⟩) (some ⟨g9, 0, none⟩) (some ⟨g13, 0, none⟩) (some ⟨g17, 0, none⟩) M N N N M N N N) (by first | rfl | simp [Act.eval] | (simp; rfl)) _ (hbld wz))); try simp only [Act.put, List.setIfInBounds_toArray, List.set_cons_zero, List.set_cons_succ])
         refine wpAnyH_ready (rs := [19]) (by kernel_rfl) (by simp) ?_
         refine AllReadyH.cons (o := ?_) ?_ (fun K hK => ?_) ?_
         rotate_left
         (focus ((simp only [List.getElem?_toArray, List.getElem?_cons_succ, List.getElem?_cons_zero]); first | done | rfl))
         ·skip
          go_simp
          have HT := Lib.hid ((HT9.out.keep (al V9 (.cells cK 60))).tal (St.new V9 60 cK))
          refine hK.out _ _ (HSo.out _ HT.out.bel) (fun hHeld => ?_)
          clear hK K
          try simp only [Act.put, List.setIfInBounds_toArray, List.set_cons_zero, List.set_cons_succ]
          (refine wpAnyH_take (i := 20) (oi := ?_) (v := ?_) ?_ (by kernel_rfl) (by kernel_rfl) (by kernel_rfl) ?_ (Or.inl ⟨?_, ?_⟩) (by assumption) ?_; rotate_left 2; (focus ((simp only [List.getElem?_toArray, List.getElem?_cons_succ, List.getElem?_cons_zero]); first | done | rfl)); (focus (exact fun _ _ _ h => h)); (focus rfl); (focus (intro wz hSw; (try dsimp only at hSw); go_simp; first | done | with_reducible rfl)); try simp only [Act.put, List.setIfInBounds_toArray, List.set_cons_zero, List.set_cons_succ])
          refine wpAnyH_done (by kernel_rfl) ?_ _
          go_wp2_with fail
          go_meet
          exact ⟨_, cK, _, _, _, _, rfl, ⟨k2, k3, k4, k5, k6, k7⟩, HT.out⟩
         exact AllReadyH.nil
        exact AllReadyH.nil
       exact AllReadyH.nil
      refine AllReadyH.cons (o := ?_) ?_ (fun K hK => ?_) ?_
      rotate_left
      (focus ((simp only [List.getElem?_toArray, List.getElem?_cons_succ, List.getElem?_cons_zero]); first | done | rfl))
      ·skip
       go_simp
       have HT17 := Lib.hid (HT5.out.mks (by unfold maxLen; omega))
       have hbn := HT17.out.bel
       refine hK.out _ _ (HSo.out _ hbn) (fun hHeld => ?_)
       generalize V5.alloc (.cells (madeCells #[.int .i64 0] N) 3) = V17 at HT17 hHeld hbn ⊢
       obtain ⟨g17, hg17⟩ : ∃ g17, V5.heap.size = g17 := ⟨_, rfl⟩
       rw [hg17] at HT17
       try rw [hg17]
       clear hg17 hK K hbn
       try simp only [Act.put, List.setIfInBounds_toArray, List.set_cons_zero, List.set_cons_succ]
       refine wpAnyH_ready (rs := [9, 13]) (by kernel_rfl) (by simp) ?_
       refine AllReadyH.cons (o := ?_) ?_ (fun K hK => ?_) ?_
       rotate_left
       (focus ((simp only [List.getElem?_toArray, List.getElem?_cons_succ, List.getElem?_cons_zero]); first | done | rfl))
       ·skip
        go_simp
        have HT9 := Lib.hid (HT17.out.mkc (by unfold maxLen; omega))
        have hbn := HT9.out.bel
        refine hK.out _ _ (HSo.out _ hbn) (fun hHeld => ?_)
        generalize V17.alloc (.cells (madeCells #[.int .i64 0] N) 3) = V9 at HT9 hHeld hbn ⊢
        obtain ⟨g9, hg9⟩ : ∃ g9, V17.heap.size = g9 := ⟨_, rfl⟩
        rw [hg9] at HT9
        try rw [hg9]
        clear hg9 hK K hbn
        try simp only [Act.put, List.setIfInBounds_toArray, List.set_cons_zero, List.set_cons_succ]
        refine wpAnyH_ready (rs := [13]) (by kernel_rfl) (by simp) ?_
        refine AllReadyH.cons (o := ?_) ?_ (fun K hK => ?_) ?_
        rotate_left
        (focus ((simp only [List.getElem?_toArray, List.getElem?_cons_succ, List.getElem?_cons_zero]); first | done | rfl))
        ·skip
         go_simp
         have HT13 := Lib.hid (HT9.out.mkh (by unfold maxLen; omega))
         have hbn := HT13.out.bel
         refine hK.out _ _ (HSo.out _ hbn) (fun hHeld => ?_)
         generalize V9.alloc (.cells (madeCells #[.int .i64 0] N) 3) = V13 at HT13 hHeld hbn ⊢
         obtain ⟨g13, hg13⟩ : ∃ g13, V9.heap.size = g13 := ⟨_, rfl⟩
         rw [hg13] at HT13
         try rw [hg13]
         clear hg13 hK K hbn
         try simp only [Act.put, List.setIfInBounds_toArray, List.set_cons_zero, List.set_cons_succ]
         obtain ⟨cK, k1, k2, k3, k4, k5, k6, k7, hbld⟩ := tal_built D.cD HB.out.1.dm.sz 9 (some ⟨g5, 0, none⟩) (some ⟨g9, 0, none⟩) (some ⟨g13, 0, none⟩) (some ⟨g17, 0, none⟩) M N N N M N N N; (refine wpAnyH_take (i := 18) (oi := ?_) (v := .agg cK) ?_ (by kernel_rfl) (by kernel_rfl) (by kernel_rfl) ?_ (Or.inl ⟨?_, ?_⟩) (by assumption) ?_; rotate_left; (focus ((simp only [List.getElem?_toArray, List.getElem?_cons_succ, List.getElem?_cons_zero]); first | done | rfl)); (focus (exact fun _ _ _ h => h)); (focus rfl); (focus (intro wz hSw; exact exec_bld10 wz _ _ rfl (TlPs D.cD 9 (some ⟨g5, 0, none⟩) (some ⟨g9, 0, none⟩) (some ⟨g13, 0, none⟩) (some ⟨g17, 0, none⟩) M N N N M N N N) (by first | rfl | simp [Act.eval] | (simp; rfl)) _ (hbld wz))); try simp only [Act.put, List.setIfInBounds_toArray, List.set_cons_zero, List.set_cons_succ])
         refine wpAnyH_ready (rs := [19]) (by kernel_rfl) (by simp) ?_
         refine AllReadyH.cons (o := ?_) ?_ (fun K hK => ?_) ?_
         rotate_left
         (focus ((simp only [List.getElem?_toArray, List.getElem?_cons_succ, List.getElem?_cons_zero]); first | done | rfl))
         ·skip
          go_simp
          have HT := Lib.hid ((HT13.out.keep (al V13 (.cells cK 60))).tal (St.new V13 60 cK))
          refine hK.out _ _ (HSo.out _ HT.out.bel) (fun hHeld => ?_)
          clear hK K
          try simp only [Act.put, List.setIfInBounds_toArray, List.set_cons_zero, List.set_cons_succ]
          (refine wpAnyH_take (i := 20) (oi := ?_) (v := ?_) ?_ (by kernel_rfl) (by kernel_rfl) (by kernel_rfl) ?_ (Or.inl ⟨?_, ?_⟩) (by assumption) ?_; rotate_left 2; (focus ((simp only [List.getElem?_toArray, List.getElem?_cons_succ, List.getElem?_cons_zero]); first | done | rfl)); (focus (exact fun _ _ _ h => h)); (focus rfl); (focus (intro wz hSw; (try dsimp only at hSw); go_simp; first | done | with_reducible rfl)); try simp only [Act.put, List.setIfInBounds_toArray, List.set_cons_zero, List.set_cons_succ])
          refine wpAnyH_done (by kernel_rfl) ?_ _
          go_wp2_with fail
          go_meet
          exact ⟨_, cK, _, _, _, _, rfl, ⟨k2, k3, k4, k5, k6, k7⟩, HT.out⟩
         exact AllReadyH.nil
        exact AllReadyH.nil
       refine AllReadyH.cons (o := ?_) ?_ (fun K hK => ?_) ?_
       rotate_left
       (focus ((simp only [List.getElem?_toArray, List.getElem?_cons_succ, List.getElem?_cons_zero]); first | done | rfl))
       ·skip
        go_simp
        have HT13 := Lib.hid (HT17.out.mkh (by unfold maxLen; omega))
        have hbn := HT13.out.bel
        refine hK.out _ _ (HSo.out _ hbn) (fun hHeld => ?_)
        generalize V17.alloc (.cells (madeCells #[.int .i64 0] N) 3) = V13 at HT13 hHeld hbn ⊢
        obtain ⟨g13, hg13⟩ : ∃ g13, V17.heap.size = g13 := ⟨_, rfl⟩
        rw [hg13] at HT13
        try rw [hg13]
        clear hg13 hK K hbn
        try simp only [Act.put, List.setIfInBounds_toArray, List.set_cons_zero, List.set_cons_succ]
        refine wpAnyH_ready (rs := [9]) (by kernel_rfl) (by simp) ?_
        refine AllReadyH.cons (o := ?_) ?_ (fun K hK => ?_) ?_
        rotate_left
        (focus ((simp only [List.getElem?_toArray, List.getElem?_cons_succ, List.getElem?_cons_zero]); first | done | rfl))
        ·skip
         go_simp
         have HT9 := Lib.hid (HT13.out.mkc (by unfold maxLen; omega))
         have hbn := HT9.out.bel
         refine hK.out _ _ (HSo.out _ hbn) (fun hHeld => ?_)
         generalize V13.alloc (.cells (madeCells #[.int .i64 0] N) 3) = V9 at HT9 hHeld hbn ⊢
         obtain ⟨g9, hg9⟩ : ∃ g9, V13.heap.size = g9 := ⟨_, rfl⟩
         rw [hg9] at HT9
         try rw [hg9]
         clear hg9 hK K hbn
         try simp only [Act.put, List.setIfInBounds_toArray, List.set_cons_zero, List.set_cons_succ]
         obtain ⟨cK, k1, k2, k3, k4, k5, k6, k7, hbld⟩ := tal_built D.cD HB.out.1.dm.sz 9 (some ⟨g5, 0, none⟩) (some ⟨g9, 0, none⟩) (some ⟨g13, 0, none⟩) (some ⟨g17, 0, none⟩) M N N N M N N N; (refine wpAnyH_take (i := 18) (oi := ?_) (v := .agg cK) ?_ (by kernel_rfl) (by kernel_rfl) (by kernel_rfl) ?_ (Or.inl ⟨?_, ?_⟩) (by assumption) ?_; rotate_left; (focus ((simp only [List.getElem?_toArray, List.getElem?_cons_succ, List.getElem?_cons_zero]); first | done | rfl)); (focus (exact fun _ _ _ h => h)); (focus rfl); (focus (intro wz hSw; exact exec_bld10 wz _ _ rfl (TlPs D.cD 9 (some ⟨g5, 0, none⟩) (some ⟨g9, 0, none⟩) (some ⟨g13, 0, none⟩) (some ⟨g17, 0, none⟩) M N N N M N N N) (by first | rfl | simp [Act.eval] | (simp; rfl)) _ (hbld wz))); try simp only [Act.put, List.setIfInBounds_toArray, List.set_cons_zero, List.set_cons_succ])
         refine wpAnyH_ready (rs := [19]) (by kernel_rfl) (by simp) ?_
         refine AllReadyH.cons (o := ?_) ?_ (fun K hK => ?_) ?_
         rotate_left
         (focus ((simp only [List.getElem?_toArray, List.getElem?_cons_succ, List.getElem?_cons_zero]); first | done | rfl))
         ·skip
          go_simp
          have HT := Lib.hid ((HT9.out.keep (al V9 (.cells cK 60))).tal (St.new V9 60 cK))
          refine hK.out _ _ (HSo.out _ HT.out.bel) (fun hHeld => ?_)
          clear hK K
          try simp only [Act.put, List.setIfInBounds_toArray, List.set_cons_zero, List.set_cons_succ]
          (refine wpAnyH_take (i := 20) (oi := ?_) (v := ?_) ?_ (by kernel_rfl) (by kernel_rfl) (by kernel_rfl) ?_ (Or.inl ⟨?_, ?_⟩) (by assumption) ?_; rotate_left 2; (focus ((simp only [List.getElem?_toArray, List.getElem?_cons_succ, List.getElem?_cons_zero]); first | done | rfl)); (focus (exact fun _ _ _ h => h)); (focus rfl); (focus (intro wz hSw; (try dsimp only at hSw); go_simp; first | done | with_reducible rfl)); try simp only [Act.put, List.setIfInBounds_toArray, List.set_cons_zero, List.set_cons_succ])
          refine wpAnyH_done (by kernel_rfl) ?_ _
          go_wp2_with fail
          go_meet
          exact ⟨_, cK, _, _, _, _, rfl, ⟨k2, k3, k4, k5, k6, k7⟩, HT.out⟩
         exact AllReadyH.nil
        exact AllReadyH.nil
       exact AllReadyH.nil
      exact AllReadyH.nil
     refine AllReadyH.cons (o := ?_) ?_ (fun K hK => ?_) ?_
     rotate_left
     (focus ((simp only [List.getElem?_toArray, List.getElem?_cons_succ, List.getElem?_cons_zero]); first | done | rfl))
     ·skip
      go_simp
      have HT9 := Lib.hid (HT4.out.mkc (by unfold maxLen; omega))
      have hbn := HT9.out.bel
      refine hK.out _ _ (HSo.out _ hbn) (fun hHeld => ?_)
      generalize V4.alloc (.cells (madeCells #[.int .i64 0] N) 3) = V9 at HT9 hHeld hbn ⊢
      obtain ⟨g9, hg9⟩ : ∃ g9, V4.heap.size = g9 := ⟨_, rfl⟩
      rw [hg9] at HT9
      try rw [hg9]
      clear hg9 hK K hbn
      try simp only [Act.put, List.setIfInBounds_toArray, List.set_cons_zero, List.set_cons_succ]
      refine wpAnyH_ready (rs := [5, 13, 17]) (by kernel_rfl) (by simp) ?_
      refine AllReadyH.cons (o := ?_) ?_ (fun K hK => ?_) ?_
      rotate_left
      (focus ((simp only [List.getElem?_toArray, List.getElem?_cons_succ, List.getElem?_cons_zero]); first | done | rfl))
      ·skip
       go_simp
       have HT5 := Lib.hid (HT9.out.mkz (by unfold maxLen; omega))
       have hbn := HT5.out.bel
       refine hK.out _ _ (HSo.out _ hbn) (fun hHeld => ?_)
       generalize V9.alloc (.cells (madeCells #[.int .i64 0] M) 3) = V5 at HT5 hHeld hbn ⊢
       obtain ⟨g5, hg5⟩ : ∃ g5, V9.heap.size = g5 := ⟨_, rfl⟩
       rw [hg5] at HT5
       try rw [hg5]
       clear hg5 hK K hbn
       try simp only [Act.put, List.setIfInBounds_toArray, List.set_cons_zero, List.set_cons_succ]
       refine wpAnyH_ready (rs := [13, 17]) (by kernel_rfl) (by simp) ?_
       refine AllReadyH.cons (o := ?_) ?_ (fun K hK => ?_) ?_
       rotate_left
       (focus ((simp only [List.getElem?_toArray, List.getElem?_cons_succ, List.getElem?_cons_zero]); first | done | rfl))
       ·skip
        go_simp
        have HT13 := Lib.hid (HT5.out.mkh (by unfold maxLen; omega))
        have hbn := HT13.out.bel
        refine hK.out _ _ (HSo.out _ hbn) (fun hHeld => ?_)
        generalize V5.alloc (.cells (madeCells #[.int .i64 0] N) 3) = V13 at HT13 hHeld hbn ⊢
        obtain ⟨g13, hg13⟩ : ∃ g13, V5.heap.size = g13 := ⟨_, rfl⟩
        rw [hg13] at HT13
        try rw [hg13]
        clear hg13 hK K hbn
        try simp only [Act.put, List.setIfInBounds_toArray, List.set_cons_zero, List.set_cons_succ]
        refine wpAnyH_ready (rs := [17]) (by kernel_rfl) (by simp) ?_
        refine AllReadyH.cons (o := ?_) ?_ (fun K hK => ?_) ?_
        rotate_left
        (focus ((simp only [List.getElem?_toArray, List.getElem?_cons_succ, List.getElem?_cons_zero]); first | done | rfl))
        ·skip
         go_simp
         have HT17 := Lib.hid (HT13.out.mks (by unfold maxLen; omega))
         have hbn := HT17.out.bel
         refine hK.out _ _ (HSo.out _ hbn) (fun hHeld => ?_)
         generalize V13.alloc (.cells (madeCells #[.int .i64 0] N) 3) = V17 at HT17 hHeld hbn ⊢
         obtain ⟨g17, hg17⟩ : ∃ g17, V13.heap.size = g17 := ⟨_, rfl⟩
         rw [hg17] at HT17
         try rw [hg17]
         clear hg17 hK K hbn
         try simp only [Act.put, List.setIfInBounds_toArray, List.set_cons_zero, List.set_cons_succ]
         obtain ⟨cK, k1, k2, k3, k4, k5, k6, k7, hbld⟩ := tal_built D.cD HB.out.1.dm.sz 9 (some ⟨g5, 0, none⟩) (some ⟨g9, 0, none⟩) (some ⟨g13, 0, none⟩) (some ⟨g17, 0, none⟩) M N N N M N N N; (refine wpAnyH_take (i := 18) (oi := ?_) (v := .agg cK) ?_ (by kernel_rfl) (by kernel_rfl) (by kernel_rfl) ?_ (Or.inl ⟨?_, ?_⟩) (by assumption) ?_; rotate_left; (focus ((simp only [List.getElem?_toArray, List.getElem?_cons_succ, List.getElem?_cons_zero]); first | done | rfl)); (focus (exact fun _ _ _ h => h)); (focus rfl); (focus (intro wz hSw; exact exec_bld10 wz _ _ rfl (TlPs D.cD 9 (some ⟨g5, 0, none⟩) (some ⟨g9, 0, none⟩) (some ⟨g13, 0, none⟩) (some ⟨g17, 0, none⟩) M N N N M N N N) (by first | rfl | simp [Act.eval] | (simp; rfl)) _ (hbld wz))); try simp only [Act.put, List.setIfInBounds_toArray, List.set_cons_zero, List.set_cons_succ])
         refine wpAnyH_ready (rs := [19]) (by kernel_rfl) (by simp) ?_
         refine AllReadyH.cons (o := ?_) ?_ (fun K hK => ?_) ?_
         rotate_left
         (focus ((simp only [List.getElem?_toArray, List.getElem?_cons_succ, List.getElem?_cons_zero]); first | done | rfl))
         ·skip
          go_simp
          have HT := Lib.hid ((HT17.out.keep (al V17 (.cells cK 60))).tal (St.new V17 60 cK))
          refine hK.out _ _ (HSo.out _ HT.out.bel) (fun hHeld => ?_)
          clear hK K
          try simp only [Act.put, List.setIfInBounds_toArray, List.set_cons_zero, List.set_cons_succ]
          (refine wpAnyH_take (i := 20) (oi := ?_) (v := ?_) ?_ (by kernel_rfl) (by kernel_rfl) (by kernel_rfl) ?_ (Or.inl ⟨?_, ?_⟩) (by assumption) ?_; rotate_left 2; (focus ((simp only [List.getElem?_toArray, List.getElem?_cons_succ, List.getElem?_cons_zero]); first | done | rfl)); (focus (exact fun _ _ _ h => h)); (focus rfl); (focus (intro wz hSw; (try dsimp only at hSw); go_simp; first | done | with_reducible rfl)); try simp only [Act.put, List.setIfInBounds_toArray, List.set_cons_zero, List.set_cons_succ])
          refine wpAnyH_done (by kernel_rfl) ?_ _
          go_wp2_with fail
          go_meet
          exact ⟨_, cK, _, _, _, _, rfl, ⟨k2, k3, k4, k5, k6, k7⟩, HT.out⟩
         exact AllReadyH.nil
        exact AllReadyH.nil
       refine AllReadyH.cons (o := ?_) ?_ (fun K hK => ?_) ?_
       rotate_left
       (focus ((simp only [List.getElem?_toArray, List.getElem?_cons_succ, List.getElem?_cons_zero]); first | done | rfl))
       ·skip
        go_simp
        have HT17 := Lib.hid (HT5.out.mks (by unfold maxLen; omega))
        have hbn := HT17.out.bel
        refine hK.out _ _ (HSo.out _ hbn) (fun hHeld => ?_)
        generalize V5.alloc (.cells (madeCells #[.int .i64 0] N) 3) = V17 at HT17 hHeld hbn ⊢
        obtain ⟨g17, hg17⟩ : ∃ g17, V5.heap.size = g17 := ⟨_, rfl⟩
        rw [hg17] at HT17
        try rw [hg17]
        clear hg17 hK K hbn
        try simp only [Act.put, List.setIfInBounds_toArray, List.set_cons_zero, List.set_cons_succ]
        refine wpAnyH_ready (rs := [13]) (by kernel_rfl) (by simp) ?_
        refine AllReadyH.cons (o := ?_) ?_ (fun K hK => ?_) ?_
        rotate_left
        (focus ((simp only [List.getElem?_toArray, List.getElem?_cons_succ, List.getElem?_cons_zero]); first | done | rfl))
        ·skip
         go_simp
         have HT13 := Lib.hid (HT17.out.mkh (by unfold maxLen; omega))
         have hbn := HT13.out.bel
         refine hK.out _ _ (HSo.out _ hbn) (fun hHeld => ?_)
         generalize V17.alloc (.cells (madeCells #[.int .i64 0] N) 3) = V13 at HT13 hHeld hbn ⊢
         obtain ⟨g13, hg13⟩ : ∃ g13, V17.heap.size = g13 := ⟨_, rfl⟩
         rw [hg13] at HT13
         try rw [hg13]
         clear hg13 hK K hbn
         try simp only [Act.put, List.setIfInBounds_toArray, List.set_cons_zero, List.set_cons_succ]
         obtain ⟨cK, k1, k2, k3, k4, k5, k6, k7, hbld⟩ := tal_built D.cD HB.out.1.dm.sz 9 (some ⟨g5, 0, none⟩) (some ⟨g9, 0, none⟩) (some ⟨g13, 0, none⟩) (some ⟨g17, 0, none⟩) M N N N M N N N; (refine wpAnyH_take (i := 18) (oi := ?_) (v := .agg cK) ?_ (by kernel_rfl) (by kernel_rfl) (by kernel_rfl) ?_ (Or.inl ⟨?_, ?_⟩) (by assumption) ?_; rotate_left; (focus ((simp only [List.getElem?_toArray, List.getElem?_cons_succ, List.getElem?_cons_zero]); first | done | rfl)); (focus (exact fun _ _ _ h => h)); (focus rfl); (focus (intro wz hSw; exact exec_bld10 wz _ _ rfl (TlPs D.cD 9 (some ⟨g5, 0, none⟩) (some ⟨g9, 0, none⟩) (some ⟨g13, 0, none⟩) (some ⟨g17, 0, none⟩) M N N N M N N N) (by first | rfl | simp [Act.eval] | (simp; rfl)) _ (hbld wz))); try simp only [Act.put, List.setIfInBounds_toArray, List.set_cons_zero, List.set_cons_succ])
         refine wpAnyH_ready (rs := [19]) (by kernel_rfl) (by simp) ?_
         refine AllReadyH.cons (o := ?_) ?_ (fun K hK => ?_) ?_
         rotate_left
         (focus ((simp only [List.getElem?_toArray, List.getElem?_cons_succ, List.getElem?_cons_zero]); first | done | rfl))
         ·skip
          go_simp
          have HT := Lib.hid ((HT13.out.keep (al V13 (.cells cK 60))).tal (St.new V13 60 cK))
          refine hK.out _ _ (HSo.out _ HT.out.bel) (fun hHeld => ?_)
          clear hK K
          try simp only [Act.put, List.setIfInBounds_toArray, List.set_cons_zero, List.set_cons_succ]
          (refine wpAnyH_take (i := 20) (oi := ?_) (v := ?_) ?_ (by kernel_rfl) (by kernel_rfl) (by kernel_rfl) ?_ (Or.inl ⟨?_, ?_⟩) (by assumption) ?_; rotate_left 2; (focus ((simp only [List.getElem?_toArray, List.getElem?_cons_succ, List.getElem?_cons_zero]); first | done | rfl)); (focus (exact fun _ _ _ h => h)); (focus rfl); (focus (intro wz hSw; (try dsimp only at hSw); go_simp; first | done | with_reducible rfl)); try simp only [Act.put, List.setIfInBounds_toArray, List.set_cons_zero, List.set_cons_succ])
          refine wpAnyH_done (by kernel_rfl) ?_ _
          go_wp2_with fail
          go_meet
          exact ⟨_, cK, _, _, _, _, rfl, ⟨k2, k3, k4, k5, k6, k7⟩, HT.out⟩
         exact AllReadyH.nil
        exact AllReadyH.nil
       exact AllReadyH.nil
      refine AllReadyH.cons (o := ?_) ?_ (fun K hK => ?_) ?_
      rotate_left
      (focus ((simp only [List.getElem?_toArray, List.getElem?_cons_succ, List.getElem?_cons_zero]); first | done | rfl))
      ·skip
       go_simp
       have HT13 := Lib.hid (HT9.out.mkh (by unfold maxLen; omega))
       have hbn := HT13.out.bel
       refine hK.out _ _ (HSo.out _ hbn) (fun hHeld => ?_)
       generalize V9.alloc (.cells (madeCells #[.int .i64 0] N) 3) = V13 at HT13 hHeld hbn ⊢
       obtain ⟨g13, hg13⟩ : ∃ g13, V9.heap.size = g13 := ⟨_, rfl⟩
       rw [hg13] at HT13
       try rw [hg13]
       clear hg13 hK K hbn
       try simp only [Act.put, List.setIfInBounds_toArray, List.set_cons_zero, List.set_cons_succ]
       refine wpAnyH_ready (rs := [5, 17]) (by kernel_rfl) (by simp) ?_
       refine AllReadyH.cons (o := ?_) ?_ (fun K hK => ?_) ?_
       rotate_left
       (focus ((simp only [List.getElem?_toArray, List.getElem?_cons_succ, List.getElem?_cons_zero]); first | done | rfl))
       ·skip
        go_simp
        have HT5 := Lib.hid (HT13.out.mkz (by unfold maxLen; omega))
        have hbn := HT5.out.bel
        refine hK.out _ _ (HSo.out _ hbn) (fun hHeld => ?_)
        generalize V13.alloc (.cells (madeCells #[.int .i64 0] M) 3) = V5 at HT5 hHeld hbn ⊢
        obtain ⟨g5, hg5⟩ : ∃ g5, V13.heap.size = g5 := ⟨_, rfl⟩
        rw [hg5] at HT5
        try rw [hg5]
        clear hg5 hK K hbn
        try simp only [Act.put, List.setIfInBounds_toArray, List.set_cons_zero, List.set_cons_succ]
        refine wpAnyH_ready (rs := [17]) (by kernel_rfl) (by simp) ?_
        refine AllReadyH.cons (o := ?_) ?_ (fun K hK => ?_) ?_
        rotate_left
        (focus ((simp only [List.getElem?_toArray, List.getElem?_cons_succ, List.getElem?_cons_zero]); first | done | rfl))
        ·skip
         go_simp
         have HT17 := Lib.hid (HT5.out.mks (by unfold maxLen; omega))
         have hbn := HT17.out.bel
         refine hK.out _ _ (HSo.out _ hbn) (fun hHeld => ?_)
         generalize V5.alloc (.cells (madeCells #[.int .i64 0] N) 3) = V17 at HT17 hHeld hbn ⊢
         obtain ⟨g17, hg17⟩ : ∃ g17, V5.heap.size = g17 := ⟨_, rfl⟩
         rw [hg17] at HT17
         try rw [hg17]
         clear hg17 hK K hbn
         try simp only [Act.put, List.setIfInBounds_toArray, List.set_cons_zero, List.set_cons_succ]
         obtain ⟨cK, k1, k2, k3, k4, k5, k6, k7, hbld⟩ := tal_built D.cD HB.out.1.dm.sz 9 (some ⟨g5, 0, none⟩) (some ⟨g9, 0, none⟩) (some ⟨g13, 0, none⟩) (some ⟨g17, 0, none⟩) M N N N M N N N; (refine wpAnyH_take (i := 18) (oi := ?_) (v := .agg cK) ?_ (by kernel_rfl) (by kernel_rfl) (by kernel_rfl) ?_ (Or.inl ⟨?_, ?_⟩) (by assumption) ?_; rotate_left; (focus ((simp only [List.getElem?_toArray, List.getElem?_cons_succ, List.getElem?_cons_zero]); first | done | rfl)); (focus (exact fun _ _ _ h => h)); (focus rfl); (focus (intro wz hSw; exact exec_bld10 wz _ _ rfl (TlPs D.cD 9 (some ⟨g5, 0, none⟩) (some ⟨g9, 0, none⟩) (some ⟨g13, 0, none⟩) (some ⟨g17, 0, none⟩) M N N N M N N N) (by first | rfl | simp [Act.eval] | (simp; rfl)) _ (hbld wz))); try simp only [Act.put, List.setIfInBounds_toArray, List.set_cons_zero, List.set_cons_succ])
         refine wpAnyH_ready (rs := [19]) (by kernel_rfl) (by simp) ?_
         refine AllReadyH.cons (o := ?_) ?_ (fun K hK => ?_) ?_
         rotate_left
         (focus ((simp only [List.getElem?_toArray, List.getElem?_cons_succ, List.getElem?_cons_zero]); first | done | rfl))
         ·skip
          go_simp
          have HT := Lib.hid ((HT17.out.keep (al V17 (.cells cK 60))).tal (St.new V17 60 cK))
          refine hK.out _ _ (HSo.out _ HT.out.bel) (fun hHeld => ?_)
          clear hK K
          try simp only [Act.put, List.setIfInBounds_toArray, List.set_cons_zero, List.set_cons_succ]
          (refine wpAnyH_take (i := 20) (oi := ?_) (v := ?_) ?_ (by kernel_rfl) (by kernel_rfl) (by kernel_rfl) ?_ (Or.inl ⟨?_, ?_⟩) (by assumption) ?_; rotate_left 2; (focus ((simp only [List.getElem?_toArray, List.getElem?_cons_succ, List.getElem?_cons_zero]); first | done | rfl)); (focus (exact fun _ _ _ h => h)); (focus rfl); (focus (intro wz hSw; (try dsimp only at hSw); go_simp; first | done | with_reducible rfl)); try simp only [Act.put, List.setIfInBounds_toArray, List.set_cons_zero, List.set_cons_succ])
          refine wpAnyH_done (by kernel_rfl) ?_ _
          go_wp2_with fail
          go_meet
          exact ⟨_, cK, _, _, _, _, rfl, ⟨k2, k3, k4, k5, k6, k7⟩, HT.out⟩
         exact AllReadyH.nil
        exact AllReadyH.nil
       refine AllReadyH.cons (o := ?_) ?_ (fun K hK => ?_) ?_
       rotate_left
       (focus ((simp only [List.getElem?_toArray, List.getElem?_cons_succ, List.getElem?_cons_zero]); first | done | rfl))
       ·skip
        go_simp
        have HT17 := Lib.hid (HT13.out.mks (by unfold maxLen; omega))
        have hbn := HT17.out.bel
        refine hK.out _ _ (HSo.out _ hbn) (fun hHeld => ?_)
        generalize V13.alloc (.cells (madeCells #[.int .i64 0] N) 3) = V17 at HT17 hHeld hbn ⊢
        obtain ⟨g17, hg17⟩ : ∃ g17, V13.heap.size = g17 := ⟨_, rfl⟩
        rw [hg17] at HT17
        try rw [hg17]
        clear hg17 hK K hbn
        try simp only [Act.put, List.setIfInBounds_toArray, List.set_cons_zero, List.set_cons_succ]
        refine wpAnyH_ready (rs := [5]) (by kernel_rfl) (by simp) ?_
        refine AllReadyH.cons (o := ?_) ?_ (fun K hK => ?_) ?_
        rotate_left
        (focus ((simp only [List.getElem?_toArray, List.getElem?_cons_succ, List.getElem?_cons_zero]); first | done | rfl))
        ·skip
         go_simp
         have HT5 := Lib.hid (HT17.out.mkz (by unfold maxLen; omega))
         have hbn := HT5.out.bel
         refine hK.out _ _ (HSo.out _ hbn) (fun hHeld => ?_)
         generalize V17.alloc (.cells (madeCells #[.int .i64 0] M) 3) = V5 at HT5 hHeld hbn ⊢
         obtain ⟨g5, hg5⟩ : ∃ g5, V17.heap.size = g5 := ⟨_, rfl⟩
         rw [hg5] at HT5
         try rw [hg5]
         clear hg5 hK K hbn
         try simp only [Act.put, List.setIfInBounds_toArray, List.set_cons_zero, List.set_cons_succ]
         obtain ⟨cK, k1, k2, k3, k4, k5, k6, k7, hbld⟩ := tal_built D.cD HB.out.1.dm.sz 9 (some ⟨g5, 0, none⟩) (some ⟨g9, 0, none⟩) (some ⟨g13, 0, none⟩) (some ⟨g17, 0, none⟩) M N N N M N N N; (refine wpAnyH_take (i := 18) (oi := ?_) (v := .agg cK) ?_ (by kernel_rfl) (by kernel_rfl) (by kernel_rfl) ?_ (Or.inl ⟨?_, ?_⟩) (by assumption) ?_; rotate_left; (focus ((simp only [List.getElem?_toArray, List.getElem?_cons_succ, List.getElem?_cons_zero]); first | done | rfl)); (focus (exact fun _ _ _ h => h)); (focus rfl); (focus (intro wz hSw; exact exec_bld10 wz _ _ rfl (TlPs D.cD 9 (some ⟨g5, 0, none⟩) (some ⟨g9, 0, none⟩) (some ⟨g13, 0, none⟩) (some ⟨g17, 0, none⟩) M N N N M N N N) (by first | rfl | simp [Act.eval] | (simp; rfl)) _ (hbld wz))); try simp only [Act.put, List.setIfInBounds_toArray, List.set_cons_zero, List.set_cons_succ])
         refine wpAnyH_ready (rs := [19]) (by kernel_rfl) (by simp) ?_
         refine AllReadyH.cons (o := ?_) ?_ (fun K hK => ?_) ?_
         rotate_left
         (focus ((simp only [List.getElem?_toArray, List.getElem?_cons_succ, List.getElem?_cons_zero]); first | done | rfl))
         ·skip
          go_simp
          have HT := Lib.hid ((HT5.out.keep (al V5 (.cells cK 60))).tal (St.new V5 60 cK))
          refine hK.out _ _ (HSo.out _ HT.out.bel) (fun hHeld => ?_)
          clear hK K
          try simp only [Act.put, List.setIfInBounds_toArray, List.set_cons_zero, List.set_cons_succ]
          (refine wpAnyH_take (i := 20) (oi := ?_) (v := ?_) ?_ (by kernel_rfl) (by kernel_rfl) (by kernel_rfl) ?_ (Or.inl ⟨?_, ?_⟩) (by assumption) ?_; rotate_left 2; (focus ((simp only [List.getElem?_toArray, List.getElem?_cons_succ, List.getElem?_cons_zero]); first | done | rfl)); (focus (exact fun _ _ _ h => h)); (focus rfl); (focus (intro wz hSw; (try dsimp only at hSw); go_simp; first | done | with_reducible rfl)); try simp only [Act.put, List.setIfInBounds_toArray, List.set_cons_zero, List.set_cons_succ])
          refine wpAnyH_done (by kernel_rfl) ?_ _
          go_wp2_with fail
          go_meet
          exact ⟨_, cK, _, _, _, _, rfl, ⟨k2, k3, k4, k5, k6, k7⟩, HT.out⟩
         exact AllReadyH.nil
        exact AllReadyH.nil
       exact AllReadyH.nil
      refine AllReadyH.cons (o := ?_) ?_ (fun K hK => ?_) ?_
      rotate_left
      (focus ((simp only [List.getElem?_toArray, List.getElem?_cons_succ, List.getElem?_cons_zero]); first | done | rfl))
      ·skip
       go_simp
       have HT17 := Lib.hid (HT9.out.mks (by unfold maxLen; omega))
       have hbn := HT17.out.bel
       refine hK.out _ _ (HSo.out _ hbn) (fun hHeld => ?_)
       generalize V9.alloc (.cells (madeCells #[.int .i64 0] N) 3) = V17 at HT17 hHeld hbn ⊢
       obtain ⟨g17, hg17⟩ : ∃ g17, V9.heap.size = g17 := ⟨_, rfl⟩
       rw [hg17] at HT17
       try rw [hg17]
       clear hg17 hK K hbn
       try simp only [Act.put, List.setIfInBounds_toArray, List.set_cons_zero, List.set_cons_succ]
       refine wpAnyH_ready (rs := [5, 13]) (by kernel_rfl) (by simp) ?_
       refine AllReadyH.cons (o := ?_) ?_ (fun K hK => ?_) ?_
       rotate_left
       (focus ((simp only [List.getElem?_toArray, List.getElem?_cons_succ, List.getElem?_cons_zero]); first | done | rfl))
       ·skip
        go_simp
        have HT5 := Lib.hid (HT17.out.mkz (by unfold maxLen; omega))
        have hbn := HT5.out.bel
        refine hK.out _ _ (HSo.out _ hbn) (fun hHeld => ?_)
        generalize V17.alloc (.cells (madeCells #[.int .i64 0] M) 3) = V5 at HT5 hHeld hbn ⊢
        obtain ⟨g5, hg5⟩ : ∃ g5, V17.heap.size = g5 := ⟨_, rfl⟩
        rw [hg5] at HT5
        try rw [hg5]
        clear hg5 hK K hbn
        try simp only [Act.put, List.setIfInBounds_toArray, List.set_cons_zero, List.set_cons_succ]
        refine wpAnyH_ready (rs := [13]) (by kernel_rfl) (by simp) ?_
        refine AllReadyH.cons (o := ?_) ?_ (fun K hK => ?_) ?_
        rotate_left
        (focus ((simp only [List.getElem?_toArray, List.getElem?_cons_succ, List.getElem?_cons_zero]); first | done | rfl))
        ·skip
         go_simp
         have HT13 := Lib.hid (HT5.out.mkh (by unfold maxLen; omega))
         have hbn := HT13.out.bel
         refine hK.out _ _ (HSo.out _ hbn) (fun hHeld => ?_)
         generalize V5.alloc (.cells (madeCells #[.int .i64 0] N) 3) = V13 at HT13 hHeld hbn ⊢
         obtain ⟨g13, hg13⟩ : ∃ g13, V5.heap.size = g13 := ⟨_, rfl⟩
         rw [hg13] at HT13
         try rw [hg13]
         clear hg13 hK K hbn
         try simp only [Act.put, List.setIfInBounds_toArray, List.set_cons_zero, List.set_cons_succ]
         obtain ⟨cK, k1, k2, k3, k4, k5, k6, k7, hbld⟩ := tal_built D.cD HB.out.1.dm.sz 9 (some ⟨g5, 0, none⟩) (some ⟨g9, 0, none⟩) (some ⟨g13, 0, none⟩) (some ⟨g17, 0, none⟩) M N N N M N N N; (refine wpAnyH_take (i := 18) (oi := ?_) (v := .agg cK) ?_ (by kernel_rfl) (by kernel_rfl) (by kernel_rfl) ?_ (Or.inl ⟨?_, ?_⟩) (by assumption) ?_; rotate_left; (focus ((simp only [List.getElem?_toArray, List.getElem?_cons_succ, List.getElem?_cons_zero]); first | done | rfl)); (focus (exact fun _ _ _ h => h)); (focus rfl); (focus (intro wz hSw; exact exec_bld10 wz _ _ rfl (TlPs D.cD 9 (some ⟨g5, 0, none⟩) (some ⟨g9, 0, none⟩) (some ⟨g13, 0, none⟩) (some ⟨g17, 0, none⟩) M N N N M N N N) (by first | rfl | simp [Act.eval] | (simp; rfl)) _ (hbld wz))); try simp only [Act.put, List.setIfInBounds_toArray, List.set_cons_zero, List.set_cons_succ])
         refine wpAnyH_ready (rs := [19]) (by kernel_rfl) (by simp) ?_
         refine AllReadyH.cons (o := ?_) ?_ (fun K hK => ?_) ?_
         rotate_left
         (focus ((simp only [List.getElem?_toArray, List.getElem?_cons_succ, List.getElem?_cons_zero]); first | done | rfl))
         ·skip
          go_simp
          have HT := Lib.hid ((HT13.out.keep (al V13 (.cells cK 60))).tal (St.new V13 60 cK))
          refine hK.out _ _ (HSo.out _ HT.out.bel) (fun hHeld => ?_)
          clear hK K
          try simp only [Act.put, List.setIfInBounds_toArray, List.set_cons_zero, List.set_cons_succ]
          (refine wpAnyH_take (i := 20) (oi := ?_) (v := ?_) ?_ (by kernel_rfl) (by kernel_rfl) (by kernel_rfl) ?_ (Or.inl ⟨?_, ?_⟩) (by assumption) ?_; rotate_left 2; (focus ((simp only [List.getElem?_toArray, List.getElem?_cons_succ, List.getElem?_cons_zero]); first | done | rfl)); (focus (exact fun _ _ _ h => h)); (focus rfl); (focus (intro wz hSw; (try dsimp only at hSw); go_simp; first | done | with_reducible rfl)); try simp only [Act.put, List.setIfInBounds_toArray, List.set_cons_zero, List.set_cons_succ])
          refine wpAnyH_done (by kernel_rfl) ?_ _
          go_wp2_with fail
          go_meet
          exact ⟨_, cK, _, _, _, _, rfl, ⟨k2, k3, k4, k5, k6, k7⟩, HT.out⟩
         exact AllReadyH.nil
        exact AllReadyH.nil
       refine AllReadyH.cons (o := ?_) ?_ (fun K hK => ?_) ?_
       rotate_left
       (focus ((simp only [List.getElem?_toArray, List.getElem?_cons_succ, List.getElem?_cons_zero]); first | done | rfl))
       ·skip
        go_simp
        have HT13 := Lib.hid (HT17.out.mkh (by unfold maxLen; omega))
        have hbn := HT13.out.bel
        refine hK.out _ _ (HSo.out _ hbn) (fun hHeld => ?_)
        generalize V17.alloc (.cells (madeCells #[.int .i64 0] N) 3) = V13 at HT13 hHeld hbn ⊢
        obtain ⟨g13, hg13⟩ : ∃ g13, V17.heap.size = g13 := ⟨_, rfl⟩
        rw [hg13] at HT13
        try rw [hg13]
        clear hg13 hK K hbn
        try simp only [Act.put, List.setIfInBounds_toArray, List.set_cons_zero, List.set_cons_succ]
        refine wpAnyH_ready (rs := [5]) (by kernel_rfl) (by simp) ?_
        refine AllReadyH.cons (o := ?_) ?_ (fun K hK => ?_) ?_
        rotate_left
        (focus ((simp only [List.getElem?_toArray, List.getElem?_cons_succ, List.getElem?_cons_zero]); first | done | rfl))
        ·skip
         go_simp
         have HT5 := Lib.hid (HT13.out.mkz (by unfold maxLen; omega))
         have hbn := HT5.out.bel
         refine hK.out _ _ (HSo.out _ hbn) (fun hHeld => ?_)
         generalize V13.alloc (.cells (madeCells #[.int .i64 0] M) 3) = V5 at HT5 hHeld hbn ⊢
         obtain ⟨g5, hg5⟩ : ∃ g5, V13.heap.size = g5 := ⟨_, rfl⟩
         rw [hg5] at HT5
         try rw [hg5]
         clear hg5 hK K hbn
         try simp only [Act.put, List.setIfInBounds_toArray, List.set_cons_zero, List.set_cons_succ]
         obtain ⟨cK, k1, k2, k3, k4, k5, k6, k7, hbld⟩ := tal_built D.cD HB.out.1.dm.sz 9 (some ⟨g5, 0, none⟩) (some ⟨g9, 0, none⟩) (some ⟨g13, 0, none⟩) (some ⟨g17, 0, none⟩) M N N N M N N N; (refine wpAnyH_take (i := 18) (oi := ?_) (v := .agg cK) ?_ (by kernel_rfl) (by kernel_rfl) (by kernel_rfl) ?_ (Or.inl ⟨?_, ?_⟩) (by assumption) ?_; rotate_left; (focus ((simp only [List.getElem?_toArray, List.getElem?_cons_succ, List.getElem?_cons_zero]); first | done | rfl)); (focus (exact fun _ _ _ h => h)); (focus rfl); (focus (intro wz hSw; exact exec_bld10 wz _ _ rfl (TlPs D.cD 9 (some ⟨g5, 0, none⟩) (some ⟨g9, 0, none⟩) (some ⟨g13, 0, none⟩) (some ⟨g17, 0, none⟩) M N N N M N N N) (by first | rfl | simp [Act.eval] | (simp; rfl)) _ (hbld wz))); try simp only [Act.put, List.setIfInBounds_toArray, List.set_cons_zero, List.set_cons_succ])
         refine wpAnyH_ready (rs := [19]) (by kernel_rfl) (by simp) ?_
         refine AllReadyH.cons (o := ?_) ?_ (fun K hK => ?_) ?_
         rotate_left
         (focus ((simp only [List.getElem?_toArray, List.getElem?_cons_succ, List.getElem?_cons_zero]); first | done | rfl))
         ·skip
          go_simp
          have HT := Lib.hid ((HT5.out.keep (al V5 (.cells cK 60))).tal (St.new V5 60 cK))
          refine hK.out _ _ (HSo.out _ HT.out.bel) (fun hHeld => ?_)
          clear hK K
          try simp only [Act.put, List.setIfInBounds_toArray, List.set_cons_zero, List.set_cons_succ]
          (refine wpAnyH_take (i := 20) (oi := ?_) (v := ?_) ?_ (by kernel_rfl) (by kernel_rfl) (by kernel_rfl) ?_ (Or.inl ⟨?_, ?_⟩) (by assumption) ?_; rotate_left 2; (focus ((simp only [List.getElem?_toArray, List.getElem?_cons_succ, List.getElem?_cons_zero]); first | done | rfl)); (focus (exact fun _ _ _ h => h)); (focus rfl); (focus (intro wz hSw; (try dsimp only at hSw); go_simp; first | done | with_reducible rfl)); try simp only [Act.put, List.setIfInBounds_toArray, List.set_cons_zero, List.set_cons_succ])
          refine wpAnyH_done (by kernel_rfl) ?_ _
          go_wp2_with fail
          go_meet
          exact ⟨_, cK, _, _, _, _, rfl, ⟨k2, k3, k4, k5, k6, k7⟩, HT.out⟩
         exact AllReadyH.nil
        exact AllReadyH.nil
       exact AllReadyH.nil
      exact AllReadyH.nil
     refine AllReadyH.cons (o := ?_) ?_ (fun K hK => ?_) ?_
     rotate_left
     (focus ((simp only [List.getElem?_toArray, List.getElem?_cons_succ, List.getElem?_cons_zero]); first | done | rfl))
     ·skip
      go_simp
      have HT13 := Lib.hid (HT4.out.mkh (by unfold maxLen; omega))
      have hbn := HT13.out.bel
      refine hK.out _ _ (HSo.out _ hbn) (fun hHeld => ?_)
      generalize V4.alloc (.cells (madeCells #[.int .i64 0] N) 3) = V13 at HT13 hHeld hbn ⊢
      obtain ⟨g13, hg13⟩ : ∃ g13, V4.heap.size = g13 := ⟨_, rfl⟩
      rw [hg13] at HT13
      try rw [hg13]
      clear hg13 hK K hbn
      try simp only [Act.put, List.setIfInBounds_toArray, List.set_cons_zero, List.set_cons_succ]
      refine wpAnyH_ready (rs := [5, 9, 17]) (by kernel_rfl) (by simp) ?_
      refine AllReadyH.cons (o := ?_) ?_ (fun K hK => ?_) ?_
      rotate_left
      (focus ((simp only [List.getElem?_toArray, List.getElem?_cons_succ, List.getElem?_cons_zero]); first | done | rfl))
      ·skip
       go_simp
       have HT5 := Lib.hid (HT13.out.mkz (by unfold maxLen; omega))
       have hbn := HT5.out.bel
       refine hK.out _ _ (HSo.out _ hbn) (fun hHeld => ?_)
       generalize V13.alloc (.cells (madeCells #[.int .i64 0] M) 3) = V5 at HT5 hHeld hbn ⊢
       obtain ⟨g5, hg5⟩ : ∃ g5, V13.heap.size = g5 := ⟨_, rfl⟩
       rw [hg5] at HT5
       try rw [hg5]
       clear hg5 hK K hbn
       try simp only [Act.put, List.setIfInBounds_toArray, List.set_cons_zero, List.set_cons_succ]
       refine wpAnyH_ready (rs := [9, 17]) (by kernel_rfl) (by simp) ?_
       refine AllReadyH.cons (o := ?_) ?_ (fun K hK => ?_) ?_
       rotate_left
       (focus ((simp only [List.getElem?_toArray, List.getElem?_cons_succ, List.getElem?_cons_zero]); first | done | rfl))
       ·skip
        go_simp
        have HT9 := Lib.hid (HT5.out.mkc (by unfold maxLen; omega))
        have hbn := HT9.out.bel
        refine hK.out _ _ (HSo.out _ hbn) (fun hHeld => ?_)
        generalize V5.alloc (.cells (madeCells #[.int .i64 0] N) 3) = V9 at HT9 hHeld hbn ⊢
        obtain ⟨g9, hg9⟩ : ∃ g9, V5.heap.size = g9 := ⟨_, rfl⟩
        rw [hg9] at HT9
        try rw [hg9]
        clear hg9 hK K hbn
        try simp only [Act.put, List.setIfInBounds_toArray, List.set_cons_zero, List.set_cons_succ]
        refine wpAnyH_ready (rs := [17]) (by kernel_rfl) (by simp) ?_
        refine AllReadyH.cons (o := ?_) ?_ (fun K hK => ?_) ?_
        rotate_left
        (focus ((simp only [List.getElem?_toArray, List.getElem?_cons_succ, List.getElem?_cons_zero]); first | done | rfl))
        ·skip
         go_simp
         have HT17 := Lib.hid (HT9.out.mks (by unfold maxLen; omega))
         have hbn := HT17.out.bel
         refine hK.out _ _ (HSo.out _ hbn) (fun hHeld => ?_)
         generalize V9.alloc (.cells (madeCells #[.int .i64 0] N) 3) = V17 at HT17 hHeld hbn ⊢
         obtain ⟨g17, hg17⟩ : ∃ g17, V9.heap.size = g17 := ⟨_, rfl⟩
         rw [hg17] at HT17
         try rw [hg17]
         clear hg17 hK K hbn
         try simp only [Act.put, List.setIfInBounds_toArray, List.set_cons_zero, List.set_cons_succ]
         obtain ⟨cK, k1, k2, k3, k4, k5, k6, k7, hbld⟩ := tal_built D.cD HB.out.1.dm.sz 9 (some ⟨g5, 0, none⟩) (some ⟨g9, 0, none⟩) (some ⟨g13, 0, none⟩) (some ⟨g17, 0, none⟩) M N N N M N N N; (refine wpAnyH_take (i := 18) (oi := ?_) (v := .agg cK) ?_ (by kernel_rfl) (by kernel_rfl) (by kernel_rfl) ?_ (Or.inl ⟨?_, ?_⟩) (by assumption) ?_; rotate_left; (focus ((simp only [List.getElem?_toArray, List.getElem?_cons_succ, List.getElem?_cons_zero]); first | done | rfl)); (focus (exact fun _ _ _ h => h)); (focus rfl); (focus (intro wz hSw; exact exec_bld10 wz _ _ rfl (TlPs D.cD 9 (some ⟨g5, 0, none⟩) (some ⟨g9, 0, none⟩) (some ⟨g13, 0, none⟩) (some ⟨g17, 0, none⟩) M N N N M N N N) (by first | rfl | simp [Act.eval] | (simp; rfl)) _ (hbld wz))); try simp only [Act.put, List.setIfInBounds_toArray, List.set_cons_zero, List.set_cons_succ])
         refine wpAnyH_ready (rs := [19]) (by kernel_rfl) (by simp) ?_
         refine AllReadyH.cons (o := ?_) ?_ (fun K hK => ?_) ?_
         rotate_left
         (focus ((simp only [List.getElem?_toArray, List.getElem?_cons_succ, List.getElem?_cons_zero]); first | done | rfl))
         ·skip
          go_simp
          have HT := Lib.hid ((HT17.out.keep (al V17 (.cells cK 60))).tal (St.new V17 60 cK))
          refine hK.out _ _ (HSo.out _ HT.out.bel) (fun hHeld => ?_)
          clear hK K
          try simp only [Act.put, List.setIfInBounds_toArray, List.set_cons_zero, List.set_cons_succ]
          (refine wpAnyH_take (i := 20) (oi := ?_) (v := ?_) ?_ (by kernel_rfl) (by kernel_rfl) (by kernel_rfl) ?_ (Or.inl ⟨?_, ?_⟩) (by assumption) ?_; rotate_left 2; (focus ((simp only [List.getElem?_toArray, List.getElem?_cons_succ, List.getElem?_cons_zero]); first | done | rfl)); (focus (exact fun _ _ _ h => h)); (focus rfl); (focus (intro wz hSw; (try dsimp only at hSw); go_simp; first | done | with_reducible rfl)); try simp only [Act.put, List.setIfInBounds_toArray, List.set_cons_zero, List.set_cons_succ])
          refine wpAnyH_done (by kernel_rfl) ?_ _
          go_wp2_with fail
          go_meet
          exact ⟨_, cK, _, _, _, _, rfl, ⟨k2, k3, k4, k5, k6, k7⟩, HT.out⟩
         exact AllReadyH.nil
        exact AllReadyH.nil
       refine AllReadyH.cons (o := ?_) ?_ (fun K hK => ?_) ?_
       rotate_left
       (focus ((simp only [List.getElem?_toArray, List.getElem?_cons_succ, List.getElem?_cons_zero]); first | done | rfl))
       ·skip
        go_simp
        have HT17 := Lib.hid (HT5.out.mks (by unfold maxLen; omega))
        have hbn := HT17.out.bel
        refine hK.out _ _ (HSo.out _ hbn) (fun hHeld => ?_)
        generalize V5.alloc (.cells (madeCells #[.int .i64 0] N) 3) = V17 at HT17 hHeld hbn ⊢
        obtain ⟨g17, hg17⟩ : ∃ g17, V5.heap.size = g17 := ⟨_, rfl⟩
        rw [hg17] at HT17
        try rw [hg17]
        clear hg17 hK K hbn
        try simp only [Act.put, List.setIfInBounds_toArray, List.set_cons_zero, List.set_cons_succ]
        refine wpAnyH_ready (rs := [9]) (by kernel_rfl) (by simp) ?_
        refine AllReadyH.cons (o := ?_) ?_ (fun K hK => ?_) ?_
        rotate_left
        (focus ((simp only [List.getElem?_toArray, List.getElem?_cons_succ, List.getElem?_cons_zero]); first | done | rfl))
        ·skip
         go_simp
         have HT9 := Lib.hid (HT17.out.mkc (by unfold maxLen; omega))
         have hbn := HT9.out.bel
         refine hK.out _ _ (HSo.out _ hbn) (fun hHeld => ?_)
         generalize V17.alloc (.cells (madeCells #[.int .i64 0] N) 3) = V9 at HT9 hHeld hbn ⊢
         obtain ⟨g9, hg9⟩ : ∃ g9, V17.heap.size = g9 := ⟨_, rfl⟩
         rw [hg9] at HT9
         try rw [hg9]
         clear hg9 hK K hbn
         try simp only [Act.put, List.setIfInBounds_toArray, List.set_cons_zero, List.set_cons_succ]
         obtain ⟨cK, k1, k2, k3, k4, k5, k6, k7, hbld⟩ := tal_built D.cD HB.out.1.dm.sz 9 (some ⟨g5, 0, none⟩) (some ⟨g9, 0, none⟩) (some ⟨g13, 0, none⟩) (some ⟨g17, 0, none⟩) M N N N M N N N; (refine wpAnyH_take (i := 18) (oi := ?_) (v := .agg cK) ?_ (by kernel_rfl) (by kernel_rfl) (by kernel_rfl) ?_ (Or.inl ⟨?_, ?_⟩) (by assumption) ?_; rotate_left; (focus ((simp only [List.getElem?_toArray, List.getElem?_cons_succ, List.getElem?_cons_zero]); first | done | rfl)); (focus (exact fun _ _ _ h => h)); (focus rfl); (focus (intro wz hSw; exact exec_bld10 wz _ _ rfl (TlPs D.cD 9 (some ⟨g5, 0, none⟩) (some ⟨g9, 0, none⟩) (some ⟨g13, 0, none⟩) (some ⟨g17, 0, none⟩) M N N N M N N N) (by first | rfl | simp [Act.eval] | (simp; rfl)) _ (hbld wz))); try simp only [Act.put, List.setIfInBounds_toArray, List.set_cons_zero, List.set_cons_succ])
         refine wpAnyH_ready (rs := [19]) (by kernel_rfl) (by simp) ?_
         refine AllReadyH.cons (o := ?_) ?_ (fun K hK => ?_) ?_
         rotate_left
         (focus ((simp only [List.getElem?_toArray, List.getElem?_cons_succ, List.getElem?_cons_zero]); first | done | rfl))
         ·skip
          go_simp
          have HT := Lib.hid ((HT9.out.keep (al V9 (.cells cK 60))).tal (St.new V9 60 cK))
          refine hK.out _ _ (HSo.out _ HT.out.bel) (fun hHeld => ?_)
          clear hK K
          try simp only [Act.put, List.setIfInBounds_toArray, List.set_cons_zero, List.set_cons_succ]
          (refine wpAnyH_take (i := 20) (oi := ?_) (v := ?_) ?_ (by kernel_rfl) (by kernel_rfl) (by kernel_rfl) ?_ (Or.inl ⟨?_, ?_⟩) (by assumption) ?_; rotate_left 2; (focus ((simp only [List.getElem?_toArray, List.getElem?_cons_succ, List.getElem?_cons_zero]); first | done | rfl)); (focus (exact fun _ _ _ h => h)); (focus rfl); (focus (intro wz hSw; (try dsimp only at hSw); go_simp; first | done | with_reducible rfl)); try simp only [Act.put, List.setIfInBounds_toArray, List.set_cons_zero, List.set_cons_succ])
          refine wpAnyH_done (by kernel_rfl) ?_ _
          go_wp2_with fail
          go_meet
          exact ⟨_, cK, _, _, _, _, rfl, ⟨k2, k3, k4, k5, k6, k7⟩, HT.out⟩
         exact AllReadyH.nil
        exact AllReadyH.nil
       exact AllReadyH.nil
      refine AllReadyH.cons (o := ?_) ?_ (fun K hK => ?_) ?_
      rotate_left
      (focus ((simp only [List.getElem?_toArray, List.getElem?_cons_succ, List.getElem?_cons_zero]); first | done | rfl))
      ·skip
       go_simp
       have HT9 := Lib.hid (HT13.out.mkc (by unfold maxLen; omega))
       have hbn := HT9.out.bel
       refine hK.out _ _ (HSo.out _ hbn) (fun hHeld => ?_)
       generalize V13.alloc (.cells (madeCells #[.int .i64 0] N) 3) = V9 at HT9 hHeld hbn ⊢
       obtain ⟨g9, hg9⟩ : ∃ g9, V13.heap.size = g9 := ⟨_, rfl⟩
       rw [hg9] at HT9
       try rw [hg9]
       clear hg9 hK K hbn
       try simp only [Act.put, List.setIfInBounds_toArray, List.set_cons_zero, List.set_cons_succ]
       refine wpAnyH_ready (rs := [5, 17]) (by kernel_rfl) (by simp) ?_
       refine AllReadyH.cons (o := ?_) ?_ (fun K hK => ?_) ?_
       rotate_left
       (focus ((simp only [List.getElem?_toArray, List.getElem?_cons_succ, List.getElem?_cons_zero]); first | done | rfl))
       ·skip
        go_simp
        have HT5 := Lib.hid (HT9.out.mkz (by unfold maxLen; omega))
        have hbn := HT5.out.bel
        refine hK.out _ _ (HSo.out _ hbn) (fun hHeld => ?_)
        generalize V9.alloc (.cells (madeCells #[.int .i64 0] M) 3) = V5 at HT5 hHeld hbn ⊢
        obtain ⟨g5, hg5⟩ : ∃ g5, V9.heap.size = g5 := ⟨_, rfl⟩
        rw [hg5] at HT5
        try rw [hg5]
        clear hg5 hK K hbn
        try simp only [Act.put, List.setIfInBounds_toArray, List.set_cons_zero, List.set_cons_succ]
        refine wpAnyH_ready (rs := [17]) (by kernel_rfl) (by simp) ?_
        refine AllReadyH.cons (o := ?_) ?_ (fun K hK => ?_) ?_
        rotate_left
        (focus ((simp only [List.getElem?_toArray, List.getElem?_cons_succ, List.getElem?_cons_zero]); first | done | rfl))
        ·skip
         go_simp
         have HT17 := Lib.hid (HT5.out.mks (by unfold maxLen; omega))
         have hbn := HT17.out.bel
         refine hK.out _ _ (HSo.out _ hbn) (fun hHeld => ?_)
         generalize V5.alloc (.cells (madeCells #[.int .i64 0] N) 3) = V17 at HT17 hHeld hbn ⊢
         obtain ⟨g17, hg17⟩ : ∃ g17, V5.heap.size = g17 := ⟨_, rfl⟩
         rw [hg17] at HT17
         try rw [hg17]
         clear hg17 hK K hbn
         try simp only [Act.put, List.setIfInBounds_toArray, List.set_cons_zero, List.set_cons_succ]
         obtain ⟨cK, k1, k2, k3, k4, k5, k6, k7, hbld⟩ := tal_built D.cD HB.out.1.dm.sz 9 (some ⟨g5, 0, none⟩) (some ⟨g9, 0, none⟩) (some ⟨g13, 0, none⟩) (some ⟨g17, 0, none⟩) M N N N M N N N; (refine wpAnyH_take (i := 18) (oi := ?_) (v := .agg cK) ?_ (by kernel_rfl) (by kernel_rfl) (by kernel_rfl) ?_ (Or.inl ⟨?_, ?_⟩) (by assumption) ?_; rotate_left; (focus ((simp only [List.getElem?_toArray, List.getElem?_cons_succ, List.getElem?_cons_zero]); first | done | rfl)); (focus (exact fun _ _ _ h => h)); (focus rfl); (focus (intro wz hSw; exact exec_bld10 wz _ _ rfl (TlPs D.cD 9 (some ⟨g5, 0, none⟩) (some ⟨g9, 0, none⟩) (some ⟨g13, 0, none⟩) (some ⟨g17, 0, none⟩) M N N N M N N N) (by first | rfl | simp [Act.eval] | (simp; rfl)) _ (hbld wz))); try simp only [Act.put, List.setIfInBounds_toArray, List.set_cons_zero, List.set_cons_succ])
         refine wpAnyH_ready (rs := [19]) (by kernel_rfl) (by simp) ?_
         refine AllReadyH.cons (o := ?_) ?_ (fun K hK => ?_) ?_
         rotate_left
         (focus ((simp only [List.getElem?_toArray, List.getElem?_cons_succ, List.getElem?_cons_zero]); first | done | rfl))
         ·skip
          go_simp
          have HT := Lib.hid ((HT17.out.keep (al V17 (.cells cK 60))).tal (St.new V17 60 cK))
          refine hK.out _ _ (HSo.out _ HT.out.bel) (fun hHeld => ?_)
          clear hK K
          try simp only [Act.put, List.setIfInBounds_toArray, List.set_cons_zero, List.set_cons_succ]
          (refine wpAnyH_take (i := 20) (oi := ?_) (v := ?_) ?_ (by kernel_rfl) (by kernel_rfl) (by kernel_rfl) ?_ (Or.inl ⟨?_, ?_⟩) (by assumption) ?_; rotate_left 2; (focus ((simp only [List.getElem?_toArray, List.getElem?_cons_succ, List.getElem?_cons_zero]); first | done | rfl)); (focus (exact fun _ _ _ h => h)); (focus rfl); (focus (intro wz hSw; (try dsimp only at hSw); go_simp; first | done | with_reducible rfl)); try simp only [Act.put, List.setIfInBounds_toArray, List.set_cons_zero, List.set_cons_succ])
          refine wpAnyH_done (by kernel_rfl) ?_ _
          go_wp2_with fail
          go_meet
          exact ⟨_, cK, _, _, _, _, rfl, ⟨k2, k3, k4, k5, k6, k7⟩, HT.out⟩
         exact AllReadyH.nil
        exact AllReadyH.nil
       refine AllReadyH.cons (o := ?_) ?_ (fun K hK => ?_) ?_
       rotate_left
       (focus ((simp only [List.getElem?_toArray, List.getElem?_cons_succ, List.getElem?_cons_zero]); first | done | rfl))
       ·skip
        go_simp
        have HT17 := Lib.hid (HT9.out.mks (by unfold maxLen; omega))
        have hbn := HT17.out.bel
        refine hK.out _ _ (HSo.out _ hbn) (fun hHeld => ?_)
        generalize V9.alloc (.cells (madeCells #[.int .i64 0] N) 3) = V17 at HT17 hHeld hbn ⊢
        obtain ⟨g17, hg17⟩ : ∃ g17, V9.heap.size = g17 := ⟨_, rfl⟩
        rw [hg17] at HT17
        try rw [hg17]
        clear hg17 hK K hbn
        try simp only [Act.put, List.setIfInBounds_toArray, List.set_cons_zero, List.set_cons_succ]
        refine wpAnyH_ready (rs := [5]) (by kernel_rfl) (by simp) ?_
        refine AllReadyH.cons (o := ?_) ?_ (fun K hK => ?_) ?_
        rotate_left
        (focus ((simp only [List.getElem?_toArray, List.getElem?_cons_succ, List.getElem?_cons_zero]); first | done | rfl))
        ·skip
         go_simp
         have HT5 := Lib.hid (HT17.out.mkz (by unfold maxLen; omega))
         have hbn := HT5.out.bel
         refine hK.out _ _ (HSo.out _ hbn) (fun hHeld => ?_)
         generalize V17.alloc (.cells (madeCells #[.int .i64 0] M) 3) = V5 at HT5 hHeld hbn ⊢
         obtain ⟨g5, hg5⟩ : ∃ g5, V17.heap.size = g5 := ⟨_, rfl⟩
         rw [hg5] at HT5
         try rw [hg5]
         clear hg5 hK K hbn
         try simp only [Act.put, List.setIfInBounds_toArray, List.set_cons_zero, List.set_cons_succ]
         obtain ⟨cK, k1, k2, k3, k4, k5, k6, k7, hbld⟩ := tal_built D.cD HB.out.1.dm.sz 9 (some ⟨g5, 0, none⟩) (some ⟨g9, 0, none⟩) (some ⟨g13, 0, none⟩) (some ⟨g17, 0, none⟩) M N N N M N N N; (refine wpAnyH_take (i := 18) (oi := ?_) (v := .agg cK) ?_ (by kernel_rfl) (by kernel_rfl) (by kernel_rfl) ?_ (Or.inl ⟨?_, ?_⟩) (by assumption) ?_; rotate_left; (focus ((simp only [List.getElem?_toArray, List.getElem?_cons_succ, List.getElem?_cons_zero]); first | done | rfl)); (focus (exact fun _ _ _ h => h)); (focus rfl); (focus (intro wz hSw; exact exec_bld10 wz _ _ rfl (TlPs D.cD 9 (some ⟨g5, 0, none⟩) (some ⟨g9, 0, none⟩) (some ⟨g13, 0, none⟩) (some ⟨g17, 0, none⟩) M N N N M N N N) (by first | rfl | simp [Act.eval] | (simp; rfl)) _ (hbld wz))); try simp only [Act.put, List.setIfInBounds_toArray, List.set_cons_zero, List.set_cons_succ])
         refine wpAnyH_ready (rs := [19]) (by kernel_rfl) (by simp) ?_
         refine AllReadyH.cons (o := ?_) ?_ (fun K hK => ?_) ?_
         rotate_left
         (focus ((simp only [List.getElem?_toArray, List.getElem?_cons_succ, List.getElem?_cons_zero]); first | done | rfl))
         ·skip
          go_simp
          have HT := Lib.hid ((HT5.out.keep (al V5 (.cells cK 60))).tal (St.new V5 60 cK))
          refine hK.out _ _ (HSo.out _ HT.out.bel) (fun hHeld => ?_)
          clear hK K
          try simp only [Act.put, List.setIfInBounds_toArray, List.set_cons_zero, List.set_cons_succ]
          (refine wpAnyH_take (i := 20) (oi := ?_) (v := ?_) ?_ (by kernel_rfl) (by kernel_rfl) (by kernel_rfl) ?_ (Or.inl ⟨?_, ?_⟩) (by assumption) ?_; rotate_left 2; (focus ((simp only [List.getElem?_toArray, List.getElem?_cons_succ, List.getElem?_cons_zero]); first | done | rfl)); (focus (exact fun _ _ _ h => h)); (focus rfl); (focus (intro wz hSw; (try dsimp only at hSw); go_simp; first | done | with_reducible rfl)); try simp only [Act.put, List.setIfInBounds_toArray, List.set_cons_zero, List.set_cons_succ])
          refine wpAnyH_done (by kernel_rfl) ?_ _
          go_wp2_with fail
          go_meet
          exact ⟨_, cK, _, _, _, _, rfl, ⟨k2, k3, k4, k5, k6, k7⟩, HT.out⟩
         exact AllReadyH.nil
        exact AllReadyH.nil
       exact AllReadyH.nil
      refine AllReadyH.cons (o := ?_) ?_ (fun K hK => ?_) ?_
      rotate_left
      (focus ((simp only [List.getElem?_toArray, List.getElem?_cons_succ, List.getElem?_cons_zero]); first | done | rfl))
      ·skip
       go_simp
       have HT17 := Lib.hid (HT13.out.mks (by unfold maxLen; omega))
       have hbn := HT17.out.bel
       refine hK.out _ _ (HSo.out _ hbn) (fun hHeld => ?_)
       generalize V13.alloc (.cells (madeCells #[.int .i64 0] N) 3) = V17 at HT17 hHeld hbn ⊢
       obtain ⟨g17, hg17⟩ : ∃ g17, V13.heap.size = g17 := ⟨_, rfl⟩
       rw [hg17] at HT17
       try rw [hg17]
       clear hg17 hK K hbn
       try simp only [Act.put, List.setIfInBounds_toArray, List.set_cons_zero, List.set_cons_succ]
       refine wpAnyH_ready (rs := [5, 9]) (by kernel_rfl) (by simp) ?_
       refine AllReadyH.cons (o := ?_) ?_ (fun K hK => ?_) ?_
       rotate_left
       (focus ((simp only [List.getElem?_toArray, List.getElem?_cons_succ, List.getElem?_cons_zero]); first | done | rfl))
       ·skip
        go_simp
        have HT5 := Lib.hid (HT17.out.mkz (by unfold maxLen; omega))
        have hbn := HT5.out.bel
        refine hK.out _ _ (HSo.out _ hbn) (fun hHeld => ?_)
        generalize V17.alloc (.cells (madeCells #[.int .i64 0] M) 3) = V5 at HT5 hHeld hbn ⊢
        obtain ⟨g5, hg5⟩ : ∃ g5, V17.heap.size = g5 := ⟨_, rfl⟩
        rw [hg5] at HT5
        try rw [hg5]
        clear hg5 hK K hbn
        try simp only [Act.put, List.setIfInBounds_toArray, List.set_cons_zero, List.set_cons_succ]
        refine wpAnyH_ready (rs := [9]) (by kernel_rfl) (by simp) ?_
        refine AllReadyH.cons (o := ?_) ?_ (fun K hK => ?_) ?_
        rotate_left
        (focus ((simp only [List.getElem?_toArray, List.getElem?_cons_succ, List.getElem?_cons_zero]); first | done | rfl))
        ·skip
         go_simp
         have HT9 := Lib.hid (HT5.out.mkc (by unfold maxLen; omega))
         have hbn := HT9.out.bel
         refine hK.out _ _ (HSo.out _ hbn) (fun hHeld => ?_)
         generalize V5.alloc (.cells (madeCells #[.int .i64 0] N) 3) = V9 at HT9 hHeld hbn ⊢
         obtain ⟨g9, hg9⟩ : ∃ g9, V5.heap.size = g9 := ⟨_, rfl⟩
         rw [hg9] at HT9
         try rw [hg9]
         clear hg9 hK K hbn
         try simp only [Act.put, List.setIfInBounds_toArray, List.set_cons_zero, List.set_cons_succ]
         obtain ⟨cK, k1, k2, k3, k4, k5, k6, k7, hbld⟩ := tal_built D.cD HB.out.1.dm.sz 9 (some ⟨g5, 0, none⟩) (some ⟨g9, 0, none⟩) (some ⟨g13, 0, none⟩) (some ⟨g17, 0, none⟩) M N N N M N N N; (refine wpAnyH_take (i := 18) (oi := ?_) (v := .agg cK) ?_ (by kernel_rfl) (by kernel_rfl) (by kernel_rfl) ?_ (Or.inl ⟨?_, ?_⟩) (by assumption) ?_; rotate_left; (focus ((simp only [List.getElem?_toArray, List.getElem?_cons_succ, List.getElem?_cons_zero]); first | done | rfl)); (focus (exact fun _ _ _ h => h)); (focus rfl); (focus (intro wz hSw; exact exec_bld10 wz _ _ rfl (TlPs D.cD 9 (some ⟨g5, 0, none⟩) (some ⟨g9, 0, none⟩) (some ⟨g13, 0, none⟩) (some ⟨g17, 0, none⟩) M N N N M N N N) (by first | rfl | simp [Act.eval] | (simp; rfl)) _ (hbld wz))); try simp only [Act.put, List.setIfInBounds_toArray, List.set_cons_zero, List.set_cons_succ])
         refine wpAnyH_ready (rs := [19]) (by kernel_rfl) (by simp) ?_
         refine AllReadyH.cons (o := ?_) ?_ (fun K hK => ?_) ?_
         rotate_left
         (focus ((simp only [List.getElem?_toArray, List.getElem?_cons_succ, List.getElem?_cons_zero]); first | done | rfl))
         ·skip
          go_simp
          have HT := Lib.hid ((HT9.out.keep (al V9 (.cells cK 60))).tal (St.new V9 60 cK))
          refine hK.out _ _ (HSo.out _ HT.out.bel) (fun hHeld => ?_)
          clear hK K
          try simp only [Act.put, List.setIfInBounds_toArray, List.set_cons_zero, List.set_cons_succ]
          (refine wpAnyH_take (i := 20) (oi := ?_) (v := ?_) ?_ (by kernel_rfl) (by kernel_rfl) (by kernel_rfl) ?_ (Or.inl ⟨?_, ?_⟩) (by assumption) ?_; rotate_left 2; (focus ((simp only [List.getElem?_toArray, List.getElem?_cons_succ, List.getElem?_cons_zero]); first | done | rfl)); (focus (exact fun _ _ _ h => h)); (focus rfl); (focus (intro wz hSw; (try dsimp only at hSw); go_simp; first | done | with_reducible rfl)); try simp only [Act.put, List.setIfInBounds_toArray, List.set_cons_zero, List.set_cons_succ])
          refine wpAnyH_done (by kernel_rfl) ?_ _
          go_wp2_with fail
          go_meet
          exact ⟨_, cK, _, _, _, _, rfl, ⟨k2, k3, k4, k5, k6, k7⟩, HT.out⟩
         exact AllReadyH.nil
        exact AllReadyH.nil
       refine AllReadyH.cons (o := ?_) ?_ (fun K hK => ?_) ?_
       rotate_left
       (focus ((simp only [List.getElem?_toArray, List.getElem?_cons_succ, List.getElem?_cons_zero]); first | done | rfl))
       ·skip
        go_simp
        have HT9 := Lib.hid (HT17.out.mkc (by unfold maxLen; omega))
        have hbn := HT9.out.bel
        refine hK.out _ _ (HSo.out _ hbn) (fun hHeld => ?_)
        generalize V17.alloc (.cells (madeCells #[.int .i64 0] N) 3) = V9 at HT9 hHeld hbn ⊢
        obtain ⟨g9, hg9⟩ : ∃ g9, V17.heap.size = g9 := ⟨_, rfl⟩
        rw [hg9] at HT9
        try rw [hg9]
        clear hg9 hK K hbn
        try simp only [Act.put, List.setIfInBounds_toArray, List.set_cons_zero, List.set_cons_succ]
        refine wpAnyH_ready (rs := [5]) (by kernel_rfl) (by simp) ?_
        refine AllReadyH.cons (o := ?_) ?_ (fun K hK => ?_) ?_
        rotate_left
        (focus ((simp only [List.getElem?_toArray, List.getElem?_cons_succ, List.getElem?_cons_zero]); first | done | rfl))
        ·skip
         go_simp
         have HT5 := Lib.hid (HT9.out.mkz (by unfold maxLen; omega))
         have hbn := HT5.out.bel
         refine hK.out _ _ (HSo.out _ hbn) (fun hHeld => ?_)
         generalize V9.alloc (.cells (madeCells #[.int .i64 0] M) 3) = V5 at HT5 hHeld hbn ⊢
         obtain ⟨g5, hg5⟩ : ∃ g5, V9.heap.size = g5 := ⟨_, rfl⟩
         rw [hg5] at HT5
         try rw [hg5]
         clear hg5 hK K hbn
         try simp only [Act.put, List.setIfInBounds_toArray, List.set_cons_zero, List.set_cons_succ]
         obtain ⟨cK, k1, k2, k3, k4, k5, k6, k7, hbld⟩ := tal_built D.cD HB.out.1.dm.sz 9 (some ⟨g5, 0, none⟩) (some ⟨g9, 0, none⟩) (some ⟨g13, 0, none⟩) (some ⟨g17, 0, none⟩) M N N N M N N N; (refine wpAnyH_take (i := 18) (oi := ?_) (v := .agg cK) ?_ (by kernel_rfl) (by kernel_rfl) (by kernel_rfl) ?_ (Or.inl ⟨?_, ?_⟩) (by assumption) ?_; rotate_left; (focus ((simp only [List.getElem?_toArray, List.getElem?_cons_succ, List.getElem?_cons_zero]); first | done | rfl)); (focus (exact fun _ _ _ h => h)); (focus rfl); (focus (intro wz hSw; exact exec_bld10 wz _ _ rfl (TlPs D.cD 9 (some ⟨g5, 0, none⟩) (some ⟨g9, 0, none⟩) (some ⟨g13, 0, none⟩) (some ⟨g17, 0, none⟩) M N N N M N N N) (by first | rfl | simp [Act.eval] | (simp; rfl)) _ (hbld wz))); try simp only [Act.put, List.setIfInBounds_toArray, List.set_cons_zero, List.set_cons_succ])
         refine wpAnyH_ready (rs := [19]) (by kernel_rfl) (by simp) ?_
         refine AllReadyH.cons (o := ?_) ?_ (fun K hK => ?_) ?_
         rotate_left
         (focus ((simp only [List.getElem?_toArray, List.getElem?_cons_succ, List.getElem?_cons_zero]); first | done | rfl))
         ·skip
          go_simp
          have HT := Lib.hid ((HT5.out.keep (al V5 (.cells cK 60))).tal (St.new V5 60 cK))
          refine hK.out _ _ (HSo.out _ HT.out.bel) (fun hHeld => ?_)
          clear hK K
          try simp only [Act.put, List.setIfInBounds_toArray, List.set_cons_zero, List.set_cons_succ]
          (refine wpAnyH_take (i := 20) (oi := ?_) (v := ?_) ?_ (by kernel_rfl) (by kernel_rfl) (by kernel_rfl) ?_ (Or.inl ⟨?_, ?_⟩) (by assumption) ?_; rotate_left 2; (focus ((simp only [List.getElem?_toArray, List.getElem?_cons_succ, List.getElem?_cons_zero]); first | done | rfl)); (focus (exact fun _ _ _ h => h)); (focus rfl); (focus (intro wz hSw; (try dsimp only at hSw); go_simp; first | done | with_reducible rfl)); try simp only [Act.put, List.setIfInBounds_toArray, List.set_cons_zero, List.set_cons_succ])
          refine wpAnyH_done (by kernel_rfl) ?_ _
          go_wp2_with fail
          go_meet
          exact ⟨_, cK, _, _, _, _, rfl, ⟨k2, k3, k4, k5, k6, k7⟩, HT.out⟩
         exact AllReadyH.nil
        exact AllReadyH.nil
       exact AllReadyH.nil
      exact AllReadyH.nil
     refine AllReadyH.cons (o := ?_) ?_ (fun K hK => ?_) ?_
     rotate_left
     (focus ((simp only [List.getElem?_toArray, List.getElem?_cons_succ, List.getElem?_cons_zero]); first | done | rfl))
     ·skip
      go_simp
      have HT17 := Lib.hid (HT4.out.mks (by unfold maxLen; omega))
      have hbn := HT17.out.bel
      refine hK.out _ _ (HSo.out _ hbn) (fun hHeld => ?_)
      generalize V4.alloc (.cells (madeCells #[.int .i64 0] N) 3) = V17 at HT17 hHeld hbn ⊢
      obtain ⟨g17, hg17⟩ : ∃ g17, V4.heap.size = g17 := ⟨_, rfl⟩
      rw [hg17] at HT17
      try rw [hg17]
      clear hg17 hK K hbn
      try simp only [Act.put, List.setIfInBounds_toArray, List.set_cons_zero, List.set_cons_succ]
      refine wpAnyH_ready (rs := [5, 9, 13]) (by kernel_rfl) (by simp) ?_
      refine AllReadyH.cons (o := ?_) ?_ (fun K hK => ?_) ?_
      rotate_left
      (focus ((simp only [List.getElem?_toArray, List.getElem?_cons_succ, List.getElem?_cons_zero]); first | done | rfl))
      ·skip
       go_simp
       have HT5 := Lib.hid (HT17.out.mkz (by unfold maxLen; omega))
       have hbn := HT5.out.bel
       refine hK.out _ _ (HSo.out _ hbn) (fun hHeld => ?_)
       generalize V17.alloc (.cells (madeCells #[.int .i64 0] M) 3) = V5 at HT5 hHeld hbn ⊢
       obtain ⟨g5, hg5⟩ : ∃ g5, V17.heap.size = g5 := ⟨_, rfl⟩
       rw [hg5] at HT5
       try rw [hg5]
       clear hg5 hK K hbn
       try simp only [Act.put, List.setIfInBounds_toArray, List.set_cons_zero, List.set_cons_succ]
       refine wpAnyH_ready (rs := [9, 13]) (by kernel_rfl) (by simp) ?_
       refine AllReadyH.cons (o := ?_) ?_ (fun K hK => ?_) ?_
       rotate_left
       (focus ((simp only [List.getElem?_toArray, List.getElem?_cons_succ, List.getElem?_cons_zero]); first | done | rfl))
       ·skip
        go_simp
        have HT9 := Lib.hid (HT5.out.mkc (by unfold maxLen; omega))
        have hbn := HT9.out.bel
        refine hK.out _ _ (HSo.out _ hbn) (fun hHeld => ?_)
        generalize V5.alloc (.cells (madeCells #[.int .i64 0] N) 3) = V9 at HT9 hHeld hbn ⊢
        obtain ⟨g9, hg9⟩ : ∃ g9, V5.heap.size = g9 := ⟨_, rfl⟩
        rw [hg9] at HT9
        try rw [hg9]
        clear hg9 hK K hbn
        try simp only [Act.put, List.setIfInBounds_toArray, List.set_cons_zero, List.set_cons_succ]
        refine wpAnyH_ready (rs := [13]) (by kernel_rfl) (by simp) ?_
        refine AllReadyH.cons (o := ?_) ?_ (fun K hK => ?_) ?_
        rotate_left
        (focus ((simp only [List.getElem?_toArray, List.getElem?_cons_succ, List.getElem?_cons_zero]); first | done | rfl))
        ·skip
         go_simp
         have HT13 := Lib.hid (HT9.out.mkh (by unfold maxLen; omega))
         have hbn := HT13.out.bel
         refine hK.out _ _ (HSo.out _ hbn) (fun hHeld => ?_)
         generalize V9.alloc (.cells (madeCells #[.int .i64 0] N) 3) = V13 at HT13 hHeld hbn ⊢
         obtain ⟨g13, hg13⟩ : ∃ g13, V9.heap.size = g13 := ⟨_, rfl⟩
         rw [hg13] at HT13
         try rw [hg13]
         clear hg13 hK K hbn
         try simp only [Act.put, List.setIfInBounds_toArray, List.set_cons_zero, List.set_cons_succ]
         obtain ⟨cK, k1, k2, k3, k4, k5, k6, k7, hbld⟩ := tal_built D.cD HB.out.1.dm.sz 9 (some ⟨g5, 0, none⟩) (some ⟨g9, 0, none⟩) (some ⟨g13, 0, none⟩) (some ⟨g17, 0, none⟩) M N N N M N N N; (refine wpAnyH_take (i := 18) (oi := ?_) (v := .agg cK) ?_ (by kernel_rfl) (by kernel_rfl) (by kernel_rfl) ?_ (Or.inl ⟨?_, ?_⟩) (by assumption) ?_; rotate_left; (focus ((simp only [List.getElem?_toArray, List.getElem?_cons_succ, List.getElem?_cons_zero]); first | done | rfl)); (focus (exact fun _ _ _ h => h)); (focus rfl); (focus (intro wz hSw; exact exec_bld10 wz _ _ rfl (TlPs D.cD 9 (some ⟨g5, 0, none⟩) (some ⟨g9, 0, none⟩) (some ⟨g13, 0, none⟩) (some ⟨g17, 0, none⟩) M N N N M N N N) (by first | rfl | simp [Act.eval] | (simp; rfl)) _ (hbld wz))); try simp only [Act.put, List.setIfInBounds_toArray, List.set_cons_zero, List.set_cons_succ])
         refine wpAnyH_ready (rs := [19]) (by kernel_rfl) (by simp) ?_
         refine AllReadyH.cons (o := ?_) ?_ (fun K hK => ?_) ?_
         rotate_left
         (focus ((simp only [List.getElem?_toArray, List.getElem?_cons_succ, List.getElem?_cons_zero]); first | done | rfl))
         ·skip
          go_simp
          have HT := Lib.hid ((HT13.out.keep (al V13 (.cells cK 60))).tal (St.new V13 60 cK))
          refine hK.out _ _ (HSo.out _ HT.out.bel) (fun hHeld => ?_)
          clear hK K
          try simp only [Act.put, List.setIfInBounds_toArray, List.set_cons_zero, List.set_cons_succ]
          (refine wpAnyH_take (i := 20) (oi := ?_) (v := ?_) ?_ (by kernel_rfl) (by kernel_rfl) (by kernel_rfl) ?_ (Or.inl ⟨?_, ?_⟩) (by assumption) ?_; rotate_left 2; (focus ((simp only [List.getElem?_toArray, List.getElem?_cons_succ, List.getElem?_cons_zero]); first | done | rfl)); (focus (exact fun _ _ _ h => h)); (focus rfl); (focus (intro wz hSw; (try dsimp only at hSw); go_simp; first | done | with_reducible rfl)); try simp only [Act.put, List.setIfInBounds_toArray, List.set_cons_zero, List.set_cons_succ])
          refine wpAnyH_done (by kernel_rfl) ?_ _
          go_wp2_with fail
          go_meet
          exact ⟨_, cK, _, _, _, _, rfl, ⟨k2, k3, k4, k5, k6, k7⟩, HT.out⟩
         exact AllReadyH.nil
        exact AllReadyH.nil
       refine AllReadyH.cons (o := ?_) ?_ (fun K hK => ?_) ?_
       rotate_left
       (focus ((simp only [List.getElem?_toArray, List.getElem?_cons_succ, List.getElem?_cons_zero]); first | done | rfl))
       ·skip
        go_simp
        have HT13 := Lib.hid (HT5.out.mkh (by unfold maxLen; omega))
        have hbn := HT13.out.bel
        refine hK.out _ _ (HSo.out _ hbn) (fun hHeld => ?_)
        generalize V5.alloc (.cells (madeCells #[.int .i64 0] N) 3) = V13 at HT13 hHeld hbn ⊢
        obtain ⟨g13, hg13⟩ : ∃ g13, V5.heap.size = g13 := ⟨_, rfl⟩
        rw [hg13] at HT13
        try rw [hg13]
        clear hg13 hK K hbn
        try simp only [Act.put, List.setIfInBounds_toArray, List.set_cons_zero, List.set_cons_succ]
        refine wpAnyH_ready (rs := [9]) (by kernel_rfl) (by simp) ?_
        refine AllReadyH.cons (o := ?_) ?_ (fun K hK => ?_) ?_
        rotate_left
        (focus ((simp only [List.getElem?_toArray, List.getElem?_cons_succ, List.getElem?_cons_zero]); first | done | rfl))
        ·skip
         go_simp
         have HT9 := Lib.hid (HT13.out.mkc (by unfold maxLen; omega))
         have hbn := HT9.out.bel
         refine hK.out _ _ (HSo.out _ hbn) (fun hHeld => ?_)
         generalize V13.alloc (.cells (madeCells #[.int .i64 0] N) 3) = V9 at HT9 hHeld hbn ⊢
         obtain ⟨g9, hg9⟩ : ∃ g9, V13.heap.size = g9 := ⟨_, rfl⟩
         rw [hg9] at HT9
         try rw [hg9]
         clear hg9 hK K hbn
         try simp only [Act.put, List.setIfInBounds_toArray, List.set_cons_zero, List.set_cons_succ]
         obtain ⟨cK, k1, k2, k3, k4, k5, k6, k7, hbld⟩ := tal_built D.cD HB.out.1.dm.sz 9 (some ⟨g5, 0, none⟩) (some ⟨g9, 0, none⟩) (some ⟨g13, 0, none⟩) (some ⟨g17, 0, none⟩) M N N N M N N N; (refine wpAnyH_take (i := 18) (oi := ?_) (v := .agg cK) ?_ (by kernel_rfl) (by kernel_rfl) (by kernel_rfl) ?_ (Or.inl ⟨?_, ?_⟩) (by assumption) ?_; rotate_left; (focus ((simp only [List.getElem?_toArray, List.getElem?_cons_succ, List.getElem?_cons_zero]); first | done | rfl)); (focus (exact fun _ _ _ h => h)); (focus rfl); (focus (intro wz hSw; exact exec_bld10 wz _ _ rfl (TlPs D.cD 9 (some ⟨g5, 0, none⟩) (some ⟨g9, 0, none⟩) (some ⟨g13, 0, none⟩) (some ⟨g17, 0, none⟩) M N N N M N N N) (by first | rfl | simp [Act.eval] | (simp; rfl)) _ (hbld wz))); try simp only [Act.put, List.setIfInBounds_toArray, List.set_cons_zero, List.set_cons_succ])
         refine wpAnyH_ready (rs := [19]) (by kernel_rfl) (by simp) ?_
         refine AllReadyH.cons (o := ?_) ?_ (fun K hK => ?_) ?_
         rotate_left
         (focus ((simp only [List.getElem?_toArray, List.getElem?_cons_succ, List.getElem?_cons_zero]); first | done | rfl))
         ·skip
          go_simp
          have HT := Lib.hid ((HT9.out.keep (al V9 (.cells cK 60))).tal (St.new V9 60 cK))
          refine hK.out _ _ (HSo.out _ HT.out.bel) (fun hHeld => ?_)
          clear hK K
          try simp only [Act.put, List.setIfInBounds_toArray, List.set_cons_zero, List.set_cons_succ]
          (refine wpAnyH_take (i := 20) (oi := ?_) (v := ?_) ?_ (by kernel_rfl) (by kernel_rfl) (by kernel_rfl) ?_ (Or.inl ⟨?_, ?_⟩) (by assumption) ?_; rotate_left 2; (focus ((simp only [List.getElem?_toArray, List.getElem?_cons_succ, List.getElem?_cons_zero]); first | done | rfl)); (focus (exact fun _ _ _ h => h)); (focus rfl); (focus (intro wz hSw; (try dsimp only at hSw); go_simp; first | done | with_reducible rfl)); try simp only [Act.put, List.setIfInBounds_toArray, List.set_cons_zero, List.set_cons_succ])
          refine wpAnyH_done (by kernel_rfl) ?_ _
          go_wp2_with fail
          go_meet
          exact ⟨_, cK, _, _, _, _, rfl, ⟨k2, k3, k4, k5, k6, k7⟩, HT.out⟩
         exact AllReadyH.nil
        exact AllReadyH.nil
       exact AllReadyH.nil
      refine AllReadyH.cons (o := ?_) ?_ (fun K hK => ?_) ?_
      rotate_left
      (focus ((simp only [List.getElem?_toArray, List.getElem?_cons_succ, List.getElem?_cons_zero]); first | done | rfl))
      ·skip
       go_simp
       have HT9 := Lib.hid (HT17.out.mkc (by unfold maxLen; omega))
       have hbn := HT9.out.bel
       refine hK.out _ _ (HSo.out _ hbn) (fun hHeld => ?_)
       generalize V17.alloc (.cells (madeCells #[.int .i64 0] N) 3) = V9 at HT9 hHeld hbn ⊢
       obtain ⟨g9, hg9⟩ : ∃ g9, V17.heap.size = g9 := ⟨_, rfl⟩
       rw [hg9] at HT9
       try rw [hg9]
       clear hg9 hK K hbn
       try simp only [Act.put, List.setIfInBounds_toArray, List.set_cons_zero, List.set_cons_succ]
       refine wpAnyH_ready (rs := [5, 13]) (by kernel_rfl) (by simp) ?_
       refine AllReadyH.cons (o := ?_) ?_ (fun K hK => ?_) ?_
       rotate_left
       (focus ((simp only [List.getElem?_toArray, List.getElem?_cons_succ, List.getElem?_cons_zero]); first | done | rfl))
       ·skip
        go_simp
        have HT5 := Lib.hid (HT9.out.mkz (by unfold maxLen; omega))
        have hbn := HT5.out.bel
        refine hK.out _ _ (HSo.out _ hbn) (fun hHeld => ?_)
        generalize V9.alloc (.cells (madeCells #[.int .i64 0] M) 3) = V5 at HT5 hHeld hbn ⊢
        obtain ⟨g5, hg5⟩ : ∃ g5, V9.heap.size = g5 := ⟨_, rfl⟩
        rw [hg5] at HT5
        try rw [hg5]
        clear hg5 hK K hbn
        try simp only [Act.put, List.setIfInBounds_toArray, List.set_cons_zero, List.set_cons_succ]
        refine wpAnyH_ready (rs := [13]) (by kernel_rfl) (by simp) ?_
        refine AllReadyH.cons (o := ?_) ?_ (fun K hK => ?_) ?_
        rotate_left
        (focus ((simp only [List.getElem?_toArray, List.getElem?_cons_succ, List.getElem?_cons_zero]); first | done | rfl))
        ·skip
         go_simp
         have HT13 := Lib.hid (HT5.out.mkh (by unfold maxLen; omega))
         have hbn := HT13.out.bel
         refine hK.out _ _ (HSo.out _ hbn) (fun hHeld => ?_)
         generalize V5.alloc (.cells (madeCells #[.int .i64 0] N) 3) = V13 at HT13 hHeld hbn ⊢
         obtain ⟨g13, hg13⟩ : ∃ g13, V5.heap.size = g13 := ⟨_, rfl⟩
         rw [hg13] at HT13
         try rw [hg13]
         clear hg13 hK K hbn
         try simp only [Act.put, List.setIfInBounds_toArray, List.set_cons_zero, List.set_cons_succ]
         obtain ⟨cK, k1, k2, k3, k4, k5, k6, k7, hbld⟩ := tal_built D.cD HB.out.1.dm.sz 9 (some ⟨g5, 0, none⟩) (some ⟨g9, 0, none⟩) (some ⟨g13, 0, none⟩) (some ⟨g17, 0, none⟩) M N N N M N N N; (refine wpAnyH_take (i := 18) (oi := ?_) (v := .agg cK) ?_ (by kernel_rfl) (by kernel_rfl) (by kernel_rfl) ?_ (Or.inl ⟨?_, ?_⟩) (by assumption) ?_; rotate_left; (focus ((simp only [List.getElem?_toArray, List.getElem?_cons_succ, List.getElem?_cons_zero]); first | done | rfl)); (focus (exact fun _ _ _ h => h)); (focus rfl); (focus (intro wz hSw; exact exec_bld10 wz _ _ rfl (TlPs D.cD 9 (some ⟨g5, 0, none⟩) (some ⟨g9, 0, none⟩) (some ⟨g13, 0, none⟩) (some ⟨g17, 0, none⟩) M N N N M N N N) (by first | rfl | simp [Act.eval] | (simp; rfl)) _ (hbld wz))); try simp only [Act.put, List.setIfInBounds_toArray, List.set_cons_zero, List.set_cons_succ])
         refine wpAnyH_ready (rs := [19]) (by kernel_rfl) (by simp) ?_
         refine AllReadyH.cons (o := ?_) ?_ (fun K hK => ?_) ?_
         rotate_left
         (focus ((simp only [List.getElem?_toArray, List.getElem?_cons_succ, List.getElem?_cons_zero]); first | done | rfl))
         ·skip
          go_simp
          have HT := Lib.hid ((HT13.out.keep (al V13 (.cells cK 60))).tal (St.new V13 60 cK))
          refine hK.out _ _ (HSo.out _ HT.out.bel) (fun hHeld => ?_)
          clear hK K
          try simp only [Act.put, List.setIfInBounds_toArray, List.set_cons_zero, List.set_cons_succ]
          (refine wpAnyH_take (i := 20) (oi := ?_) (v := ?_) ?_ (by kernel_rfl) (by kernel_rfl) (by kernel_rfl) ?_ (Or.inl ⟨?_, ?_⟩) (by assumption) ?_; rotate_left 2; (focus ((simp only [List.getElem?_toArray, List.getElem?_cons_succ, List.getElem?_cons_zero]); first | done | rfl)); (focus (exact fun _ _ _ h => h)); (focus rfl); (focus (intro wz hSw; (try dsimp only at hSw); go_simp; first | done | with_reducible rfl)); try simp only [Act.put, List.setIfInBounds_toArray, List.set_cons_zero, List.set_cons_succ])
          refine wpAnyH_done (by kernel_rfl) ?_ _
          go_wp2_with fail
          go_meet
          exact ⟨_, cK, _, _, _, _, rfl, ⟨k2, k3, k4, k5, k6, k7⟩, HT.out⟩
         exact AllReadyH.nil
        exact AllReadyH.nil
       refine AllReadyH.cons (o := ?_) ?_ (fun K hK => ?_) ?_
       rotate_left
       (focus ((simp only [List.getElem?_toArray, List.getElem?_cons_succ, List.getElem?_cons_zero]); first | done | rfl))
       ·skip
        go_simp
        have HT13 := Lib.hid (HT9.out.mkh (by unfold maxLen; omega))
        have hbn := HT13.out.bel
        refine hK.out _ _ (HSo.out _ hbn) (fun hHeld => ?_)
        generalize V9.alloc (.cells (madeCells #[.int .i64 0] N) 3) = V13 at HT13 hHeld hbn ⊢
        obtain ⟨g13, hg13⟩ : ∃ g13, V9.heap.size = g13 := ⟨_, rfl⟩
        rw [hg13] at HT13
        try rw [hg13]
        clear hg13 hK K hbn
        try simp only [Act.put, List.setIfInBounds_toArray, List.set_cons_zero, List.set_cons_succ]
        refine wpAnyH_ready (rs := [5]) (by kernel_rfl) (by simp) ?_
        refine AllReadyH.cons (o := ?_) ?_ (fun K hK => ?_) ?_
        rotate_left
        (focus ((simp only [List.getElem?_toArray, List.getElem?_cons_succ, List.getElem?_cons_zero]); first | done | rfl))
        ·skip
         go_simp
         have HT5 := Lib.hid (HT13.out.mkz (by unfold maxLen; omega))
         have hbn := HT5.out.bel
         refine hK.out _ _ (HSo.out _ hbn) (fun hHeld => ?_)
         generalize V13.alloc (.cells (madeCells #[.int .i64 0] M) 3) = V5 at HT5 hHeld hbn ⊢
         obtain ⟨g5, hg5⟩ : ∃ g5, V13.heap.size = g5 := ⟨_, rfl⟩
         rw [hg5] at HT5
         try rw [hg5]
         clear hg5 hK K hbn
         try simp only [Act.put, List.setIfInBounds_toArray, List.set_cons_zero, List.set_cons_succ]
         obtain ⟨cK, k1, k2, k3, k4, k5, k6, k7, hbld⟩ := tal_built D.cD HB.out.1.dm.sz 9 (some ⟨g5, 0, none⟩) (some ⟨g9, 0, none⟩) (some ⟨g13, 0, none⟩) (some ⟨g17, 0, none⟩) M N N N M N N N; (refine wpAnyH_take (i := 18) (oi := ?_) (v := .agg cK) ?_ (by kernel_rfl) (by kernel_rfl) (by kernel_rfl) ?_ (Or.inl ⟨?_, ?_⟩) (by assumption) ?_; rotate_left; (focus ((simp only [List.getElem?_toArray, List.getElem?_cons_succ, List.getElem?_cons_zero]); first | done | rfl)); (focus (exact fun _ _ _ h => h)); (focus rfl); (focus (intro wz hSw; exact exec_bld10 wz _ _ rfl (TlPs D.cD 9 (some ⟨g5, 0, none⟩) (some ⟨g9, 0, none⟩) (some ⟨g13, 0, none⟩) (some ⟨g17, 0, none⟩) M N N N M N N N) (by first | rfl | simp [Act.eval] | (simp; rfl)) _ (hbld wz))); try simp only [Act.put, List.setIfInBounds_toArray, List.set_cons_zero, List.set_cons_succ])
         refine wpAnyH_ready (rs := [19]) (by kernel_rfl) (by simp) ?_
         refine AllReadyH.cons (o := ?_) ?_ (fun K hK => ?_) ?_
         rotate_left
         (focus ((simp only [List.getElem?_toArray, List.getElem?_cons_succ, List.getElem?_cons_zero]); first | done | rfl))
         ·skip
          go_simp
          have HT := Lib.hid ((HT5.out.keep (al V5 (.cells cK 60))).tal (St.new V5 60 cK))
          refine hK.out _ _ (HSo.out _ HT.out.bel) (fun hHeld => ?_)
          clear hK K
          try simp only [Act.put, List.setIfInBounds_toArray, List.set_cons_zero, List.set_cons_succ]
          (refine wpAnyH_take (i := 20) (oi := ?_) (v := ?_) ?_ (by kernel_rfl) (by kernel_rfl) (by kernel_rfl) ?_ (Or.inl ⟨?_, ?_⟩) (by assumption) ?_; rotate_left 2; (focus ((simp only [List.getElem?_toArray, List.getElem?_cons_succ, List.getElem?_cons_zero]); first | done | rfl)); (focus (exact fun _ _ _ h => h)); (focus rfl); (focus (intro wz hSw; (try dsimp only at hSw); go_simp; first | done | with_reducible rfl)); try simp only [Act.put, List.setIfInBounds_toArray, List.set_cons_zero, List.set_cons_succ])
          refine wpAnyH_done (by kernel_rfl) ?_ _
          go_wp2_with fail
          go_meet
          exact ⟨_, cK, _, _, _, _, rfl, ⟨k2, k3, k4, k5, k6, k7⟩, HT.out⟩
         exact AllReadyH.nil
        exact AllReadyH.nil
       exact AllReadyH.nil
      refine AllReadyH.cons (o := ?_) ?_ (fun K hK => ?_) ?_
      rotate_left
      (focus ((simp only [List.getElem?_toArray, List.getElem?_cons_succ, List.getElem?_cons_zero]); first | done | rfl))
      ·skip
       go_simp
       have HT13 := Lib.hid (HT17.out.mkh (by unfold maxLen; omega))
       have hbn := HT13.out.bel
       refine hK.out _ _ (HSo.out _ hbn) (fun hHeld => ?_)
       generalize V17.alloc (.cells (madeCells #[.int .i64 0] N) 3) = V13 at HT13 hHeld hbn ⊢
       obtain ⟨g13, hg13⟩ : ∃ g13, V17.heap.size = g13 := ⟨_, rfl⟩
       rw [hg13] at HT13
       try rw [hg13]
       clear hg13 hK K hbn
       try simp only [Act.put, List.setIfInBounds_toArray, List.set_cons_zero, List.set_cons_succ]
       refine wpAnyH_ready (rs := [5, 9]) (by kernel_rfl) (by simp) ?_
       refine AllReadyH.cons (o := ?_) ?_ (fun K hK => ?_) ?_
       rotate_left
       (focus ((simp only [List.getElem?_toArray, List.getElem?_cons_succ, List.getElem?_cons_zero]); first | done | rfl))
       ·skip
        go_simp
        have HT5 := Lib.hid (HT13.out.mkz (by unfold maxLen; omega))
        have hbn := HT5.out.bel
        refine hK.out _ _ (HSo.out _ hbn) (fun hHeld => ?_)
        generalize V13.alloc (.cells (madeCells #[.int .i64 0] M) 3) = V5 at HT5 hHeld hbn ⊢
        obtain ⟨g5, hg5⟩ : ∃ g5, V13.heap.size = g5 := ⟨_, rfl⟩
        rw [hg5] at HT5
        try rw [hg5]
        clear hg5 hK K hbn
        try simp only [Act.put, List.setIfInBounds_toArray, List.set_cons_zero, List.set_cons_succ]
        refine wpAnyH_ready (rs := [9]) (by kernel_rfl) (by simp) ?_
        refine AllReadyH.cons (o := ?_) ?_ (fun K hK => ?_) ?_
        rotate_left
        (focus ((simp only [List.getElem?_toArray, List.getElem?_cons_succ, List.getElem?_cons_zero]); first | done | rfl))
        ·skip
         go_simp
         have HT9 := Lib.hid (HT5.out.mkc (by unfold maxLen; omega))
         have hbn := HT9.out.bel
         refine hK.out _ _ (HSo.out _ hbn) (fun hHeld => ?_)
         generalize V5.alloc (.cells (madeCells #[.int .i64 0] N) 3) = V9 at HT9 hHeld hbn ⊢
         obtain ⟨g9, hg9⟩ : ∃ g9, V5.heap.size = g9 := ⟨_, rfl⟩
         rw [hg9] at HT9
         try rw [hg9]
         clear hg9 hK K hbn
         try simp only [Act.put, List.setIfInBounds_toArray, List.set_cons_zero, List.set_cons_succ]
         obtain ⟨cK, k1, k2, k3, k4, k5, k6, k7, hbld⟩ := tal_built D.cD HB.out.1.dm.sz 9 (some ⟨g5, 0, none⟩) (some ⟨g9, 0, none⟩) (some ⟨g13, 0, none⟩) (some ⟨g17, 0, none⟩) M N N N M N N N; (refine wpAnyH_take (i := 18) (oi := ?_) (v := .agg cK) ?_ (by kernel_rfl) (by kernel_rfl) (by kernel_rfl) ?_ (Or.inl ⟨?_, ?_⟩) (by assumption) ?_; rotate_left; (focus ((simp only [List.getElem?_toArray, List.getElem?_cons_succ, List.getElem?_cons_zero]); first | done | rfl)); (focus (exact fun _ _ _ h => h)); (focus rfl); (focus (intro wz hSw; exact exec_bld10 wz _ _ rfl (TlPs D.cD 9 (some ⟨g5, 0, none⟩) (some ⟨g9, 0, none⟩) (some ⟨g13, 0, none⟩) (some ⟨g17, 0, none⟩) M N N N M N N N) (by first | rfl | simp [Act.eval] | (simp; rfl)) _ (hbld wz))); try simp only [Act.put, List.setIfInBounds_toArray, List.set_cons_zero, List.set_cons_succ])
         refine wpAnyH_ready (rs := [19]) (by kernel_rfl) (by simp) ?_
         refine AllReadyH.cons (o := ?_) ?_ (fun K hK => ?_) ?_
         rotate_left
         (focus ((simp only [List.getElem?_toArray, List.getElem?_cons_succ, List.getElem?_cons_zero]); first | done | rfl))
         ·skip
          go_simp
          have HT := Lib.hid ((HT9.out.keep (al V9 (.cells cK 60))).tal (St.new V9 60 cK))
          refine hK.out _ _ (HSo.out _ HT.out.bel) (fun hHeld => ?_)
          clear hK K
          try simp only [Act.put, List.setIfInBounds_toArray, List.set_cons_zero, List.set_cons_succ]
          (refine wpAnyH_take (i := 20) (oi := ?_) (v := ?_) ?_ (by kernel_rfl) (by kernel_rfl) (by kernel_rfl) ?_ (Or.inl ⟨?_, ?_⟩) (by assumption) ?_; rotate_left 2; (focus ((simp only [List.getElem?_toArray, List.getElem?_cons_succ, List.getElem?_cons_zero]); first | done | rfl)); (focus (exact fun _ _ _ h => h)); (focus rfl); (focus (intro wz hSw; (try dsimp only at hSw); go_simp; first | done | with_reducible rfl)); try simp only [Act.put, List.setIfInBounds_toArray, List.set_cons_zero, List.set_cons_succ])
          refine wpAnyH_done (by kernel_rfl) ?_ _
          go_wp2_with fail
          go_meet
          exact ⟨_, cK, _, _, _, _, rfl, ⟨k2, k3, k4, k5, k6, k7⟩, HT.out⟩
         exact AllReadyH.nil
        exact AllReadyH.nil
       refine AllReadyH.cons (o := ?_) ?_ (fun K hK => ?_) ?_
       rotate_left
       (focus ((simp only [List.getElem?_toArray, List.getElem?_cons_succ, List.getElem?_cons_zero]); first | done | rfl))
       ·skip
        go_simp
        have HT9 := Lib.hid (HT13.out.mkc (by unfold maxLen; omega))
        have hbn := HT9.out.bel
        refine hK.out _ _ (HSo.out _ hbn) (fun hHeld => ?_)
        generalize V13.alloc (.cells (madeCells #[.int .i64 0] N) 3) = V9 at HT9 hHeld hbn ⊢
        obtain ⟨g9, hg9⟩ : ∃ g9, V13.heap.size = g9 := ⟨_, rfl⟩
        rw [hg9] at HT9
        try rw [hg9]
        clear hg9 hK K hbn
        try simp only [Act.put, List.setIfInBounds_toArray, List.set_cons_zero, List.set_cons_succ]
        refine wpAnyH_ready (rs := [5]) (by kernel_rfl) (by simp) ?_
        refine AllReadyH.cons (o := ?_) ?_ (fun K hK => ?_) ?_
        rotate_left
        (focus ((simp only [List.getElem?_toArray, List.getElem?_cons_succ, List.getElem?_cons_zero]); first | done | rfl))
        ·skip
         go_simp
         have HT5 := Lib.hid (HT9.out.mkz (by unfold maxLen; omega))
         have hbn := HT5.out.bel
         refine hK.out _ _ (HSo.out _ hbn) (fun hHeld => ?_)
         generalize V9.alloc (.cells (madeCells #[.int .i64 0] M) 3) = V5 at HT5 hHeld hbn ⊢
         obtain ⟨g5, hg5⟩ : ∃ g5, V9.heap.size = g5 := ⟨_, rfl⟩
         rw [hg5] at HT5
         try rw [hg5]
         clear hg5 hK K hbn
         try simp only [Act.put, List.setIfInBounds_toArray, List.set_cons_zero, List.set_cons_succ]
         obtain ⟨cK, k1, k2, k3, k4, k5, k6, k7, hbld⟩ := tal_built D.cD HB.out.1.dm.sz 9 (some ⟨g5, 0, none⟩) (some ⟨g9, 0, none⟩) (some ⟨g13, 0, none⟩) (some ⟨g17, 0, none⟩) M N N N M N N N; (refine wpAnyH_take (i := 18) (oi := ?_) (v := .agg cK) ?_ (by kernel_rfl) (by kernel_rfl) (by kernel_rfl) ?_ (Or.inl ⟨?_, ?_⟩) (by assumption) ?_; rotate_left; (focus ((simp only [List.getElem?_toArray, List.getElem?_cons_succ, List.getElem?_cons_zero]); first | done | rfl)); (focus (exact fun _ _ _ h => h)); (focus rfl); (focus (intro wz hSw; exact exec_bld10 wz _ _ rfl (TlPs D.cD 9 (some ⟨g5, 0, none⟩) (some ⟨g9, 0, none⟩) (some ⟨g13, 0, none⟩) (some ⟨g17, 0, none⟩) M N N N M N N N) (by first | rfl | simp [Act.eval] | (simp; rfl)) _ (hbld wz))); try simp only [Act.put, List.setIfInBounds_toArray, List.set_cons_zero, List.set_cons_succ])
         refine wpAnyH_ready (rs := [19]) (by kernel_rfl) (by simp) ?_
         refine AllReadyH.cons (o := ?_) ?_ (fun K hK => ?_) ?_
         rotate_left
         (focus ((simp only [List.getElem?_toArray, List.getElem?_cons_succ, List.getElem?_cons_zero]); first | done | rfl))
         ·skip
          go_simp
          have HT := Lib.hid ((HT5.out.keep (al V5 (.cells cK 60))).tal (St.new V5 60 cK))
          refine hK.out _ _ (HSo.out _ HT.out.bel) (fun hHeld => ?_)
          clear hK K
          try simp only [Act.put, List.setIfInBounds_toArray, List.set_cons_zero, List.set_cons_succ]
          (refine wpAnyH_take (i := 20) (oi := ?_) (v := ?_) ?_ (by kernel_rfl) (by kernel_rfl) (by kernel_rfl) ?_ (Or.inl ⟨?_, ?_⟩) (by assumption) ?_; rotate_left 2; (focus ((simp only [List.getElem?_toArray, List.getElem?_cons_succ, List.getElem?_cons_zero]); first | done | rfl)); (focus (exact fun _ _ _ h => h)); (focus rfl); (focus (intro wz hSw; (try dsimp only at hSw); go_simp; first | done | with_reducible rfl)); try simp only [Act.put, List.setIfInBounds_toArray, List.set_cons_zero, List.set_cons_succ])
          refine wpAnyH_done (by kernel_rfl) ?_ _
          go_wp2_with fail
          go_meet
          exact ⟨_, cK, _, _, _, _, rfl, ⟨k2, k3, k4, k5, k6, k7⟩, HT.out⟩
         exact AllReadyH.nil
        exact AllReadyH.nil
       exact AllReadyH.nil
      exact AllReadyH.nil
     exact AllReadyH.nil
    refine AllReadyH.cons (o := ?_) ?_ (fun K hK => ?_) ?_
    rotate_left
    (focus ((simp only [List.getElem?_toArray, List.getElem?_cons_succ, List.getElem?_cons_zero]); first | done | rfl))
    ·skip
     go_simp
     have HT9 := Lib.hid (HT0.out.mkc (by unfold maxLen; omega))
     have hbn := HT9.out.bel
     refine hK.out _ _ (HSo.out _ hbn) (fun hHeld => ?_)
     generalize V0.alloc (.cells (madeCells #[.int .i64 0] N) 3) = V9 at HT9 hHeld hbn ⊢
     obtain ⟨g9, hg9⟩ : ∃ g9, V0.heap.size = g9 := ⟨_, rfl⟩
     rw [hg9] at HT9
     try rw [hg9]
     clear hg9 hK K hbn
     try simp only [Act.put, List.setIfInBounds_toArray, List.set_cons_zero, List.set_cons_succ]
     refine wpAnyH_ready (rs := [4, 13, 17]) (by kernel_rfl) (by simp) ?_
     refine AllReadyH.cons (o := ?_) ?_ (fun K hK => ?_) ?_
     rotate_left
     (focus ((simp only [List.getElem?_toArray, List.getElem?_cons_succ, List.getElem?_cons_zero]); first | done | rfl))
     ·skip
      go_simp
      go_at_call 35
      refine (HCl.out _).mono ?_
      rintro e V4 ⟨rfl, b4⟩
      have HT4 := Lib.hid (HT9.out.keep b4)
      have hbn := HT4.out.bel
      clear b4
      try go_wp2_with fail
      refine hK.out _ _ (HSo.out _ hbn) (fun hHeld => ?_)
      clear hK K hbn
      try simp only [Act.put, List.setIfInBounds_toArray, List.set_cons_zero, List.set_cons_succ]
      refine wpAnyH_ready (rs := [5, 13, 17]) (by kernel_rfl) (by simp) ?_
      refine AllReadyH.cons (o := ?_) ?_ (fun K hK => ?_) ?_
      rotate_left
      (focus ((simp only [List.getElem?_toArray, List.getElem?_cons_succ, List.getElem?_cons_zero]); first | done | rfl))
      ·skip
       go_simp
       have HT5 := Lib.hid (HT4.out.mkz (by unfold maxLen; omega))
       have hbn := HT5.out.bel
       refine hK.out _ _ (HSo.out _ hbn) (fun hHeld => ?_)
       generalize V4.alloc (.cells (madeCells #[.int .i64 0] M) 3) = V5 at HT5 hHeld hbn ⊢
       obtain ⟨g5, hg5⟩ : ∃ g5, V4.heap.size = g5 := ⟨_, rfl⟩
       rw [hg5] at HT5
       try rw [hg5]
       clear hg5 hK K hbn
       try simp only [Act.put, List.setIfInBounds_toArray, List.set_cons_zero, List.set_cons_succ]
       refine wpAnyH_ready (rs := [13, 17]) (by kernel_rfl) (by simp) ?_
       refine AllReadyH.cons (o := ?_) ?_ (fun K hK => ?_) ?_
       rotate_left
       (focus ((simp only [List.getElem?_toArray, List.getElem?_cons_succ, List.getElem?_cons_zero]); first | done | rfl))
       ·skip
        go_simp
        have HT13 := Lib.hid (HT5.out.mkh (by unfold maxLen; omega))
        have hbn := HT13.out.bel
        refine hK.out _ _ (HSo.out _ hbn) (fun hHeld => ?_)
        generalize V5.alloc (.cells (madeCells #[.int .i64 0] N) 3) = V13 at HT13 hHeld hbn ⊢
        obtain ⟨g13, hg13⟩ : ∃ g13, V5.heap.size = g13 := ⟨_, rfl⟩
        rw [hg13] at HT13
        try rw [hg13]
        clear hg13 hK K hbn
        try simp only [Act.put, List.setIfInBounds_toArray, List.set_cons_zero, List.set_cons_succ]
        refine wpAnyH_ready (rs := [17]) (by kernel_rfl) (by simp) ?_
        refine AllReadyH.cons (o := ?_) ?_ (fun K hK => ?_) ?_
        rotate_left
        (focus ((simp only [List.getElem?_toArray, List.getElem?_cons_succ, List.getElem?_cons_zero]); first | done | rfl))
        ·skip
         go_simp
         have HT17 := Lib.hid (HT13.out.mks (by unfold maxLen; omega))
         have hbn := HT17.out.bel
         refine hK.out _ _ (HSo.out _ hbn) (fun hHeld => ?_)
         generalize V13.alloc (.cells (madeCells #[.int .i64 0] N) 3) = V17 at HT17 hHeld hbn ⊢
         obtain ⟨g17, hg17⟩ : ∃ g17, V13.heap.size = g17 := ⟨_, rfl⟩
         rw [hg17] at HT17
         try rw [hg17]
         clear hg17 hK K hbn
         try simp only [Act.put, List.setIfInBounds_toArray, List.set_cons_zero, List.set_cons_succ]
         obtain ⟨cK, k1, k2, k3, k4, k5, k6, k7, hbld⟩ := tal_built D.cD HB.out.1.dm.sz 9 (some ⟨g5, 0, none⟩) (some ⟨g9, 0, none⟩) (some ⟨g13, 0, none⟩) (some ⟨g17, 0, none⟩) M N N N M N N N; (refine wpAnyH_take (i := 18) (oi := ?_) (v := .agg cK) ?_ (by kernel_rfl) (by kernel_rfl) (by kernel_rfl) ?_ (Or.inl ⟨?_, ?_⟩) (by assumption) ?_; rotate_left; (focus ((simp only [List.getElem?_toArray, List.getElem?_cons_succ, List.getElem?_cons_zero]); first | done | rfl)); (focus (exact fun _ _ _ h => h)); (focus rfl); (focus (intro wz hSw; exact exec_bld10 wz _ _ rfl (TlPs D.cD 9 (some ⟨g5, 0, none⟩) (some ⟨g9, 0, none⟩) (some ⟨g13, 0, none⟩) (some ⟨g17, 0, none⟩) M N N N M N N N) (by first | rfl | simp [Act.eval] | (simp; rfl)) _ (hbld wz))); try simp only [Act.put, List.setIfInBounds_toArray, List.set_cons_zero, List.set_cons_succ])
         refine wpAnyH_ready (rs := [19]) (by kernel_rfl) (by simp) ?_
         refine AllReadyH.cons (o := ?_) ?_ (fun K hK => ?_) ?_
         rotate_left
         (focus ((simp only [List.getElem?_toArray, List.getElem?_cons_succ, List.getElem?_cons_zero]); first | done | rfl))
         ·skip
          go_simp
          have HT := Lib.hid ((HT17.out.keep (al V17 (.cells cK 60))).tal (St.new V17 60 cK))
          refine hK.out _ _ (HSo.out _ HT.out.bel) (fun hHeld => ?_)
          clear hK K
          try simp only [Act.put, List.setIfInBounds_toArray, List.set_cons_zero, List.set_cons_succ]
          (refine wpAnyH_take (i := 20) (oi := ?_) (v := ?_) ?_ (by kernel_rfl) (by kernel_rfl) (by kernel_rfl) ?_ (Or.inl ⟨?_, ?_⟩) (by assumption) ?_; rotate_left 2; (focus ((simp only [List.getElem?_toArray, List.getElem?_cons_succ, List.getElem?_cons_zero]); first | done | rfl)); (focus (exact fun _ _ _ h => h)); (focus rfl); (focus (intro wz hSw; (try dsimp only at hSw); go_simp; first | done | with_reducible rfl)); try simp only [Act.put, List.setIfInBounds_toArray, List.set_cons_zero, List.set_cons_succ])
          refine wpAnyH_done (by kernel_rfl) ?_ _
          go_wp2_with fail
          go_meet
          exact ⟨_, cK, _, _, _, _, rfl, ⟨k2, k3, k4, k5, k6, k7⟩, HT.out⟩
         exact AllReadyH.nil
        exact AllReadyH.nil
       refine AllReadyH.cons (o := ?_) ?_ (fun K hK => ?_) ?_
       rotate_left
       (focus ((simp only [List.getElem?_toArray, List.getElem?_cons_succ, List.getElem?_cons_zero]); first | done | rfl))
       ·skip
        go_simp
        have HT17 := Lib.hid (HT5.out.mks (by unfold maxLen; omega))
        have hbn := HT17.out.bel
        refine hK.out _ _ (HSo.out _ hbn) (fun hHeld => ?_)
        generalize V5.alloc (.cells (madeCells #[.int .i64 0] N) 3) = V17 at HT17 hHeld hbn ⊢
        obtain ⟨g17, hg17⟩ : ∃ g17, V5.heap.size = g17 := ⟨_, rfl⟩
        rw [hg17] at HT17
        try rw [hg17]
        clear hg17 hK K hbn
        try simp only [Act.put, List.setIfInBounds_toArray, List.set_cons_zero, List.set_cons_succ]
        refine wpAnyH_ready (rs := [13]) (by kernel_rfl) (by simp) ?_
        refine AllReadyH.cons (o := ?_) ?_ (fun K hK => ?_) ?_
        rotate_left
        (focus ((simp only [List.getElem?_toArray, List.getElem?_cons_succ, List.getElem?_cons_zero]); first | done | rfl))
        ·skip
         go_simp
         have HT13 := Lib.hid (HT17.out.mkh (by unfold maxLen; omega))
         have hbn := HT13.out.bel
         refine hK.out _ _ (HSo.out _ hbn) (fun hHeld => ?_)
         generalize V17.alloc (.cells (madeCells #[.int .i64 0] N) 3) = V13 at HT13 hHeld hbn ⊢
         obtain ⟨g13, hg13⟩ : ∃ g13, V17.heap.size = g13 := ⟨_, rfl⟩
         rw [hg13] at HT13
         try rw [hg13]
         clear hg13 hK K hbn
         try simp only [Act.put, List.setIfInBounds_toArray, List.set_cons_zero, List.set_cons_succ]
         obtain ⟨cK, k1, k2, k3, k4, k5, k6, k7, hbld⟩ := tal_built D.cD HB.out.1.dm.sz 9 (some ⟨g5, 0, none⟩) (some ⟨g9, 0, none⟩) (some ⟨g13, 0, none⟩) (some ⟨g17, 0, none⟩) M N N N M N N N; (refine wpAnyH_take (i := 18) (oi := ?_) (v := .agg cK) ?_ (by kernel_rfl) (by kernel_rfl) (by kernel_rfl) ?_ (Or.inl ⟨?_, ?_⟩) (by assumption) ?_; rotate_left; (focus ((simp only [List.getElem?_toArray, List.getElem?_cons_succ, List.getElem?_cons_zero]); first | done | rfl)); (focus (exact fun _ _ _ h => h)); (focus rfl); (focus (intro wz hSw; exact exec_bld10 wz _ _ rfl (TlPs D.cD 9 (some ⟨g5, 0, none⟩) (some ⟨g9, 0, none⟩) (some ⟨g13, 0, none⟩) (some ⟨g17, 0, none⟩) M N N N M N N N) (by first | rfl | simp [Act.eval] | (simp; rfl)) _ (hbld wz))); try simp only [Act.put, List.setIfInBounds_toArray, List.set_cons_zero, List.set_cons_succ])
         refine wpAnyH_ready (rs := [19]) (by kernel_rfl) (by simp) ?_
         refine AllReadyH.cons (o := ?_) ?_ (fun K hK => ?_) ?_
         rotate_left
         (focus ((simp only [List.getElem?_toArray, List.getElem?_cons_succ, List.getElem?_cons_zero]); first | done | rfl))
         ·skip
          go_simp
          have HT := Lib.hid ((HT13.out.keep (al V13 (.cells cK 60))).tal (St.new V13 60 cK))
          refine hK.out _ _ (HSo.out _ HT.out.bel) (fun hHeld => ?_)
          clear hK K
          try simp only [Act.put, List.setIfInBounds_toArray, List.set_cons_zero, List.set_cons_succ]
          (refine wpAnyH_take (i := 20) (oi := ?_) (v := ?_) ?_ (by kernel_rfl) (by kernel_rfl) (by kernel_rfl) ?_ (Or.inl ⟨?_, ?_⟩) (by assumption) ?_; rotate_left 2; (focus ((simp only [List.getElem?_toArray, List.getElem?_cons_succ, List.getElem?_cons_zero]); first | done | rfl)); (focus (exact fun _ _ _ h => h)); (focus rfl); (focus (intro wz hSw; (try dsimp only at hSw); go_simp; first | done | with_reducible rfl)); try simp only [Act.put, List.setIfInBounds_toArray, List.set_cons_zero, List.set_cons_succ])
          refine wpAnyH_done (by kernel_rfl) ?_ _
          go_wp2_with fail
          go_meet
          exact ⟨_, cK, _, _, _, _, rfl, ⟨k2, k3, k4, k5, k6, k7⟩, HT.out⟩
         exact AllReadyH.nil
        exact AllReadyH.nil
       exact AllReadyH.nil
      refine AllReadyH.cons (o := ?_) ?_ (fun K hK => ?_) ?_
      rotate_left
      (focus ((simp only [List.getElem?_toArray, List.getElem?_cons_succ, List.getElem?_cons_zero]); first | done | rfl))
      ·skip
       go_simp
       have HT13 := Lib.hid (HT4.out.mkh (by unfold maxLen; omega))
       have hbn := HT13.out.bel
       refine hK.out _ _ (HSo.out _ hbn) (fun hHeld => ?_)
       generalize V4.alloc (.cells (madeCells #[.int .i64 0] N) 3) = V13 at HT13 hHeld hbn ⊢
       obtain ⟨g13, hg13⟩ : ∃ g13, V4.heap.size = g13 := ⟨_, rfl⟩
       rw [hg13] at HT13
       try rw [hg13]
       clear hg13 hK K hbn
       try simp only [Act.put, List.setIfInBounds_toArray, List.set_cons_zero, List.set_cons_succ]
       refine wpAnyH_ready (rs := [5, 17]) (by kernel_rfl) (by simp) ?_
       refine AllReadyH.cons (o := ?_) ?_ (fun K hK => ?_) ?_
       rotate_left
       (focus ((simp only [List.getElem?_toArray, List.getElem?_cons_succ, List.getElem?_cons_zero]); first | done | rfl))
       ·skip
        go_simp
        have HT5 := Lib.hid (HT13.out.mkz (by unfold maxLen; omega))
        have hbn := HT5.out.bel
        refine hK.out _ _ (HSo.out _ hbn) (fun hHeld => ?_)
        generalize V13.alloc (.cells (madeCells #[.int .i64 0] M) 3) = V5 at HT5 hHeld hbn ⊢
        obtain ⟨g5, hg5⟩ : ∃ g5, V13.heap.size = g5 := ⟨_, rfl⟩
        rw [hg5] at HT5
        try rw [hg5]
        clear hg5 hK K hbn
        try simp only [Act.put, List.setIfInBounds_toArray, List.set_cons_zero, List.set_cons_succ]
        refine wpAnyH_ready (rs := [17]) (by kernel_rfl) (by simp) ?_
        refine AllReadyH.cons (o := ?_) ?_ (fun K hK => ?_) ?_
        rotate_left
        (focus ((simp only [List.getElem?_toArray, List.getElem?_cons_succ, List.getElem?_cons_zero]); first | done | rfl))
        ·skip
         go_simp
         have HT17 := Lib.hid (HT5.out.mks (by unfold maxLen; omega))
         have hbn := HT17.out.bel
         refine hK.out _ _ (HSo.out _ hbn) (fun hHeld => ?_)
         generalize V5.alloc (.cells (madeCells #[.int .i64 0] N) 3) = V17 at HT17 hHeld hbn ⊢
         obtain ⟨g17, hg17⟩ : ∃ g17, V5.heap.size = g17 := ⟨_, rfl⟩
         rw [hg17] at HT17
         try rw [hg17]
         clear hg17 hK K hbn
         try simp only [Act.put, List.setIfInBounds_toArray, List.set_cons_zero, List.set_cons_succ]
         obtain ⟨cK, k1, k2, k3, k4, k5, k6, k7, hbld⟩ := tal_built D.cD HB.out.1.dm.sz 9 (some ⟨g5, 0, none⟩) (some ⟨g9, 0, none⟩) (some ⟨g13, 0, none⟩) (some ⟨g17, 0, none⟩) M N N N M N N N; (refine wpAnyH_take (i := 18) (oi := ?_) (v := .agg cK) ?_ (by kernel_rfl) (by kernel_rfl) (by kernel_rfl) ?_ (Or.inl ⟨?_, ?_⟩) (by assumption) ?_; rotate_left; (focus ((simp only [List.getElem?_toArray, List.getElem?_cons_succ, List.getElem?_cons_zero]); first | done | rfl)); (focus (exact fun _ _ _ h => h)); (focus rfl); (focus (intro wz hSw; exact exec_bld10 wz _ _ rfl (TlPs D.cD 9 (some ⟨g5, 0, none⟩) (some ⟨g9, 0, none⟩) (some ⟨g13, 0, none⟩) (some ⟨g17, 0, none⟩) M N N N M N N N) (by first | rfl | simp [Act.eval] | (simp; rfl)) _ (hbld wz))); try simp only [Act.put, List.setIfInBounds_toArray, List.set_cons_zero, List.set_cons_succ])
         refine wpAnyH_ready (rs := [19]) (by kernel_rfl) (by simp) ?_
         refine AllReadyH.cons (o := ?_) ?_ (fun K hK => ?_) ?_
         rotate_left
         (focus ((simp only [List.getElem?_toArray, List.getElem?_cons_succ, List.getElem?_cons_zero]); first | done | rfl))
         ·skip
          go_simp
          have HT := Lib.hid ((HT17.out.keep (al V17 (.cells cK 60))).tal (St.new V17 60 cK))
          refine hK.out _ _ (HSo.out _ HT.out.bel) (fun hHeld => ?_)
          clear hK K
          try simp only [Act.put, List.setIfInBounds_toArray, List.set_cons_zero, List.set_cons_succ]
          (refine wpAnyH_take (i := 20) (oi := ?_) (v := ?_) ?_ (by kernel_rfl) (by kernel_rfl) (by kernel_rfl) ?_ (Or.inl ⟨?_, ?_⟩) (by assumption) ?_; rotate_left 2; (focus ((simp only [List.getElem?_toArray, List.getElem?_cons_succ, List.getElem?_cons_zero]); first | done | rfl)); (focus (exact fun _ _ _ h => h)); (focus rfl); (focus (intro wz hSw; (try dsimp only at hSw); go_simp; first | done | with_reducible rfl)); try simp only [Act.put, List.setIfInBounds_toArray, List.set_cons_zero, List.set_cons_succ])
          refine wpAnyH_done (by kernel_rfl) ?_ _
          go_wp2_with fail
          go_meet
          exact ⟨_, cK, _, _, _, _, rfl, ⟨k2, k3, k4, k5, k6, k7⟩, HT.out⟩
         exact AllReadyH.nil
        exact AllReadyH.nil
       refine AllReadyH.cons (o := ?_) ?_ (fun K hK => ?_) ?_
       rotate_left
       (focus ((simp only [List.getElem?_toArray, List.getElem?_cons_succ, List.getElem?_cons_zero]); first | done | rfl))
       ·skip
        go_simp
        have HT17 := Lib.hid (HT13.out.mks (by unfold maxLen; omega))
        have hbn := HT17.out.bel
        refine hK.out _ _ (HSo.out _ hbn) (fun hHeld => ?_)
        generalize V13.alloc (.cells (madeCells #[.int .i64 0] N) 3) = V17 at HT17 hHeld hbn ⊢
        obtain ⟨g17, hg17⟩ : ∃ g17, V13.heap.size = g17 := ⟨_, rfl⟩
        rw [hg17] at HT17
        try rw [hg17]
        clear hg17 hK K hbn
        try simp only [Act.put, List.setIfInBounds_toArray, List.set_cons_zero, List.set_cons_succ]
        refine wpAnyH_ready (rs := [5]) (by kernel_rfl) (by simp) ?_
        refine AllReadyH.cons (o := ?_) ?_ (fun K hK => ?_) ?_
        rotate_left
        (focus ((simp only [List.getElem?_toArray, List.getElem?_cons_succ, List.getElem?_cons_zero]); first | done | rfl))
        ·skip
         go_simp
         have HT5 := Lib.hid (HT17.out.mkz (by unfold maxLen; omega))
         have hbn := HT5.out.bel
         refine hK.out _ _ (HSo.out _ hbn) (fun hHeld => ?_)
         generalize V17.alloc (.cells (madeCells #[.int .i64 0] M) 3) = V5 at HT5 hHeld hbn ⊢
         obtain ⟨g5, hg5⟩ : ∃ g5, V17.heap.size = g5 := ⟨_, rfl⟩
         rw [hg5] at HT5
         try rw [hg5]
         clear hg5 hK K hbn
         try simp only [Act.put, List.setIfInBounds_toArray, List.set_cons_zero, List.set_cons_succ]
         obtain ⟨cK, k1, k2, k3, k4, k5, k6, k7, hbld⟩ := tal_built D.cD HB.out.1.dm.sz 9 (some ⟨g5, 0, none⟩) (some ⟨g9, 0, none⟩) (some ⟨g13, 0, none⟩) (some ⟨g17, 0, none⟩) M N N N M N N N; (refine wpAnyH_take (i := 18) (oi := ?_) (v := .agg cK) ?_ (by kernel_rfl) (by kernel_rfl) (by kernel_rfl) ?_ (Or.inl ⟨?_, ?_⟩) (by assumption) ?_; rotate_left; (focus ((simp only [List.getElem?_toArray, List.getElem?_cons_succ, List.getElem?_cons_zero]); first | done | rfl)); (focus (exact fun _ _ _ h => h)); (focus rfl); (focus (intro wz hSw; exact exec_bld10 wz _ _ rfl (TlPs D.cD 9 (some ⟨g5, 0, none⟩) (some ⟨g9, 0, none⟩) (some ⟨g13, 0, none⟩) (some ⟨g17, 0, none⟩) M N N N M N N N) (by first | rfl | simp [Act.eval] | (simp; rfl)) _ (hbld wz))); try simp only [Act.put, List.setIfInBounds_toArray, List.set_cons_zero, List.set_cons_succ])
         refine wpAnyH_ready (rs := [19]) (by kernel_rfl) (by simp) ?_
         refine AllReadyH.cons (o := ?_) ?_ (fun K hK => ?_) ?_
         rotate_left
         (focus ((simp only [List.getElem?_toArray, List.getElem?_cons_succ, List.getElem?_cons_zero]); first | done | rfl))
         ·skip
          go_simp
          have HT := Lib.hid ((HT5.out.keep (al V5 (.cells cK 60))).tal (St.new V5 60 cK))
          refine hK.out _ _ (HSo.out _ HT.out.bel) (fun hHeld => ?_)
          clear hK K
          try simp only [Act.put, List.setIfInBounds_toArray, List.set_cons_zero, List.set_cons_succ]
          (refine wpAnyH_take (i := 20) (oi := ?_) (v := ?_) ?_ (by kernel_rfl) (by kernel_rfl) (by kernel_rfl) ?_ (Or.inl ⟨?_, ?_⟩) (by assumption) ?_; rotate_left 2; (focus ((simp only [List.getElem?_toArray, List.getElem?_cons_succ, List.getElem?_cons_zero]); first | done | rfl)); (focus (exact fun _ _ _ h => h)); (focus rfl); (focus (intro wz hSw; (try dsimp only at hSw); go_simp; first | done | with_reducible rfl)); try simp only [Act.put, List.setIfInBounds_toArray, List.set_cons_zero, List.set_cons_succ])
          refine wpAnyH_done (by kernel_rfl) ?_ _
          go_wp2_with fail
          go_meet
          exact ⟨_, cK, _, _, _, _, rfl, ⟨k2, k3, k4, k5, k6, k7⟩, HT.out⟩
         exact AllReadyH.nil
        exact AllReadyH.nil
       exact AllReadyH.nil
      refine AllReadyH.cons (o := ?_) ?_ (fun K hK => ?_) ?_
      rotate_left
      (focus ((simp only [List.getElem?_toArray, List.getElem?_cons_succ, List.getElem?_cons_zero]); first | done | rfl))
      ·skip
       go_simp
       have HT17 := Lib.hid (HT4.out.mks (by unfold maxLen; omega))
       have hbn := HT17.out.bel
       refine hK.out _ _ (HSo.out _ hbn) (fun hHeld => ?_)
       generalize V4.alloc (.cells (madeCells #[.int .i64 0] N) 3) = V17 at HT17 hHeld hbn ⊢
       obtain ⟨g17, hg17⟩ : ∃ g17, V4.heap.size = g17 := ⟨_, rfl⟩
       rw [hg17] at HT17
       try rw [hg17]
       clear hg17 hK K hbn
       try simp only [Act.put, List.setIfInBounds_toArray, List.set_cons_zero, List.set_cons_succ]
       refine wpAnyH_ready (rs := [5, 13]) (by kernel_rfl) (by simp) ?_
       refine AllReadyH.cons (o := ?_) ?_ (fun K hK => ?_) ?_
       rotate_left
       (focus ((simp only [List.getElem?_toArray, List.getElem?_cons_succ, List.getElem?_cons_zero]); first | done | rfl))
       ·skip
        go_simp
        have HT5 := Lib.hid (HT17.out.mkz (by unfold maxLen; omega))
        have hbn := HT5.out.bel
        refine hK.out _ _ (HSo.out _ hbn) (fun hHeld => ?_)
        generalize V17.alloc (.cells (madeCells #[.int .i64 0] M) 3) = V5 at HT5 hHeld hbn ⊢
        obtain ⟨g5, hg5⟩ : ∃ g5, V17.heap.size = g5 := ⟨_, rfl⟩
        rw [hg5] at HT5
        try rw [hg5]
        clear hg5 hK K hbn
        try simp only [Act.put, List.setIfInBounds_toArray, List.set_cons_zero, List.set_cons_succ]
        refine wpAnyH_ready (rs := [13]) (by kernel_rfl) (by simp) ?_
        refine AllReadyH.cons (o := ?_) ?_ (fun K hK => ?_) ?_
        rotate_left
        (focus ((simp only [List.getElem?_toArray, List.getElem?_cons_succ, List.getElem?_cons_zero]); first | done | rfl))
        ·skip
         go_simp
         have HT13 := Lib.hid (HT5.out.mkh (by unfold maxLen; omega))
         have hbn := HT13.out.bel
         refine hK.out _ _ (HSo.out _ hbn) (fun hHeld => ?_)
         generalize V5.alloc (.cells (madeCells #[.int .i64 0] N) 3) = V13 at HT13 hHeld hbn ⊢
         obtain ⟨g13, hg13⟩ : ∃ g13, V5.heap.size = g13 := ⟨_, rfl⟩
         rw [hg13] at HT13
         try rw [hg13]
         clear hg13 hK K hbn
         try simp only [Act.put, List.setIfInBounds_toArray, List.set_cons_zero, List.set_cons_succ]
         obtain ⟨cK, k1, k2, k3, k4, k5, k6, k7, hbld⟩ := tal_built D.cD HB.out.1.dm.sz 9 (some ⟨g5, 0, none⟩) (some ⟨g9, 0, none⟩) (some ⟨g13, 0, none⟩) (some ⟨g17, 0, none⟩) M N N N M N N N; (refine wpAnyH_take (i := 18) (oi := ?_) (v := .agg cK) ?_ (by kernel_rfl) (by kernel_rfl) (by kernel_rfl) ?_ (Or.inl ⟨?_, ?_⟩) (by assumption) ?_; rotate_left; (focus ((simp only [List.getElem?_toArray, List.getElem?_cons_succ, List.getElem?_cons_zero]); first | done | rfl)); (focus (exact fun _ _ _ h => h)); (focus rfl); (focus (intro wz hSw; exact exec_bld10 wz _ _ rfl (TlPs D.cD 9 (some ⟨g5, 0, none⟩) (some ⟨g9, 0, none⟩) (some ⟨g13, 0, none⟩) (some ⟨g17, 0, none⟩) M N N N M N N N) (by first | rfl | simp [Act.eval] | (simp; rfl)) _ (hbld wz))); try simp only [Act.put, List.setIfInBounds_toArray, List.set_cons_zero, List.set_cons_succ])
         refine wpAnyH_ready (rs := [19]) (by kernel_rfl) (by simp) ?_
         refine AllReadyH.cons (o := ?_) ?_ (fun K hK => ?_) ?_
         rotate_left
         (focus ((simp only [List.getElem?_toArray, List.getElem?_cons_succ, List.getElem?_cons_zero]); first | done | rfl))
         ·skip
          go_simp
          have HT := Lib.hid ((HT13.out.keep (al V13 (.cells cK 60))).tal (St.new V13 60 cK))
          refine hK.out _ _ (HSo.out _ HT.out.bel) (fun hHeld => ?_)
          clear hK K
          try simp only [Act.put, List.setIfInBounds_toArray, List.set_cons_zero, List.set_cons_succ]
          (refine wpAnyH_take (i := 20) (oi := ?_) (v := ?_) ?_ (by kernel_rfl) (by kernel_rfl) (by kernel_rfl) ?_ (Or.inl ⟨?_, ?_⟩) (by assumption) ?_; rotate_left 2; (focus ((simp only [List.getElem?_toArray, List.getElem?_cons_succ, List.getElem?_cons_zero]); first | done | rfl)); (focus (exact fun _ _ _ h => h)); (focus rfl); (focus (intro wz hSw; (try dsimp only at hSw); go_simp; first | done | with_reducible rfl)); try simp only [Act.put, List.setIfInBounds_toArray, List.set_cons_zero, List.set_cons_succ])
          refine wpAnyH_done (by kernel_rfl) ?_ _
          go_wp2_with fail
          go_meet
          exact ⟨_, cK, _, _, _, _, rfl, ⟨k2, k3, k4, k5, k6, k7⟩, HT.out⟩
         exact AllReadyH.nil
        exact AllReadyH.nil
       refine AllReadyH.cons (o := ?_) ?_ (fun K hK => ?_) ?_
       rotate_left
       (focus ((simp only [List.getElem?_toArray, List.getElem?_cons_succ, List.getElem?_cons_zero]); first | done | rfl))
       ·skip
        go_simp
        have HT13 := Lib.hid (HT17.out.mkh (by unfold maxLen; omega))
        have hbn := HT13.out.bel
        refine hK.out _ _ (HSo.out _ hbn) (fun hHeld => ?_)
        generalize V17.alloc (.cells (madeCells #[.int .i64 0] N) 3) = V13 at HT13 hHeld hbn ⊢
        obtain ⟨g13, hg13⟩ : ∃ g13, V17.heap.size = g13 := ⟨_, rfl⟩
        rw [hg13] at HT13
        try rw [hg13]
        clear hg13 hK K hbn
        try simp only [Act.put, List.setIfInBounds_toArray, List.set_cons_zero, List.set_cons_succ]
        refine wpAnyH_ready (rs := [5]) (by kernel_rfl) (by simp) ?_
        refine AllReadyH.cons (o := ?_) ?_ (fun K hK => ?_) ?_
        rotate_left
        (focus ((simp only [List.getElem?_toArray, List.getElem?_cons_succ, List.getElem?_cons_zero]); first | done | rfl))
        ·skip
         go_simp
         have HT5 := Lib.hid (HT13.out.mkz (by unfold maxLen; omega))
         have hbn := HT5.out.bel
         refine hK.out _ _ (HSo.out _ hbn) (fun hHeld => ?_)
         generalize V13.alloc (.cells (madeCells #[.int .i64 0] M) 3) = V5 at HT5 hHeld hbn ⊢
         obtain ⟨g5, hg5⟩ : ∃ g5, V13.heap.size = g5 := ⟨_, rfl⟩
         rw [hg5] at HT5
         try rw [hg5]
         clear hg5 hK K hbn
         try simp only [Act.put, List.setIfInBounds_toArray, List.set_cons_zero, List.set_cons_succ]
         obtain ⟨cK, k1, k2, k3, k4, k5, k6, k7, hbld⟩ := tal_built D.cD HB.out.1.dm.sz 9 (some ⟨g5, 0, none⟩) (some ⟨g9, 0, none⟩) (some ⟨g13, 0, none⟩) (some ⟨g17, 0, none⟩) M N N N M N N N; (refine wpAnyH_take (i := 18) (oi := ?_) (v := .agg cK) ?_ (by kernel_rfl) (by kernel_rfl) (by kernel_rfl) ?_ (Or.inl ⟨?_, ?_⟩) (by assumption) ?_; rotate_left; (focus ((simp only [List.getElem?_toArray, List.getElem?_cons_succ, List.getElem?_cons_zero]); first | done | rfl)); (focus (exact fun _ _ _ h => h)); (focus rfl); (focus (intro wz hSw; exact exec_bld10 wz _ _ rfl (TlPs D.cD 9 (some ⟨g5, 0, none⟩) (some ⟨g9, 0, none⟩) (some ⟨g13, 0, none⟩) (some ⟨g17, 0, none⟩) M N N N M N N N) (by first | rfl | simp [Act.eval] | (simp; rfl)) _ (hbld wz))); try simp only [Act.put, List.setIfInBounds_toArray, List.set_cons_zero, List.set_cons_succ])
         refine wpAnyH_ready (rs := [19]) (by kernel_rfl) (by simp) ?_
         refine AllReadyH.cons (o := ?_) ?_ (fun K hK => ?_) ?_
         rotate_left
         (focus ((simp only [List.getElem?_toArray, List.getElem?_cons_succ, List.getElem?_cons_zero]); first | done | rfl))
         ·skip
          go_simp
          have HT := Lib.hid ((HT5.out.keep (al V5 (.cells cK 60))).tal (St.new V5 60 cK))
          refine hK.out _ _ (HSo.out _ HT.out.bel) (fun hHeld => ?_)
          clear hK K
          try simp only [Act.put, List.setIfInBounds_toArray, List.set_cons_zero, List.set_cons_succ]
          (refine wpAnyH_take (i := 20) (oi := ?_) (v := ?_) ?_ (by kernel_rfl) (by kernel_rfl) (by kernel_rfl) ?_ (Or.inl ⟨?_, ?_⟩) (by assumption) ?_; rotate_left 2; (focus ((simp only [List.getElem?_toArray, List.getElem?_cons_succ, List.getElem?_cons_zero]); first | done | rfl)); (focus (exact fun _ _ _ h => h)); (focus rfl); (focus (intro wz hSw; (try dsimp only at hSw); go_simp; first | done | with_reducible rfl)); try simp only [Act.put, List.setIfInBounds_toArray, List.set_cons_zero, List.set_cons_succ])
          refine wpAnyH_done (by kernel_rfl) ?_ _
          go_wp2_with fail
          go_meet
          exact ⟨_, cK, _, _, _, _, rfl, ⟨k2, k3, k4, k5, k6, k7⟩, HT.out⟩
         exact AllReadyH.nil
        exact AllReadyH.nil
       exact AllReadyH.nil
      exact AllReadyH.nil
     refine AllReadyH.cons (o := ?_) ?_ (fun K hK => ?_) ?_
     rotate_left
     (focus ((simp only [List.getElem?_toArray, List.getElem?_cons_succ, List.getElem?_cons_zero]); first | done | rfl))
     ·skip
      go_simp
      have HT13 := Lib.hid (HT9.out.mkh (by unfold maxLen; omega))
      have hbn := HT13.out.bel
      refine hK.out _ _ (HSo.out _ hbn) (fun hHeld => ?_)
      generalize V9.alloc (.cells (madeCells #[.int .i64 0] N) 3) = V13 at HT13 hHeld hbn ⊢
      obtain ⟨g13, hg13⟩ : ∃ g13, V9.heap.size = g13 := ⟨_, rfl⟩
      rw [hg13] at HT13
      try rw [hg13]
      clear hg13 hK K hbn
      try simp only [Act.put, List.setIfInBounds_toArray, List.set_cons_zero, List.set_cons_succ]
      refine wpAnyH_ready (rs := [4, 17]) (by kernel_rfl) (by simp) ?_
      refine AllReadyH.cons (o := ?_) ?_ (fun K hK => ?_) ?_
      rotate_left
      (focus ((simp only [List.getElem?_toArray, List.getElem?_cons_succ, List.getElem?_cons_zero]); first | done | rfl))
      ·skip
       go_simp
       go_at_call 35
       refine (HCl.out _).mono ?_
       rintro e V4 ⟨rfl, b4⟩
       have HT4 := Lib.hid (HT13.out.keep b4)
       have hbn := HT4.out.bel
       clear b4
       try go_wp2_with fail
       refine hK.out _ _ (HSo.out _ hbn) (fun hHeld => ?_)
       clear hK K hbn
       try simp only [Act.put, List.setIfInBounds_toArray, List.set_cons_zero, List.set_cons_succ]
       refine wpAnyH_ready (rs := [5, 17]) (by kernel_rfl) (by simp) ?_
       refine AllReadyH.cons (o := ?_) ?_ (fun K hK => ?_) ?_
       rotate_left
       (focus ((simp only [List.getElem?_toArray, List.getElem?_cons_succ, List.getElem?_cons_zero]); first | done | rfl))
       ·skip
        go_simp
        have HT5 := Lib.hid (HT4.out.mkz (by unfold maxLen; omega))
        have hbn := HT5.out.bel
        refine hK.out _ _ (HSo.out _ hbn) (fun hHeld => ?_)
        generalize V4.alloc (.cells (madeCells #[.int .i64 0] M) 3) = V5 at HT5 hHeld hbn ⊢
        obtain ⟨g5, hg5⟩ : ∃ g5, V4.heap.size = g5 := ⟨_, rfl⟩
        rw [hg5] at HT5
        try rw [hg5]
        clear hg5 hK K hbn
        try simp only [Act.put, List.setIfInBounds_toArray, List.set_cons_zero, List.set_cons_succ]
        refine wpAnyH_ready (rs := [17]) (by kernel_rfl) (by simp) ?_
        refine AllReadyH.cons (o := ?_) ?_ (fun K hK => ?_) ?_
        rotate_left
        (focus ((simp only [List.getElem?_toArray, List.getElem?_cons_succ, List.getElem?_cons_zero]); first | done | rfl))
        ·skip
         go_simp
         have HT17 := Lib.hid (HT5.out.mks (by unfold maxLen; omega))
         have hbn := HT17.out.bel
         refine hK.out _ _ (HSo.out _ hbn) (fun hHeld => ?_)
         generalize V5.alloc (.cells (madeCells #[.int .i64 0] N) 3) = V17 at HT17 hHeld hbn ⊢
         obtain ⟨g17, hg17⟩ : ∃ g17, V5.heap.size = g17 := ⟨_, rfl⟩
         rw [hg17] at HT17
         try rw [hg17]
         clear hg17 hK K hbn
         try simp only [Act.put, List.setIfInBounds_toArray, List.set_cons_zero, List.set_cons_succ]
         obtain ⟨cK, k1, k2, k3, k4, k5, k6, k7, hbld⟩ := tal_built D.cD HB.out.1.dm.sz 9 (some ⟨g5, 0, none⟩) (some ⟨g9, 0, none⟩) (some ⟨g13, 0, none⟩) (some ⟨g17, 0, none⟩) M N N N M N N N; (refine wpAnyH_take (i := 18) (oi := ?_) (v := .agg cK) ?_ (by kernel_rfl) (by kernel_rfl) (by kernel_rfl) ?_ (Or.inl ⟨?_, ?_⟩) (by assumption) ?_; rotate_left; (focus ((simp only [List.getElem?_toArray, List.getElem?_cons_succ, List.getElem?_cons_zero]); first | done | rfl)); (focus (exact fun _ _ _ h => h)); (focus rfl); (focus (intro wz hSw; exact exec_bld10 wz _ _ rfl (TlPs D.cD 9 (some ⟨g5, 0, none⟩) (some ⟨g9, 0, none⟩) (some ⟨g13, 0, none⟩) (some ⟨g17, 0, none⟩) M N N N M N N N) (by first | rfl | simp [Act.eval] | (simp; rfl)) _ (hbld wz))); try simp only [Act.put, List.setIfInBounds_toArray, List.set_cons_zero, List.set_cons_succ])
         refine wpAnyH_ready (rs := [19]) (by kernel_rfl) (by simp) ?_
         refine AllReadyH.cons (o := ?_) ?_ (fun K hK => ?_) ?_
         rotate_left
         (focus ((simp only [List.getElem?_toArray, List.getElem?_cons_succ, List.getElem?_cons_zero]); first | done | rfl))
         ·skip
          go_simp
          have HT := Lib.hid ((HT17.out.keep (al V17 (.cells cK 60))).tal (St.new V17 60 cK))
          refine hK.out _ _ (HSo.out _ HT.out.bel) (fun hHeld => ?_)
          clear hK K
          try simp only [Act.put, List.setIfInBounds_toArray, List.set_cons_zero, List.set_cons_succ]
          (refine wpAnyH_take (i := 20) (oi := ?_) (v := ?_) ?_ (by kernel_rfl) (by kernel_rfl) (by kernel_rfl) ?_ (Or.inl ⟨?_, ?_⟩) (by assumption) ?_; rotate_left 2; (focus ((simp only [List.getElem?_toArray, List.getElem?_cons_succ, List.getElem?_cons_zero]); first | done | rfl)); (focus (exact fun _ _ _ h => h)); (focus rfl); (focus (intro wz hSw; (try dsimp only at hSw); go_simp; first | done | with_reducible rfl)); try simp only [Act.put, List.setIfInBounds_toArray, List.set_cons_zero, List.set_cons_succ])
          refine wpAnyH_done (by kernel_rfl) ?_ _
          go_wp2_with fail
          go_meet
          exact ⟨_, cK, _, _, _, _, rfl, ⟨k2, k3, k4, k5, k6, k7⟩, HT.out⟩
         exact AllReadyH.nil
        exact AllReadyH.nil
       refine AllReadyH.cons (o := ?_) ?_ (fun K hK => ?_) ?_
       rotate_left
       (focus ((simp only [List.getElem?_toArray, List.getElem?_cons_succ, List.getElem?_cons_zero]); first | done | rfl))
       ·skip
        go_simp
        have HT17 := Lib.hid (HT4.out.mks (by unfold maxLen; omega))
        have hbn := HT17.out.bel
        refine hK.out _ _ (HSo.out _ hbn) (fun hHeld => ?_)
        generalize V4.alloc (.cells (madeCells #[.int .i64 0] N) 3) = V17 at HT17 hHeld hbn ⊢
        obtain ⟨g17, hg17⟩ : ∃ g17, V4.heap.size = g17 := ⟨_, rfl⟩
        rw [hg17] at HT17
        try rw [hg17]
        clear hg17 hK K hbn
        try simp only [Act.put, List.setIfInBounds_toArray, List.set_cons_zero, List.set_cons_succ]
        refine wpAnyH_ready (rs := [5]) (by kernel_rfl) (by simp) ?_
        refine AllReadyH.cons (o := ?_) ?_ (fun K hK => ?_) ?_
        rotate_left
        (focus ((simp only [List.getElem?_toArray, List.getElem?_cons_succ, List.getElem?_cons_zero]); first | done | rfl))
        ·skip
         go_simp
         have HT5 := Lib.hid (HT17.out.mkz (by unfold maxLen; omega))
         have hbn := HT5.out.bel
         refine hK.out _ _ (HSo.out _ hbn) (fun hHeld => ?_)
         generalize V17.alloc (.cells (madeCells #[.int .i64 0] M) 3) = V5 at HT5 hHeld hbn ⊢
         obtain ⟨g5, hg5⟩ : ∃ g5, V17.heap.size = g5 := ⟨_, rfl⟩
         rw [hg5] at HT5
         try rw [hg5]
         clear hg5 hK K hbn
         try simp only [Act.put, List.setIfInBounds_toArray, List.set_cons_zero, List.set_cons_succ]
         obtain ⟨cK, k1, k2, k3, k4, k5, k6, k7, hbld⟩ := tal_built D.cD HB.out.1.dm.sz 9 (some ⟨g5, 0, none⟩) (some ⟨g9, 0, none⟩) (some ⟨g13, 0, none⟩) (some ⟨g17, 0, none⟩) M N N N M N N N; (refine wpAnyH_take (i := 18) (oi := ?_) (v := .agg cK) ?_ (by kernel_rfl) (by kernel_rfl) (by kernel_rfl) ?_ (Or.inl ⟨?_, ?_⟩) (by assumption) ?_; rotate_left; (focus ((simp only [List.getElem?_toArray, List.getElem?_cons_succ, List.getElem?_cons_zero]); first | done | rfl)); (focus (exact fun _ _ _ h => h)); (focus rfl); (focus (intro wz hSw; exact exec_bld10 wz _ _ rfl (TlPs D.cD 9 (some ⟨g5, 0, none⟩) (some ⟨g9, 0, none⟩) (some ⟨g13, 0, none⟩) (some ⟨g17, 0, none⟩) M N N N M N N N) (by first | rfl | simp [Act.eval] | (simp; rfl)) _ (hbld wz))); try simp only [Act.put, List.setIfInBounds_toArray, List.set_cons_zero, List.set_cons_succ])
         refine wpAnyH_ready (rs := [19]) (by kernel_rfl) (by simp) ?_
         refine AllReadyH.cons (o := ?_) ?_ (fun K hK => ?_) ?_
         rotate_left
         (focus ((simp only [List.getElem?_toArray, List.getElem?_cons_succ, List.getElem?_cons_zero]); first | done | rfl))
         ·skip
          go_simp
          have HT := Lib.hid ((HT5.out.keep (al V5 (.cells cK 60))).tal (St.new V5 60 cK))
          refine hK.out _ _ (HSo.out _ HT.out.bel) (fun hHeld => ?_)
          clear hK K
          try simp only [Act.put, List.setIfInBounds_toArray, List.set_cons_zero, List.set_cons_succ]
          (refine wpAnyH_take (i := 20) (oi := ?_) (v := ?_) ?_ (by kernel_rfl) (by kernel_rfl) (by kernel_rfl) ?_ (Or.inl ⟨?_, ?_⟩) (by assumption) ?_; rotate_left 2; (focus ((simp only [List.getElem?_toArray, List.getElem?_cons_succ, List.getElem?_cons_zero]); first | done | rfl)); (focus (exact fun _ _ _ h => h)); (focus rfl); (focus (intro wz hSw; (try dsimp only at hSw); go_simp; first | done | with_reducible rfl)); try simp only [Act.put, List.setIfInBounds_toArray, List.set_cons_zero, List.set_cons_succ])
          refine wpAnyH_done (by kernel_rfl) ?_ _
          go_wp2_with fail
          go_meet
          exact ⟨_, cK, _, _, _, _, rfl, ⟨k2, k3, k4, k5, k6, k7⟩, HT.out⟩
         exact AllReadyH.nil
        exact AllReadyH.nil
       exact AllReadyH.nil
      refine AllReadyH.cons (o := ?_) ?_ (fun K hK => ?_) ?_
      rotate_left
      (focus ((simp only [List.getElem?_toArray, List.getElem?_cons_succ, List.getElem?_cons_zero]); first | done | rfl))
      ·skip
       go_simp
       have HT17 := Lib.hid (HT13.out.mks (by unfold maxLen; omega))
       have hbn := HT17.out.bel
       refine hK.out _ _ (HSo.out _ hbn) (fun hHeld => ?_)
       generalize V13.alloc (.cells (madeCells #[.int .i64 0] N) 3) = V17 at HT17 hHeld hbn ⊢
       obtain ⟨g17, hg17⟩ : ∃ g17, V13.heap.size = g17 := ⟨_, rfl⟩
       rw [hg17] at HT17
       try rw [hg17]
       clear hg17 hK K hbn
       try simp only [Act.put, List.setIfInBounds_toArray, List.set_cons_zero, List.set_cons_succ]
       refine wpAnyH_ready (rs := [4]) (by kernel_rfl) (by simp) ?_
       refine AllReadyH.cons (o := ?_) ?_ (fun K hK => ?_) ?_
       rotate_left
       (focus ((simp only [List.getElem?_toArray, List.getElem?_cons_succ, List.getElem?_cons_zero]); first | done | rfl))
       ·skip
        go_simp
        go_at_call 35
        refine (HCl.out _).mono ?_
        rintro e V4 ⟨rfl, b4⟩
        have HT4 := Lib.hid (HT17.out.keep b4)
        have hbn := HT4.out.bel
        clear b4
        try go_wp2_with fail
        refine hK.out _ _ (HSo.out _ hbn) (fun hHeld => ?_)
        clear hK K hbn
        try simp only [Act.put, List.setIfInBounds_toArray, List.set_cons_zero, List.set_cons_succ]
        refine wpAnyH_ready (rs := [5]) (by kernel_rfl) (by simp) ?_
        refine AllReadyH.cons (o := ?_) ?_ (fun K hK => ?_) ?_
        rotate_left
        (focus ((simp only [List.getElem?_toArray, List.getElem?_cons_succ, List.getElem?_cons_zero]); first | done | rfl))
        ·skip
         go_simp
         have HT5 := Lib.hid (HT4.out.mkz (by unfold maxLen; omega))
         have hbn := HT5.out.bel
         refine hK.out _ _ (HSo.out _ hbn) (fun hHeld => ?_)
         generalize V4.alloc (.cells (madeCells #[.int .i64 0] M) 3) = V5 at HT5 hHeld hbn ⊢
         obtain ⟨g5, hg5⟩ : ∃ g5, V4.heap.size = g5 := ⟨_, rfl⟩
         rw [hg5] at HT5
         try rw [hg5]
         clear hg5 hK K hbn
         try simp only [Act.put, List.setIfInBounds_toArray, List.set_cons_zero, List.set_cons_succ]
         obtain ⟨cK, k1, k2, k3, k4, k5, k6, k7, hbld⟩ := tal_built D.cD HB.out.1.dm.sz 9 (some ⟨g5, 0, none⟩) (some ⟨g9, 0, none⟩) (some ⟨g13, 0, none⟩) (some ⟨g17, 0, none⟩) M N N N M N N N; (refine wpAnyH_take (i := 18) (oi := ?_) (v := .agg cK) ?_ (by kernel_rfl) (by kernel_rfl) (by kernel_rfl) ?_ (Or.inl ⟨?_, ?_⟩) (by assumption) ?_; rotate_left; (focus ((simp only [List.getElem?_toArray, List.getElem?_cons_succ, List.getElem?_cons_zero]); first | done | rfl)); (focus (exact fun _ _ _ h => h)); (focus rfl); (focus (intro wz hSw; exact exec_bld10 wz _ _ rfl (TlPs D.cD 9 (some ⟨g5, 0, none⟩) (some ⟨g9, 0, none⟩) (some ⟨g13, 0, none⟩) (some ⟨g17, 0, none⟩) M N N N M N N N) (by first | rfl | simp [Act.eval] | (simp; rfl)) _ (hbld wz))); try simp only [Act.put, List.setIfInBounds_toArray, List.set_cons_zero, List.set_cons_succ])
         refine wpAnyH_ready (rs := [19]) (by kernel_rfl) (by simp) ?_
         refine AllReadyH.cons (o := ?_) ?_ (fun K hK => ?_) ?_
         rotate_left
         (focus ((simp only [List.getElem?_toArray, List.getElem?_cons_succ, List.getElem?_cons_zero]); first | done | rfl))
         ·skip
          go_simp
          have HT := Lib.hid ((HT5.out.keep (al V5 (.cells cK 60))).tal (St.new V5 60 cK))
          refine hK.out _ _ (HSo.out _ HT.out.bel) (fun hHeld => ?_)
          clear hK K
          try simp only [Act.put, List.setIfInBounds_toArray, List.set_cons_zero, List.set_cons_succ]
          (refine wpAnyH_take (i := 20) (oi := ?_) (v := ?_) ?_ (by kernel_rfl) (by kernel_rfl) (by kernel_rfl) ?_ (Or.inl ⟨?_, ?_⟩) (by assumption) ?_; rotate_left 2; (focus ((simp only [List.getElem?_toArray, List.getElem?_cons_succ, List.getElem?_cons_zero]); first | done | rfl)); (focus (exact fun _ _ _ h => h)); (focus rfl); (focus (intro wz hSw; (try dsimp only at hSw); go_simp; first | done | with_reducible rfl)); try simp only [Act.put, List.setIfInBounds_toArray, List.set_cons_zero, List.set_cons_succ])
          refine wpAnyH_done (by kernel_rfl) ?_ _
          go_wp2_with fail
          go_meet
          exact ⟨_, cK, _, _, _, _, rfl, ⟨k2, k3, k4, k5, k6, k7⟩, HT.out⟩
         exact AllReadyH.nil
        exact AllReadyH.nil
       exact AllReadyH.nil
      exact AllReadyH.nil
     refine AllReadyH.cons (o := ?_) ?_ (fun K hK => ?_) ?_
     rotate_left
     (focus ((simp only [List.getElem?_toArray, List.getElem?_cons_succ, List.getElem?_cons_zero]); first | done | rfl))
     ·skip
      go_simp
      have HT17 := Lib.hid (HT9.out.mks (by unfold maxLen; omega))
      have hbn := HT17.out.bel
      refine hK.out _ _ (HSo.out _ hbn) (fun hHeld => ?_)
      generalize V9.alloc (.cells (madeCells #[.int .i64 0] N) 3) = V17 at HT17 hHeld hbn ⊢
      obtain ⟨g17, hg17⟩ : ∃ g17, V9.heap.size = g17 := ⟨_, rfl⟩
      rw [hg17] at HT17
      try rw [hg17]
      clear hg17 hK K hbn
      try simp only [Act.put, List.setIfInBounds_toArray, List.set_cons_zero, List.set_cons_succ]
      refine wpAnyH_ready (rs := [4, 13]) (by kernel_rfl) (by simp) ?_
      refine AllReadyH.cons (o := ?_) ?_ (fun K hK => ?_) ?_
      rotate_left
      (focus ((simp only [List.getElem?_toArray, List.getElem?_cons_succ, List.getElem?_cons_zero]); first | done | rfl))
      ·skip
       go_simp
       go_at_call 35
       refine (HCl.out _).mono ?_
       rintro e V4 ⟨rfl, b4⟩
       have HT4 := Lib.hid (HT17.out.keep b4)
       have hbn := HT4.out.bel
       clear b4
       try go_wp2_with fail
       refine hK.out _ _ (HSo.out _ hbn) (fun hHeld => ?_)
       clear hK K hbn
       try simp only [Act.put, List.setIfInBounds_toArray, List.set_cons_zero, List.set_cons_succ]
       refine wpAnyH_ready (rs := [5, 13]) (by kernel_rfl) (by simp) ?_
       refine AllReadyH.cons (o := ?_) ?_ (fun K hK => ?_) ?_
       rotate_left
       (focus ((simp only [List.getElem?_toArray, List.getElem?_cons_succ, List.getElem?_cons_zero]); first | done | rfl))
       ·skip
        go_simp
        have HT5 := Lib.hid (HT4.out.mkz (by unfold maxLen; omega))
        have hbn := HT5.out.bel
        refine hK.out _ _ (HSo.out _ hbn) (fun hHeld => ?_)
        generalize V4.alloc (.cells (madeCells #[.int .i64 0] M) 3) = V5 at HT5 hHeld hbn ⊢
        obtain ⟨g5, hg5⟩ : ∃ g5, V4.heap.size = g5 := ⟨_, rfl⟩
        rw [hg5] at HT5
        try rw [hg5]
        clear hg5 hK K hbn
        try simp only [Act.put, List.setIfInBounds_toArray, List.set_cons_zero, List.set_cons_succ]
        refine wpAnyH_ready (rs := [13]) (by kernel_rfl) (by simp) ?_
        refine AllReadyH.cons (o := ?_) ?_ (fun K hK => ?_) ?_
        rotate_left
        (focus ((simp only [List.getElem?_toArray, List.getElem?_cons_succ, List.getElem?_cons_zero]); first | done | rfl))
        ·skip
         go_simp
         have HT13 := Lib.hid (HT5.out.mkh (by unfold maxLen; omega))
         have hbn := HT13.out.bel
         refine hK.out _ _ (HSo.out _ hbn) (fun hHeld => ?_)
         generalize V5.alloc (.cells (madeCells #[.int .i64 0] N) 3) = V13 at HT13 hHeld hbn ⊢
         obtain ⟨g13, hg13⟩ : ∃ g13, V5.heap.size = g13 := ⟨_, rfl⟩
         rw [hg13] at HT13
         try rw [hg13]
         clear hg13 hK K hbn
         try simp only [Act.put, List.setIfInBounds_toArray, List.set_cons_zero, List.set_cons_succ]
         obtain ⟨cK, k1, k2, k3, k4, k5, k6, k7, hbld⟩ := tal_built D.cD HB.out.1.dm.sz 9 (some ⟨g5, 0, none⟩) (some ⟨g9, 0, none⟩) (some ⟨g13, 0, none⟩) (some ⟨g17, 0, none⟩) M N N N M N N N; (refine wpAnyH_take (i := 18) (oi := ?_) (v := .agg cK) ?_ (by kernel_rfl) (by kernel_rfl) (by kernel_rfl) ?_ (Or.inl ⟨?_, ?_⟩) (by assumption) ?_; rotate_left; (focus ((simp only [List.getElem?_toArray, List.getElem?_cons_succ, List.getElem?_cons_zero]); first | done | rfl)); (focus (exact fun _ _ _ h => h)); (focus rfl); (focus (intro wz hSw; exact exec_bld10 wz _ _ rfl (TlPs D.cD 9 (some ⟨g5, 0, none⟩) (some ⟨g9, 0, none⟩) (some ⟨g13, 0, none⟩) (some ⟨g17, 0, none⟩) M N N N M N N N) (by first | rfl | simp [Act.eval] | (simp; rfl)) _ (hbld wz))); try simp only [Act.put, List.setIfInBounds_toArray, List.set_cons_zero, List.set_cons_succ])
         refine wpAnyH_ready (rs := [19]) (by kernel_rfl) (by simp) ?_
         refine AllReadyH.cons (o := ?_) ?_ (fun K hK => ?_) ?_
         rotate_left
         (focus ((simp only [List.getElem?_toArray, List.getElem?_cons_succ, List.getElem?_cons_zero]); first | done | rfl))
         ·skip
          go_simp
          have HT := Lib.hid ((HT13.out.keep (al V13 (.cells cK 60))).tal (St.new V13 60 cK))
          refine hK.out _ _ (HSo.out _ HT.out.bel) (fun hHeld => ?_)
          clear hK K
          try simp only [Act.put, List.setIfInBounds_toArray, List.set_cons_zero, List.set_cons_succ]
          (refine wpAnyH_take (i := 20) (oi := ?_) (v := ?_) ?_ (by kernel_rfl) (by kernel_rfl) (by kernel_rfl) ?_ (Or.inl ⟨?_, ?_⟩) (by assumption) ?_; rotate_left 2; (focus ((simp only [List.getElem?_toArray, List.getElem?_cons_succ, List.getElem?_cons_zero]); first | done | rfl)); (focus (exact fun _ _ _ h => h)); (focus rfl); (focus (intro wz hSw; (try dsimp only at hSw); go_simp; first | done | with_reducible rfl)); try simp only [Act.put, List.setIfInBounds_toArray, List.set_cons_zero, List.set_cons_succ])
          refine wpAnyH_done (by kernel_rfl) ?_ _
          go_wp2_with fail
          go_meet
          exact ⟨_, cK, _, _, _, _, rfl, ⟨k2, k3, k4, k5, k6, k7⟩, HT.out⟩
         exact AllReadyH.nil
        exact AllReadyH.nil
       refine AllReadyH.cons (o := ?_) ?_ (fun K hK => ?_) ?_
       rotate_left
       (focus ((simp only [List.getElem?_toArray, List.getElem?_cons_succ, List.getElem?_cons_zero]); first | done | rfl))
       ·skip
        go_simp
        have HT13 := Lib.hid (HT4.out.mkh (by unfold maxLen; omega))
        have hbn := HT13.out.bel
        refine hK.out _ _ (HSo.out _ hbn) (fun hHeld => ?_)
        generalize V4.alloc (.cells (madeCells #[.int .i64 0] N) 3) = V13 at HT13 hHeld hbn ⊢
        obtain ⟨g13, hg13⟩ : ∃ g13, V4.heap.size = g13 := ⟨_, rfl⟩
        rw [hg13] at HT13
        try rw [hg13]
        clear hg13 hK K hbn
        try simp only [Act.put, List.setIfInBounds_toArray, List.set_cons_zero, List.set_cons_succ]
        refine wpAnyH_ready (rs := [5]) (by kernel_rfl) (by simp) ?_
        refine AllReadyH.cons (o := ?_) ?_ (fun K hK => ?_) ?_
        rotate_left
        (focus ((simp only [List.getElem?_toArray, List.getElem?_cons_succ, List.getElem?_cons_zero]); first | done | rfl))
        ·skip
         go_simp
         have HT5 := Lib.hid (HT13.out.mkz (by unfold maxLen; omega))
         have hbn := HT5.out.bel
         refine hK.out _ _ (HSo.out _ hbn) (fun hHeld => ?_)
         generalize V13.alloc (.cells (madeCells #[.int .i64 0] M) 3) = V5 at HT5 hHeld hbn ⊢
         obtain ⟨g5, hg5⟩ : ∃ g5, V13.heap.size = g5 := ⟨_, rfl⟩
         rw [hg5] at HT5
         try rw [hg5]
         clear hg5 hK K hbn
         try simp only [Act.put, List.setIfInBounds_toArray, List.set_cons_zero, List.set_cons_succ]
         obtain ⟨cK, k1, k2, k3, k4, k5, k6, k7, hbld⟩ := tal_built D.cD HB.out.1.dm.sz 9 (some ⟨g5, 0, none⟩) (some ⟨g9, 0, none⟩) (some ⟨g13, 0, none⟩) (some ⟨g17, 0, none⟩) M N N N M N N N; (refine wpAnyH_take (i := 18) (oi := ?_) (v := .agg cK) ?_ (by kernel_rfl) (by kernel_rfl) (by kernel_rfl) ?_ (Or.inl ⟨?_, ?_⟩) (by assumption) ?_; rotate_left; (focus ((simp only [List.getElem?_toArray, List.getElem?_cons_succ, List.getElem?_cons_zero]); first | done | rfl)); (focus (exact fun _ _ _ h => h)); (focus rfl); (focus (intro wz hSw; exact exec_bld10 wz _ _ rfl (TlPs D.cD 9 (some ⟨g5, 0, none⟩) (some ⟨g9, 0, none⟩) (some ⟨g13, 0, none⟩) (some ⟨g17, 0, none⟩) M N N N M N N N) (by first | rfl | simp [Act.eval] | (simp; rfl)) _ (hbld wz))); try simp only [Act.put, List.setIfInBounds_toArray, List.set_cons_zero, List.set_cons_succ])
         refine wpAnyH_ready (rs := [19]) (by kernel_rfl) (by simp) ?_
         refine AllReadyH.cons (o := ?_) ?_ (fun K hK => ?_) ?_
         rotate_left
         (focus ((simp only [List.getElem?_toArray, List.getElem?_cons_succ, List.getElem?_cons_zero]); first | done | rfl))
         ·skip
          go_simp
          have HT := Lib.hid ((HT5.out.keep (al V5 (.cells cK 60))).tal (St.new V5 60 cK))
          refine hK.out _ _ (HSo.out _ HT.out.bel) (fun hHeld => ?_)
          clear hK K
          try simp only [Act.put, List.setIfInBounds_toArray, List.set_cons_zero, List.set_cons_succ]
          (refine wpAnyH_take (i := 20) (oi := ?_) (v := ?_) ?_ (by kernel_rfl) (by kernel_rfl) (by kernel_rfl) ?_ (Or.inl ⟨?_, ?_⟩) (by assumption) ?_; rotate_left 2; (focus ((simp only [List.getElem?_toArray, List.getElem?_cons_succ, List.getElem?_cons_zero]); first | done | rfl)); (focus (exact fun _ _ _ h => h)); (focus rfl); (focus (intro wz hSw; (try dsimp only at hSw); go_simp; first | done | with_reducible rfl)); try simp only [Act.put, List.setIfInBounds_toArray, List.set_cons_zero, List.set_cons_succ])
          refine wpAnyH_done (by kernel_rfl) ?_ _
          go_wp2_with fail
          go_meet
          exact ⟨_, cK, _, _, _, _, rfl, ⟨k2, k3, k4, k5, k6, k7⟩, HT.out⟩
         exact AllReadyH.nil
        exact AllReadyH.nil
       exact AllReadyH.nil
      refine AllReadyH.cons (o := ?_) ?_ (fun K hK => ?_) ?_
      rotate_left
      (focus ((simp only [List.getElem?_toArray, List.getElem?_cons_succ, List.getElem?_cons_zero]); first | done | rfl))
      ·skip
       go_simp
       have HT13 := Lib.hid (HT17.out.mkh (by unfold maxLen; omega))
       have hbn := HT13.out.bel
       refine hK.out _ _ (HSo.out _ hbn) (fun hHeld => ?_)
       generalize V17.alloc (.cells (madeCells #[.int .i64 0] N) 3) = V13 at HT13 hHeld hbn ⊢
       obtain ⟨g13, hg13⟩ : ∃ g13, V17.heap.size = g13 := ⟨_, rfl⟩
       rw [hg13] at HT13
       try rw [hg13]
       clear hg13 hK K hbn
       try simp only [Act.put, List.setIfInBounds_toArray, List.set_cons_zero, List.set_cons_succ]
       refine wpAnyH_ready (rs := [4]) (by kernel_rfl) (by simp) ?_
       refine AllReadyH.cons (o := ?_) ?_ (fun K hK => ?_) ?_
       rotate_left
       (focus ((simp only [List.getElem?_toArray, List.getElem?_cons_succ, List.getElem?_cons_zero]); first | done | rfl))
       ·skip
        go_simp
        go_at_call 35
        refine (HCl.out _).mono ?_
        rintro e V4 ⟨rfl, b4⟩
        have HT4 := Lib.hid (HT13.out.keep b4)
        have hbn := HT4.out.bel
        clear b4
        try go_wp2_with fail
        refine hK.out _ _ (HSo.out _ hbn) (fun hHeld => ?_)
        clear hK K hbn
        try simp only [Act.put, List.setIfInBounds_toArray, List.set_cons_zero, List.set_cons_succ]
        refine wpAnyH_ready (rs := [5]) (by kernel_rfl) (by simp) ?_
        refine AllReadyH.cons (o := ?_) ?_ (fun K hK => ?_) ?_
        rotate_left
        (focus ((simp only [List.getElem?_toArray, List.getElem?_cons_succ, List.getElem?_cons_zero]); first | done | rfl))
        ·skip
         go_simp
         have HT5 := Lib.hid (HT4.out.mkz (by unfold maxLen; omega))
         have hbn := HT5.out.bel
         refine hK.out _ _ (HSo.out _ hbn) (fun hHeld => ?_)
         generalize V4.alloc (.cells (madeCells #[.int .i64 0] M) 3) = V5 at HT5 hHeld hbn ⊢
         obtain ⟨g5, hg5⟩ : ∃ g5, V4.heap.size = g5 := ⟨_, rfl⟩
         rw [hg5] at HT5
         try rw [hg5]
         clear hg5 hK K hbn
         try simp only [Act.put, List.setIfInBounds_toArray, List.set_cons_zero, List.set_cons_succ]
         obtain ⟨cK, k1, k2, k3, k4, k5, k6, k7, hbld⟩ := tal_built D.cD HB.out.1.dm.sz 9 (some ⟨g5, 0, none⟩) (some ⟨g9, 0, none⟩) (some ⟨g13, 0, none⟩) (some ⟨g17, 0, none⟩) M N N N M N N N; (refine wpAnyH_take (i := 18) (oi := ?_) (v := .agg cK) ?_ (by kernel_rfl) (by kernel_rfl) (by kernel_rfl) ?_ (Or.inl ⟨?_, ?_⟩) (by assumption) ?_; rotate_left; (focus ((simp only [List.getElem?_toArray, List.getElem?_cons_succ, List.getElem?_cons_zero]); first | done | rfl)); (focus (exact fun _ _ _ h => h)); (focus rfl); (focus (intro wz hSw; exact exec_bld10 wz _ _ rfl (TlPs D.cD 9 (some ⟨g5, 0, none⟩) (some ⟨g9, 0, none⟩) (some ⟨g13, 0, none⟩) (some ⟨g17, 0, none⟩) M N N N M N N N) (by first | rfl | simp [Act.eval] | (simp; rfl)) _ (hbld wz))); try simp only [Act.put, List.setIfInBounds_toArray, List.set_cons_zero, List.set_cons_succ])
         refine wpAnyH_ready (rs := [19]) (by kernel_rfl) (by simp) ?_
         refine AllReadyH.cons (o := ?_) ?_ (fun K hK => ?_) ?_
         rotate_left
         (focus ((simp only [List.getElem?_toArray, List.getElem?_cons_succ, List.getElem?_cons_zero]); first | done | rfl))
         ·skip
          go_simp
          have HT := Lib.hid ((HT5.out.keep (al V5 (.cells cK 60))).tal (St.new V5 60 cK))
          refine hK.out _ _ (HSo.out _ HT.out.bel) (fun hHeld => ?_)
          clear hK K
          try simp only [Act.put, List.setIfInBounds_toArray, List.set_cons_zero, List.set_cons_succ]
          (refine wpAnyH_take (i := 20) (oi := ?_) (v := ?_) ?_ (by kernel_rfl) (by kernel_rfl) (by kernel_rfl) ?_ (Or.inl ⟨?_, ?_⟩) (by assumption) ?_; rotate_left 2; (focus ((simp only [List.getElem?_toArray, List.getElem?_cons_succ, List.getElem?_cons_zero]); first | done | rfl)); (focus (exact fun _ _ _ h => h)); (focus rfl); (focus (intro wz hSw; (try dsimp only at hSw); go_simp; first | done | with_reducible rfl)); try simp only [Act.put, List.setIfInBounds_toArray, List.set_cons_zero, List.set_cons_succ])
          refine wpAnyH_done (by kernel_rfl) ?_ _
          go_wp2_with fail
          go_meet
          exact ⟨_, cK, _, _, _, _, rfl, ⟨k2, k3, k4, k5, k6, k7⟩, HT.out⟩
         exact AllReadyH.nil
        exact AllReadyH.nil
       exact AllReadyH.nil
      exact AllReadyH.nil
     exact AllReadyH.nil
    refine AllReadyH.cons (o := ?_) ?_ (fun K hK => ?_) ?_
    rotate_left
    (focus ((simp only [List.getElem?_toArray, List.getElem?_cons_succ, List.getElem?_cons_zero]); first | done | rfl))
    ·skip
     go_simp
     have HT13 := Lib.hid (HT0.out.mkh (by unfold maxLen; omega))
     have hbn := HT13.out.bel
     refine hK.out _ _ (HSo.out _ hbn) (fun hHeld => ?_)
     generalize V0.alloc (.cells (madeCells #[.int .i64 0] N) 3) = V13 at HT13 hHeld hbn ⊢
     obtain ⟨g13, hg13⟩ : ∃ g13, V0.heap.size = g13 := ⟨_, rfl⟩
     rw [hg13] at HT13
     try rw [hg13]
     clear hg13 hK K hbn
     try simp only [Act.put, List.setIfInBounds_toArray, List.set_cons_zero, List.set_cons_succ]
     refine wpAnyH_ready (rs := [4, 9, 17]) (by kernel_rfl) (by simp) ?_
     refine AllReadyH.cons (o := ?_) ?_ (fun K hK => ?_) ?_
     rotate_left
     (focus ((simp only [List.getElem?_toArray, List.getElem?_cons_succ, List.getElem?_cons_zero]); first | done | rfl))
     ·skip
      go_simp
      go_at_call 35
      refine (HCl.out _).mono ?_
      rintro e V4 ⟨rfl, b4⟩
      have HT4 := Lib.hid (HT13.out.keep b4)
      have hbn := HT4.out.bel
      clear b4
      try go_wp2_with fail
      refine hK.out _ _ (HSo.out _ hbn) (fun hHeld => ?_)
      clear hK K hbn
      try simp only [Act.put, List.setIfInBounds_toArray, List.set_cons_zero, List.set_cons_succ]
      refine wpAnyH_ready (rs := [5, 9, 17]) (by kernel_rfl) (by simp) ?_
      refine AllReadyH.cons (o := ?_) ?_ (fun K hK => ?_) ?_
      rotate_left
      (focus ((simp only [List.getElem?_toArray, List.getElem?_cons_succ, List.getElem?_cons_zero]); first | done | rfl))
      ·skip
       go_simp
       have HT5 := Lib.hid (HT4.out.mkz (by unfold maxLen; omega))
       have hbn := HT5.out.bel
       refine hK.out _ _ (HSo.out _ hbn) (fun hHeld => ?_)
       generalize V4.alloc (.cells (madeCells #[.int .i64 0] M) 3) = V5 at HT5 hHeld hbn ⊢
       obtain ⟨g5, hg5⟩ : ∃ g5, V4.heap.size = g5 := ⟨_, rfl⟩
       rw [hg5] at HT5
       try rw [hg5]
       clear hg5 hK K hbn
       try simp only [Act.put, List.setIfInBounds_toArray, List.set_cons_zero, List.set_cons_succ]
       refine wpAnyH_ready (rs := [9, 17]) (by kernel_rfl) (by simp) ?_
       refine AllReadyH.cons (o := ?_) ?_ (fun K hK => ?_) ?_
       rotate_left
       (focus ((simp only [List.getElem?_toArray, List.getElem?_cons_succ, List.getElem?_cons_zero]); first | done | rfl))
       ·skip
        go_simp
        have HT9 := Lib.hid (HT5.out.mkc (by unfold maxLen; omega))
        have hbn := HT9.out.bel
        refine hK.out _ _ (HSo.out _ hbn) (fun hHeld => ?_)
        generalize V5.alloc (.cells (madeCells #[.int .i64 0] N) 3) = V9 at HT9 hHeld hbn ⊢
        obtain ⟨g9, hg9⟩ : ∃ g9, V5.heap.size = g9 := ⟨_, rfl⟩
        rw [hg9] at HT9
        try rw [hg9]
        clear hg9 hK K hbn
        try simp only [Act.put, List.setIfInBounds_toArray, List.set_cons_zero, List.set_cons_succ]
        refine wpAnyH_ready (rs := [17]) (by kernel_rfl) (by simp) ?_
        refine AllReadyH.cons (o := ?_) ?_ (fun K hK => ?_) ?_
        rotate_left
        (focus ((simp only [List.getElem?_toArray, List.getElem?_cons_succ, List.getElem?_cons_zero]); first | done | rfl))
        ·skip
         go_simp
         have HT17 := Lib.hid (HT9.out.mks (by unfold maxLen; omega))
         have hbn := HT17.out.bel
         refine hK.out _ _ (HSo.out _ hbn) (fun hHeld => ?_)
         generalize V9.alloc (.cells (madeCells #[.int .i64 0] N) 3) = V17 at HT17 hHeld hbn ⊢
         obtain ⟨g17, hg17⟩ : ∃ g17, V9.heap.size = g17 := ⟨_, rfl⟩
         rw [hg17] at HT17
         try rw [hg17]
         clear hg17 hK K hbn
         try simp only [Act.put, List.setIfInBounds_toArray, List.set_cons_zero, List.set_cons_succ]
         obtain ⟨cK, k1, k2, k3, k4, k5, k6, k7, hbld⟩ := tal_built D.cD HB.out.1.dm.sz 9 (some ⟨g5, 0, none⟩) (some ⟨g9, 0, none⟩) (some ⟨g13, 0, none⟩) (some ⟨g17, 0, none⟩) M N N N M N N N; (refine wpAnyH_take (i := 18) (oi := ?_) (v := .agg cK) ?_ (by kernel_rfl) (by kernel_rfl) (by kernel_rfl) ?_ (Or.inl ⟨?_, ?_⟩) (by assumption) ?_; rotate_left; (focus ((simp only [List.getElem?_toArray, List.getElem?_cons_succ, List.getElem?_cons_zero]); first | done | rfl)); (focus (exact fun _ _ _ h => h)); (focus rfl); (focus (intro wz hSw; exact exec_bld10 wz _ _ rfl (TlPs D.cD 9 (some ⟨g5, 0, none⟩) (some ⟨g9, 0, none⟩) (some ⟨g13, 0, none⟩) (some ⟨g17, 0, none⟩) M N N N M N N N) (by first | rfl | simp [Act.eval] | (simp; rfl)) _ (hbld wz))); try simp only [Act.put, List.setIfInBounds_toArray, List.set_cons_zero, List.set_cons_succ])
         refine wpAnyH_ready (rs := [19]) (by kernel_rfl) (by simp) ?_
         refine AllReadyH.cons (o := ?_) ?_ (fun K hK => ?_) ?_
         rotate_left
         (focus ((simp only [List.getElem?_toArray, List.getElem?_cons_succ, List.getElem?_cons_zero]); first | done | rfl))
         ·skip
          go_simp
          have HT := Lib.hid ((HT17.out.keep (al V17 (.cells cK 60))).tal (St.new V17 60 cK))
          refine hK.out _ _ (HSo.out _ HT.out.bel) (fun hHeld => ?_)
          clear hK K
          try simp only [Act.put, List.setIfInBounds_toArray, List.set_cons_zero, List.set_cons_succ]
          (refine wpAnyH_take (i := 20) (oi := ?_) (v := ?_) ?_ (by kernel_rfl) (by kernel_rfl) (by kernel_rfl) ?_ (Or.inl ⟨?_, ?_⟩) (by assumption) ?_; rotate_left 2; (focus ((simp only [List.getElem?_toArray, List.getElem?_cons_succ, List.getElem?_cons_zero]); first | done | rfl)); (focus (exact fun _ _ _ h => h)); (focus rfl); (focus (intro wz hSw; (try dsimp only at hSw); go_simp; first | done | with_reducible rfl)); try simp only [Act.put, List.setIfInBounds_toArray, List.set_cons_zero, List.set_cons_succ])
          refine wpAnyH_done (by kernel_rfl) ?_ _
          go_wp2_with fail
          go_meet
          exact ⟨_, cK, _, _, _, _, rfl, ⟨k2, k3, k4, k5, k6, k7⟩, HT.out⟩
         exact AllReadyH.nil
        exact AllReadyH.nil
       refine AllReadyH.cons (o := ?_) ?_ (fun K hK => ?_) ?_
       rotate_left
       (focus ((simp only [List.getElem?_toArray, List.getElem?_cons_succ, List.getElem?_cons_zero]); first | done | rfl))
       ·skip
        go_simp
        have HT17 := Lib.hid (HT5.out.mks (by unfold maxLen; omega))
        have hbn := HT17.out.bel
        refine hK.out _ _ (HSo.out _ hbn) (fun hHeld => ?_)
        generalize V5.alloc (.cells (madeCells #[.int .i64 0] N) 3) = V17 at HT17 hHeld hbn ⊢
        obtain ⟨g17, hg17⟩ : ∃ g17, V5.heap.size = g17 := ⟨_, rfl⟩
        rw [hg17] at HT17
        try rw [hg17]
        clear hg17 hK K hbn
        try simp only [Act.put, List.setIfInBounds_toArray, List.set_cons_zero, List.set_cons_succ]
        refine wpAnyH_ready (rs := [9]) (by kernel_rfl) (by simp) ?_
        refine AllReadyH.cons (o := ?_) ?_ (fun K hK => ?_) ?_
        rotate_left
        (focus ((simp only [List.getElem?_toArray, List.getElem?_cons_succ, List.getElem?_cons_zero]); first | done | rfl))
        ·skip
         go_simp
         have HT9 := Lib.hid (HT17.out.mkc (by unfold maxLen; omega))
         have hbn := HT9.out.bel
         refine hK.out _ _ (HSo.out _ hbn) (fun hHeld => ?_)
         generalize V17.alloc (.cells (madeCells #[.int .i64 0] N) 3) = V9 at HT9 hHeld hbn ⊢
         obtain ⟨g9, hg9⟩ : ∃ g9, V17.heap.size = g9 := ⟨_, rfl⟩
         rw [hg9] at HT9
         try rw [hg9]
         clear hg9 hK K hbn
         try simp only [Act.put, List.setIfInBounds_toArray, List.set_cons_zero, List.set_cons_succ]
         obtain ⟨cK, k1, k2, k3, k4, k5, k6, k7, hbld⟩ := tal_built D.cD HB.out.1.dm.sz 9 (some ⟨g5, 0, none⟩) (some ⟨g9, 0, none⟩) (some ⟨g13, 0, none⟩) (some ⟨g17, 0, none⟩) M N N N M N N N; (refine wpAnyH_take (i := 18) (oi := ?_) (v := .agg cK) ?_ (by kernel_rfl) (by kernel_rfl) (by kernel_rfl) ?_ (Or.inl ⟨?_, ?_⟩) (by assumption) ?_; rotate_left; (focus ((simp only [List.getElem?_toArray, List.getElem?_cons_succ, List.getElem?_cons_zero]); first | done | rfl)); (focus (exact fun _ _ _ h => h)); (focus rfl); (focus (intro wz hSw; exact exec_bld10 wz _ _ rfl (TlPs D.cD 9 (some ⟨g5, 0, none⟩) (some ⟨g9, 0, none⟩) (some ⟨g13, 0, none⟩) (some ⟨g17, 0, none⟩) M N N N M N N N) (by first | rfl | simp [Act.eval] | (simp; rfl)) _ (hbld wz))); try simp only [Act.put, List.setIfInBounds_toArray, List.set_cons_zero, List.set_cons_succ])
         refine wpAnyH_ready (rs := [19]) (by kernel_rfl) (by simp) ?_
         refine AllReadyH.cons (o := ?_) ?_ (fun K hK => ?_) ?_
         rotate_left
         (focus ((simp only [List.getElem?_toArray, List.getElem?_cons_succ, List.getElem?_cons_zero]); first | done | rfl))
         ·skip
          go_simp
          have HT := Lib.hid ((HT9.out.keep (al V9 (.cells cK 60))).tal (St.new V9 60 cK))
          refine hK.out _ _ (HSo.out _ HT.out.bel) (fun hHeld => ?_)
          clear hK K
          try simp only [Act.put, List.setIfInBounds_toArray, List.set_cons_zero, List.set_cons_succ]
          (refine wpAnyH_take (i := 20) (oi := ?_) (v := ?_) ?_ (by kernel_rfl) (by kernel_rfl) (by kernel_rfl) ?_ (Or.inl ⟨?_, ?_⟩) (by assumption) ?_; rotate_left 2; (focus ((simp only [List.getElem?_toArray, List.getElem?_cons_succ, List.getElem?_cons_zero]); first | done | rfl)); (focus (exact fun _ _ _ h => h)); (focus rfl); (focus (intro wz hSw; (try dsimp only at hSw); go_simp; first | done | with_reducible rfl)); try simp only [Act.put, List.setIfInBounds_toArray, List.set_cons_zero, List.set_cons_succ])
          refine wpAnyH_done (by kernel_rfl) ?_ _
          go_wp2_with fail
          go_meet
          exact ⟨_, cK, _, _, _, _, rfl, ⟨k2, k3, k4, k5, k6, k7⟩, HT.out⟩
         exact AllReadyH.nil
        exact AllReadyH.nil
       exact AllReadyH.nil
      refine AllReadyH.cons (o := ?_) ?_ (fun K hK => ?_) ?_
      rotate_left
      (focus ((simp only [List.getElem?_toArray, List.getElem?_cons_succ, List.getElem?_cons_zero]); first | done | rfl))
      ·skip
       go_simp
       have HT9 := Lib.hid (HT4.out.mkc (by unfold maxLen; omega))
       have hbn := HT9.out.bel
       refine hK.out _ _ (HSo.out _ hbn) (fun hHeld => ?_)
       generalize V4.alloc (.cells (madeCells #[.int .i64 0] N) 3) = V9 at HT9 hHeld hbn ⊢
       obtain ⟨g9, hg9⟩ : ∃ g9, V4.heap.size = g9 := ⟨_, rfl⟩
       rw [hg9] at HT9
       try rw [hg9]
       clear hg9 hK K hbn
       try simp only [Act.put, List.setIfInBounds_toArray, List.set_cons_zero, List.set_cons_succ]
       refine wpAnyH_ready (rs := [5, 17]) (by kernel_rfl) (by simp) ?_
       refine AllReadyH.cons (o := ?_) ?_ (fun K hK => ?_) ?_
       rotate_left
       (focus ((simp only [List.getElem?_toArray, List.getElem?_cons_succ, List.getElem?_cons_zero]); first | done | rfl))
       ·skip
        go_simp
        have HT5 := Lib.hid (HT9.out.mkz (by unfold maxLen; omega))
        have hbn := HT5.out.bel
        refine hK.out _ _ (HSo.out _ hbn) (fun hHeld => ?_)
        generalize V9.alloc (.cells (madeCells #[.int .i64 0] M) 3) = V5 at HT5 hHeld hbn ⊢
        obtain ⟨g5, hg5⟩ : ∃ g5, V9.heap.size = g5 := ⟨_, rfl⟩
        rw [hg5] at HT5
        try rw [hg5]
        clear hg5 hK K hbn
        try simp only [Act.put, List.setIfInBounds_toArray, List.set_cons_zero, List.set_cons_succ]
        refine wpAnyH_ready (rs := [17]) (by kernel_rfl) (by simp) ?_
        refine AllReadyH.cons (o := ?_) ?_ (fun K hK => ?_) ?_
        rotate_left
        (focus ((simp only [List.getElem?_toArray, List.getElem?_cons_succ, List.getElem?_cons_zero]); first | done | rfl))
        ·skip
         go_simp
         have HT17 := Lib.hid (HT5.out.mks (by unfold maxLen; omega))
         have hbn := HT17.out.bel
         refine hK.out _ _ (HSo.out _ hbn) (fun hHeld => ?_)
         generalize V5.alloc (.cells (madeCells #[.int .i64 0] N) 3) = V17 at HT17 hHeld hbn ⊢
         obtain ⟨g17, hg17⟩ : ∃ g17, V5.heap.size = g17 := ⟨_, rfl⟩
         rw [hg17] at HT17
         try rw [hg17]
         clear hg17 hK K hbn
         try simp only [Act.put, List.setIfInBounds_toArray, List.set_cons_zero, List.set_cons_succ]
         obtain ⟨cK, k1, k2, k3, k4, k5, k6, k7, hbld⟩ := tal_built D.cD HB.out.1.dm.sz 9 (some ⟨g5, 0, none⟩) (some ⟨g9, 0, none⟩) (some ⟨g13, 0, none⟩) (some ⟨g17, 0, none⟩) M N N N M N N N; (refine wpAnyH_take (i := 18) (oi := ?_) (v := .agg cK) ?_ (by kernel_rfl) (by kernel_rfl) (by kernel_rfl) ?_ (Or.inl ⟨?_, ?_⟩) (by assumption) ?_; rotate_left; (focus ((simp only [List.getElem?_toArray, List.getElem?_cons_succ, List.getElem?_cons_zero]); first | done | rfl)); (focus (exact fun _ _ _ h => h)); (focus rfl); (focus (intro wz hSw; exact exec_bld10 wz _ _ rfl (TlPs D.cD 9 (some ⟨g5, 0, none⟩) (some ⟨g9, 0, none⟩) (some ⟨g13, 0, none⟩) (some ⟨g17, 0, none⟩) M N N N M N N N) (by first | rfl | simp [Act.eval] | (simp; rfl)) _ (hbld wz))); try simp only [Act.put, List.setIfInBounds_toArray, List.set_cons_zero, List.set_cons_succ])
         refine wpAnyH_ready (rs := [19]) (by kernel_rfl) (by simp) ?_
         refine AllReadyH.cons (o := ?_) ?_ (fun K hK => ?_) ?_
         rotate_left
         (focus ((simp only [List.getElem?_toArray, List.getElem?_cons_succ, List.getElem?_cons_zero]); first | done | rfl))
         ·skip
          go_simp
          have HT := Lib.hid ((HT17.out.keep (al V17 (.cells cK 60))).tal (St.new V17 60 cK))
          refine hK.out _ _ (HSo.out _ HT.out.bel) (fun hHeld => ?_)
          clear hK K
          try simp only [Act.put, List.setIfInBounds_toArray, List.set_cons_zero, List.set_cons_succ]
          (refine wpAnyH_take (i := 20) (oi := ?_) (v := ?_) ?_ (by kernel_rfl) (by kernel_rfl) (by kernel_rfl) ?_ (Or.inl ⟨?_, ?_⟩) (by assumption) ?_; rotate_left 2; (focus ((simp only [List.getElem?_toArray, List.getElem?_cons_succ, List.getElem?_cons_zero]); first | done | rfl)); (focus (exact fun _ _ _ h => h)); (focus rfl); (focus (intro wz hSw; (try dsimp only at hSw); go_simp; first | done | with_reducible rfl)); try simp only [Act.put, List.setIfInBounds_toArray, List.set_cons_zero, List.set_cons_succ])
          refine wpAnyH_done (by kernel_rfl) ?_ _
          go_wp2_with fail
          go_meet
          exact ⟨_, cK, _, _, _, _, rfl, ⟨k2, k3, k4, k5, k6, k7⟩, HT.out⟩
         exact AllReadyH.nil
        exact AllReadyH.nil
       refine AllReadyH.cons (o := ?_) ?_ (fun K hK => ?_) ?_
       rotate_left
       (focus ((simp only [List.getElem?_toArray, List.getElem?_cons_succ, List.getElem?_cons_zero]); first | done | rfl))
       ·skip
        go_simp
        have HT17 := Lib.hid (HT9.out.mks (by unfold maxLen; omega))
        have hbn := HT17.out.bel
        refine hK.out _ _ (HSo.out _ hbn) (fun hHeld => ?_)
        generalize V9.alloc (.cells (madeCells #[.int .i64 0] N) 3) = V17 at HT17 hHeld hbn ⊢
        obtain ⟨g17, hg17⟩ : ∃ g17, V9.heap.size = g17 := ⟨_, rfl⟩
        rw [hg17] at HT17
        try rw [hg17]
        clear hg17 hK K hbn
        try simp only [Act.put, List.setIfInBounds_toArray, List.set_cons_zero, List.set_cons_succ]
        refine wpAnyH_ready (rs := [5]) (by kernel_rfl) (by simp) ?_
        refine AllReadyH.cons (o := ?_) ?_ (fun K hK => ?_) ?_
        rotate_left
        (focus ((simp only [List.getElem?_toArray, List.getElem?_cons_succ, List.getElem?_cons_zero]); first | done | rfl))
        ·skip
         go_simp
         have HT5 := Lib.hid (HT17.out.mkz (by unfold maxLen; omega))
         have hbn := HT5.out.bel
         refine hK.out _ _ (HSo.out _ hbn) (fun hHeld => ?_)
         generalize V17.alloc (.cells (madeCells #[.int .i64 0] M) 3) = V5 at HT5 hHeld hbn ⊢
         obtain ⟨g5, hg5⟩ : ∃ g5, V17.heap.size = g5 := ⟨_, rfl⟩
         rw [hg5] at HT5
         try rw [hg5]
         clear hg5 hK K hbn
         try simp only [Act.put, List.setIfInBounds_toArray, List.set_cons_zero, List.set_cons_succ]
         obtain ⟨cK, k1, k2, k3, k4, k5, k6, k7, hbld⟩ := tal_built D.cD HB.out.1.dm.sz 9 (some ⟨g5, 0, none⟩) (some ⟨g9, 0, none⟩) (some ⟨g13, 0, none⟩) (some ⟨g17, 0, none⟩) M N N N M N N N; (refine wpAnyH_take (i := 18) (oi := ?_) (v := .agg cK) ?_ (by kernel_rfl) (by kernel_rfl) (by kernel_rfl) ?_ (Or.inl ⟨?_, ?_⟩) (by assumption) ?_; rotate_left; (focus ((simp only [List.getElem?_toArray, List.getElem?_cons_succ, List.getElem?_cons_zero]); first | done | rfl)); (focus (exact fun _ _ _ h => h)); (focus rfl); (focus (intro wz hSw; exact exec_bld10 wz _ _ rfl (TlPs D.cD 9 (some ⟨g5, 0, none⟩) (some ⟨g9, 0, none⟩) (some ⟨g13, 0, none⟩) (some ⟨g17, 0, none⟩) M N N N M N N N) (by first | rfl | simp [Act.eval] | (simp; rfl)) _ (hbld wz))); try simp only [Act.put, List.setIfInBounds_toArray, List.set_cons_zero, List.set_cons_succ])
         refine wpAnyH_ready (rs := [19]) (by kernel_rfl) (by simp) ?_
         refine AllReadyH.cons (o := ?_) ?_ (fun K hK => ?_) ?_
         rotate_left
         (focus ((simp only [List.getElem?_toArray, List.getElem?_cons_succ, List.getElem?_cons_zero]); first | done | rfl))
         ·skip
          go_simp
          have HT := Lib.hid ((HT5.out.keep (al V5 (.cells cK 60))).tal (St.new V5 60 cK))
          refine hK.out _ _ (HSo.out _ HT.out.bel) (fun hHeld => ?_)
          clear hK K
          try simp only [Act.put, List.setIfInBounds_toArray, List.set_cons_zero, List.set_cons_succ]
          (refine wpAnyH_take (i := 20) (oi := ?_) (v := ?_) ?_ (by kernel_rfl) (by kernel_rfl) (by kernel_rfl) ?_ (Or.inl ⟨?_, ?_⟩) (by assumption) ?_; rotate_left 2; (focus ((simp only [List.getElem?_toArray, List.getElem?_cons_succ, List.getElem?_cons_zero]); first | done | rfl)); (focus (exact fun _ _ _ h => h)); (focus rfl); (focus (intro wz hSw; (try dsimp only at hSw); go_simp; first | done | with_reducible rfl)); try simp only [Act.put, List.setIfInBounds_toArray, List.set_cons_zero, List.set_cons_succ])
          refine wpAnyH_done (by kernel_rfl) ?_ _
          go_wp2_with fail
          go_meet
          exact ⟨_, cK, _, _, _, _, rfl, ⟨k2, k3, k4, k5, k6, k7⟩, HT.out⟩
         exact AllReadyH.nil
        exact AllReadyH.nil
       exact AllReadyH.nil
      refine AllReadyH.cons (o := ?_) ?_ (fun K hK => ?_) ?_
      rotate_left
      (focus ((simp only [List.getElem?_toArray, List.getElem?_cons_succ, List.getElem?_cons_zero]); first | done | rfl))
      ·skip
       go_simp
       have HT17 := Lib.hid (HT4.out.mks (by unfold maxLen; omega))
       have hbn := HT17.out.bel
       refine hK.out _ _ (HSo.out _ hbn) (fun hHeld => ?_)
       generalize V4.alloc (.cells (madeCells #[.int .i64 0] N) 3) = V17 at HT17 hHeld hbn ⊢
       obtain ⟨g17, hg17⟩ : ∃ g17, V4.heap.size = g17 := ⟨_, rfl⟩
       rw [hg17] at HT17
       try rw [hg17]
       clear hg17 hK K hbn
       try simp only [Act.put, List.setIfInBounds_toArray, List.set_cons_zero, List.set_cons_succ]
       refine wpAnyH_ready (rs := [5, 9]) (by kernel_rfl) (by simp) ?_
       refine AllReadyH.cons (o := ?_) ?_ (fun K hK => ?_) ?_
       rotate_left
       (focus ((simp only [List.getElem?_toArray, List.getElem?_cons_succ, List.getElem?_cons_zero]); first | done | rfl))
       ·skip
        go_simp
        have HT5 := Lib.hid (HT17.out.mkz (by unfold maxLen; omega))
        have hbn := HT5.out.bel
        refine hK.out _ _ (HSo.out _ hbn) (fun hHeld => ?_)
        generalize V17.alloc (.cells (madeCells #[.int .i64 0] M) 3) = V5 at HT5 hHeld hbn ⊢
        obtain ⟨g5, hg5⟩ : ∃ g5, V17.heap.size = g5 := ⟨_, rfl⟩
        rw [hg5] at HT5
        try rw [hg5]
        clear hg5 hK K hbn
        try simp only [Act.put, List.setIfInBounds_toArray, List.set_cons_zero, List.set_cons_succ]
        refine wpAnyH_ready (rs := [9]) (by kernel_rfl) (by simp) ?_
        refine AllReadyH.cons (o := ?_) ?_ (fun K hK => ?_) ?_
        rotate_left
        (focus ((simp only [List.getElem?_toArray, List.getElem?_cons_succ, List.getElem?_cons_zero]); first | done | rfl))
        ·skip
         go_simp
         have HT9 := Lib.hid (HT5.out.mkc (by unfold maxLen; omega))
         have hbn := HT9.out.bel
         refine hK.out _ _ (HSo.out _ hbn) (fun hHeld => ?_)
         generalize V5.alloc (.cells (madeCells #[.int .i64 0] N) 3) = V9 at HT9 hHeld hbn ⊢
         obtain ⟨g9, hg9⟩ : ∃ g9, V5.heap.size = g9 := ⟨_, rfl⟩
         rw [hg9] at HT9
         try rw [hg9]
         clear hg9 hK K hbn
         try simp only [Act.put, List.setIfInBounds_toArray, List.set_cons_zero, List.set_cons_succ]
         obtain ⟨cK, k1, k2, k3, k4, k5, k6, k7, hbld⟩ := tal_built D.cD HB.out.1.dm.sz 9 (some ⟨g5, 0, none⟩) (some ⟨g9, 0, none⟩) (some ⟨g13, 0, none⟩) (some ⟨g17, 0, none⟩) M N N N M N N N; (refine wpAnyH_take (i := 18) (oi := ?_) (v := .agg cK) ?_ (by kernel_rfl) (by kernel_rfl) (by kernel_rfl) ?_ (Or.inl ⟨?_, ?_⟩) (by assumption) ?_; rotate_left; (focus ((simp only [List.getElem?_toArray, List.getElem?_cons_succ, List.getElem?_cons_zero]); first | done | rfl)); (focus (exact fun _ _ _ h => h)); (focus rfl); (focus (intro wz hSw; exact exec_bld10 wz _ _ rfl (TlPs D.cD 9 (some ⟨g5, 0, none⟩) (some ⟨g9, 0, none⟩) (some ⟨g13, 0, none⟩) (some ⟨g17, 0, none⟩) M N N N M N N N) (by first | rfl | simp [Act.eval] | (simp; rfl)) _ (hbld wz))); try simp only [Act.put, List.setIfInBounds_toArray, List.set_cons_zero, List.set_cons_succ])
         refine wpAnyH_ready (rs := [19]) (by kernel_rfl) (by simp) ?_
         refine AllReadyH.cons (o := ?_) ?_ (fun K hK => ?_) ?_
         rotate_left
         (focus ((simp only [List.getElem?_toArray, List.getElem?_cons_succ, List.getElem?_cons_zero]); first | done | rfl))
         ·skip
          go_simp
          have HT := Lib.hid ((HT9.out.keep (al V9 (.cells cK 60))).tal (St.new V9 60 cK))
          refine hK.out _ _ (HSo.out _ HT.out.bel) (fun hHeld => ?_)
          clear hK K
          try simp only [Act.put, List.setIfInBounds_toArray, List.set_cons_zero, List.set_cons_succ]
          (refine wpAnyH_take (i := 20) (oi := ?_) (v := ?_) ?_ (by kernel_rfl) (by kernel_rfl) (by kernel_rfl) ?_ (Or.inl ⟨?_, ?_⟩) (by assumption) ?_; rotate_left 2; (focus ((simp only [List.getElem?_toArray, List.getElem?_cons_succ, List.getElem?_cons_zero]); first | done | rfl)); (focus (exact fun _ _ _ h => h)); (focus rfl); (focus (intro wz hSw; (try dsimp only at hSw); go_simp; first | done | with_reducible rfl)); try simp only [Act.put, List.setIfInBounds_toArray, List.set_cons_zero, List.set_cons_succ])
          refine wpAnyH_done (by kernel_rfl) ?_ _
          go_wp2_with fail
          go_meet
          exact ⟨_, cK, _, _, _, _, rfl, ⟨k2, k3, k4, k5, k6, k7⟩, HT.out⟩
         exact AllReadyH.nil
        exact AllReadyH.nil
       refine AllReadyH.cons (o := ?_) ?_ (fun K hK => ?_) ?_
       rotate_left
       (focus ((simp only [List.getElem?_toArray, List.getElem?_cons_succ, List.getElem?_cons_zero]); first | done | rfl))
       ·skip
        go_simp
        have HT9 := Lib.hid (HT17.out.mkc (by unfold maxLen; omega))
        have hbn := HT9.out.bel
        refine hK.out _ _ (HSo.out _ hbn) (fun hHeld => ?_)
        generalize V17.alloc (.cells (madeCells #[.int .i64 0] N) 3) = V9 at HT9 hHeld hbn ⊢
        obtain ⟨g9, hg9⟩ : ∃ g9, V17.heap.size = g9 := ⟨_, rfl⟩
        rw [hg9] at HT9
        try rw [hg9]
        clear hg9 hK K hbn
        try simp only [Act.put, List.setIfInBounds_toArray, List.set_cons_zero, List.set_cons_succ]
        refine wpAnyH_ready (rs := [5]) (by kernel_rfl) (by simp) ?_
        refine AllReadyH.cons (o := ?_) ?_ (fun K hK => ?_) ?_
        rotate_left
        (focus ((simp only [List.getElem?_toArray, List.getElem?_cons_succ, List.getElem?_cons_zero]); first | done | rfl))
        ·skip
         go_simp
         have HT5 := Lib.hid (HT9.out.mkz (by unfold maxLen; omega))
         have hbn := HT5.out.bel
         refine hK.out _ _ (HSo.out _ hbn) (fun hHeld => ?_)
         generalize V9.alloc (.cells (madeCells #[.int .i64 0] M) 3) = V5 at HT5 hHeld hbn ⊢
         obtain ⟨g5, hg5⟩ : ∃ g5, V9.heap.size = g5 := ⟨_, rfl⟩
         rw [hg5] at HT5
         try rw [hg5]
         clear hg5 hK K hbn
         try simp only [Act.put, List.setIfInBounds_toArray, List.set_cons_zero, List.set_cons_succ]
         obtain ⟨cK, k1, k2, k3, k4, k5, k6, k7, hbld⟩ := tal_built D.cD HB.out.1.dm.sz 9 (some ⟨g5, 0, none⟩) (some ⟨g9, 0, none⟩) (some ⟨g13, 0, none⟩) (some ⟨g17, 0, none⟩) M N N N M N N N; (refine wpAnyH_take (i := 18) (oi := ?_) (v := .agg cK) ?_ (by kernel_rfl) (by kernel_rfl) (by kernel_rfl) ?_ (Or.inl ⟨?_, ?_⟩) (by assumption) ?_; rotate_left; (focus ((simp only [List.getElem?_toArray, List.getElem?_cons_succ, List.getElem?_cons_zero]); first | done | rfl)); (focus (exact fun _ _ _ h => h)); (focus rfl); (focus (intro wz hSw; exact exec_bld10 wz _ _ rfl (TlPs D.cD 9 (some ⟨g5, 0, none⟩) (some ⟨g9, 0, none⟩) (some ⟨g13, 0, none⟩) (some ⟨g17, 0, none⟩) M N N N M N N N) (by first | rfl | simp [Act.eval] | (simp; rfl)) _ (hbld wz))); try simp only [Act.put, List.setIfInBounds_toArray, List.set_cons_zero, List.set_cons_succ])
         refine wpAnyH_ready (rs := [19]) (by kernel_rfl) (by simp) ?_
         refine AllReadyH.cons (o := ?_) ?_ (fun K hK => ?_) ?_
         rotate_left
         (focus ((simp only [List.getElem?_toArray, List.getElem?_cons_succ, List.getElem?_cons_zero]); first | done | rfl))
         ·skip
          go_simp
          have HT := Lib.hid ((HT5.out.keep (al V5 (.cells cK 60))).tal (St.new V5 60 cK))
          refine hK.out _ _ (HSo.out _ HT.out.bel) (fun hHeld => ?_)
          clear hK K
          try simp only [Act.put, List.setIfInBounds_toArray, List.set_cons_zero, List.set_cons_succ]
          (refine wpAnyH_take (i := 20) (oi := ?_) (v := ?_) ?_ (by kernel_rfl) (by kernel_rfl) (by kernel_rfl) ?_ (Or.inl ⟨?_, ?_⟩) (by assumption) ?_; rotate_left 2; (focus ((simp only [List.getElem?_toArray, List.getElem?_cons_succ, List.getElem?_cons_zero]); first | done | rfl)); (focus (exact fun _ _ _ h => h)); (focus rfl); (focus (intro wz hSw; (try dsimp only at hSw); go_simp; first | done | with_reducible rfl)); try simp only [Act.put, List.setIfInBounds_toArray, List.set_cons_zero, List.set_cons_succ])
          refine wpAnyH_done (by kernel_rfl) ?_ _
          go_wp2_with fail
          go_meet
          exact ⟨_, cK, _, _, _, _, rfl, ⟨k2, k3, k4, k5, k6, k7⟩, HT.out⟩
         exact AllReadyH.nil
        exact AllReadyH.nil
       exact AllReadyH.nil
      exact AllReadyH.nil
     refine AllReadyH.cons (o := ?_) ?_ (fun K hK => ?_) ?_
     rotate_left
     (focus ((simp only [List.getElem?_toArray, List.getElem?_cons_succ, List.getElem?_cons_zero]); first | done | rfl))
     ·skip
      go_simp
      have HT9 := Lib.hid (HT13.out.mkc (by unfold maxLen; omega))
      have hbn := HT9.out.bel
      refine hK.out _ _ (HSo.out _ hbn) (fun hHeld => ?_)
      generalize V13.alloc (.cells (madeCells #[.int .i64 0] N) 3) = V9 at HT9 hHeld hbn ⊢
      obtain ⟨g9, hg9⟩ : ∃ g9, V13.heap.size = g9 := ⟨_, rfl⟩
      rw [hg9] at HT9
      try rw [hg9]
      clear hg9 hK K hbn
      try simp only [Act.put, List.setIfInBounds_toArray, List.set_cons_zero, List.set_cons_succ]
      refine wpAnyH_ready (rs := [4, 17]) (by kernel_rfl) (by simp) ?_
      refine AllReadyH.cons (o := ?_) ?_ (fun K hK => ?_) ?_
      rotate_left
      (focus ((simp only [List.getElem?_toArray, List.getElem?_cons_succ, List.getElem?_cons_zero]); first | done | rfl))
      ·skip
       go_simp
       go_at_call 35
       refine (HCl.out _).mono ?_
       rintro e V4 ⟨rfl, b4⟩
       have HT4 := Lib.hid (HT9.out.keep b4)
       have hbn := HT4.out.bel
       clear b4
       try go_wp2_with fail
       refine hK.out _ _ (HSo.out _ hbn) (fun hHeld => ?_)
       clear hK K hbn
       try simp only [Act.put, List.setIfInBounds_toArray, List.set_cons_zero, List.set_cons_succ]
       refine wpAnyH_ready (rs := [5, 17]) (by kernel_rfl) (by simp) ?_
       refine AllReadyH.cons (o := ?_) ?_ (fun K hK => ?_) ?_
       rotate_left
       (focus ((simp only [List.getElem?_toArray, List.getElem?_cons_succ, List.getElem?_cons_zero]); first | done | rfl))
       ·skip
        go_simp
        have HT5 := Lib.hid (HT4.out.mkz (by unfold maxLen; omega))
        have hbn := HT5.out.bel
        refine hK.out _ _ (HSo.out _ hbn) (fun hHeld => ?_)
        generalize V4.alloc (.cells (madeCells #[.int .i64 0] M) 3) = V5 at HT5 hHeld hbn ⊢
        obtain ⟨g5, hg5⟩ : ∃ g5, V4.heap.size = g5 := ⟨_, rfl⟩
        rw [hg5] at HT5
        try rw [hg5]
        clear hg5 hK K hbn
        try simp only [Act.put, List.setIfInBounds_toArray, List.set_cons_zero, List.set_cons_succ]
        refine wpAnyH_ready (rs := [17]) (by kernel_rfl) (by simp) ?_
        refine AllReadyH.cons (o := ?_) ?_ (fun K hK => ?_) ?_
        rotate_left
        (focus ((simp only [List.getElem?_toArray, List.getElem?_cons_succ, List.getElem?_cons_zero]); first | done | rfl))
        ·skip
         go_simp
         have HT17 := Lib.hid (HT5.out.mks (by unfold maxLen; omega))
         have hbn := HT17.out.bel
         refine hK.out _ _ (HSo.out _ hbn) (fun hHeld => ?_)
         generalize V5.alloc (.cells (madeCells #[.int .i64 0] N) 3) = V17 at HT17 hHeld hbn ⊢
         obtain ⟨g17, hg17⟩ : ∃ g17, V5.heap.size = g17 := ⟨_, rfl⟩
         rw [hg17] at HT17
         try rw [hg17]
         clear hg17 hK K hbn
         try simp only [Act.put, List.setIfInBounds_toArray, List.set_cons_zero, List.set_cons_succ]
         obtain ⟨cK, k1, k2, k3, k4, k5, k6, k7, hbld⟩ := tal_built D.cD HB.out.1.dm.sz 9 (some ⟨g5, 0, none⟩) (some ⟨g9, 0, none⟩) (some ⟨g13, 0, none⟩) (some ⟨g17, 0, none⟩) M N N N M N N N; (refine wpAnyH_take (i := 18) (oi := ?_) (v := .agg cK) ?_ (by kernel_rfl) (by kernel_rfl) (by kernel_rfl) ?_ (Or.inl ⟨?_, ?_⟩) (by assumption) ?_; rotate_left; (focus ((simp only [List.getElem?_toArray, List.getElem?_cons_succ, List.getElem?_cons_zero]); first | done | rfl)); (focus (exact fun _ _ _ h => h)); (focus rfl); (focus (intro wz hSw; exact exec_bld10 wz _ _ rfl (TlPs D.cD 9 (some ⟨g5, 0, none⟩) (some ⟨g9, 0, none⟩) (some ⟨g13, 0, none⟩) (some ⟨g17, 0, none⟩) M N N N M N N N) (by first | rfl | simp [Act.eval] | (simp; rfl)) _ (hbld wz))); try simp only [Act.put, List.setIfInBounds_toArray, List.set_cons_zero, List.set_cons_succ])
         refine wpAnyH_ready (rs := [19]) (by kernel_rfl) (by simp) ?_
         refine AllReadyH.cons (o := ?_) ?_ (fun K hK => ?_) ?_
         rotate_left
         (focus ((simp only [List.getElem?_toArray, List.getElem?_cons_succ, List.getElem?_cons_zero]); first | done | rfl))
         ·skip
          go_simp
          have HT := Lib.hid ((HT17.out.keep (al V17 (.cells cK 60))).tal (St.new V17 60 cK))
          refine hK.out _ _ (HSo.out _ HT.out.bel) (fun hHeld => ?_)
          clear hK K
          try simp only [Act.put, List.setIfInBounds_toArray, List.set_cons_zero, List.set_cons_succ]
          (refine wpAnyH_take (i := 20) (oi := ?_) (v := ?_) ?_ (by kernel_rfl) (by kernel_rfl) (by kernel_rfl) ?_ (Or.inl ⟨?_, ?_⟩) (by assumption) ?_; rotate_left 2; (focus ((simp only [List.getElem?_toArray, List.getElem?_cons_succ, List.getElem?_cons_zero]); first | done | rfl)); (focus (exact fun _ _ _ h => h)); (focus rfl); (focus (intro wz hSw; (try dsimp only at hSw); go_simp; first | done | with_reducible rfl)); try simp only [Act.put, List.setIfInBounds_toArray, List.set_cons_zero, List.set_cons_succ])
          refine wpAnyH_done (by kernel_rfl) ?_ _
          go_wp2_with fail
          go_meet
          exact ⟨_, cK, _, _, _, _, rfl, ⟨k2, k3, k4, k5, k6, k7⟩, HT.out⟩
         exact AllReadyH.nil
        exact AllReadyH.nil
       refine AllReadyH.cons (o := ?_) ?_ (fun K hK => ?_) ?_
       rotate_left
       (focus ((simp only [List.getElem?_toArray, List.getElem?_cons_succ, List.getElem?_cons_zero]); first | done | rfl))
       ·skip
        go_simp
        have HT17 := Lib.hid (HT4.out.mks (by unfold maxLen; omega))
        have hbn := HT17.out.bel
        refine hK.out _ _ (HSo.out _ hbn) (fun hHeld => ?_)
        generalize V4.alloc (.cells (madeCells #[.int .i64 0] N) 3) = V17 at HT17 hHeld hbn ⊢
        obtain ⟨g17, hg17⟩ : ∃ g17, V4.heap.size = g17 := ⟨_, rfl⟩
        rw [hg17] at HT17
        try rw [hg17]
        clear hg17 hK K hbn
        try simp only [Act.put, List.setIfInBounds_toArray, List.set_cons_zero, List.set_cons_succ]
        refine wpAnyH_ready (rs := [5]) (by kernel_rfl) (by simp) ?_
        refine AllReadyH.cons (o := ?_) ?_ (fun K hK => ?_) ?_
        rotate_left
        (focus ((simp only [List.getElem?_toArray, List.getElem?_cons_succ, List.getElem?_cons_zero]); first | done | rfl))
        ·skip
         go_simp
         have HT5 := Lib.hid (HT17.out.mkz (by unfold maxLen; omega))
         have hbn := HT5.out.bel
         refine hK.out _ _ (HSo.out _ hbn) (fun hHeld => ?_)
         generalize V17.alloc (.cells (madeCells #[.int .i64 0] M) 3) = V5 at HT5 hHeld hbn ⊢
         obtain ⟨g5, hg5⟩ : ∃ g5, V17.heap.size = g5 := ⟨_, rfl⟩
         rw [hg5] at HT5
         try rw [hg5]
         clear hg5 hK K hbn
         try simp only [Act.put, List.setIfInBounds_toArray, List.set_cons_zero, List.set_cons_succ]
         obtain ⟨cK, k1, k2, k3, k4, k5, k6, k7, hbld⟩ := tal_built D.cD HB.out.1.dm.sz 9 (some ⟨g5, 0, none⟩) (some ⟨g9, 0, none⟩) (some ⟨g13, 0, none⟩) (some ⟨g17, 0, none⟩) M N N N M N N N; (refine wpAnyH_take (i := 18) (oi := ?_) (v := .agg cK) ?_ (by kernel_rfl) (by kernel_rfl) (by kernel_rfl) ?_ (Or.inl ⟨?_, ?_⟩) (by assumption) ?_; rotate_left; (focus ((simp only [List.getElem?_toArray, List.getElem?_cons_succ, List.getElem?_cons_zero]); first | done | rfl)); (focus (exact fun _ _ _ h => h)); (focus rfl); (focus (intro wz hSw; exact exec_bld10 wz _ _ rfl (TlPs D.cD 9 (some ⟨g5, 0, none⟩) (some ⟨g9, 0, none⟩) (some ⟨g13, 0, none⟩) (some ⟨g17, 0, none⟩) M N N N M N N N) (by first | rfl | simp [Act.eval] | (simp; rfl)) _ (hbld wz))); try simp only [Act.put, List.setIfInBounds_toArray, List.set_cons_zero, List.set_cons_succ])
         refine wpAnyH_ready (rs := [19]) (by kernel_rfl) (by simp) ?_
         refine AllReadyH.cons (o := ?_) ?_ (fun K hK => ?_) ?_
         rotate_left
         (focus ((simp only [List.getElem?_toArray, List.getElem?_cons_succ, List.getElem?_cons_zero]); first | done | rfl))
         ·skip
          go_simp
          have HT := Lib.hid ((HT5.out.keep (al V5 (.cells cK 60))).tal (St.new V5 60 cK))
          refine hK.out _ _ (HSo.out _ HT.out.bel) (fun hHeld => ?_)
          clear hK K
          try simp only [Act.put, List.setIfInBounds_toArray, List.set_cons_zero, List.set_cons_succ]
          (refine wpAnyH_take (i := 20) (oi := ?_) (v := ?_) ?_ (by kernel_rfl) (by kernel_rfl) (by kernel_rfl) ?_ (Or.inl ⟨?_, ?_⟩) (by assumption) ?_; rotate_left 2; (focus ((simp only [List.getElem?_toArray, List.getElem?_cons_succ, List.getElem?_cons_zero]); first | done | rfl)); (focus (exact fun _ _ _ h => h)); (focus rfl); (focus (intro wz hSw; (try dsimp only at hSw); go_simp; first | done | with_reducible rfl)); try simp only [Act.put, List.setIfInBounds_toArray, List.set_cons_zero, List.set_cons_succ])
          refine wpAnyH_done (by kernel_rfl) ?_ _
          go_wp2_with fail
          go_meet
          exact ⟨_, cK, _, _, _, _, rfl, ⟨k2, k3, k4, k5, k6, k7⟩, HT.out⟩
         exact AllReadyH.nil
        exact AllReadyH.nil
       exact AllReadyH.nil
      refine AllReadyH.cons (o := ?_) ?_ (fun K hK => ?_) ?_
      rotate_left
      (focus ((simp only [List.getElem?_toArray, List.getElem?_cons_succ, List.getElem?_cons_zero]); first | done | rfl))
      ·skip
       go_simp
       have HT17 := Lib.hid (HT9.out.mks (by unfold maxLen; omega))
       have hbn := HT17.out.bel
       refine hK.out _ _ (HSo.out _ hbn) (fun hHeld => ?_)
       generalize V9.alloc (.cells (madeCells #[.int .i64 0] N) 3) = V17 at HT17 hHeld hbn ⊢
       obtain ⟨g17, hg17⟩ : ∃ g17, V9.heap.size = g17 := ⟨_, rfl⟩
       rw [hg17] at HT17
       try rw [hg17]
       clear hg17 hK K hbn
       try simp only [Act.put, List.setIfInBounds_toArray, List.set_cons_zero, List.set_cons_succ]
       refine wpAnyH_ready (rs := [4]) (by kernel_rfl) (by simp) ?_
       refine AllReadyH.cons (o := ?_) ?_ (fun K hK => ?_) ?_
       rotate_left
       (focus ((simp only [List.getElem?_toArray, List.getElem?_cons_succ, List.getElem?_cons_zero]); first | done | rfl))
       ·skip
        go_simp
        go_at_call 35
        refine (HCl.out _).mono ?_
        rintro e V4 ⟨rfl, b4⟩
        have HT4 := Lib.hid (HT17.out.keep b4)
        have hbn := HT4.out.bel
        clear b4
        try go_wp2_with fail
        refine hK.out _ _ (HSo.out _ hbn) (fun hHeld => ?_)
        clear hK K hbn
        try simp only [Act.put, List.setIfInBounds_toArray, List.set_cons_zero, List.set_cons_succ]
        refine wpAnyH_ready (rs := [5]) (by kernel_rfl) (by simp) ?_
        refine AllReadyH.cons (o := ?_) ?_ (fun K hK => ?_) ?_
        rotate_left
        (focus ((simp only [List.getElem?_toArray, List.getElem?_cons_succ, List.getElem?_cons_zero]); first | done | rfl))
        ·skip
         go_simp
         have HT5 := Lib.hid (HT4.out.mkz (by unfold maxLen; omega))
         have hbn := HT5.out.bel
         refine hK.out _ _ (HSo.out _ hbn) (fun hHeld => ?_)
         generalize V4.alloc (.cells (madeCells #[.int .i64 0] M) 3) = V5 at HT5 hHeld hbn ⊢
         obtain ⟨g5, hg5⟩ : ∃ g5, V4.heap.size = g5 := ⟨_, rfl⟩
         rw [hg5] at HT5
         try rw [hg5]
         clear hg5 hK K hbn
         try simp only [Act.put, List.setIfInBounds_toArray, List.set_cons_zero, List.set_cons_succ]
         obtain ⟨cK, k1, k2, k3, k4, k5, k6, k7, hbld⟩ := tal_built D.cD HB.out.1.dm.sz 9 (some ⟨g5, 0, none⟩) (some ⟨g9, 0, none⟩) (some ⟨g13, 0, none⟩) (some ⟨g17, 0, none⟩) M N N N M N N N; (refine wpAnyH_take (i := 18) (oi := ?_) (v := .agg cK) ?_ (by kernel_rfl) (by kernel_rfl) (by kernel_rfl) ?_ (Or.inl ⟨?_, ?_⟩) (by assumption) ?_; rotate_left; (focus ((simp only [List.getElem?_toArray, List.getElem?_cons_succ, List.getElem?_cons_zero]); first | done | rfl)); (focus (exact fun _ _ _ h => h)); (focus rfl); (focus (intro wz hSw; exact exec_bld10 wz _ _ rfl (TlPs D.cD 9 (some ⟨g5, 0, none⟩) (some ⟨g9, 0, none⟩) (some ⟨g13, 0, none⟩) (some ⟨g17, 0, none⟩) M N N N M N N N) (by first | rfl | simp [Act.eval] | (simp; rfl)) _ (hbld wz))); try simp only [Act.put, List.setIfInBounds_toArray, List.set_cons_zero, List.set_cons_succ])
         refine wpAnyH_ready (rs := [19]) (by kernel_rfl) (by simp) ?_
         refine AllReadyH.cons (o := ?_) ?_ (fun K hK => ?_) ?_
         rotate_left
         (focus ((simp only [List.getElem?_toArray, List.getElem?_cons_succ, List.getElem?_cons_zero]); first | done | rfl))
         ·skip
          go_simp
          have HT := Lib.hid ((HT5.out.keep (al V5 (.cells cK 60))).tal (St.new V5 60 cK))
          refine hK.out _ _ (HSo.out _ HT.out.bel) (fun hHeld => ?_)
          clear hK K
          try simp only [Act.put, List.setIfInBounds_toArray, List.set_cons_zero, List.set_cons_succ]
          (refine wpAnyH_take (i := 20) (oi := ?_) (v := ?_) ?_ (by kernel_rfl) (by kernel_rfl) (by kernel_rfl) ?_ (Or.inl ⟨?_, ?_⟩) (by assumption) ?_; rotate_left 2; (focus ((simp only [List.getElem?_toArray, List.getElem?_cons_succ, List.getElem?_cons_zero]); first | done | rfl)); (focus (exact fun _ _ _ h => h)); (focus rfl); (focus (intro wz hSw; (try dsimp only at hSw); go_simp; first | done | with_reducible rfl)); try simp only [Act.put, List.setIfInBounds_toArray, List.set_cons_zero, List.set_cons_succ])
          refine wpAnyH_done (by kernel_rfl) ?_ _
          go_wp2_with fail
          go_meet
          exact ⟨_, cK, _, _, _, _, rfl, ⟨k2, k3, k4, k5, k6, k7⟩, HT.out⟩
         exact AllReadyH.nil
        exact AllReadyH.nil
       exact AllReadyH.nil
      exact AllReadyH.nil
     refine AllReadyH.cons (o := ?_) ?_ (fun K hK => ?_) ?_
     rotate_left
     (focus ((simp only [List.getElem?_toArray, List.getElem?_cons_succ, List.getElem?_cons_zero]); first | done | rfl))
     ·skip
      go_simp
      have HT17 := Lib.hid (HT13.out.mks (by unfold maxLen; omega))
      have hbn := HT17.out.bel
      refine hK.out _ _ (HSo.out _ hbn) (fun hHeld => ?_)
      generalize V13.alloc (.cells (madeCells #[.int .i64 0] N) 3) = V17 at HT17 hHeld hbn ⊢
      obtain ⟨g17, hg17⟩ : ∃ g17, V13.heap.size = g17 := ⟨_, rfl⟩
      rw [hg17] at HT17
      try rw [hg17]
      clear hg17 hK K hbn
      try simp only [Act.put, List.setIfInBounds_toArray, List.set_cons_zero, List.set_cons_succ]
      refine wpAnyH_ready (rs := [4, 9]) (by kernel_rfl) (by simp) ?_
      refine AllReadyH.cons (o := ?_) ?_ (fun K hK => ?_) ?_
      rotate_left
      (focus ((simp only [List.getElem?_toArray, List.getElem?_cons_succ, List.getElem?_cons_zero]); first | done | rfl))
      ·skip
       go_simp
       go_at_call 35
       refine (HCl.out _).mono ?_
       rintro e V4 ⟨rfl, b4⟩
       have HT4 := Lib.hid (HT17.out.keep b4)
       have hbn := HT4.out.bel
       clear b4
       try go_wp2_with fail
       refine hK.out _ _ (HSo.out _ hbn) (fun hHeld => ?_)
       clear hK K hbn
       try simp only [Act.put, List.setIfInBounds_toArray, List.set_cons_zero, List.set_cons_succ]
       refine wpAnyH_ready (rs := [5, 9]) (by kernel_rfl) (by simp) ?_
       refine AllReadyH.cons (o := ?_) ?_ (fun K hK => ?_) ?_
       rotate_left
       (focus ((simp only [List.getElem?_toArray, List.getElem?_cons_succ, List.getElem?_cons_zero]); first | done | rfl))
       ·skip
        go_simp
        have HT5 := Lib.hid (HT4.out.mkz (by unfold maxLen; omega))
        have hbn := HT5.out.bel
        refine hK.out _ _ (HSo.out _ hbn) (fun hHeld => ?_)
        generalize V4.alloc (.cells (madeCells #[.int .i64 0] M) 3) = V5 at HT5 hHeld hbn ⊢
        obtain ⟨g5, hg5⟩ : ∃ g5, V4.heap.size = g5 := ⟨_, rfl⟩
        rw [hg5] at HT5
        try rw [hg5]
        clear hg5 hK K hbn
        try simp only [Act.put, List.setIfInBounds_toArray, List.set_cons_zero, List.set_cons_succ]
        refine wpAnyH_ready (rs := [9]) (by kernel_rfl) (by simp) ?_
        refine AllReadyH.cons (o := ?_) ?_ (fun K hK => ?_) ?_
        rotate_left
        (focus ((simp only [List.getElem?_toArray, List.getElem?_cons_succ, List.getElem?_cons_zero]); first | done | rfl))
        ·skip
         go_simp
         have HT9 := Lib.hid (HT5.out.mkc (by unfold maxLen; omega))
         have hbn := HT9.out.bel
         refine hK.out _ _ (HSo.out _ hbn) (fun hHeld => ?_)
         generalize V5.alloc (.cells (madeCells #[.int .i64 0] N) 3) = V9 at HT9 hHeld hbn ⊢
         obtain ⟨g9, hg9⟩ : ∃ g9, V5.heap.size = g9 := ⟨_, rfl⟩
         rw [hg9] at HT9
         try rw [hg9]
         clear hg9 hK K hbn
         try simp only [Act.put, List.setIfInBounds_toArray, List.set_cons_zero, List.set_cons_succ]
         obtain ⟨cK, k1, k2, k3, k4, k5, k6, k7, hbld⟩ := tal_built D.cD HB.out.1.dm.sz 9 (some ⟨g5, 0, none⟩) (some ⟨g9, 0, none⟩) (some ⟨g13, 0, none⟩) (some ⟨g17, 0, none⟩) M N N N M N N N; (refine wpAnyH_take (i := 18) (oi := ?_) (v := .agg cK) ?_ (by kernel_rfl) (by kernel_rfl) (by kernel_rfl) ?_ (Or.inl ⟨?_, ?_⟩) (by assumption) ?_; rotate_left; (focus ((simp only [List.getElem?_toArray, List.getElem?_cons_succ, List.getElem?_cons_zero]); first | done | rfl)); (focus (exact fun _ _ _ h => h)); (focus rfl); (focus (intro wz hSw; exact exec_bld10 wz _ _ rfl (TlPs D.cD 9 (some ⟨g5, 0, none⟩) (some ⟨g9, 0, none⟩) (some ⟨g13, 0, none⟩) (some ⟨g17, 0, none⟩) M N N N M N N N) (by first | rfl | simp [Act.eval] | (simp; rfl)) _ (hbld wz))); try simp only [Act.put, List.setIfInBounds_toArray, List.set_cons_zero, List.set_cons_succ])
         refine wpAnyH_ready (rs := [19]) (by kernel_rfl) (by simp) ?_
         refine AllReadyH.cons (o := ?_) ?_ (fun K hK => ?_) ?_
         rotate_left
         (focus ((simp only [List.getElem?_toArray, List.getElem?_cons_succ, List.getElem?_cons_zero]); first | done | rfl))
         ·skip
          go_simp
          have HT := Lib.hid ((HT9.out.keep (al V9 (.cells cK 60))).tal (St.new V9 60 cK))
          refine hK.out _ _ (HSo.out _ HT.out.bel) (fun hHeld => ?_)
          clear hK K
          try simp only [Act.put, List.setIfInBounds_toArray, List.set_cons_zero, List.set_cons_succ]
          (refine wpAnyH_take (i := 20) (oi := ?_) (v := ?_) ?_ (by kernel_rfl) (by kernel_rfl) (by kernel_rfl) ?_ (Or.inl ⟨?_, ?_⟩) (by assumption) ?_; rotate_left 2; (focus ((simp only [List.getElem?_toArray, List.getElem?_cons_succ, List.getElem?_cons_zero]); first | done | rfl)); (focus (exact fun _ _ _ h => h)); (focus rfl); (focus (intro wz hSw; (try dsimp only at hSw); go_simp; first | done | with_reducible rfl)); try simp only [Act.put, List.setIfInBounds_toArray, List.set_cons_zero, List.set_cons_succ])
          refine wpAnyH_done (by kernel_rfl) ?_ _
          go_wp2_with fail
          go_meet
          exact ⟨_, cK, _, _, _, _, rfl, ⟨k2, k3, k4, k5, k6, k7⟩, HT.out⟩
         exact AllReadyH.nil
        exact AllReadyH.nil
       refine AllReadyH.cons (o := ?_) ?_ (fun K hK => ?_) ?_
       rotate_left
       (focus ((simp only [List.getElem?_toArray, List.getElem?_cons_succ, List.getElem?_cons_zero]); first | done | rfl))
       ·skip
        go_simp
        have HT9 := Lib.hid (HT4.out.mkc (by unfold maxLen; omega))
        have hbn := HT9.out.bel
        refine hK.out _ _ (HSo.out _ hbn) (fun hHeld => ?_)
        generalize V4.alloc (.cells (madeCells #[.int .i64 0] N) 3) = V9 at HT9 hHeld hbn ⊢
        obtain ⟨g9, hg9⟩ : ∃ g9, V4.heap.size = g9 := ⟨_, rfl⟩
        rw [hg9] at HT9
        try rw [hg9]
        clear hg9 hK K hbn
        try simp only [Act.put, List.setIfInBounds_toArray, List.set_cons_zero, List.set_cons_succ]
        refine wpAnyH_ready (rs := [5]) (by kernel_rfl) (by simp) ?_
        refine AllReadyH.cons (o := ?_) ?_ (fun K hK => ?_) ?_
        rotate_left
        (focus ((simp only [List.getElem?_toArray, List.getElem?_cons_succ, List.getElem?_cons_zero]); first | done | rfl))
        ·skip
         go_simp
         have HT5 := Lib.hid (HT9.out.mkz (by unfold maxLen; omega))
         have hbn := HT5.out.bel
         refine hK.out _ _ (HSo.out _ hbn) (fun hHeld => ?_)
         generalize V9.alloc (.cells (madeCells #[.int .i64 0] M) 3) = V5 at HT5 hHeld hbn ⊢
         obtain ⟨g5, hg5⟩ : ∃ g5, V9.heap.size = g5 := ⟨_, rfl⟩
         rw [hg5] at HT5
         try rw [hg5]
         clear hg5 hK K hbn
         try simp only [Act.put, List.setIfInBounds_toArray, List.set_cons_zero, List.set_cons_succ]
         obtain ⟨cK, k1, k2, k3, k4, k5, k6, k7, hbld⟩ := tal_built D.cD HB.out.1.dm.sz 9 (some ⟨g5, 0, none⟩) (some ⟨g9, 0, none⟩) (some ⟨g13, 0, none⟩) (some ⟨g17, 0, none⟩) M N N N M N N N; (refine wpAnyH_take (i := 18) (oi := ?_) (v := .agg cK) ?_ (by kernel_rfl) (by kernel_rfl) (by kernel_rfl) ?_ (Or.inl ⟨?_, ?_⟩) (by assumption) ?_; rotate_left; (focus ((simp only [List.getElem?_toArray, List.getElem?_cons_succ, List.getElem?_cons_zero]); first | done | rfl)); (focus (exact fun _ _ _ h => h)); (focus rfl); (focus (intro wz hSw; exact exec_bld10 wz _ _ rfl (TlPs D.cD 9 (some ⟨g5, 0, none⟩) (some ⟨g9, 0, none⟩) (some ⟨g13, 0, none⟩) (some ⟨g17, 0, none⟩) M N N N M N N N) (by first | rfl | simp [Act.eval] | (simp; rfl)) _ (hbld wz))); try simp only [Act.put, List.setIfInBounds_toArray, List.set_cons_zero, List.set_cons_succ])
         refine wpAnyH_ready (rs := [19]) (by kernel_rfl) (by simp) ?_
         refine AllReadyH.cons (o := ?_) ?_ (fun K hK => ?_) ?_
         rotate_left
         (focus ((simp only [List.getElem?_toArray, List.getElem?_cons_succ, List.getElem?_cons_zero]); first | done | rfl))
         ·skip
          go_simp
          have HT := Lib.hid ((HT5.out.keep (al V5 (.cells cK 60))).tal (St.new V5 60 cK))
          refine hK.out _ _ (HSo.out _ HT.out.bel) (fun hHeld => ?_)
          clear hK K
          try simp only [Act.put, List.setIfInBounds_toArray, List.set_cons_zero, List.set_cons_succ]
          (refine wpAnyH_take (i := 20) (oi := ?_) (v := ?_) ?_ (by kernel_rfl) (by kernel_rfl) (by kernel_rfl) ?_ (Or.inl ⟨?_, ?_⟩) (by assumption) ?_; rotate_left 2; (focus ((simp only [List.getElem?_toArray, List.getElem?_cons_succ, List.getElem?_cons_zero]); first | done | rfl)); (focus (exact fun _ _ _ h => h)); (focus rfl); (focus (intro wz hSw; (try dsimp only at hSw); go_simp; first | done | with_reducible rfl)); try simp only [Act.put, List.setIfInBounds_toArray, List.set_cons_zero, List.set_cons_succ])
          refine wpAnyH_done (by kernel_rfl) ?_ _
          go_wp2_with fail
          go_meet
          exact ⟨_, cK, _, _, _, _, rfl, ⟨k2, k3, k4, k5, k6, k7⟩, HT.out⟩
         exact AllReadyH.nil
        exact AllReadyH.nil
       exact AllReadyH.nil
      refine AllReadyH.cons (o := ?_) ?_ (fun K hK => ?_) ?_
      rotate_left
      (focus ((simp only [List.getElem?_toArray, List.getElem?_cons_succ, List.getElem?_cons_zero]); first | done | rfl))
      ·skip
       go_simp
       have HT9 := Lib.hid (HT17.out.mkc (by unfold maxLen; omega))
       have hbn := HT9.out.bel
       refine hK.out _ _ (HSo.out _ hbn) (fun hHeld => ?_)
       generalize V17.alloc (.cells (madeCells #[.int .i64 0] N) 3) = V9 at HT9 hHeld hbn ⊢
       obtain ⟨g9, hg9⟩ : ∃ g9, V17.heap.size = g9 := ⟨_, rfl⟩
       rw [hg9] at HT9
       try rw [hg9]
       clear hg9 hK K hbn
       try simp only [Act.put, List.setIfInBounds_toArray, List.set_cons_zero, List.set_cons_succ]
       refine wpAnyH_ready (rs := [4]) (by kernel_rfl) (by simp) ?_
       refine AllReadyH.cons (o := ?_) ?_ (fun K hK => ?_) ?_
       rotate_left
       (focus ((simp only [List.getElem?_toArray, List.getElem?_cons_succ, List.getElem?_cons_zero]); first | done | rfl))
       ·skip
        go_simp
        go_at_call 35
        refine (HCl.out _).mono ?_
        rintro e V4 ⟨rfl, b4⟩
        have HT4 := Lib.hid (HT9.out.keep b4)
        have hbn := HT4.out.bel
        clear b4
        try go_wp2_with fail
        refine hK.out _ _ (HSo.out _ hbn) (fun hHeld => ?_)
        clear hK K hbn
        try simp only [Act.put, List.setIfInBounds_toArray, List.set_cons_zero, List.set_cons_succ]
        refine wpAnyH_ready (rs := [5]) (by kernel_rfl) (by simp) ?_
        refine AllReadyH.cons (o := ?_) ?_ (fun K hK => ?_) ?_
        rotate_left
        (focus ((simp only [List.getElem?_toArray, List.getElem?_cons_succ, List.getElem?_cons_zero]); first | done | rfl))
        ·skip
         go_simp
         have HT5 := Lib.hid (HT4.out.mkz (by unfold maxLen; omega))
         have hbn := HT5.out.bel
         refine hK.out _ _ (HSo.out _ hbn) (fun hHeld => ?_)
         generalize V4.alloc (.cells (madeCells #[.int .i64 0] M) 3) = V5 at HT5 hHeld hbn ⊢
         obtain ⟨g5, hg5⟩ : ∃ g5, V4.heap.size = g5 := ⟨_, rfl⟩
         rw [hg5] at HT5
         try rw [hg5]
         clear hg5 hK K hbn
         try simp only [Act.put, List.setIfInBounds_toArray, List.set_cons_zero, List.set_cons_succ]
         obtain ⟨cK, k1, k2, k3, k4, k5, k6, k7, hbld⟩ := tal_built D.cD HB.out.1.dm.sz 9 (some ⟨g5, 0, none⟩) (some ⟨g9, 0, none⟩) (some ⟨g13, 0, none⟩) (some ⟨g17, 0, none⟩) M N N N M N N N; (refine wpAnyH_take (i := 18) (oi := ?_) (v := .agg cK) ?_ (by kernel_rfl) (by kernel_rfl) (by kernel_rfl) ?_ (Or.inl ⟨?_, ?_⟩) (by assumption) ?_; rotate_left; (focus ((simp only [List.getElem?_toArray, List.getElem?_cons_succ, List.getElem?_cons_zero]); first | done | rfl)); (focus (exact fun _ _ _ h => h)); (focus rfl); (focus (intro wz hSw; exact exec_bld10 wz _ _ rfl (TlPs D.cD 9 (some ⟨g5, 0, none⟩) (some ⟨g9, 0, none⟩) (some ⟨g13, 0, none⟩) (some ⟨g17, 0, none⟩) M N N N M N N N) (by first | rfl | simp [Act.eval] | (simp; rfl)) _ (hbld wz))); try simp only [Act.put, List.setIfInBounds_toArray, List.set_cons_zero, List.set_cons_succ])
         refine wpAnyH_ready (rs := [19]) (by kernel_rfl) (by simp) ?_
         refine AllReadyH.cons (o := ?_) ?_ (fun K hK => ?_) ?_
         rotate_left
         (focus ((simp only [List.getElem?_toArray, List.getElem?_cons_succ, List.getElem?_cons_zero]); first | done | rfl))
         ·skip
          go_simp
          have HT := Lib.hid ((HT5.out.keep (al V5 (.cells cK 60))).tal (St.new V5 60 cK))
          refine hK.out _ _ (HSo.out _ HT.out.bel) (fun hHeld => ?_)
          clear hK K
          try simp only [Act.put, List.setIfInBounds_toArray, List.set_cons_zero, List.set_cons_succ]
          (refine wpAnyH_take (i := 20) (oi := ?_) (v := ?_) ?_ (by kernel_rfl) (by kernel_rfl) (by kernel_rfl) ?_ (Or.inl ⟨?_, ?_⟩) (by assumption) ?_; rotate_left 2; (focus ((simp only [List.getElem?_toArray, List.getElem?_cons_succ, List.getElem?_cons_zero]); first | done | rfl)); (focus (exact fun _ _ _ h => h)); (focus rfl); (focus (intro wz hSw; (try dsimp only at hSw); go_simp; first | done | with_reducible rfl)); try simp only [Act.put, List.setIfInBounds_toArray, List.set_cons_zero, List.set_cons_succ])
          refine wpAnyH_done (by kernel_rfl) ?_ _
          go_wp2_with fail
          go_meet
          exact ⟨_, cK, _, _, _, _, rfl, ⟨k2, k3, k4, k5, k6, k7⟩, HT.out⟩
         exact AllReadyH.nil
        exact AllReadyH.nil
       exact AllReadyH.nil
      exact AllReadyH.nil
     exact AllReadyH.nil
    refine AllReadyH.cons (o := ?_) ?_ (fun K hK => ?_) ?_
    rotate_left
    (focus ((simp only [List.getElem?_toArray, List.getElem?_cons_succ, List.getElem?_cons_zero]); first | done | rfl))
    ·skip
     go_simp
     have HT17 := Lib.hid (HT0.out.mks (by unfold maxLen; omega))
     have hbn := HT17.out.bel
     refine hK.out _ _ (HSo.out _ hbn) (fun hHeld => ?_)
     generalize V0.alloc (.cells (madeCells #[.int .i64 0] N) 3) = V17 at HT17 hHeld hbn ⊢
     obtain ⟨g17, hg17⟩ : ∃ g17, V0.heap.size = g17 := ⟨_, rfl⟩
     rw [hg17] at HT17
     try rw [hg17]
     clear hg17 hK K hbn
     try simp only [Act.put, List.setIfInBounds_toArray, List.set_cons_zero, List.set_cons_succ]
     refine wpAnyH_ready (rs := [4, 9, 13]) (by kernel_rfl) (by simp) ?_
     refine AllReadyH.cons (o := ?_) ?_ (fun K hK => ?_) ?_
     rotate_left
     (focus ((simp only [List.getElem?_toArray, List.getElem?_cons_succ, List.getElem?_cons_zero]); first | done | rfl))
     ·skip
      go_simp
      go_at_call 35
      refine (HCl.out _).mono ?_
      rintro e V4 ⟨rfl, b4⟩
      have HT4 := Lib.hid (HT17.out.keep b4)
      have hbn := HT4.out.bel
      clear b4
      try go_wp2_with fail
      refine hK.out _ _ (HSo.out _ hbn) (fun hHeld => ?_)
      clear hK K hbn
      try simp only [Act.put, List.setIfInBounds_toArray, List.set_cons_zero, List.set_cons_succ]
      refine wpAnyH_ready (rs := [5, 9, 13]) (by kernel_rfl) (by simp) ?_
      refine AllReadyH.cons (o := ?_) ?_ (fun K hK => ?_) ?_
      rotate_left
      (focus ((simp only [List.getElem?_toArray, List.getElem?_cons_succ, List.getElem?_cons_zero]); first | done | rfl))
      ·skip
       go_simp
       have HT5 := Lib.hid (HT4.out.mkz (by unfold maxLen; omega))
       have hbn := HT5.out.bel
       refine hK.out _ _ (HSo.out _ hbn) (fun hHeld => ?_)
       generalize V4.alloc (.cells (madeCells #[.int .i64 0] M) 3) = V5 at HT5 hHeld hbn ⊢
       obtain ⟨g5, hg5⟩ : ∃ g5, V4.heap.size = g5 := ⟨_, rfl⟩
       rw [hg5] at HT5
       try rw [hg5]
       clear hg5 hK K hbn
       try simp only [Act.put, List.setIfInBounds_toArray, List.set_cons_zero, List.set_cons_succ]
       refine wpAnyH_ready (rs := [9, 13]) (by kernel_rfl) (by simp) ?_
       refine AllReadyH.cons (o := ?_) ?_ (fun K hK => ?_) ?_
       rotate_left
       (focus ((simp only [List.getElem?_toArray, List.getElem?_cons_succ, List.getElem?_cons_zero]); first | done | rfl))
       ·skip
        go_simp
        have HT9 := Lib.hid (HT5.out.mkc (by unfold maxLen; omega))
        have hbn := HT9.out.bel
        refine hK.out _ _ (HSo.out _ hbn) (fun hHeld => ?_)
        generalize V5.alloc (.cells (madeCells #[.int .i64 0] N) 3) = V9 at HT9 hHeld hbn ⊢
        obtain ⟨g9, hg9⟩ : ∃ g9, V5.heap.size = g9 := ⟨_, rfl⟩
        rw [hg9] at HT9
        try rw [hg9]
        clear hg9 hK K hbn
        try simp only [Act.put, List.setIfInBounds_toArray, List.set_cons_zero, List.set_cons_succ]
        refine wpAnyH_ready (rs := [13]) (by kernel_rfl) (by simp) ?_
        refine AllReadyH.cons (o := ?_) ?_ (fun K hK => ?_) ?_
        rotate_left
        (focus ((simp only [List.getElem?_toArray, List.getElem?_cons_succ, List.getElem?_cons_zero]); first | done | rfl))
        ·skip
         go_simp
         have HT13 := Lib.hid (HT9.out.mkh (by unfold maxLen; omega))
         have hbn := HT13.out.bel
         refine hK.out _ _ (HSo.out _ hbn) (fun hHeld => ?_)
         generalize V9.alloc (.cells (madeCells #[.int .i64 0] N) 3) = V13 at HT13 hHeld hbn ⊢
         obtain ⟨g13, hg13⟩ : ∃ g13, V9.heap.size = g13 := ⟨_, rfl⟩
         rw [hg13] at HT13
         try rw [hg13]
         clear hg13 hK K hbn
         try simp only [Act.put, List.setIfInBounds_toArray, List.set_cons_zero, List.set_cons_succ]
         obtain ⟨cK, k1, k2, k3, k4, k5, k6, k7, hbld⟩ := tal_built D.cD HB.out.1.dm.sz 9 (some ⟨g5, 0, none⟩) (some ⟨g9, 0, none⟩) (some ⟨g13, 0, none⟩) (some ⟨g17, 0, none⟩) M N N N M N N N; (refine wpAnyH_take (i := 18) (oi := ?_) (v := .agg cK) ?_ (by kernel_rfl) (by kernel_rfl) (by kernel_rfl) ?_ (Or.inl ⟨?_, ?_⟩) (by assumption) ?_; rotate_left; (focus ((simp only [List.getElem?_toArray, List.getElem?_cons_succ, List.getElem?_cons_zero]); first | done | rfl)); (focus (exact fun _ _ _ h => h)); (focus rfl); (focus (intro wz hSw; exact exec_bld10 wz _ _ rfl (TlPs D.cD 9 (some ⟨g5, 0, none⟩) (some ⟨g9, 0, none⟩) (some ⟨g13, 0, none⟩) (some ⟨g17, 0, none⟩) M N N N M N N N) (by first | rfl | simp [Act.eval] | (simp; rfl)) _ (hbld wz))); try simp only [Act.put, List.setIfInBounds_toArray, List.set_cons_zero, List.set_cons_succ])
         refine wpAnyH_ready (rs := [19]) (by kernel_rfl) (by simp) ?_
         refine AllReadyH.cons (o := ?_) ?_ (fun K hK => ?_) ?_
         rotate_left
         (focus ((simp only [List.getElem?_toArray, List.getElem?_cons_succ, List.getElem?_cons_zero]); first | done | rfl))
         ·skip
          go_simp
          have HT := Lib.hid ((HT13.out.keep (al V13 (.cells cK 60))).tal (St.new V13 60 cK))
          refine hK.out _ _ (HSo.out _ HT.out.bel) (fun hHeld => ?_)
          clear hK K
          try simp only [Act.put, List.setIfInBounds_toArray, List.set_cons_zero, List.set_cons_succ]
          (refine wpAnyH_take (i := 20) (oi := ?_) (v := ?_) ?_ (by kernel_rfl) (by kernel_rfl) (by kernel_rfl) ?_ (Or.inl ⟨?_, ?_⟩) (by assumption) ?_; rotate_left 2; (focus ((simp only [List.getElem?_toArray, List.getElem?_cons_succ, List.getElem?_cons_zero]); first | done | rfl)); (focus (exact fun _ _ _ h => h)); (focus rfl); (focus (intro wz hSw; (try dsimp only at hSw); go_simp; first | done | with_reducible rfl)); try simp only [Act.put, List.setIfInBounds_toArray, List.set_cons_zero, List.set_cons_succ])
          refine wpAnyH_done (by kernel_rfl) ?_ _
          go_wp2_with fail
          go_meet
          exact ⟨_, cK, _, _, _, _, rfl, ⟨k2, k3, k4, k5, k6, k7⟩, HT.out⟩
         exact AllReadyH.nil
        exact AllReadyH.nil
       refine AllReadyH.cons (o := ?_) ?_ (fun K hK => ?_) ?_
       rotate_left
       (focus ((simp only [List.getElem?_toArray, List.getElem?_cons_succ, List.getElem?_cons_zero]); first | done | rfl))
       ·skip
        go_simp
        have HT13 := Lib.hid (HT5.out.mkh (by unfold maxLen; omega))
        have hbn := HT13.out.bel
        refine hK.out _ _ (HSo.out _ hbn) (fun hHeld => ?_)
        generalize V5.alloc (.cells (madeCells #[.int .i64 0] N) 3) = V13 at HT13 hHeld hbn ⊢
        obtain ⟨g13, hg13⟩ : ∃ g13, V5.heap.size = g13 := ⟨_, rfl⟩
        rw [hg13] at HT13
        try rw [hg13]
        clear hg13 hK K hbn
        try simp only [Act.put, List.setIfInBounds_toArray, List.set_cons_zero, List.set_cons_succ]
        refine wpAnyH_ready (rs := [9]) (by kernel_rfl) (by simp) ?_
        refine AllReadyH.cons (o := ?_) ?_ (fun K hK => ?_) ?_
        rotate_left
        (focus ((simp only [List.getElem?_toArray, List.getElem?_cons_succ, List.getElem?_cons_zero]); first | done | rfl))
        ·skip
         go_simp
         have HT9 := Lib.hid (HT13.out.mkc (by unfold maxLen; omega))
         have hbn := HT9.out.bel
         refine hK.out _ _ (HSo.out _ hbn) (fun hHeld => ?_)
         generalize V13.alloc (.cells (madeCells #[.int .i64 0] N) 3) = V9 at HT9 hHeld hbn ⊢
         obtain ⟨g9, hg9⟩ : ∃ g9, V13.heap.size = g9 := ⟨_, rfl⟩
         rw [hg9] at HT9
         try rw [hg9]
         clear hg9 hK K hbn
         try simp only [Act.put, List.setIfInBounds_toArray, List.set_cons_zero, List.set_cons_succ]
         obtain ⟨cK, k1, k2, k3, k4, k5, k6, k7, hbld⟩ := tal_built D.cD HB.out.1.dm.sz 9 (some ⟨g5, 0, none⟩) (some ⟨g9, 0, none⟩) (some ⟨g13, 0, none⟩) (some ⟨g17, 0, none⟩) M N N N M N N N; (refine wpAnyH_take (i := 18) (oi := ?_) (v := .agg cK) ?_ (by kernel_rfl) (by kernel_rfl) (by kernel_rfl) ?_ (Or.inl ⟨?_, ?_⟩) (by assumption) ?_; rotate_left; (focus ((simp only [List.getElem?_toArray, List.getElem?_cons_succ, List.getElem?_cons_zero]); first | done | rfl)); (focus (exact fun _ _ _ h => h)); (focus rfl); (focus (intro wz hSw; exact exec_bld10 wz _ _ rfl (TlPs D.cD 9 (some ⟨g5, 0, none⟩) (some ⟨g9, 0, none⟩) (some ⟨g13, 0, none⟩) (some ⟨g17, 0, none⟩) M N N N M N N N) (by first | rfl | simp [Act.eval] | (simp; rfl)) _ (hbld wz))); try simp only [Act.put, List.setIfInBounds_toArray, List.set_cons_zero, List.set_cons_succ])
         refine wpAnyH_ready (rs := [19]) (by kernel_rfl) (by simp) ?_
         refine AllReadyH.cons (o := ?_) ?_ (fun K hK => ?_) ?_
         rotate_left
         (focus ((simp only [List.getElem?_toArray, List.getElem?_cons_succ, List.getElem?_cons_zero]); first | done | rfl))
         ·skip
          go_simp
          have HT := Lib.hid ((HT9.out.keep (al V9 (.cells cK 60))).tal (St.new V9 60 cK))
          refine hK.out _ _ (HSo.out _ HT.out.bel) (fun hHeld => ?_)
          clear hK K
          try simp only [Act.put, List.setIfInBounds_toArray, List.set_cons_zero, List.set_cons_succ]
          (refine wpAnyH_take (i := 20) (oi := ?_) (v := ?_) ?_ (by kernel_rfl) (by kernel_rfl) (by kernel_rfl) ?_ (Or.inl ⟨?_, ?_⟩) (by assumption) ?_; rotate_left 2; (focus ((simp only [List.getElem?_toArray, List.getElem?_cons_succ, List.getElem?_cons_zero]); first | done | rfl)); (focus (exact fun _ _ _ h => h)); (focus rfl); (focus (intro wz hSw; (try dsimp only at hSw); go_simp; first | done | with_reducible rfl)); try simp only [Act.put, List.setIfInBounds_toArray, List.set_cons_zero, List.set_cons_succ])
          refine wpAnyH_done (by kernel_rfl) ?_ _
          go_wp2_with fail
          go_meet
          exact ⟨_, cK, _, _, _, _, rfl, ⟨k2, k3, k4, k5, k6, k7⟩, HT.out⟩
         exact AllReadyH.nil
        exact AllReadyH.nil
       exact AllReadyH.nil
      refine AllReadyH.cons (o := ?_) ?_ (fun K hK => ?_) ?_
      rotate_left
      (focus ((simp only [List.getElem?_toArray, List.getElem?_cons_succ, List.getElem?_cons_zero]); first | done | rfl))
      ·skip
       go_simp
       have HT9 := Lib.hid (HT4.out.mkc (by unfold maxLen; omega))
       have hbn := HT9.out.bel
       refine hK.out _ _ (HSo.out _ hbn) (fun hHeld => ?_)
       generalize V4.alloc (.cells (madeCells #[.int .i64 0] N) 3) = V9 at HT9 hHeld hbn ⊢
       obtain ⟨g9, hg9⟩ : ∃ g9, V4.heap.size = g9 := ⟨_, rfl⟩
       rw [hg9] at HT9
       try rw [hg9]
       clear hg9 hK K hbn
       try simp only [Act.put, List.setIfInBounds_toArray, List.set_cons_zero, List.set_cons_succ]
       refine wpAnyH_ready (rs := [5, 13]) (by kernel_rfl) (by simp) ?_
       refine AllReadyH.cons (o := ?_) ?_ (fun K hK => ?_) ?_
       rotate_left
       (focus ((simp only [List.getElem?_toArray, List.getElem?_cons_succ, List.getElem?_cons_zero]); first | done | rfl))
       ·skip
        go_simp
        have HT5 := Lib.hid (HT9.out.mkz (by unfold maxLen; omega))
        have hbn := HT5.out.bel
        refine hK.out _ _ (HSo.out _ hbn) (fun hHeld => ?_)
        generalize V9.alloc (.cells (madeCells #[.int .i64 0] M) 3) = V5 at HT5 hHeld hbn ⊢
        obtain ⟨g5, hg5⟩ : ∃ g5, V9.heap.size = g5 := ⟨_, rfl⟩
        rw [hg5] at HT5
        try rw [hg5]
        clear hg5 hK K hbn
        try simp only [Act.put, List.setIfInBounds_toArray, List.set_cons_zero, List.set_cons_succ]
        refine wpAnyH_ready (rs := [13]) (by kernel_rfl) (by simp) ?_
        refine AllReadyH.cons (o := ?_) ?_ (fun K hK => ?_) ?_
        rotate_left
        (focus ((simp only [List.getElem?_toArray, List.getElem?_cons_succ, List.getElem?_cons_zero]); first | done | rfl))
        ·skip
         go_simp
         have HT13 := Lib.hid (HT5.out.mkh (by unfold maxLen; omega))
         have hbn := HT13.out.bel
         refine hK.out _ _ (HSo.out _ hbn) (fun hHeld => ?_)
         generalize V5.alloc (.cells (madeCells #[.int .i64 0] N) 3) = V13 at HT13 hHeld hbn ⊢
         obtain ⟨g13, hg13⟩ : ∃ g13, V5.heap.size = g13 := ⟨_, rfl⟩
         rw [hg13] at HT13
         try rw [hg13]
         clear hg13 hK K hbn
         try simp only [Act.put, List.setIfInBounds_toArray, List.set_cons_zero, List.set_cons_succ]
         obtain ⟨cK, k1, k2, k3, k4, k5, k6, k7, hbld⟩ := tal_built D.cD HB.out.1.dm.sz 9 (some ⟨g5, 0, none⟩) (some ⟨g9, 0, none⟩) (some ⟨g13, 0, none⟩) (some ⟨g17, 0, none⟩) M N N N M N N N; (refine wpAnyH_take (i := 18) (oi := ?_) (v := .agg cK) ?_ (by kernel_rfl) (by kernel_rfl) (by kernel_rfl) ?_ (Or.inl ⟨?_, ?_⟩) (by assumption) ?_; rotate_left; (focus ((simp only [List.getElem?_toArray, List.getElem?_cons_succ, List.getElem?_cons_zero]); first | done | rfl)); (focus (exact fun _ _ _ h => h)); (focus rfl); (focus (intro wz hSw; exact exec_bld10 wz _ _ rfl (TlPs D.cD 9 (some ⟨g5, 0, none⟩) (some ⟨g9, 0, none⟩) (some ⟨g13, 0, none⟩) (some ⟨g17, 0, none⟩) M N N N M N N N) (by first | rfl | simp [Act.eval] | (simp; rfl)) _ (hbld wz))); try simp only [Act.put, List.setIfInBounds_toArray, List.set_cons_zero, List.set_cons_succ])
         refine wpAnyH_ready (rs := [19]) (by kernel_rfl) (by simp) ?_
         refine AllReadyH.cons (o := ?_) ?_ (fun K hK => ?_) ?_
         rotate_left
         (focus ((simp only [List.getElem?_toArray, List.getElem?_cons_succ, List.getElem?_cons_zero]); first | done | rfl))
         ·skip
          go_simp
          have HT := Lib.hid ((HT13.out.keep (al V13 (.cells cK 60))).tal (St.new V13 60 cK))
          refine hK.out _ _ (HSo.out _ HT.out.bel) (fun hHeld => ?_)
          clear hK K
          try simp only [Act.put, List.setIfInBounds_toArray, List.set_cons_zero, List.set_cons_succ]
          (refine wpAnyH_take (i := 20) (oi := ?_) (v := ?_) ?_ (by kernel_rfl) (by kernel_rfl) (by kernel_rfl) ?_ (Or.inl ⟨?_, ?_⟩) (by assumption) ?_; rotate_left 2; (focus ((simp only [List.getElem?_toArray, List.getElem?_cons_succ, List.getElem?_cons_zero]); first | done | rfl)); (focus (exact fun _ _ _ h => h)); (focus rfl); (focus (intro wz hSw; (try dsimp only at hSw); go_simp; first | done | with_reducible rfl)); try simp only [Act.put, List.setIfInBounds_toArray, List.set_cons_zero, List.set_cons_succ])
          refine wpAnyH_done (by kernel_rfl) ?_ _
          go_wp2_with fail
          go_meet
          exact ⟨_, cK, _, _, _, _, rfl, ⟨k2, k3, k4, k5, k6, k7⟩, HT.out⟩
         exact AllReadyH.nil
        exact AllReadyH.nil
       refine AllReadyH.cons (o := ?_) ?_ (fun K hK => ?_) ?_
       rotate_left
       (focus ((simp only [List.getElem?_toArray, List.getElem?_cons_succ, List.getElem?_cons_zero]); first | done | rfl))
       ·skip
        go_simp
        have HT13 := Lib.hid (HT9.out.mkh (by unfold maxLen; omega))
        have hbn := HT13.out.bel
        refine hK.out _ _ (HSo.out _ hbn) (fun hHeld => ?_)
        generalize V9.alloc (.cells (madeCells #[.int .i64 0] N) 3) = V13 at HT13 hHeld hbn ⊢
        obtain ⟨g13, hg13⟩ : ∃ g13, V9.heap.size = g13 := ⟨_, rfl⟩
        rw [hg13] at HT13
        try rw [hg13]
        clear hg13 hK K hbn
        try simp only [Act.put, List.setIfInBounds_toArray, List.set_cons_zero, List.set_cons_succ]
        refine wpAnyH_ready (rs := [5]) (by kernel_rfl) (by simp) ?_
        refine AllReadyH.cons (o := ?_) ?_ (fun K hK => ?_) ?_
        rotate_left
        (focus ((simp only [List.getElem?_toArray, List.getElem?_cons_succ, List.getElem?_cons_zero]); first | done | rfl))
        ·skip
         go_simp
         have HT5 := Lib.hid (HT13.out.mkz (by unfold maxLen; omega))
         have hbn := HT5.out.bel
         refine hK.out _ _ (HSo.out _ hbn) (fun hHeld => ?_)
         generalize V13.alloc (.cells (madeCells #[.int .i64 0] M) 3) = V5 at HT5 hHeld hbn ⊢
         obtain ⟨g5, hg5⟩ : ∃ g5, V13.heap.size = g5 := ⟨_, rfl⟩
         rw [hg5] at HT5
         try rw [hg5]
         clear hg5 hK K hbn
         try simp only [Act.put, List.setIfInBounds_toArray, List.set_cons_zero, List.set_cons_succ]
         obtain ⟨cK, k1, k2, k3, k4, k5, k6, k7, hbld⟩ := tal_built D.cD HB.out.1.dm.sz 9 (some ⟨g5, 0, none⟩) (some ⟨g9, 0, none⟩) (some ⟨g13, 0, none⟩) (some ⟨g17, 0, none⟩) M N N N M N N N; (refine wpAnyH_take (i := 18) (oi := ?_) (v := .agg cK) ?_ (by kernel_rfl) (by kernel_rfl) (by kernel_rfl) ?_ (Or.inl ⟨?_, ?_⟩) (by assumption) ?_; rotate_left; (focus ((simp only [List.getElem?_toArray, List.getElem?_cons_succ, List.getElem?_cons_zero]); first | done | rfl)); (focus (exact fun _ _ _ h => h)); (focus rfl); (focus (intro wz hSw; exact exec_bld10 wz _ _ rfl (TlPs D.cD 9 (some ⟨g5, 0, none⟩) (some ⟨g9, 0, none⟩) (some ⟨g13, 0, none⟩) (some ⟨g17, 0, none⟩) M N N N M N N N) (by first | rfl | simp [Act.eval] | (simp; rfl)) _ (hbld wz))); try simp only [Act.put, List.setIfInBounds_toArray, List.set_cons_zero, List.set_cons_succ])
         refine wpAnyH_ready (rs := [19]) (by kernel_rfl) (by simp) ?_
         refine AllReadyH.cons (o := ?_) ?_ (fun K hK => ?_) ?_
         rotate_left
         (focus ((simp only [List.getElem?_toArray, List.getElem?_cons_succ, List.getElem?_cons_zero]); first | done | rfl))
         ·skip
          go_simp
          have HT := Lib.hid ((HT5.out.keep (al V5 (.cells cK 60))).tal (St.new V5 60 cK))
          refine hK.out _ _ (HSo.out _ HT.out.bel) (fun hHeld => ?_)
          clear hK K
          try simp only [Act.put, List.setIfInBounds_toArray, List.set_cons_zero, List.set_cons_succ]
          (refine wpAnyH_take (i := 20) (oi := ?_) (v := ?_) ?_ (by kernel_rfl) (by kernel_rfl) (by kernel_rfl) ?_ (Or.inl ⟨?_, ?_⟩) (by assumption) ?_; rotate_left 2; (focus ((simp only [List.getElem?_toArray, List.getElem?_cons_succ, List.getElem?_cons_zero]); first | done | rfl)); (focus (exact fun _ _ _ h => h)); (focus rfl); (focus (intro wz hSw; (try dsimp only at hSw); go_simp; first | done | with_reducible rfl)); try simp only [Act.put, List.setIfInBounds_toArray, List.set_cons_zero, List.set_cons_succ])
          refine wpAnyH_done (by kernel_rfl) ?_ _
          go_wp2_with fail
          go_meet
          exact ⟨_, cK, _, _, _, _, rfl, ⟨k2, k3, k4, k5, k6, k7⟩, HT.out⟩
         exact AllReadyH.nil
        exact AllReadyH.nil
       exact AllReadyH.nil
      refine AllReadyH.cons (o := ?_) ?_ (fun K hK => ?_) ?_
      rotate_left
      (focus ((simp only [List.getElem?_toArray, List.getElem?_cons_succ, List.getElem?_cons_zero]); first | done | rfl))
      ·skip
       go_simp
       have HT13 := Lib.hid (HT4.out.mkh (by unfold maxLen; omega))
       have hbn := HT13.out.bel
       refine hK.out _ _ (HSo.out _ hbn) (fun hHeld => ?_)
       generalize V4.alloc (.cells (madeCells #[.int .i64 0] N) 3) = V13 at HT13 hHeld hbn ⊢
       obtain ⟨g13, hg13⟩ : ∃ g13, V4.heap.size = g13 := ⟨_, rfl⟩
       rw [hg13] at HT13
       try rw [hg13]
       clear hg13 hK K hbn
       try simp only [Act.put, List.setIfInBounds_toArray, List.set_cons_zero, List.set_cons_succ]
       refine wpAnyH_ready (rs := [5, 9]) (by kernel_rfl) (by simp) ?_
       refine AllReadyH.cons (o := ?_) ?_ (fun K hK => ?_) ?_
       rotate_left
       (focus ((simp only [List.getElem?_toArray, List.getElem?_cons_succ, List.getElem?_cons_zero]); first | done | rfl))
       ·skip
        go_simp
        have HT5 := Lib.hid (HT13.out.mkz (by unfold maxLen; omega))
        have hbn := HT5.out.bel
        refine hK.out _ _ (HSo.out _ hbn) (fun hHeld => ?_)
        generalize V13.alloc (.cells (madeCells #[.int .i64 0] M) 3) = V5 at HT5 hHeld hbn ⊢
        obtain ⟨g5, hg5⟩ : ∃ g5, V13.heap.size = g5 := ⟨_, rfl⟩
        rw [hg5] at HT5
        try rw [hg5]
        clear hg5 hK K hbn
        try simp only [Act.put, List.setIfInBounds_toArray, List.set_cons_zero, List.set_cons_succ]
        refine wpAnyH_ready (rs := [9]) (by kernel_rfl) (by simp) ?_
        refine AllReadyH.cons (o := ?_) ?_ (fun K hK => ?_) ?_
        rotate_left
        (focus ((simp only [List.getElem?_toArray, List.getElem?_cons_succ, List.getElem?_cons_zero]); first | done | rfl))
        ·skip
         go_simp
         have HT9 := Lib.hid (HT5.out.mkc (by unfold maxLen; omega))
         have hbn := HT9.out.bel
         refine hK.out _ _ (HSo.out _ hbn) (fun hHeld => ?_)
         generalize V5.alloc (.cells (madeCells #[.int .i64 0] N) 3) = V9 at HT9 hHeld hbn ⊢
         obtain ⟨g9, hg9⟩ : ∃ g9, V5.heap.size = g9 := ⟨_, rfl⟩
         rw [hg9] at HT9
         try rw [hg9]
         clear hg9 hK K hbn
         try simp only [Act.put, List.setIfInBounds_toArray, List.set_cons_zero, List.set_cons_succ]
         obtain ⟨cK, k1, k2, k3, k4, k5, k6, k7, hbld⟩ := tal_built D.cD HB.out.1.dm.sz 9 (some ⟨g5, 0, none⟩) (some ⟨g9, 0, none⟩) (some ⟨g13, 0, none⟩) (some ⟨g17, 0, none⟩) M N N N M N N N; (refine wpAnyH_take (i := 18) (oi := ?_) (v := .agg cK) ?_ (by kernel_rfl) (by kernel_rfl) (by kernel_rfl) ?_ (Or.inl ⟨?_, ?_⟩) (by assumption) ?_; rotate_left; (focus ((simp only [List.getElem?_toArray, List.getElem?_cons_succ, List.getElem?_cons_zero]); first | done | rfl)); (focus (exact fun _ _ _ h => h)); (focus rfl); (focus (intro wz hSw; exact exec_bld10 wz _ _ rfl (TlPs D.cD 9 (some ⟨g5, 0, none⟩) (some ⟨g9, 0, none⟩) (some ⟨g13, 0, none⟩) (some ⟨g17, 0, none⟩) M N N N M N N N) (by first | rfl | simp [Act.eval] | (simp; rfl)) _ (hbld wz))); try simp only [Act.put, List.setIfInBounds_toArray, List.set_cons_zero, List.set_cons_succ])
         refine wpAnyH_ready (rs := [19]) (by kernel_rfl) (by simp) ?_
         refine AllReadyH.cons (o := ?_) ?_ (fun K hK => ?_) ?_
         rotate_left
         (focus ((simp only [List.getElem?_toArray, List.getElem?_cons_succ, List.getElem?_cons_zero]); first | done | rfl))
         ·skip
          go_simp
          have HT := Lib.hid ((HT9.out.keep (al V9 (.cells cK 60))).tal (St.new V9 60 cK))
          refine hK.out _ _ (HSo.out _ HT.out.bel) (fun hHeld => ?_)
          clear hK K
          try simp only [Act.put, List.setIfInBounds_toArray, List.set_cons_zero, List.set_cons_succ]
          (refine wpAnyH_take (i := 20) (oi := ?_) (v := ?_) ?_ (by kernel_rfl) (by kernel_rfl) (by kernel_rfl) ?_ (Or.inl ⟨?_, ?_⟩) (by assumption) ?_; rotate_left 2; (focus ((simp only [List.getElem?_toArray, List.getElem?_cons_succ, List.getElem?_cons_zero]); first | done | rfl)); (focus (exact fun _ _ _ h => h)); (focus rfl); (focus (intro wz hSw; (try dsimp only at hSw); go_simp; first | done | with_reducible rfl)); try simp only [Act.put, List.setIfInBounds_toArray, List.set_cons_zero, List.set_cons_succ])
          refine wpAnyH_done (by kernel_rfl) ?_ _
          go_wp2_with fail
          go_meet
          exact ⟨_, cK, _, _, _, _, rfl, ⟨k2, k3, k4, k5, k6, k7⟩, HT.out⟩
         exact AllReadyH.nil
        exact AllReadyH.nil
       refine AllReadyH.cons (o := ?_) ?_ (fun K hK => ?_) ?_
       rotate_left
       (focus ((simp only [List.getElem?_toArray, List.getElem?_cons_succ, List.getElem?_cons_zero]); first | done | rfl))
       ·skip
        go_simp
        have HT9 := Lib.hid (HT13.out.mkc (by unfold maxLen; omega))
        have hbn := HT9.out.bel
        refine hK.out _ _ (HSo.out _ hbn) (fun hHeld => ?_)
        generalize V13.alloc (.cells (madeCells #[.int .i64 0] N) 3) = V9 at HT9 hHeld hbn ⊢
        obtain ⟨g9, hg9⟩ : ∃ g9, V13.heap.size = g9 := ⟨_, rfl⟩
        rw [hg9] at HT9
        try rw [hg9]
        clear hg9 hK K hbn
        try simp only [Act.put, List.setIfInBounds_toArray, List.set_cons_zero, List.set_cons_succ]
        refine wpAnyH_ready (rs := [5]) (by kernel_rfl) (by simp) ?_
        refine AllReadyH.cons (o := ?_) ?_ (fun K hK => ?_) ?_
        rotate_left
        (focus ((simp only [List.getElem?_toArray, List.getElem?_cons_succ, List.getElem?_cons_zero]); first | done | rfl))
        ·skip
         go_simp
         have HT5 := Lib.hid (HT9.out.mkz (by unfold maxLen; omega))
         have hbn := HT5.out.bel
         refine hK.out _ _ (HSo.out _ hbn) (fun hHeld => ?_)
         generalize V9.alloc (.cells (madeCells #[.int .i64 0] M) 3) = V5 at HT5 hHeld hbn ⊢
         obtain ⟨g5, hg5⟩ : ∃ g5, V9.heap.size = g5 := ⟨_, rfl⟩
         rw [hg5] at HT5
         try rw [hg5]
         clear hg5 hK K hbn
         try simp only [Act.put, List.setIfInBounds_toArray, List.set_cons_zero, List.set_cons_succ]
         obtain ⟨cK, k1, k2, k3, k4, k5, k6, k7, hbld⟩ := tal_built D.cD HB.out.1.dm.sz 9 (some ⟨g5, 0, none⟩) (some ⟨g9, 0, none⟩) (some ⟨g13, 0, none⟩) (some ⟨g17, 0, none⟩) M N N N M N N N; (refine wpAnyH_take (i := 18) (oi := ?_) (v := .agg cK) ?_ (by kernel_rfl) (by kernel_rfl) (by kernel_rfl) ?_ (Or.inl ⟨?_, ?_⟩) (by assumption) ?_; rotate_left; (focus ((simp only [List.getElem?_toArray, List.getElem?_cons_succ, List.getElem?_cons_zero]); first | done | rfl)); (focus (exact fun _ _ _ h => h)); (focus rfl); (focus (intro wz hSw; exact exec_bld10 wz _ _ rfl (TlPs D.cD 9 (some ⟨g5, 0, none⟩) (some ⟨g9, 0, none⟩) (some ⟨g13, 0, none⟩) (some ⟨g17, 0, none⟩) M N N N M N N N) (by first | rfl | simp [Act.eval] | (simp; rfl)) _ (hbld wz))); try simp only [Act.put, List.setIfInBounds_toArray, List.set_cons_zero, List.set_cons_succ])
         refine wpAnyH_ready (rs := [19]) (by kernel_rfl) (by simp) ?_
         refine AllReadyH.cons (o := ?_) ?_ (fun K hK => ?_) ?_
         rotate_left
         (focus ((simp only [List.getElem?_toArray, List.getElem?_cons_succ, List.getElem?_cons_zero]); first | done | rfl))
         ·skip
          go_simp
          have HT := Lib.hid ((HT5.out.keep (al V5 (.cells cK 60))).tal (St.new V5 60 cK))
          refine hK.out _ _ (HSo.out _ HT.out.bel) (fun hHeld => ?_)
          clear hK K
          try simp only [Act.put, List.setIfInBounds_toArray, List.set_cons_zero, List.set_cons_succ]
          (refine wpAnyH_take (i := 20) (oi := ?_) (v := ?_) ?_ (by kernel_rfl) (by kernel_rfl) (by kernel_rfl) ?_ (Or.inl ⟨?_, ?_⟩) (by assumption) ?_; rotate_left 2; (focus ((simp only [List.getElem?_toArray, List.getElem?_cons_succ, List.getElem?_cons_zero]); first | done | rfl)); (focus (exact fun _ _ _ h => h)); (focus rfl); (focus (intro wz hSw; (try dsimp only at hSw); go_simp; first | done | with_reducible rfl)); try simp only [Act.put, List.setIfInBounds_toArray, List.set_cons_zero, List.set_cons_succ])
          refine wpAnyH_done (by kernel_rfl) ?_ _
          go_wp2_with fail
          go_meet
          exact ⟨_, cK, _, _, _, _, rfl, ⟨k2, k3, k4, k5, k6, k7⟩, HT.out⟩
         exact AllReadyH.nil
        exact AllReadyH.nil
       exact AllReadyH.nil
      exact AllReadyH.nil
     refine AllReadyH.cons (o := ?_) ?_ (fun K hK => ?_) ?_
     rotate_left
     (focus ((simp only [List.getElem?_toArray, List.getElem?_cons_succ, List.getElem?_cons_zero]); first | done | rfl))
     ·skip
      go_simp
      have HT9 := Lib.hid (HT17.out.mkc (by unfold maxLen; omega))
      have hbn := HT9.out.bel
      refine hK.out _ _ (HSo.out _ hbn) (fun hHeld => ?_)
      generalize V17.alloc (.cells (madeCells #[.int .i64 0] N) 3) = V9 at HT9 hHeld hbn ⊢
      obtain ⟨g9, hg9⟩ : ∃ g9, V17.heap.size = g9 := ⟨_, rfl⟩
      rw [hg9] at HT9
      try rw [hg9]
      clear hg9 hK K hbn
      try simp only [Act.put, List.setIfInBounds_toArray, List.set_cons_zero, List.set_cons_succ]
      refine wpAnyH_ready (rs := [4, 13]) (by kernel_rfl) (by simp) ?_
      refine AllReadyH.cons (o := ?_) ?_ (fun K hK => ?_) ?_
      rotate_left
      (focus ((simp only [List.getElem?_toArray, List.getElem?_cons_succ, List.getElem?_cons_zero]); first | done | rfl))
      ·skip
       go_simp
       go_at_call 35
       refine (HCl.out _).mono ?_
       rintro e V4 ⟨rfl, b4⟩
       have HT4 := Lib.hid (HT9.out.keep b4)
       have hbn := HT4.out.bel
       clear b4
       try go_wp2_with fail
       refine hK.out _ _ (HSo.out _ hbn) (fun hHeld => ?_)
       clear hK K hbn
       try simp only [Act.put, List.setIfInBounds_toArray, List.set_cons_zero, List.set_cons_succ]
       refine wpAnyH_ready (rs := [5, 13]) (by kernel_rfl) (by simp) ?_
       refine AllReadyH.cons (o := ?_) ?_ (fun K hK => ?_) ?_
       rotate_left
       (focus ((simp only [List.getElem?_toArray, List.getElem?_cons_succ, List.getElem?_cons_zero]); first | done | rfl))
       ·skip
        go_simp
        have HT5 := Lib.hid (HT4.out.mkz (by unfold maxLen; omega))
        have hbn := HT5.out.bel
        refine hK.out _ _ (HSo.out _ hbn) (fun hHeld => ?_)
        generalize V4.alloc (.cells (madeCells #[.int .i64 0] M) 3) = V5 at HT5 hHeld hbn ⊢
        obtain ⟨g5, hg5⟩ : ∃ g5, V4.heap.size = g5 := ⟨_, rfl⟩
        rw [hg5] at HT5
        try rw [hg5]
        clear hg5 hK K hbn
        try simp only [Act.put, List.setIfInBounds_toArray, List.set_cons_zero, List.set_cons_succ]
        refine wpAnyH_ready (rs := [13]) (by kernel_rfl) (by simp) ?_
        refine AllReadyH.cons (o := ?_) ?_ (fun K hK => ?_) ?_
        rotate_left
        (focus ((simp only [List.getElem?_toArray, List.getElem?_cons_succ, List.getElem?_cons_zero]); first | done | rfl))
        ·skip
         go_simp
         have HT13 := Lib.hid (HT5.out.mkh (by unfold maxLen; omega))
         have hbn := HT13.out.bel
         refine hK.out _ _ (HSo.out _ hbn) (fun hHeld => ?_)
         generalize V5.alloc (.cells (madeCells #[.int .i64 0] N) 3) = V13 at HT13 hHeld hbn ⊢
         obtain ⟨g13, hg13⟩ : ∃ g13, V5.heap.size = g13 := ⟨_, rfl⟩
         rw [hg13] at HT13
         try rw [hg13]
         clear hg13 hK K hbn
         try simp only [Act.put, List.setIfInBounds_toArray, List.set_cons_zero, List.set_cons_succ]
         obtain ⟨cK, k1, k2, k3, k4, k5, k6, k7, hbld⟩ := tal_built D.cD HB.out.1.dm.sz 9 (some ⟨g5, 0, none⟩) (some ⟨g9, 0, none⟩) (some ⟨g13, 0, none⟩) (some ⟨g17, 0, none⟩) M N N N M N N N; (refine wpAnyH_take (i := 18) (oi := ?_) (v := .agg cK) ?_ (by kernel_rfl) (by kernel_rfl) (by kernel_rfl) ?_ (Or.inl ⟨?_, ?_⟩) (by assumption) ?_; rotate_left; (focus ((simp only [List.getElem?_toArray, List.getElem?_cons_succ, List.getElem?_cons_zero]); first | done | rfl)); (focus (exact fun _ _ _ h => h)); (focus rfl); (focus (intro wz hSw; exact exec_bld10 wz _ _ rfl (TlPs D.cD 9 (some ⟨g5, 0, none⟩) (some ⟨g9, 0, none⟩) (some ⟨g13, 0, none⟩) (some ⟨g17, 0, none⟩) M N N N M N N N) (by first | rfl | simp [Act.eval] | (simp; rfl)) _ (hbld wz))); try simp only [Act.put, List.setIfInBounds_toArray, List.set_cons_zero, List.set_cons_succ])
         refine wpAnyH_ready (rs := [19]) (by kernel_rfl) (by simp) ?_
         refine AllReadyH.cons (o := ?_) ?_ (fun K hK => ?_) ?_
         rotate_left
         (focus ((simp only [List.getElem?_toArray, List.getElem?_cons_succ, List.getElem?_cons_zero]); first | done | rfl))
         ·skip
          go_simp
          have HT := Lib.hid ((HT13.out.keep (al V13 (.cells cK 60))).tal (St.new V13 60 cK))
          refine hK.out _ _ (HSo.out _ HT.out.bel) (fun hHeld => ?_)
          clear hK K
          try simp only [Act.put, List.setIfInBounds_toArray, List.set_cons_zero, List.set_cons_succ]
          (refine wpAnyH_take (i := 20) (oi := ?_) (v := ?_) ?_ (by kernel_rfl) (by kernel_rfl) (by kernel_rfl) ?_ (Or.inl ⟨?_, ?_⟩) (by assumption) ?_; rotate_left 2; (focus ((simp only [List.getElem?_toArray, List.getElem?_cons_succ, List.getElem?_cons_zero]); first | done | rfl)); (focus (exact fun _ _ _ h => h)); (focus rfl); (focus (intro wz hSw; (try dsimp only at hSw); go_simp; first | done | with_reducible rfl)); try simp only [Act.put, List.setIfInBounds_toArray, List.set_cons_zero, List.set_cons_succ])
          refine wpAnyH_done (by kernel_rfl) ?_ _
          go_wp2_with fail
          go_meet
          exact ⟨_, cK, _, _, _, _, rfl, ⟨k2, k3, k4, k5, k6, k7⟩, HT.out⟩
         exact AllReadyH.nil
        exact AllReadyH.nil
       refine AllReadyH.cons (o := ?_) ?_ (fun K hK => ?_) ?_
       rotate_left
       (focus ((simp only [List.getElem?_toArray, List.getElem?_cons_succ, List.getElem?_cons_zero]); first | done | rfl))
       ·skip
        go_simp
        have HT13 := Lib.hid (HT4.out.mkh (by unfold maxLen; omega))
        have hbn := HT13.out.bel
        refine hK.out _ _ (HSo.out _ hbn) (fun hHeld => ?_)
        generalize V4.alloc (.cells (madeCells #[.int .i64 0] N) 3) = V13 at HT13 hHeld hbn ⊢
        obtain ⟨g13, hg13⟩ : ∃ g13, V4.heap.size = g13 := ⟨_, rfl⟩
        rw [hg13] at HT13
        try rw [hg13]
        clear hg13 hK K hbn
        try simp only [Act.put, List.setIfInBounds_toArray, List.set_cons_zero, List.set_cons_succ]
        refine wpAnyH_ready (rs := [5]) (by kernel_rfl) (by simp) ?_
        refine AllReadyH.cons (o := ?_) ?_ (fun K hK => ?_) ?_
        rotate_left
        (focus ((simp only [List.getElem?_toArray, List.getElem?_cons_succ, List.getElem?_cons_zero]); first | done | rfl))
        ·skip
         go_simp
         have HT5 := Lib.hid (HT13.out.mkz (by unfold maxLen; omega))
         have hbn := HT5.out.bel
         refine hK.out _ _ (HSo.out _ hbn) (fun hHeld => ?_)
         generalize V13.alloc (.cells (madeCells #[.int .i64 0] M) 3) = V5 at HT5 hHeld hbn ⊢
         obtain ⟨g5, hg5⟩ : ∃ g5, V13.heap.size = g5 := ⟨_, rfl⟩
         rw [hg5] at HT5
         try rw [hg5]
         clear hg5 hK K hbn
         try simp only [Act.put, List.setIfInBounds_toArray, List.set_cons_zero, List.set_cons_succ]
         obtain ⟨cK, k1, k2, k3, k4, k5, k6, k7, hbld⟩ := tal_built D.cD HB.out.1.dm.sz 9 (some ⟨g5, 0, none⟩) (some ⟨g9, 0, none⟩) (some ⟨g13, 0, none⟩) (some ⟨g17, 0, none⟩) M N N N M N N N; (refine wpAnyH_take (i := 18) (oi := ?_) (v := .agg cK) ?_ (by kernel_rfl) (by kernel_rfl) (by kernel_rfl) ?_ (Or.inl ⟨?_, ?_⟩) (by assumption) ?_; rotate_left; (focus ((simp only [List.getElem?_toArray, List.getElem?_cons_succ, List.getElem?_cons_zero]); first | done | rfl)); (focus (exact fun _ _ _ h => h)); (focus rfl); (focus (intro wz hSw; exact exec_bld10 wz _ _ rfl (TlPs D.cD 9 (some ⟨g5, 0, none⟩) (some ⟨g9, 0, none⟩) (some ⟨g13, 0, none⟩) (some ⟨g17, 0, none⟩) M N N N M N N N) (by first | rfl | simp [Act.eval] | (simp; rfl)) _ (hbld wz))); try simp only [Act.put, List.setIfInBounds_toArray, List.set_cons_zero, List.set_cons_succ])
         refine wpAnyH_ready (rs := [19]) (by kernel_rfl) (by simp) ?_
         refine AllReadyH.cons (o := ?_) ?_ (fun K hK => ?_) ?_
         rotate_left
         (focus ((simp only [List.getElem?_toArray, List.getElem?_cons_succ, List.getElem?_cons_zero]); first | done | rfl))
         ·skip
          go_simp
          have HT := Lib.hid ((HT5.out.keep (al V5 (.cells cK 60))).tal (St.new V5 60 cK))
          refine hK.out _ _ (HSo.out _ HT.out.bel) (fun hHeld => ?_)
          clear hK K
          try simp only [Act.put, List.setIfInBounds_toArray, List.set_cons_zero, List.set_cons_succ]
          (refine wpAnyH_take (i := 20) (oi := ?_) (v := ?_) ?_ (by kernel_rfl) (by kernel_rfl) (by kernel_rfl) ?_ (Or.inl ⟨?_, ?_⟩) (by assumption) ?_; rotate_left 2; (focus ((simp only [List.getElem?_toArray, List.getElem?_cons_succ, List.getElem?_cons_zero]); first | done | rfl)); (focus (exact fun _ _ _ h => h)); (focus rfl); (focus (intro wz hSw; (try dsimp only at hSw); go_simp; first | done | with_reducible rfl)); try simp only [Act.put, List.setIfInBounds_toArray, List.set_cons_zero, List.set_cons_succ])
          refine wpAnyH_done (by kernel_rfl) ?_ _
          go_wp2_with fail
          go_meet
          exact ⟨_, cK, _, _, _, _, rfl, ⟨k2, k3, k4, k5, k6, k7⟩, HT.out⟩
         exact AllReadyH.nil
        exact AllReadyH.nil
       exact AllReadyH.nil
      refine AllReadyH.cons (o := ?_) ?_ (fun K hK => ?_) ?_
      rotate_left
      (focus ((simp only [List.getElem?_toArray, List.getElem?_cons_succ, List.getElem?_cons_zero]); first | done | rfl))
      ·skip
       go_simp
       have HT13 := Lib.hid (HT9.out.mkh (by unfold maxLen; omega))
       have hbn := HT13.out.bel
       refine hK.out _ _ (HSo.out _ hbn) (fun hHeld => ?_)
       generalize V9.alloc (.cells (madeCells #[.int .i64 0] N) 3) = V13 at HT13 hHeld hbn ⊢
       obtain ⟨g13, hg13⟩ : ∃ g13, V9.heap.size = g13 := ⟨_, rfl⟩
       rw [hg13] at HT13
       try rw [hg13]
       clear hg13 hK K hbn
       try simp only [Act.put, List.setIfInBounds_toArray, List.set_cons_zero, List.set_cons_succ]
       refine wpAnyH_ready (rs := [4]) (by kernel_rfl) (by simp) ?_
       refine AllReadyH.cons (o := ?_) ?_ (fun K hK => ?_) ?_
       rotate_left
       (focus ((simp only [List.getElem?_toArray, List.getElem?_cons_succ, List.getElem?_cons_zero]); first | done | rfl))
       ·skip
        go_simp
        go_at_call 35
        refine (HCl.out _).mono ?_
        rintro e V4 ⟨rfl, b4⟩
        have HT4 := Lib.hid (HT13.out.keep b4)
        have hbn := HT4.out.bel
        clear b4
        try go_wp2_with fail
        refine hK.out _ _ (HSo.out _ hbn) (fun hHeld => ?_)
        clear hK K hbn
        try simp only [Act.put, List.setIfInBounds_toArray, List.set_cons_zero, List.set_cons_succ]
        refine wpAnyH_ready (rs := [5]) (by kernel_rfl) (by simp) ?_
        refine AllReadyH.cons (o := ?_) ?_ (fun K hK => ?_) ?_
        rotate_left
        (focus ((simp only [List.getElem?_toArray, List.getElem?_cons_succ, List.getElem?_cons_zero]); first | done | rfl))
        ·skip
         go_simp
         have HT5 := Lib.hid (HT4.out.mkz (by unfold maxLen; omega))
         have hbn := HT5.out.bel
         refine hK.out _ _ (HSo.out _ hbn) (fun hHeld => ?_)
         generalize V4.alloc (.cells (madeCells #[.int .i64 0] M) 3) = V5 at HT5 hHeld hbn ⊢
         obtain ⟨g5, hg5⟩ : ∃ g5, V4.heap.size = g5 := ⟨_, rfl⟩
         rw [hg5] at HT5
         try rw [hg5]
         clear hg5 hK K hbn
         try simp only [Act.put, List.setIfInBounds_toArray, List.set_cons_zero, List.set_cons_succ]
         obtain ⟨cK, k1, k2, k3, k4, k5, k6, k7, hbld⟩ := tal_built D.cD HB.out.1.dm.sz 9 (some ⟨g5, 0, none⟩) (some ⟨g9, 0, none⟩) (some ⟨g13, 0, none⟩) (some ⟨g17, 0, none⟩) M N N N M N N N; (refine wpAnyH_take (i := 18) (oi := ?_) (v := .agg cK) ?_ (by kernel_rfl) (by kernel_rfl) (by kernel_rfl) ?_ (Or.inl ⟨?_, ?_⟩) (by assumption) ?_; rotate_left; (focus ((simp only [List.getElem?_toArray, List.getElem?_cons_succ, List.getElem?_cons_zero]); first | done | rfl)); (focus (exact fun _ _ _ h => h)); (focus rfl); (focus (intro wz hSw; exact exec_bld10 wz _ _ rfl (TlPs D.cD 9 (some ⟨g5, 0, none⟩) (some ⟨g9, 0, none⟩) (some ⟨g13, 0, none⟩) (some ⟨g17, 0, none⟩) M N N N M N N N) (by first | rfl | simp [Act.eval] | (simp; rfl)) _ (hbld wz))); try simp only [Act.put, List.setIfInBounds_toArray, List.set_cons_zero, List.set_cons_succ])
         refine wpAnyH_ready (rs := [19]) (by kernel_rfl) (by simp) ?_
         refine AllReadyH.cons (o := ?_) ?_ (fun K hK => ?_) ?_
         rotate_left
         (focus ((simp only [List.getElem?_toArray, List.getElem?_cons_succ, List.getElem?_cons_zero]); first | done | rfl))
         ·skip
          go_simp
          have HT := Lib.hid ((HT5.out.keep (al V5 (.cells cK 60))).tal (St.new V5 60 cK))
          refine hK.out _ _ (HSo.out _ HT.out.bel) (fun hHeld => ?_)
          clear hK K
          try simp only [Act.put, List.setIfInBounds_toArray, List.set_cons_zero, List.set_cons_succ]
          (refine wpAnyH_take (i := 20) (oi := ?_) (v := ?_) ?_ (by kernel_rfl) (by kernel_rfl) (by kernel_rfl) ?_ (Or.inl ⟨?_, ?_⟩) (by assumption) ?_; rotate_left 2; (focus ((simp only [List.getElem?_toArray, List.getElem?_cons_succ, List.getElem?_cons_zero]); first | done | rfl)); (focus (exact fun _ _ _ h => h)); (focus rfl); (focus (intro wz hSw; (try dsimp only at hSw); go_simp; first | done | with_reducible rfl)); try simp only [Act.put, List.setIfInBounds_toArray, List.set_cons_zero, List.set_cons_succ])
          refine wpAnyH_done (by kernel_rfl) ?_ _
          go_wp2_with fail
          go_meet
          exact ⟨_, cK, _, _, _, _, rfl, ⟨k2, k3, k4, k5, k6, k7⟩, HT.out⟩
         exact AllReadyH.nil
        exact AllReadyH.nil
       exact AllReadyH.nil
      exact AllReadyH.nil
     refine AllReadyH.cons (o := ?_) ?_ (fun K hK => ?_) ?_
     rotate_left
     (focus ((simp only [List.getElem?_toArray, List.getElem?_cons_succ, List.getElem?_cons_zero]); first | done | rfl))
     ·skip
      go_simp
      have HT13 := Lib.hid (HT17.out.mkh (by unfold maxLen; omega))
      have hbn := HT13.out.bel
      refine hK.out _ _ (HSo.out _ hbn) (fun hHeld => ?_)
      generalize V17.alloc (.cells (madeCells #[.int .i64 0] N) 3) = V13 at HT13 hHeld hbn ⊢
      obtain ⟨g13, hg13⟩ : ∃ g13, V17.heap.size = g13 := ⟨_, rfl⟩
      rw [hg13] at HT13
      try rw [hg13]
      clear hg13 hK K hbn
      try simp only [Act.put, List.setIfInBounds_toArray, List.set_cons_zero, List.set_cons_succ]
      refine wpAnyH_ready (rs := [4, 9]) (by kernel_rfl) (by simp) ?_
      refine AllReadyH.cons (o := ?_) ?_ (fun K hK => ?_) ?_
      rotate_left
      (focus ((simp only [List.getElem?_toArray, List.getElem?_cons_succ, List.getElem?_cons_zero]); first | done | rfl))
      ·skip
       go_simp
       go_at_call 35
       refine (HCl.out _).mono ?_
       rintro e V4 ⟨rfl, b4⟩
       have HT4 := Lib.hid (HT13.out.keep b4)
       have hbn := HT4.out.bel
       clear b4
       try go_wp2_with fail
       refine hK.out _ _ (HSo.out _ hbn) (fun hHeld => ?_)
       clear hK K hbn
       try simp only [Act.put, List.setIfInBounds_toArray, List.set_cons_zero, List.set_cons_succ]
       refine wpAnyH_ready (rs := [5, 9]) (by kernel_rfl) (by simp) ?_
       refine AllReadyH.cons (o := ?_) ?_ (fun K hK => ?_) ?_
       rotate_left
       (focus ((simp only [List.getElem?_toArray, List.getElem?_cons_succ, List.getElem?_cons_zero]); first | done | rfl))
       ·skip
        go_simp
        have HT5 := Lib.hid (HT4.out.mkz (by unfold maxLen; omega))
        have hbn := HT5.out.bel
        refine hK.out _ _ (HSo.out _ hbn) (fun hHeld => ?_)
        generalize V4.alloc (.cells (madeCells #[.int .i64 0] M) 3) = V5 at HT5 hHeld hbn ⊢
        obtain ⟨g5, hg5⟩ : ∃ g5, V4.heap.size = g5 := ⟨_, rfl⟩
        rw [hg5] at HT5
        try rw [hg5]
        clear hg5 hK K hbn
        try simp only [Act.put, List.setIfInBounds_toArray, List.set_cons_zero, List.set_cons_succ]
        refine wpAnyH_ready (rs := [9]) (by kernel_rfl) (by simp) ?_
        refine AllReadyH.cons (o := ?_) ?_ (fun K hK => ?_) ?_
        rotate_left
        (focus ((simp only [List.getElem?_toArray, List.getElem?_cons_succ, List.getElem?_cons_zero]); first | done | rfl))
        ·skip
         go_simp
         have HT9 := Lib.hid (HT5.out.mkc (by unfold maxLen; omega))
         have hbn := HT9.out.bel
         refine hK.out _ _ (HSo.out _ hbn) (fun hHeld => ?_)
         generalize V5.alloc (.cells (madeCells #[.int .i64 0] N) 3) = V9 at HT9 hHeld hbn ⊢
         obtain ⟨g9, hg9⟩ : ∃ g9, V5.heap.size = g9 := ⟨_, rfl⟩
         rw [hg9] at HT9
         try rw [hg9]
         clear hg9 hK K hbn
         try simp only [Act.put, List.setIfInBounds_toArray, List.set_cons_zero, List.set_cons_succ]
         obtain ⟨cK, k1, k2, k3, k4, k5, k6, k7, hbld⟩ := tal_built D.cD HB.out.1.dm.sz 9 (some ⟨g5, 0, none⟩) (some ⟨g9, 0, none⟩) (some ⟨g13, 0, none⟩) (some ⟨g17, 0, none⟩) M N N N M N N N; (refine wpAnyH_take (i := 18) (oi := ?_) (v := .agg cK) ?_ (by kernel_rfl) (by kernel_rfl) (by kernel_rfl) ?_ (Or.inl ⟨?_, ?_⟩) (by assumption) ?_; rotate_left; (focus ((simp only [List.getElem?_toArray, List.getElem?_cons_succ, List.getElem?_cons_zero]); first | done | rfl)); (focus (exact fun _ _ _ h => h)); (focus rfl); (focus (intro wz hSw; exact exec_bld10 wz _ _ rfl (TlPs D.cD 9 (some ⟨g5, 0, none⟩) (some ⟨g9, 0, none⟩) (some ⟨g13, 0, none⟩) (some ⟨g17, 0, none⟩) M N N N M N N N) (by first | rfl | simp [Act.eval] | (simp; rfl)) _ (hbld wz))); try simp only [Act.put, List.setIfInBounds_toArray, List.set_cons_zero, List.set_cons_succ])
         refine wpAnyH_ready (rs := [19]) (by kernel_rfl) (by simp) ?_
         refine AllReadyH.cons (o := ?_) ?_ (fun K hK => ?_) ?_
         rotate_left
         (focus ((simp only [List.getElem?_toArray, List.getElem?_cons_succ, List.getElem?_cons_zero]); first | done | rfl))
         ·skip
          go_simp
          have HT := Lib.hid ((HT9.out.keep (al V9 (.cells cK 60))).tal (St.new V9 60 cK))
          refine hK.out _ _ (HSo.out _ HT.out.bel) (fun hHeld => ?_)
          clear hK K
          try simp only [Act.put, List.setIfInBounds_toArray, List.set_cons_zero, List.set_cons_succ]
          (refine wpAnyH_take (i := 20) (oi := ?_) (v := ?_) ?_ (by kernel_rfl) (by kernel_rfl) (by kernel_rfl) ?_ (Or.inl ⟨?_, ?_⟩) (by assumption) ?_; rotate_left 2; (focus ((simp only [List.getElem?_toArray, List.getElem?_cons_succ, List.getElem?_cons_zero]); first | done | rfl)); (focus (exact fun _ _ _ h => h)); (focus rfl); (focus (intro wz hSw; (try dsimp only at hSw); go_simp; first | done | with_reducible rfl)); try simp only [Act.put, List.setIfInBounds_toArray, List.set_cons_zero, List.set_cons_succ])
          refine wpAnyH_done (by kernel_rfl) ?_ _
          go_wp2_with fail
          go_meet
          exact ⟨_, cK, _, _, _, _, rfl, ⟨k2, k3, k4, k5, k6, k7⟩, HT.out⟩
         exact AllReadyH.nil
        exact AllReadyH.nil
       refine AllReadyH.cons (o := ?_) ?_ (fun K hK => ?_) ?_
       rotate_left
       (focus ((simp only [List.getElem?_toArray, List.getElem?_cons_succ, List.getElem?_cons_zero]); first | done | rfl))
       ·skip
        go_simp
        have HT9 := Lib.hid (HT4.out.mkc (by unfold maxLen; omega))
        have hbn := HT9.out.bel
        refine hK.out _ _ (HSo.out _ hbn) (fun hHeld => ?_)
        generalize V4.alloc (.cells (madeCells #[.int .i64 0] N) 3) = V9 at HT9 hHeld hbn ⊢
        obtain ⟨g9, hg9⟩ : ∃ g9, V4.heap.size = g9 := ⟨_, rfl⟩
        rw [hg9] at HT9
        try rw [hg9]
        clear hg9 hK K hbn
        try simp only [Act.put, List.setIfInBounds_toArray, List.set_cons_zero, List.set_cons_succ]
        refine wpAnyH_ready (rs := [5]) (by kernel_rfl) (by simp) ?_
        refine AllReadyH.cons (o := ?_) ?_ (fun K hK => ?_) ?_
        rotate_left
        (focus ((simp only [List.getElem?_toArray, List.getElem?_cons_succ, List.getElem?_cons_zero]); first | done | rfl))
        ·skip
         go_simp
         have HT5 := Lib.hid (HT9.out.mkz (by unfold maxLen; omega))
         have hbn := HT5.out.bel
         refine hK.out _ _ (HSo.out _ hbn) (fun hHeld => ?_)
         generalize V9.alloc (.cells (madeCells #[.int .i64 0] M) 3) = V5 at HT5 hHeld hbn ⊢
         obtain ⟨g5, hg5⟩ : ∃ g5, V9.heap.size = g5 := ⟨_, rfl⟩
         rw [hg5] at HT5
         try rw [hg5]
         clear hg5 hK K hbn
         try simp only [Act.put, List.setIfInBounds_toArray, List.set_cons_zero, List.set_cons_succ]
         obtain ⟨cK, k1, k2, k3, k4, k5, k6, k7, hbld⟩ := tal_built D.cD HB.out.1.dm.sz 9 (some ⟨g5, 0, none⟩) (some ⟨g9, 0, none⟩) (some ⟨g13, 0, none⟩) (some ⟨g17, 0, none⟩) M N N N M N N N; (refine wpAnyH_take (i := 18) (oi := ?_) (v := .agg cK) ?_ (by kernel_rfl) (by kernel_rfl) (by kernel_rfl) ?_ (Or.inl ⟨?_, ?_⟩) (by assumption) ?_; rotate_left; (focus ((simp only [List.getElem?_toArray, List.getElem?_cons_succ, List.getElem?_cons_zero]); first | done | rfl)); (focus (exact fun _ _ _ h => h)); (focus rfl); (focus (intro wz hSw; exact exec_bld10 wz _ _ rfl (TlPs D.cD 9 (some ⟨g5, 0, none⟩) (some ⟨g9, 0, none⟩) (some ⟨g13, 0, none⟩) (some ⟨g17, 0, none⟩) M N N N M N N N) (by first | rfl | simp [Act.eval] | (simp; rfl)) _ (hbld wz))); try simp only [Act.put, List.setIfInBounds_toArray, List.set_cons_zero, List.set_cons_succ])
         refine wpAnyH_ready (rs := [19]) (by kernel_rfl) (by simp) ?_
         refine AllReadyH.cons (o := ?_) ?_ (fun K hK => ?_) ?_
         rotate_left
         (focus ((simp only [List.getElem?_toArray, List.getElem?_cons_succ, List.getElem?_cons_zero]); first | done | rfl))
         ·skip
          go_simp
          have HT := Lib.hid ((HT5.out.keep (al V5 (.cells cK 60))).tal (St.new V5 60 cK))
          refine hK.out _ _ (HSo.out _ HT.out.bel) (fun hHeld => ?_)
          clear hK K
          try simp only [Act.put, List.setIfInBounds_toArray, List.set_cons_zero, List.set_cons_succ]
          (refine wpAnyH_take (i := 20) (oi := ?_) (v := ?_) ?_ (by kernel_rfl) (by kernel_rfl) (by kernel_rfl) ?_ (Or.inl ⟨?_, ?_⟩) (by assumption) ?_; rotate_left 2; (focus ((simp only [List.getElem?_toArray, List.getElem?_cons_succ, List.getElem?_cons_zero]); first | done | rfl)); (focus (exact fun _ _ _ h => h)); (focus rfl); (focus (intro wz hSw; (try dsimp only at hSw); go_simp; first | done | with_reducible rfl)); try simp only [Act.put, List.setIfInBounds_toArray, List.set_cons_zero, List.set_cons_succ])
          refine wpAnyH_done (by kernel_rfl) ?_ _
          go_wp2_with fail
          go_meet
          exact ⟨_, cK, _, _, _, _, rfl, ⟨k2, k3, k4, k5, k6, k7⟩, HT.out⟩
         exact AllReadyH.nil
        exact AllReadyH.nil
       exact AllReadyH.nil
      refine AllReadyH.cons (o := ?_) ?_ (fun K hK => ?_) ?_
      rotate_left
      (focus ((simp only [List.getElem?_toArray, List.getElem?_cons_succ, List.getElem?_cons_zero]); first | done | rfl))
      ·skip
       go_simp
       have HT9 := Lib.hid (HT13.out.mkc (by unfold maxLen; omega))
       have hbn := HT9.out.bel
       refine hK.out _ _ (HSo.out _ hbn) (fun hHeld => ?_)
       generalize V13.alloc (.cells (madeCells #[.int .i64 0] N) 3) = V9 at HT9 hHeld hbn ⊢
       obtain ⟨g9, hg9⟩ : ∃ g9, V13.heap.size = g9 := ⟨_, rfl⟩
       rw [hg9] at HT9
       try rw [hg9]
       clear hg9 hK K hbn
       try simp only [Act.put, List.setIfInBounds_toArray, List.set_cons_zero, List.set_cons_succ]
       refine wpAnyH_ready (rs := [4]) (by kernel_rfl) (by simp) ?_
       refine AllReadyH.cons (o := ?_) ?_ (fun K hK => ?_) ?_
       rotate_left
       (focus ((simp only [List.getElem?_toArray, List.getElem?_cons_succ, List.getElem?_cons_zero]); first | done | rfl))
       ·skip
        go_simp
        go_at_call 35
        refine (HCl.out _).mono ?_
        rintro e V4 ⟨rfl, b4⟩
        have HT4 := Lib.hid (HT9.out.keep b4)
        have hbn := HT4.out.bel
        clear b4
        try go_wp2_with fail
        refine hK.out _ _ (HSo.out _ hbn) (fun hHeld => ?_)
        clear hK K hbn
        try simp only [Act.put, List.setIfInBounds_toArray, List.set_cons_zero, List.set_cons_succ]
        refine wpAnyH_ready (rs := [5]) (by kernel_rfl) (by simp) ?_
        refine AllReadyH.cons (o := ?_) ?_ (fun K hK => ?_) ?_
        rotate_left
        (focus ((simp only [List.getElem?_toArray, List.getElem?_cons_succ, List.getElem?_cons_zero]); first | done | rfl))
        ·skip
         go_simp
         have HT5 := Lib.hid (HT4.out.mkz (by unfold maxLen; omega))
         have hbn := HT5.out.bel
         refine hK.out _ _ (HSo.out _ hbn) (fun hHeld => ?_)
         generalize V4.alloc (.cells (madeCells #[.int .i64 0] M) 3) = V5 at HT5 hHeld hbn ⊢
         obtain ⟨g5, hg5⟩ : ∃ g5, V4.heap.size = g5 := ⟨_, rfl⟩
         rw [hg5] at HT5
         try rw [hg5]
         clear hg5 hK K hbn
         try simp only [Act.put, List.setIfInBounds_toArray, List.set_cons_zero, List.set_cons_succ]
         obtain ⟨cK, k1, k2, k3, k4, k5, k6, k7, hbld⟩ := tal_built D.cD HB.out.1.dm.sz 9 (some ⟨g5, 0, none⟩) (some ⟨g9, 0, none⟩) (some ⟨g13, 0, none⟩) (some ⟨g17, 0, none⟩) M N N N M N N N; (refine wpAnyH_take (i := 18) (oi := ?_) (v := .agg cK) ?_ (by kernel_rfl) (by kernel_rfl) (by kernel_rfl) ?_ (Or.inl ⟨?_, ?_⟩) (by assumption) ?_; rotate_left; (focus ((simp only [List.getElem?_toArray, List.getElem?_cons_succ, List.getElem?_cons_zero]); first | done | rfl)); (focus (exact fun _ _ _ h => h)); (focus rfl); (focus (intro wz hSw; exact exec_bld10 wz _ _ rfl (TlPs D.cD 9 (some ⟨g5, 0, none⟩) (some ⟨g9, 0, none⟩) (some ⟨g13, 0, none⟩) (some ⟨g17, 0, none⟩) M N N N M N N N) (by first | rfl | simp [Act.eval] | (simp; rfl)) _ (hbld wz))); try simp only [Act.put, List.setIfInBounds_toArray, List.set_cons_zero, List.set_cons_succ])
         refine wpAnyH_ready (rs := [19]) (by kernel_rfl) (by simp) ?_
         refine AllReadyH.cons (o := ?_) ?_ (fun K hK => ?_) ?_
         rotate_left
         (focus ((simp only [List.getElem?_toArray, List.getElem?_cons_succ, List.getElem?_cons_zero]); first | done | rfl))
         ·skip
          go_simp
          have HT := Lib.hid ((HT5.out.keep (al V5 (.cells cK 60))).tal (St.new V5 60 cK))
          refine hK.out _ _ (HSo.out _ HT.out.bel) (fun hHeld => ?_)
          clear hK K
          try simp only [Act.put, List.setIfInBounds_toArray, List.set_cons_zero, List.set_cons_succ]
          (refine wpAnyH_take (i := 20) (oi := ?_) (v := ?_) ?_ (by kernel_rfl) (by kernel_rfl) (by kernel_rfl) ?_ (Or.inl ⟨?_, ?_⟩) (by assumption) ?_; rotate_left 2; (focus ((simp only [List.getElem?_toArray, List.getElem?_cons_succ, List.getElem?_cons_zero]); first | done | rfl)); (focus (exact fun _ _ _ h => h)); (focus rfl); (focus (intro wz hSw; (try dsimp only at hSw); go_simp; first | done | with_reducible rfl)); try simp only [Act.put, List.setIfInBounds_toArray, List.set_cons_zero, List.set_cons_succ])
          refine wpAnyH_done (by kernel_rfl) ?_ _
          go_wp2_with fail
          go_meet
          exact ⟨_, cK, _, _, _, _, rfl, ⟨k2, k3, k4, k5, k6, k7⟩, HT.out⟩
         exact AllReadyH.nil
        exact AllReadyH.nil
       exact AllReadyH.nil
      exact AllReadyH.nil
     exact AllReadyH.nil
    exact AllReadyH.nil
  case rest =>
    obtain ⟨bt, cs, gz, gc, gh, gs, rfl, hC, hT⟩ := hcut
    clear hmN hmM HSo HCl
    have HC := Lib.hid hC
    have HT := Lib.hid hT
    have HBx := Lib.hid (HB.out.1.keep hT.bel)
    clear hC hT
    have HK := Lib.hid HB.out.2.2.2
    go_wp2_with (refine wpList_load_any9 (by rfl) 22 _ rfl ⟨b0, 0, none⟩ rfl (clsOf D.K) _ HBx.out.clsPart Try.underlying22 rfl (clsOf_info D.K) ?_)
    go_loopw [7, 30] (fun _ vi wr => ∃ i : Nat, vi = .int .i64 i ∧ i ≤ 256 ∧ Hid (TaM W1 bt cs gz gc gh gs N M (czF D.K i) (fun _ => 0) (fun _ => 0) (fun _ => 0) wr)) (fun _ v _ => 256 - (intOf v).toNat)
    case atStart => exact ⟨0, rfl, by omega, HT.out⟩
    case round =>
      clear HT
      obtain ⟨i, rfl, hi, HT⟩ := hrel
      by_cases hlt : i < 256
      · have i1 : (i : Int) < (256 : Int) := by omega
        have z1 := clsOf_at D.K i hlt
        have hkM : D.K i < M := by
          have := HB.out.2.2.1.1 i hlt
          rwa [HN.out.2.2] at this
        have HS : Hid (∀ c, czF D.K (i + 1) c = if c = D.K i then czF D.K i (D.K i) + 1 else czF D.K i c) := fun c => rfl
        obtain ⟨y0, y1⟩ := HT.out.z.cell (D.K i) hkM
        obtain ⟨b1, b2⟩ := czF_le D.K i (D.K i)
        have c1 : wr.cell? ⟨bt, 259, none⟩ = some (.slice (some ⟨gz, 0, none⟩) M M) := by rw [HT.out.st.at_, HC.out.hz]
        obtain ⟨k, hk⟩ : ∃ k, D.K i = k := ⟨_, rfl⟩
        rw [hk] at z1 hkM HS y0 y1 b1 b2
        have hix := run_index_part 22 5 256 (clsOf D.K) i _ Try.underlying22 hlt (by kernel_rfl) ⟨_, Try.underlying5, rfl⟩ z1 wr
        obtain ⟨z, hz⟩ : ∃ z, czF D.K i k = z := ⟨_, rfl⟩
        rw [hz] at y0 b1 b2
        have i2 : (k : Int) < (M : Int) := by omega
        have HT2 : Hid (TaM W1 bt cs gz gc gh gs N M (czF D.K (i + 1)) (fun _ => 0) (fun _ => 0) (fun _ => 0) (wr.setCell ⟨gz, k, none⟩ (.int .i64 (z + 1)))) :=
          HT.out.putZ k hkM _ (fun q _ => by rw [HS.out q, hz])
        clear hk hz
        go_wp2_with fail
        go_roundw
        case rel => exact ⟨i + 1, by go_num, by omega, HT2.out⟩
        case measure => simp [intOf]; omega
      · obtain rfl : i = 256 := by omega
        have c1 : wr.cell? ⟨bt, 260, none⟩ = some (.slice (some ⟨gc, 0, none⟩) N N) := by rw [HT.out.st.at_, HC.out.hc]
        have c2 : wr.cell? ⟨bt, 261, none⟩ = some (.slice (some ⟨gh, 0, none⟩) N N) := by rw [HT.out.st.at_, HC.out.hh]
        obtain ⟨y0, y1⟩ := HT.out.c.cell 0 (by omega)
        obtain ⟨y2, y3⟩ := HT.out.h.cell 0 (by omega)
        have i0 : (0 : Int) < (N : Int) := by omega
        have hne := HT.out.nch
        have hne2 := fun e => HT.out.nch (Eq.symm e)
        have HF : Hid (NtP D w (.returned (.pointer (some ⟨bt, 0, none⟩))) ((wr.setCell ⟨gc, 0, none⟩ (.int .i64 1)).setCell ⟨gh, 0, none⟩ (.int .i64 1))) := by
          have hb : Below w.heap.size w W1 := by rw [Hb0.out]; exact HB.out.2.1
          have h1 := (HT.out.putC 0 (by omega) 1 (f' := (exT 0).1) (fun q _ => rfl)).putH 0 (by omega) 1 (f' := (exT 0).2.1) (fun q _ => rfl)
          have h2 := (h1.congr (sz2 := exSz) (ct2 := (exT 0).1) (ch2 := (exT 0).2.1) (sm2 := (exT 0).2.2) (fun q hq => by rw [czF_congr 256 (fun j hj => HK.out j hj)]; exact czF_sz q (by omega)) (fun _ _ => rfl) (fun _ _ => rfl) (fun _ _ => rfl)).base hb
          rw [← HN.out.2.1, ← HN.out.2.2] at h2
          have hC9 := HC.out
          rw [← HN.out.2.1, ← HN.out.2.2] at hC9
          exact ⟨bt, cs, gz, gc, gh, gs, rfl, hC9, h2⟩
        go_wp2_with fail
        go_region
        go_wp2_with fail
        go_ret
        obtain ⟨bt, cs, gz, gc, gh, gs, e, h1, h2⟩ := HF.out
        exact ⟨bt, cs, gz, gc, gh, gs, e, h1, h2.keep (Below.refl _ _).drew⟩
end Go.Proofs.Ytohgbkajnhgnaaa
