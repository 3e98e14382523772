import Derived.Test.YthidhkaeebakjaaNUMoved
import Derived.Test.YthidhkaeebakjaaNNew
namespace Go.Proofs.Ythidhkaeebakjaa
open Go.RowKit
set_option linter.unusedVariables false
set_option linter.unusedSimpArgs false

/-- An append at a step of a region that draws, of nothing too. -/
theorem step_append_own9 {P : Program} {ops : Array Oper} {o : Oper} {a : Act} {w : World} {K : Act → World → Prop} {Q : Exit → Act → World → Prop} {E : Prop} (hgd : o.guard = none) (s x : Operand) (t : TypeId)
    (ho : o.op = .call { callee := .builtin .append, args := #[s, x], argTypes := #[t, t] })
    (base : Nat) (e : TypeId) (i : TypeInfo) (z : Value) (size bytes : Nat) (ht : P.underlying t = some (.slice e)) (hi : P.info? e = some i) (hz : i.zero = some z)
    (hsize : i.size = size) (hby : i.bytes = bytes) (hzs : z.cells.size = size) (hsz : 0 < size)
    (v : Value) (n : Nat) (xs : List Value) (hs : a.eval s = v) (hown : w.ownsRow base e size v n xs)
    (ad : Addr) (m c : Nat) (news : List Value) (hx : a.eval x = .slice (some ad) m c) (hl : news.length = m * size) (hnews : ∀ j u, news[j]? = some u → w.cell? (ad.add j) = some u) (h1 : ∀ u ∈ news, u.oneCell' = true)
    (h63 : n + m ≤ maxLen) (hbytes : (n + m) * bytes ≤ 140737488355328) (hbase : base ≤ w.heap.size)
    (h : ∀ v' w', w'.ownsRow base e size v' (n + m) (xs ++ news) → w.grownBy w' v.ownBlock → K (a.put o.dst v') w') :
    if Region.wanted o (yielded ops a.tmps) = true then Oper.wp P o a w K Q else E := by
  have hw : Region.wanted o (yielded ops a.tmps) = true := by simp [Region.wanted, hgd]
  rw [if_pos hw]
  obtain ⟨v', w', hr, h2, h3, _, _⟩ := run_append_own_at (P := P) w base t o.type e i z size bytes ht hi hz hsize hby hzs hsz v n xs hown ad m c news hl hnews h1 h63 hbytes hbase
  unfold Oper.wp execOp
  simp only [ho, resolve, invoke, builtin, Sem.run_bind, Sem.run_pure, Result.andThen_ok, List.map_toArray, List.map_cons, List.map_nil, hs, hx, hr]
  exact h v' w' h2 h3

/-! ### Machines in memory -/
/-- A machine as it lies there. -/
structure Mg where
  S : Int
  F : Int
  T : Int
  a : Option Addr
  c : Nat
  L : List Eg
def mgCells (m : Mg) : Array Value := #[.int .i64 m.S, .slice m.a m.L.length m.c, .int .i64 m.F, .int .i64 m.T]
def MgAt (w : World) (a : Option Addr) (n : Nat) (G : Nat → Mg) : Prop := 0 < n → ∃ g off, a = some ⟨g, off, none⟩ ∧ g < w.heap.size ∧ ∀ k, k < n →
  (w.cell? ⟨g, off + k * 4, none⟩ = some (.int .i64 (G k).S) ∧ w.cell? ⟨g, off + k * 4 + 1, none⟩ = some (.slice (G k).a (G k).L.length (G k).c) ∧ w.cell? ⟨g, off + k * 4 + 2, none⟩ = some (.int .i64 (G k).F) ∧ w.cell? ⟨g, off + k * 4 + 3, none⟩ = some (.int .i64 (G k).T)) ∧ EdAt w (G k).a (G k).L
theorem MgAt.below {w w' : World} {a : Option Addr} {n : Nat} {G : Nat → Mg} (h : MgAt w a n G) (k : Below w.heap.size w w') : MgAt w' a n G := by
  intro h0
  obtain ⟨g, off, e, hg, hc⟩ := h h0
  have := k.size
  refine ⟨g, off, e, by omega, fun j hj => ?_⟩
  obtain ⟨⟨h1, h2, h3, h4⟩, h5⟩ := hc j hj
  exact ⟨⟨(k.cell (p := ⟨g, _, none⟩) hg).trans h1, (k.cell (p := ⟨g, _, none⟩) hg).trans h2, (k.cell (p := ⟨g, _, none⟩) hg).trans h3, (k.cell (p := ⟨g, _, none⟩) hg).trans h4⟩, h5.below k⟩
theorem MgAt.congr {w : World} {a : Option Addr} {n : Nat} {G G' : Nat → Mg} (h : MgAt w a n G) (e : ∀ k, k < n → G k = G' k) : MgAt w a n G' := by
  intro h0
  obtain ⟨g, off, e1, hg, hc⟩ := h h0
  exact ⟨g, off, e1, hg, fun k hk => by rw [← e k hk]; exact hc k hk⟩
/-- A machine whose states are there, as it lies. -/
def NF.mg (m : NF) (a : Option Addr) (c : Nat) : Mg := ⟨(m.N : Int), (m.F : Int), (m.T : Int), a, c, m.L.map En.z⟩
/-- The last states. -/
def ula (M : Nat → NF) : Nat → List Nat
  | 0 => []
  | k + 1 => ula M k ++ [uo M k + (M k).T]
theorem ula_len (M : Nat → NF) (k : Nat) : (ula M k).length = k := by
  induction k with
  | zero => rfl
  | succ k ih => simp [ula, ih]
theorem ula_at (M : Nat → NF) (n i : Nat) (h : i < n) : (ula M n)[i]? = some (uo M i + (M i).T) := by
  induction n with
  | zero => omega
  | succ n ih =>
    rw [ula]
    by_cases e : i = n
    · subst e
      rw [List.getElem?_append_right (by rw [ula_len]; exact Nat.le_refl _), ula_len]
      simp
    · rw [List.getElem?_append_left (by rw [ula_len]; omega)]
      exact ih (by omega)

/-- What Union has made so far. -/
structure UnA (w : World) (p : Nat) (L : List En) (k : Nat) (ls : List Nat) (vE vL : Value) (wr : World) : Prop where
  s2 : St wr 24 w.heap.size #[.int .i64 0, .slice none 0 0, .int .i64 0, .int .i64 0]
  s4 : St wr 24 (w.heap.size + 1) #[.int .i64 ((p : Nat) : Int), vE, .int .i64 0, .int .i64 0]
  oe : wr.ownsRow w.heap.size 35 7 vE L.length (egs (L.map En.z))
  ol : wr.ownsRow w.heap.size 3 1 vL k (nums64 ls)
  below : Below w.heap.size w wr
theorem UnA.keep {w wr w1 : World} {p k : Nat} {L : List En} {ls : List Nat} {vE vL : Value} (h : UnA w p L k ls vE vL wr) (b : Below wr.heap.size wr w1) : UnA w p L k ls vE vL w1 :=
  ⟨h.s2.keep b, h.s4.keep b, ownsRow_keep h.oe b, ownsRow_keep h.ol b, h.below.trans (b.mono h.below.size)⟩
/-- More edges. -/
theorem UnA.app {w wr w1 : World} {p k : Nat} {L L2 : List En} {ls : List Nat} {vE vL vE' : Value} (h : UnA w p L k ls vE vL wr) (ho : w1.ownsRow w.heap.size 35 7 vE' (L ++ L2).length (egs (L.map En.z) ++ egs (L2.map En.z))) (hg : wr.grownBy w1 vE.ownBlock) :
    UnA w p (L ++ L2) k ls vE' vL (w1.setCell ⟨w.heap.size + 1, 1, none⟩ vE') := by
  have h2 := h.s2.grown_own h.oe (by decide) hg
  have h4 := h.s4.grown_own h.oe (by decide) hg
  refine ⟨h2.far (p := ⟨w.heap.size + 1, 1, none⟩) (by show w.heap.size ≠ w.heap.size + 1; omega) _, ?_, ?_, own_set (own_grown_own h.ol h.oe (by decide) hg) h4 (by decide) 1 vE', (below_grown_own h.below h.oe h.below.size hg).setCell (p := ⟨w.heap.size + 1, 1, none⟩) (by show w.heap.size ≤ w.heap.size + 1; omega) _⟩
  · have := h4.set 1 vE'
    simpa using this
  · rw [List.map_append, egs_append]
    exact own_set ho h4 (by decide) 1 vE'

/-- One more last state, and the next begins. -/
theorem UnA.last {w wr w1 : World} {p k N t : Nat} {L : List En} {ls : List Nat} {vE vL vL' : Value} {o : Obj} (h : UnA w p L k ls vE vL wr) (ho : w1.ownsRow w.heap.size 3 1 vL' (k + 1) (nums64 ls ++ [.int .i64 ((t : Nat) : Int)])) (hg : (wr.alloc o).grownBy w1 vL.ownBlock) :
    UnA w (p + N) L (k + 1) (ls ++ [t]) vE vL' (w1.setCell ⟨w.heap.size + 1, 0, none⟩ (.int .i64 ((p : Int) + (N : Int)))) := by
  have h0 : UnA w p L k ls vE vL (wr.alloc o) := h.keep (al wr o)
  have h2 := h0.s2.grown_own h0.ol (by decide) hg
  have h4 := h0.s4.grown_own h0.ol (by decide) hg
  refine ⟨h2.far (p := ⟨w.heap.size + 1, 0, none⟩) (by show w.heap.size ≠ w.heap.size + 1; omega) _, ?_, own_set (own_grown_own h0.oe h0.ol (by decide) hg) h4 (by decide) 0 _, ?_, (below_grown_own h0.below h0.ol h0.below.size hg).setCell (p := ⟨w.heap.size + 1, 0, none⟩) (by show w.heap.size ≤ w.heap.size + 1; omega) _⟩
  · have := h4.set 0 (.int .i64 ((p : Int) + (N : Int)))
    simpa using this
  · rw [nums64_snoc]
    exact own_set ho h4 (by decide) 0 _

set_option maxHeartbeats 2000000 in
set_option maxRecDepth 100000 in
theorem union_any (M : Nat → NF) (n : Nat) (hM : ∀ k, k < n → (M k).ok ∧ (M k).N ≤ 1000 ∧ (M k).L.length ≤ 1000) (hn : n ≤ 100) (A : Nat → Option Addr) (C : Nat → Nat) (a : Option Addr) (c : Nat) (w : World) (hL : MgAt w a n (fun k => (M k).mg (A k) (C k))) :
    Calls Try.prog 19 #[.slice a n c] w fun e w' => ∃ aE cE aL cL, e = .returned (.tuple #[.agg #[.int .i64 ((uo M n : Nat) : Int), .slice aE (uE M n).length cE, .int .i64 0, .int .i64 0], .slice aL n cL]) ∧
      w'.ownsRow w.heap.size 35 7 (.slice aE (uE M n).length cE) (uE M n).length (egs ((uE M n).map En.z)) ∧ w'.ownsRow w.heap.size 3 1 (.slice aL n cL) n (nums64 (ula M n)) ∧ Below w.heap.size w w' := by
  have HL := Lib.hid (And.intro hL hM)
  have HU : Hid (UnA w (uo M 0) (uE M 0) 0 (ula M 0) (.slice none 0 0) (.slice none 0 0) ((w.alloc (.cells #[.int .i64 0, .slice none 0 0, .int .i64 0, .int .i64 0] 24)).alloc (.cells #[.int .i64 1, .slice none 0 0, .int .i64 0, .int .i64 0] 24))) := by
    refine ⟨(St.new w _ _).alloc _, ?_, World.ownsRow_nil _ _ _ _, World.ownsRow_nil _ _ _ _, ((Below.refl _ _).alloc (Nat.le_refl _) _).alloc (by simp) _⟩
    have := St.new (w.alloc (.cells #[.int .i64 0, .slice none 0 0, .int .i64 0, .int .i64 0] 24)) 24 #[.int .i64 1, .slice none 0 0, .int .i64 0, .int .i64 0]
    exact (by simpa using this : St _ 24 (w.heap.size + 1) #[.int .i64 1, .slice none 0 0, .int .i64 0, .int .i64 0])
  clear hL hM
  go_enter Try.func19, Try.ntmps19
  go_wp2_with fail
  generalize (w.alloc (.cells #[.int .i64 0, .slice none 0 0, .int .i64 0, .int .i64 0] 24)).alloc (.cells #[.int .i64 1, .slice none 0 0, .int .i64 0, .int .i64 0] 24) = W0 at HU ⊢
  go_loopw [5, 7, 11] (fun v _ i wr => ∃ (k : Nat) (aE : Option Addr) (cE : Nat) (aL : Option Addr) (cL : Nat), i = .int .i64 k ∧ k ≤ n ∧ v = .slice aL k cL ∧ Hid (UnA w (uo M k) (uE M k) k (ula M k) (.slice aE (uE M k).length cE) (.slice aL k cL) wr)) (fun _ _ i _ => n - (intOf i).toNat)
  case atStart => exact ⟨0, none, 0, none, 0, rfl, Nat.zero_le _, rfl, HU⟩
  case round =>
    clear HU
    obtain ⟨k, aE, cE, aL, cL, rfl, hk, rfl, HA⟩ := hrel
    by_cases hlt : k < n
    · obtain ⟨g, off, rfl, hg, hcs⟩ := (HL.out.1.below HA.out.below) (by omega)
      obtain ⟨⟨c0, c1, c2, c3⟩, _⟩ := hcs k hlt
      have hed : EdAt w (A k) ((M k).mg (A k) (C k)).L := by
        obtain ⟨g', off', _, _, h⟩ := HL.out.1 (by omega)
        exact (h k hlt).2
      simp only [NF.mg, List.length_map] at c0 c1 c2 c3 hed
      obtain ⟨hok, hN1, hL1⟩ := HL.out.2 k hlt
      have hp1 := uo_bnd M k 1000 (fun j hj => (HL.out.2 j (by omega)).2.1)
      have hE1 := uE_len M k 1000 (fun j hj => (HL.out.2 j (by omega)).2.2)
      have hf := hok.f
      have ht := hok.t
      have HSu : Hid (uo M (k + 1) = uo M k + (M k).N ∧ uE M (k + 1) = uE M k ++ [fre 0 (uo M k + (M k).F)] ++ (M k).L.map (En.by (uo M k)) ∧ ula M (k + 1) = ula M k ++ [uo M k + (M k).T]) := ⟨rfl, by rw [List.append_assoc]; rfl, rfl⟩
      have HOk := Lib.hid (And.intro hok hed)
      clear hcs hok hed
      obtain ⟨p, hp⟩ : ∃ p, uo M k = p := ⟨_, rfl⟩
      obtain ⟨E, hE⟩ : ∃ E, uE M k = E := ⟨_, rfl⟩
      obtain ⟨⟨N, F, T, L⟩, hm⟩ : ∃ m, M k = m := ⟨_, rfl⟩
      rw [hp, hE] at HA
      rw [hp, hE, hm] at HSu
      rw [hm] at c0 c1 c2 c3 hN1 hL1 hf ht HOk
      rw [hp] at hp1
      rw [hE] at hE1
      dsimp only at c0 c1 c2 c3 hN1 hL1 hf ht
      clear hp hE hm
      have hk0 : k * 1000 ≤ 100000 := by omega
      have hk1 : k * (1000 + 1) ≤ 100100 := by omega
      have hpb : p ≤ 100001 := by omega
      have hEb : E.length ≤ 100100 := by omega
      clear hp1 hE1 hk0 hk1
      obtain ⟨z0, z1, z2, z3⟩ := HA.out.s4.cells4
      have HA1 := Lib.hid (HA.out.keep ((Below.refl wr.heap.size wr).alloc (Nat.le_refl _) (.cells #[.int .i64 ((N : Nat) : Int), .slice (A k) L.length (C k), .int .i64 ((F : Nat) : Int), .int .i64 ((T : Nat) : Int)] 24)))
      have HN1 := Lib.hid (St.new wr 24 #[.int .i64 ((N : Nat) : Int), .slice (A k) L.length (C k), .int .i64 ((F : Nat) : Int), .int .i64 ((T : Nat) : Int)])
      obtain ⟨ak, hak⟩ : ∃ ak, A k = ak := ⟨_, rfl⟩
      obtain ⟨ck, hck⟩ : ∃ ck, C k = ck := ⟨_, rfl⟩
      rw [hak, hck] at HA1 HN1
      rw [hak, hck] at c1
      rw [hak] at HOk
      clear hak hck
      go_wp2_with fail
      generalize wr.alloc (.cells #[.int .i64 ((N : Nat) : Int), .slice ak L.length ck, .int .i64 ((F : Nat) : Int), .int .i64 ((T : Nat) : Int)] 24) = W1 at HA1 HN1 ⊢
      have hb47 : w.heap.size + 1 < wr.heap.size := HA.out.s4.lt
      have HbL : Hid (∀ e ∈ L, e.f ≤ 1000000 ∧ e.t ≤ 1000000) := fun e he => by
        have : e.f < N ∧ e.t < N := HOk.out.1.e e he
        omega
      have C6 : Hid (∀ W : World, Calls Try.prog 39 #[.int .i64 0, .int .i64 ((p : Int) + (F : Int))] W (fun e w' => e = .returned (.agg #[.int .i64 0, .int .i64 ((p : Int) + (F : Int)), .int .u64 0, .int .u64 0, .int .u64 0, .int .u64 0, .bool true]) ∧ Below W.heap.size W w')) := fun W => by
        have := freeEdge_any 0 (p + F) W
        simpa using this
      have Wr : Hid (IntKind.i64.wrap ((p : Int) + (F : Int)) = (p : Int) + (F : Int)) := IntWalk.i64_in _ (by omega)
      have HF7 : Hid (egs ([fre 0 (p + F)].map En.z) = [.int .i64 0, .int .i64 ((p : Int) + (F : Int)), .int .u64 0, .int .u64 0, .int .u64 0, .int .u64 0, .bool true]) := by
        show egs [(fre 0 (p + F)).z] = _
        simp [egs, fre_cells]
      obtain ⟨i0, hi, hz0, hz1, hz2⟩ := info_parts Try.info_edge
      clear HA z0 z1 z2 z3 c0 c1 c2 c3
      go_cut [5] from 15 to 25 (fun v wx => ∃ (aE' : Option Addr) (cE' : Nat), v = .slice aL k cL ∧ UnA w p (E ++ [fre 0 (p + F)]) k (ula M k) (.slice aE' (E.length + 1) cE') (.slice aL k cL) wx ∧ St wx 24 wr.heap.size #[.int .i64 ((N : Nat) : Int), .slice ak L.length ck, .int .i64 ((F : Nat) : Int), .int .i64 ((T : Nat) : Int)])
      case first =>
        have HA2 := Lib.hid (HA1.out.keep (Below.refl W1.heap.size W1).drew)
        have HN2 : Hid (St W1.drew 24 wr.heap.size #[.int .i64 ((N : Nat) : Int), .slice ak L.length ck, .int .i64 ((F : Nat) : Int), .int .i64 ((T : Nat) : Int)]) := HN1.out.drew
        have e2 : W1.drew.cell? ⟨w.heap.size + 1, 1, none⟩ = some (.slice aE E.length cE) := HA2.out.s4.at_ 1
        -- REG6
        have HS0 : Hid (∀ (W : World) (v : Value), St W 24 (w.heap.size + 1) #[.int .i64 ((p : Nat) : Int), v, .int .i64 0, .int .i64 0] → St W 24 wr.heap.size #[.int .i64 ((N : Nat) : Int), .slice ak L.length ck, .int .i64 ((F : Nat) : Int), .int .i64 ((T : Nat) : Int)] → (W.cell? ⟨w.heap.size + 1, 0, none⟩ = some (.int .i64 ((p : Nat) : Int)) ∧ W.cell? ⟨wr.heap.size, 2, none⟩ = some (.int .i64 ((F : Nat) : Int)))) := fun W v h1 h2 => ⟨h1.at_ 0, h2.at_ 2⟩
        refine wp_region_held_drew (S := fun W' => W'.cell? ⟨w.heap.size + 1, 0, none⟩ = some (.int .i64 ((p : Nat) : Int)) ∧ W'.cell? ⟨wr.heap.size, 2, none⟩ = some (.int .i64 ((F : Nat) : Int))) (by kernel_rfl) (HS0.out _ _ HA2.out.s4 HN2.out) (fun hHeld => ?_)
        (refine wpAnyH_take (i := 0) (oi := ?_) (v := ?_) ?_ (by kernel_rfl) (by kernel_rfl) (by kernel_rfl) ?_ (Or.inl ⟨?_, ?_⟩) (by assumption) ?_; rotate_left 2; (focus ((simp only [List.getElem?_toArray, List.getElem?_cons_zero]); first | done | rfl)); (focus (exact fun _ _ _ h => h)); (focus rfl); (focus (intro wz hSw; (try dsimp only at hSw); go_simp; first | done | with_reducible rfl)); try simp only [Act.put, List.setIfInBounds_toArray, List.set_cons_zero, List.set_cons_succ])
        (refine wpAnyH_take (i := 2) (oi := ?_) (v := ?_) ?_ (by kernel_rfl) (by kernel_rfl) (by kernel_rfl) ?_ (Or.inl ⟨?_, ?_⟩) (by assumption) ?_; rotate_left 2; (focus ((simp only [List.getElem?_toArray, List.getElem?_cons_succ, List.getElem?_cons_zero]); first | done | rfl)); (focus (exact fun _ _ _ h => h)); (focus rfl); (focus (intro wz hSw; (try dsimp only at hSw); go_simp; first | done | with_reducible rfl)); try simp only [Act.put, List.setIfInBounds_toArray, List.set_cons_zero, List.set_cons_succ])
        (refine wpAnyH_take (i := 3) (oi := ?_) (v := ?_) ?_ (by kernel_rfl) (by kernel_rfl) (by kernel_rfl) ?_ (Or.inl ⟨?_, ?_⟩) (by assumption) ?_; rotate_left 2; (focus ((simp only [List.getElem?_toArray, List.getElem?_cons_succ, List.getElem?_cons_zero]); first | done | rfl)); (focus (exact fun _ _ _ h => h)); (focus rfl); (focus (intro wz hSw; (try dsimp only at hSw); go_simp; first | done | with_reducible rfl)); try simp only [Act.put, List.setIfInBounds_toArray, List.set_cons_zero, List.set_cons_succ])
        (refine wpAnyH_take (i := 4) (oi := ?_) (v := ?_) ?_ (by kernel_rfl) (by kernel_rfl) (by kernel_rfl) ?_ (Or.inl ⟨?_, ?_⟩) (by assumption) ?_; rotate_left 2; (focus ((simp only [List.getElem?_toArray, List.getElem?_cons_succ, List.getElem?_cons_zero]); first | done | rfl)); (focus (exact fun _ _ _ h => h)); (focus rfl); (focus (intro wz hSw; (try dsimp only at hSw); go_simp; first | done | with_reducible rfl)); try simp only [Act.put, List.setIfInBounds_toArray, List.set_cons_zero, List.set_cons_succ])
        (refine wpAnyH_take (i := 5) (oi := ?_) (v := ?_) ?_ (by kernel_rfl) (by kernel_rfl) (by kernel_rfl) ?_ (Or.inl ⟨?_, ?_⟩) (by assumption) ?_; rotate_left 2; (focus ((simp only [List.getElem?_toArray, List.getElem?_cons_succ, List.getElem?_cons_zero]); first | done | rfl)); (focus (exact fun _ _ _ h => h)); (focus rfl); (focus (intro wz hSw; (try dsimp only at hSw); go_simp; first | done | with_reducible rfl)); try simp only [Act.put, List.setIfInBounds_toArray, List.set_cons_zero, List.set_cons_succ])
        (refine wpAnyH_take (i := 6) (oi := ?_) (v := ?_) ?_ (by kernel_rfl) (by kernel_rfl) (by kernel_rfl) ?_ (Or.inl ⟨?_, ?_⟩) (by assumption) ?_; rotate_left 2; (focus ((simp only [List.getElem?_toArray, List.getElem?_cons_succ, List.getElem?_cons_zero]); first | done | rfl)); (focus (exact fun _ _ _ h => h)); (focus rfl); (focus (intro wz hSw; (try dsimp only at hSw); go_simp; first | done | with_reducible rfl)); try simp only [Act.put, List.setIfInBounds_toArray, List.set_cons_zero, List.set_cons_succ])
        refine wpAnyH_ready (rs := [1, 7]) (by kernel_rfl) (by simp) ?_
        refine AllReadyH.cons (o := ?_) ?_ (fun K hK => ?_) ?_
        rotate_left
        (focus ((simp only [List.getElem?_toArray, List.getElem?_cons_succ, List.getElem?_cons_zero]); first | done | rfl))
        · skip
          go_simp
          refine hK.out _ _ (HS0.out _ _ HA2.out.s4 HN2.out) (fun hHeld => ?_)
          clear hK K
          try simp only [Act.put, List.setIfInBounds_toArray, List.set_cons_zero, List.set_cons_succ]
          refine wpAnyH_ready (rs := [7]) (by kernel_rfl) (by simp) ?_
          refine AllReadyH.cons (o := ?_) ?_ (fun K hK => ?_) ?_
          rotate_left
          (focus ((simp only [List.getElem?_toArray, List.getElem?_cons_succ, List.getElem?_cons_zero]); first | done | rfl))
          · skip
            go_simp
            rw [Wr.out]
            go_at_call 39
            refine (C6.out _).mono ?_
            rintro e w5 ⟨rfl, v5⟩
            have HA5 := Lib.hid (HA2.out.keep v5)
            have HN5 := Lib.hid (HN2.out.keep v5)
            have e5 : w5.cell? ⟨w.heap.size + 1, 1, none⟩ = some (.slice aE E.length cE) := HA5.out.s4.at_ 1
            clear v5
            try go_wp2_with fail
            refine hK.out _ _ (HS0.out _ _ HA5.out.s4 HN5.out) (fun hHeld => ?_)
            clear hK K
            try simp only [Act.put, List.setIfInBounds_toArray, List.set_cons_zero, List.set_cons_succ]
            refine wpAnyH_ready (rs := [8]) (by kernel_rfl) (by simp) ?_
            refine AllReadyH.cons (o := ?_) ?_ (fun K hK => ?_) ?_
            rotate_left
            (focus ((simp only [List.getElem?_toArray, List.getElem?_cons_succ, List.getElem?_cons_zero]); first | done | rfl))
            · skip
              go_simp
              have HA6 := Lib.hid (HA5.out.keep (al w5 (.cells #[.int .i64 0, .int .i64 ((p : Int) + (F : Int)), .int .u64 0, .int .u64 0, .int .u64 0, .int .u64 0, .bool true] 35)))
              have HN6 := Lib.hid (HN5.out.keep (al w5 (.cells #[.int .i64 0, .int .i64 ((p : Int) + (F : Int)), .int .u64 0, .int .u64 0, .int .u64 0, .int .u64 0, .bool true] 35)))
              have e6 : (w5.alloc (.cells #[.int .i64 0, .int .i64 ((p : Int) + (F : Int)), .int .u64 0, .int .u64 0, .int .u64 0, .int .u64 0, .bool true] 35)).cell? ⟨w.heap.size + 1, 1, none⟩ = some (.slice aE E.length cE) := HA6.out.s4.at_ 1
              refine hK.out _ _ (HS0.out _ _ HA6.out.s4 HN6.out) (fun hHeld => ?_)
              clear hK K
              try simp only [Act.put, List.setIfInBounds_toArray, List.set_cons_zero, List.set_cons_succ]
              refine wpAnyH_ready (rs := [9]) (by kernel_rfl) (by simp) ?_
              refine AllReadyH.cons (o := ?_) ?_ (fun K hK => ?_) ?_
              rotate_left
              (focus ((simp only [List.getElem?_toArray, List.getElem?_cons_succ, List.getElem?_cons_zero]); first | done | rfl))
              · skip
                skip
                refine step_append_own9 (by rfl) _ _ _ (by rfl) w.heap.size 35 i0 (.agg #[.int .i64 0, .int .i64 0, .int .u64 0, .int .u64 0, .int .u64 0, .int .u64 0, .bool false]) 7 56 Try.underlying22 hi hz0 hz1 hz2 (by rfl) (by decide) _ E.length (egs (E.map En.z)) (by rfl) HA6.out.oe ⟨w5.heap.size, 0, none⟩ 1 1 (#[.int .i64 0, .int .i64 ((p : Int) + (F : Int)), .int .u64 0, .int .u64 0, .int .u64 0, .int .u64 0, .bool true]).toList (by rfl) (by rfl) (World.news_of_block (cs := #[.int .i64 0, .int .i64 ((p : Int) + (F : Int)), .int .u64 0, .int .u64 0, .int .u64 0, .int .u64 0, .bool true]) (t := 35) (fr := (0, 0)) (heap_alloc_new w5 _)) (by simp [Value.oneCell']) (by unfold maxLen; omega) (by omega) HA6.out.below.size ?_
                intro v6 w6 hown6 hgrow6
                obtain ⟨a6, c6, rfl⟩ := ownsRow_slice hown6
                have hs4 := HA6.out.s4.grown_own HA6.out.oe (by decide) hgrow6
                have hn6 := HN6.out.grown_own HA6.out.oe (by decide) hgrow6
                have HA7 := Lib.hid (HA6.out.app (L2 := [fre 0 (p + F)]) (vE' := .slice a6 (E.length + 1) c6) (by first | exact (by rw [HF7.out]; exact hown6) | (rw [List.length_append]; exact (by rw [HF7.out]; exact hown6))) hgrow6)
                have HN7 := Lib.hid (hn6.far (p := ⟨w.heap.size + 1, 1, none⟩) (by show wr.heap.size ≠ w.heap.size + 1; omega) (.slice a6 (E.length + 1) c6))
                have t3 : w6.cell? ⟨w.heap.size + 1, 1, none⟩ = some (.slice aE E.length cE) := hs4.at_ 1
                have f3 := hs4.thaw_ 1
                refine hK.out _ _ (HS0.out _ _ hs4 hn6) (fun hHeld => ?_)
                clear hK K hown6 hgrow6 hs4 hn6
                try simp only [Act.put, List.setIfInBounds_toArray, List.set_cons_zero, List.set_cons_succ]
                (refine wpAnyH_take (i := 10) (oi := ?_) (v := ?_) ?_ (by kernel_rfl) (by kernel_rfl) (by kernel_rfl) ?_ (Or.inl ⟨?_, ?_⟩) (by assumption) ?_; rotate_left 2; (focus ((simp only [List.getElem?_toArray, List.getElem?_cons_succ, List.getElem?_cons_zero]); first | done | rfl)); (focus (exact fun _ _ _ h => h)); (focus rfl); (focus (intro wz hSw; (try dsimp only at hSw); go_simp; first | done | with_reducible rfl)); try simp only [Act.put, List.setIfInBounds_toArray, List.set_cons_zero, List.set_cons_succ])
                refine wpAnyH_ready (rs := [11]) (by kernel_rfl) (by simp) ?_
                refine AllReadyH.cons (o := ?_) ?_ (fun K hK => ?_) ?_
                rotate_left
                (focus ((simp only [List.getElem?_toArray, List.getElem?_cons_succ, List.getElem?_cons_zero]); first | done | rfl))
                · skip
                  go_simp
                  refine hK.out _ _ (HS0.out _ _ HA7.out.s4 HN7.out) (fun hHeld => ?_)
                  clear hK K
                  try simp only [Act.put, List.setIfInBounds_toArray, List.set_cons_zero, List.set_cons_succ]
                  refine wpAnyH_done (by kernel_rfl) ?_ _
                  clear hHeld
                  go_wp2_with fail
                  go_meet
                  exact ⟨_, _, rfl, HA7.out, HN7.out⟩
                exact AllReadyH.nil
              exact AllReadyH.nil
            exact AllReadyH.nil
          exact AllReadyH.nil
        refine AllReadyH.cons (o := ?_) ?_ (fun K hK => ?_) ?_
        rotate_left
        (focus ((simp only [List.getElem?_toArray, List.getElem?_cons_succ, List.getElem?_cons_zero]); first | done | rfl))
        · skip
          go_simp
          rw [Wr.out]
          go_at_call 39
          refine (C6.out _).mono ?_
          rintro e w5 ⟨rfl, v5⟩
          have HA5 := Lib.hid (HA2.out.keep v5)
          have HN5 := Lib.hid (HN2.out.keep v5)
          have e5 : w5.cell? ⟨w.heap.size + 1, 1, none⟩ = some (.slice aE E.length cE) := HA5.out.s4.at_ 1
          clear v5
          try go_wp2_with fail
          refine hK.out _ _ (HS0.out _ _ HA5.out.s4 HN5.out) (fun hHeld => ?_)
          clear hK K
          try simp only [Act.put, List.setIfInBounds_toArray, List.set_cons_zero, List.set_cons_succ]
          refine wpAnyH_ready (rs := [1, 8]) (by kernel_rfl) (by simp) ?_
          refine AllReadyH.cons (o := ?_) ?_ (fun K hK => ?_) ?_
          rotate_left
          (focus ((simp only [List.getElem?_toArray, List.getElem?_cons_succ, List.getElem?_cons_zero]); first | done | rfl))
          · skip
            go_simp
            refine hK.out _ _ (HS0.out _ _ HA5.out.s4 HN5.out) (fun hHeld => ?_)
            clear hK K
            try simp only [Act.put, List.setIfInBounds_toArray, List.set_cons_zero, List.set_cons_succ]
            refine wpAnyH_ready (rs := [8]) (by kernel_rfl) (by simp) ?_
            refine AllReadyH.cons (o := ?_) ?_ (fun K hK => ?_) ?_
            rotate_left
            (focus ((simp only [List.getElem?_toArray, List.getElem?_cons_succ, List.getElem?_cons_zero]); first | done | rfl))
            · skip
              go_simp
              have HA6 := Lib.hid (HA5.out.keep (al w5 (.cells #[.int .i64 0, .int .i64 ((p : Int) + (F : Int)), .int .u64 0, .int .u64 0, .int .u64 0, .int .u64 0, .bool true] 35)))
              have HN6 := Lib.hid (HN5.out.keep (al w5 (.cells #[.int .i64 0, .int .i64 ((p : Int) + (F : Int)), .int .u64 0, .int .u64 0, .int .u64 0, .int .u64 0, .bool true] 35)))
              have e6 : (w5.alloc (.cells #[.int .i64 0, .int .i64 ((p : Int) + (F : Int)), .int .u64 0, .int .u64 0, .int .u64 0, .int .u64 0, .bool true] 35)).cell? ⟨w.heap.size + 1, 1, none⟩ = some (.slice aE E.length cE) := HA6.out.s4.at_ 1
              refine hK.out _ _ (HS0.out _ _ HA6.out.s4 HN6.out) (fun hHeld => ?_)
              clear hK K
              try simp only [Act.put, List.setIfInBounds_toArray, List.set_cons_zero, List.set_cons_succ]
              refine wpAnyH_ready (rs := [9]) (by kernel_rfl) (by simp) ?_
              refine AllReadyH.cons (o := ?_) ?_ (fun K hK => ?_) ?_
              rotate_left
              (focus ((simp only [List.getElem?_toArray, List.getElem?_cons_succ, List.getElem?_cons_zero]); first | done | rfl))
              · skip
                skip
                refine step_append_own9 (by rfl) _ _ _ (by rfl) w.heap.size 35 i0 (.agg #[.int .i64 0, .int .i64 0, .int .u64 0, .int .u64 0, .int .u64 0, .int .u64 0, .bool false]) 7 56 Try.underlying22 hi hz0 hz1 hz2 (by rfl) (by decide) _ E.length (egs (E.map En.z)) (by rfl) HA6.out.oe ⟨w5.heap.size, 0, none⟩ 1 1 (#[.int .i64 0, .int .i64 ((p : Int) + (F : Int)), .int .u64 0, .int .u64 0, .int .u64 0, .int .u64 0, .bool true]).toList (by rfl) (by rfl) (World.news_of_block (cs := #[.int .i64 0, .int .i64 ((p : Int) + (F : Int)), .int .u64 0, .int .u64 0, .int .u64 0, .int .u64 0, .bool true]) (t := 35) (fr := (0, 0)) (heap_alloc_new w5 _)) (by simp [Value.oneCell']) (by unfold maxLen; omega) (by omega) HA6.out.below.size ?_
                intro v6 w6 hown6 hgrow6
                obtain ⟨a6, c6, rfl⟩ := ownsRow_slice hown6
                have hs4 := HA6.out.s4.grown_own HA6.out.oe (by decide) hgrow6
                have hn6 := HN6.out.grown_own HA6.out.oe (by decide) hgrow6
                have HA7 := Lib.hid (HA6.out.app (L2 := [fre 0 (p + F)]) (vE' := .slice a6 (E.length + 1) c6) (by first | exact (by rw [HF7.out]; exact hown6) | (rw [List.length_append]; exact (by rw [HF7.out]; exact hown6))) hgrow6)
                have HN7 := Lib.hid (hn6.far (p := ⟨w.heap.size + 1, 1, none⟩) (by show wr.heap.size ≠ w.heap.size + 1; omega) (.slice a6 (E.length + 1) c6))
                have t3 : w6.cell? ⟨w.heap.size + 1, 1, none⟩ = some (.slice aE E.length cE) := hs4.at_ 1
                have f3 := hs4.thaw_ 1
                refine hK.out _ _ (HS0.out _ _ hs4 hn6) (fun hHeld => ?_)
                clear hK K hown6 hgrow6 hs4 hn6
                try simp only [Act.put, List.setIfInBounds_toArray, List.set_cons_zero, List.set_cons_succ]
                (refine wpAnyH_take (i := 10) (oi := ?_) (v := ?_) ?_ (by kernel_rfl) (by kernel_rfl) (by kernel_rfl) ?_ (Or.inl ⟨?_, ?_⟩) (by assumption) ?_; rotate_left 2; (focus ((simp only [List.getElem?_toArray, List.getElem?_cons_succ, List.getElem?_cons_zero]); first | done | rfl)); (focus (exact fun _ _ _ h => h)); (focus rfl); (focus (intro wz hSw; (try dsimp only at hSw); go_simp; first | done | with_reducible rfl)); try simp only [Act.put, List.setIfInBounds_toArray, List.set_cons_zero, List.set_cons_succ])
                refine wpAnyH_ready (rs := [11]) (by kernel_rfl) (by simp) ?_
                refine AllReadyH.cons (o := ?_) ?_ (fun K hK => ?_) ?_
                rotate_left
                (focus ((simp only [List.getElem?_toArray, List.getElem?_cons_succ, List.getElem?_cons_zero]); first | done | rfl))
                · skip
                  go_simp
                  refine hK.out _ _ (HS0.out _ _ HA7.out.s4 HN7.out) (fun hHeld => ?_)
                  clear hK K
                  try simp only [Act.put, List.setIfInBounds_toArray, List.set_cons_zero, List.set_cons_succ]
                  refine wpAnyH_done (by kernel_rfl) ?_ _
                  clear hHeld
                  go_wp2_with fail
                  go_meet
                  exact ⟨_, _, rfl, HA7.out, HN7.out⟩
                exact AllReadyH.nil
              exact AllReadyH.nil
            exact AllReadyH.nil
          refine AllReadyH.cons (o := ?_) ?_ (fun K hK => ?_) ?_
          rotate_left
          (focus ((simp only [List.getElem?_toArray, List.getElem?_cons_succ, List.getElem?_cons_zero]); first | done | rfl))
          · skip
            go_simp
            have HA6 := Lib.hid (HA5.out.keep (al w5 (.cells #[.int .i64 0, .int .i64 ((p : Int) + (F : Int)), .int .u64 0, .int .u64 0, .int .u64 0, .int .u64 0, .bool true] 35)))
            have HN6 := Lib.hid (HN5.out.keep (al w5 (.cells #[.int .i64 0, .int .i64 ((p : Int) + (F : Int)), .int .u64 0, .int .u64 0, .int .u64 0, .int .u64 0, .bool true] 35)))
            have e6 : (w5.alloc (.cells #[.int .i64 0, .int .i64 ((p : Int) + (F : Int)), .int .u64 0, .int .u64 0, .int .u64 0, .int .u64 0, .bool true] 35)).cell? ⟨w.heap.size + 1, 1, none⟩ = some (.slice aE E.length cE) := HA6.out.s4.at_ 1
            refine hK.out _ _ (HS0.out _ _ HA6.out.s4 HN6.out) (fun hHeld => ?_)
            clear hK K
            try simp only [Act.put, List.setIfInBounds_toArray, List.set_cons_zero, List.set_cons_succ]
            refine wpAnyH_ready (rs := [1]) (by kernel_rfl) (by simp) ?_
            refine AllReadyH.cons (o := ?_) ?_ (fun K hK => ?_) ?_
            rotate_left
            (focus ((simp only [List.getElem?_toArray, List.getElem?_cons_succ, List.getElem?_cons_zero]); first | done | rfl))
            · skip
              go_simp
              refine hK.out _ _ (HS0.out _ _ HA6.out.s4 HN6.out) (fun hHeld => ?_)
              clear hK K
              try simp only [Act.put, List.setIfInBounds_toArray, List.set_cons_zero, List.set_cons_succ]
              refine wpAnyH_ready (rs := [9]) (by kernel_rfl) (by simp) ?_
              refine AllReadyH.cons (o := ?_) ?_ (fun K hK => ?_) ?_
              rotate_left
              (focus ((simp only [List.getElem?_toArray, List.getElem?_cons_succ, List.getElem?_cons_zero]); first | done | rfl))
              · skip
                skip
                refine step_append_own9 (by rfl) _ _ _ (by rfl) w.heap.size 35 i0 (.agg #[.int .i64 0, .int .i64 0, .int .u64 0, .int .u64 0, .int .u64 0, .int .u64 0, .bool false]) 7 56 Try.underlying22 hi hz0 hz1 hz2 (by rfl) (by decide) _ E.length (egs (E.map En.z)) (by rfl) HA6.out.oe ⟨w5.heap.size, 0, none⟩ 1 1 (#[.int .i64 0, .int .i64 ((p : Int) + (F : Int)), .int .u64 0, .int .u64 0, .int .u64 0, .int .u64 0, .bool true]).toList (by rfl) (by rfl) (World.news_of_block (cs := #[.int .i64 0, .int .i64 ((p : Int) + (F : Int)), .int .u64 0, .int .u64 0, .int .u64 0, .int .u64 0, .bool true]) (t := 35) (fr := (0, 0)) (heap_alloc_new w5 _)) (by simp [Value.oneCell']) (by unfold maxLen; omega) (by omega) HA6.out.below.size ?_
                intro v6 w6 hown6 hgrow6
                obtain ⟨a6, c6, rfl⟩ := ownsRow_slice hown6
                have hs4 := HA6.out.s4.grown_own HA6.out.oe (by decide) hgrow6
                have hn6 := HN6.out.grown_own HA6.out.oe (by decide) hgrow6
                have HA7 := Lib.hid (HA6.out.app (L2 := [fre 0 (p + F)]) (vE' := .slice a6 (E.length + 1) c6) (by first | exact (by rw [HF7.out]; exact hown6) | (rw [List.length_append]; exact (by rw [HF7.out]; exact hown6))) hgrow6)
                have HN7 := Lib.hid (hn6.far (p := ⟨w.heap.size + 1, 1, none⟩) (by show wr.heap.size ≠ w.heap.size + 1; omega) (.slice a6 (E.length + 1) c6))
                have t3 : w6.cell? ⟨w.heap.size + 1, 1, none⟩ = some (.slice aE E.length cE) := hs4.at_ 1
                have f3 := hs4.thaw_ 1
                refine hK.out _ _ (HS0.out _ _ hs4 hn6) (fun hHeld => ?_)
                clear hK K hown6 hgrow6 hs4 hn6
                try simp only [Act.put, List.setIfInBounds_toArray, List.set_cons_zero, List.set_cons_succ]
                (refine wpAnyH_take (i := 10) (oi := ?_) (v := ?_) ?_ (by kernel_rfl) (by kernel_rfl) (by kernel_rfl) ?_ (Or.inl ⟨?_, ?_⟩) (by assumption) ?_; rotate_left 2; (focus ((simp only [List.getElem?_toArray, List.getElem?_cons_succ, List.getElem?_cons_zero]); first | done | rfl)); (focus (exact fun _ _ _ h => h)); (focus rfl); (focus (intro wz hSw; (try dsimp only at hSw); go_simp; first | done | with_reducible rfl)); try simp only [Act.put, List.setIfInBounds_toArray, List.set_cons_zero, List.set_cons_succ])
                refine wpAnyH_ready (rs := [11]) (by kernel_rfl) (by simp) ?_
                refine AllReadyH.cons (o := ?_) ?_ (fun K hK => ?_) ?_
                rotate_left
                (focus ((simp only [List.getElem?_toArray, List.getElem?_cons_succ, List.getElem?_cons_zero]); first | done | rfl))
                · skip
                  go_simp
                  refine hK.out _ _ (HS0.out _ _ HA7.out.s4 HN7.out) (fun hHeld => ?_)
                  clear hK K
                  try simp only [Act.put, List.setIfInBounds_toArray, List.set_cons_zero, List.set_cons_succ]
                  refine wpAnyH_done (by kernel_rfl) ?_ _
                  clear hHeld
                  go_wp2_with fail
                  go_meet
                  exact ⟨_, _, rfl, HA7.out, HN7.out⟩
                exact AllReadyH.nil
              exact AllReadyH.nil
            exact AllReadyH.nil
          exact AllReadyH.nil
        exact AllReadyH.nil
        -- END6
      case rest =>
        obtain ⟨aE1, cE1, rfl, hA1, hN1⟩ := hcut
        obtain ⟨E1, hE1⟩ : ∃ E1, E ++ [fre 0 (p + F)] = E1 := ⟨_, rfl⟩
        have hE1l : E1.length = E.length + 1 := by rw [← hE1]; simp
        have HE1 := Lib.hid hE1
        rw [hE1, ← hE1l] at hA1
        have hE1b : E1.length ≤ 100101 := by omega
        have HA1 := Lib.hid hA1
        have HN1 := Lib.hid hN1
        clear hA1 hN1 hE1 hE1l C6 HF7 Wr
        obtain ⟨z0, z1, z2, z3⟩ := HA1.out.s4.cells4
        go_wp2_with fail
        go_cut [5] from 26 to 34 (fun v wx => ∃ (aE' : Option Addr) (cE' : Nat), v = .slice aL k cL ∧ UnA w p (E1 ++ L.map (En.by p)) k (ula M k) (.slice aE' (E1.length + L.length) cE') (.slice aL k cL) wx ∧ St wx 24 wr.heap.size #[.int .i64 ((N : Nat) : Int), .slice ak L.length ck, .int .i64 ((F : Nat) : Int), .int .i64 ((T : Nat) : Int)])
        case first =>
          have HA2 := Lib.hid (HA1.out.keep (Below.refl wc.heap.size wc).drew)
          have HN2 : Hid (St wc.drew 24 wr.heap.size #[.int .i64 ((N : Nat) : Int), .slice ak L.length ck, .int .i64 ((F : Nat) : Int), .int .i64 ((T : Nat) : Int)]) := HN1.out.drew
          have e2 : wc.drew.cell? ⟨w.heap.size + 1, 1, none⟩ = some (.slice aE1 E1.length cE1) := HA2.out.s4.at_ 1
          clear z0 z1 z2 z3
          -- REG7
          have HS0 : Hid (∀ (W : World) (v : Value), St W 24 (w.heap.size + 1) #[.int .i64 ((p : Nat) : Int), v, .int .i64 0, .int .i64 0] → St W 24 wr.heap.size #[.int .i64 ((N : Nat) : Int), .slice ak L.length ck, .int .i64 ((F : Nat) : Int), .int .i64 ((T : Nat) : Int)] → (W.cell? ⟨w.heap.size + 1, 0, none⟩ = some (.int .i64 ((p : Nat) : Int)) ∧ W.cell? ⟨wr.heap.size, 1, none⟩ = some (.slice ak L.length ck))) := fun W v h1 h2 => ⟨h1.at_ 0, h2.at_ 1⟩
          refine wp_region_held_drew (S := fun W' => W'.cell? ⟨w.heap.size + 1, 0, none⟩ = some (.int .i64 ((p : Nat) : Int)) ∧ W'.cell? ⟨wr.heap.size, 1, none⟩ = some (.slice ak L.length ck)) (by kernel_rfl) (HS0.out _ _ HA2.out.s4 HN2.out) (fun hHeld => ?_)
          (refine wpAnyH_take (i := 0) (oi := ?_) (v := ?_) ?_ (by kernel_rfl) (by kernel_rfl) (by kernel_rfl) ?_ (Or.inl ⟨?_, ?_⟩) (by assumption) ?_; rotate_left 2; (focus ((simp only [List.getElem?_toArray, List.getElem?_cons_zero]); first | done | rfl)); (focus (exact fun _ _ _ h => h)); (focus rfl); (focus (intro wz hSw; (try dsimp only at hSw); go_simp; first | done | with_reducible rfl)); try simp only [Act.put, List.setIfInBounds_toArray, List.set_cons_zero, List.set_cons_succ])
          (refine wpAnyH_take (i := 2) (oi := ?_) (v := ?_) ?_ (by kernel_rfl) (by kernel_rfl) (by kernel_rfl) ?_ (Or.inl ⟨?_, ?_⟩) (by assumption) ?_; rotate_left 2; (focus ((simp only [List.getElem?_toArray, List.getElem?_cons_succ, List.getElem?_cons_zero]); first | done | rfl)); (focus (exact fun _ _ _ h => h)); (focus rfl); (focus (intro wz hSw; (try dsimp only at hSw); go_simp; first | done | with_reducible rfl)); try simp only [Act.put, List.setIfInBounds_toArray, List.set_cons_zero, List.set_cons_succ])
          (refine wpAnyH_take (i := 3) (oi := ?_) (v := ?_) ?_ (by kernel_rfl) (by kernel_rfl) (by kernel_rfl) ?_ (Or.inl ⟨?_, ?_⟩) (by assumption) ?_; rotate_left 2; (focus ((simp only [List.getElem?_toArray, List.getElem?_cons_succ, List.getElem?_cons_zero]); first | done | rfl)); (focus (exact fun _ _ _ h => h)); (focus rfl); (focus (intro wz hSw; (try dsimp only at hSw); go_simp; first | done | with_reducible rfl)); try simp only [Act.put, List.setIfInBounds_toArray, List.set_cons_zero, List.set_cons_succ])
          (refine wpAnyH_take (i := 4) (oi := ?_) (v := ?_) ?_ (by kernel_rfl) (by kernel_rfl) (by kernel_rfl) ?_ (Or.inl ⟨?_, ?_⟩) (by assumption) ?_; rotate_left 2; (focus ((simp only [List.getElem?_toArray, List.getElem?_cons_succ, List.getElem?_cons_zero]); first | done | rfl)); (focus (exact fun _ _ _ h => h)); (focus rfl); (focus (intro wz hSw; (try dsimp only at hSw); go_simp; first | done | with_reducible rfl)); try simp only [Act.put, List.setIfInBounds_toArray, List.set_cons_zero, List.set_cons_succ])
          (refine wpAnyH_take (i := 5) (oi := ?_) (v := ?_) ?_ (by kernel_rfl) (by kernel_rfl) (by kernel_rfl) ?_ (Or.inl ⟨?_, ?_⟩) (by assumption) ?_; rotate_left 2; (focus ((simp only [List.getElem?_toArray, List.getElem?_cons_succ, List.getElem?_cons_zero]); first | done | rfl)); (focus (exact fun _ _ _ h => h)); (focus rfl); (focus (intro wz hSw; (try dsimp only at hSw); go_simp; first | done | with_reducible rfl)); try simp only [Act.put, List.setIfInBounds_toArray, List.set_cons_zero, List.set_cons_succ])
          refine wpAnyH_ready (rs := [1, 6]) (by kernel_rfl) (by simp) ?_
          refine AllReadyH.cons (o := ?_) ?_ (fun K hK => ?_) ?_
          rotate_left
          (focus ((simp only [List.getElem?_toArray, List.getElem?_cons_succ, List.getElem?_cons_zero]); first | done | rfl))
          · skip
            go_simp
            refine hK.out _ _ (HS0.out _ _ HA2.out.s4 HN2.out) (fun hHeld => ?_)
            clear hK K
            try simp only [Act.put, List.setIfInBounds_toArray, List.set_cons_zero, List.set_cons_succ]
            refine wpAnyH_ready (rs := [6]) (by kernel_rfl) (by simp) ?_
            refine AllReadyH.cons (o := ?_) ?_ (fun K hK => ?_) ?_
            rotate_left
            (focus ((simp only [List.getElem?_toArray, List.getElem?_cons_succ, List.getElem?_cons_zero]); first | done | rfl))
            · skip
              go_simp
              go_at_call 40
              refine (moved_any L p ak L.length ck _ (HOk.out.2.below HA2.out.below) rfl hL1 (by omega) HbL.out).mono ?_
              rintro e w5 ⟨g5, rfl, ho5, v5⟩
              have HA5 := Lib.hid (HA2.out.keep v5)
              have HN5 := Lib.hid (HN2.out.keep v5)
              have HO5 := Lib.hid ho5
              have e5 : w5.cell? ⟨w.heap.size + 1, 1, none⟩ = some (.slice aE1 E1.length cE1) := HA5.out.s4.at_ 1
              clear v5 ho5
              try go_wp2_with fail
              refine hK.out _ _ (HS0.out _ _ HA5.out.s4 HN5.out) (fun hHeld => ?_)
              clear hK K
              try simp only [Act.put, List.setIfInBounds_toArray, List.set_cons_zero, List.set_cons_succ]
              refine wpAnyH_ready (rs := [7]) (by kernel_rfl) (by simp) ?_
              refine AllReadyH.cons (o := ?_) ?_ (fun K hK => ?_) ?_
              rotate_left
              (focus ((simp only [List.getElem?_toArray, List.getElem?_cons_succ, List.getElem?_cons_zero]); first | done | rfl))
              · skip
                skip
                refine step_append_own9 (by rfl) _ _ _ (by rfl) w.heap.size 35 i0 (.agg #[.int .i64 0, .int .i64 0, .int .u64 0, .int .u64 0, .int .u64 0, .int .u64 0, .bool false]) 7 56 Try.underlying22 hi hz0 hz1 hz2 (by rfl) (by decide) _ E1.length (egs (E1.map En.z)) (by rfl) HA5.out.oe ⟨g5, 0, none⟩ L.length L.length (egs ((L.map (En.by p)).map En.z)) (by rfl) (own_full HO5.out).2.2.2 (World.news_of_block (cs := (egs ((L.map (En.by p)).map En.z)).toArray) (own_full HO5.out).1) (egs_one _) (by unfold maxLen; omega) (by omega) HA5.out.below.size ?_
                intro v6 w6 hown6 hgrow6
                obtain ⟨a6, c6, rfl⟩ := ownsRow_slice hown6
                have hs4 := HA5.out.s4.grown_own HA5.out.oe (by decide) hgrow6
                have hn6 := HN5.out.grown_own HA5.out.oe (by decide) hgrow6
                have HA7 := Lib.hid (HA5.out.app (L2 := (L.map (En.by p))) (vE' := .slice a6 (E1.length + L.length) c6) (by first | exact (by rw [List.length_map]; exact hown6) | (rw [List.length_append]; exact (by rw [List.length_map]; exact hown6))) hgrow6)
                have HN7 := Lib.hid (hn6.far (p := ⟨w.heap.size + 1, 1, none⟩) (by show wr.heap.size ≠ w.heap.size + 1; omega) (.slice a6 (E1.length + L.length) c6))
                have t3 : w6.cell? ⟨w.heap.size + 1, 1, none⟩ = some (.slice aE1 E1.length cE1) := hs4.at_ 1
                have f3 := hs4.thaw_ 1
                refine hK.out _ _ (HS0.out _ _ hs4 hn6) (fun hHeld => ?_)
                clear hK K hown6 hgrow6 hs4 hn6
                try simp only [Act.put, List.setIfInBounds_toArray, List.set_cons_zero, List.set_cons_succ]
                (refine wpAnyH_take (i := 8) (oi := ?_) (v := ?_) ?_ (by kernel_rfl) (by kernel_rfl) (by kernel_rfl) ?_ (Or.inl ⟨?_, ?_⟩) (by assumption) ?_; rotate_left 2; (focus ((simp only [List.getElem?_toArray, List.getElem?_cons_succ, List.getElem?_cons_zero]); first | done | rfl)); (focus (exact fun _ _ _ h => h)); (focus rfl); (focus (intro wz hSw; (try dsimp only at hSw); go_simp; first | done | with_reducible rfl)); try simp only [Act.put, List.setIfInBounds_toArray, List.set_cons_zero, List.set_cons_succ])
                refine wpAnyH_ready (rs := [9]) (by kernel_rfl) (by simp) ?_
                refine AllReadyH.cons (o := ?_) ?_ (fun K hK => ?_) ?_
                rotate_left
                (focus ((simp only [List.getElem?_toArray, List.getElem?_cons_succ, List.getElem?_cons_zero]); first | done | rfl))
                · skip
                  go_simp
                  refine hK.out _ _ (HS0.out _ _ HA7.out.s4 HN7.out) (fun hHeld => ?_)
                  clear hK K
                  try simp only [Act.put, List.setIfInBounds_toArray, List.set_cons_zero, List.set_cons_succ]
                  refine wpAnyH_done (by kernel_rfl) ?_ _
                  clear hHeld
                  go_wp2_with fail
                  go_meet
                  exact ⟨_, _, rfl, HA7.out, HN7.out⟩
                exact AllReadyH.nil
              exact AllReadyH.nil
            exact AllReadyH.nil
          refine AllReadyH.cons (o := ?_) ?_ (fun K hK => ?_) ?_
          rotate_left
          (focus ((simp only [List.getElem?_toArray, List.getElem?_cons_succ, List.getElem?_cons_zero]); first | done | rfl))
          · skip
            go_simp
            go_at_call 40
            refine (moved_any L p ak L.length ck _ (HOk.out.2.below HA2.out.below) rfl hL1 (by omega) HbL.out).mono ?_
            rintro e w5 ⟨g5, rfl, ho5, v5⟩
            have HA5 := Lib.hid (HA2.out.keep v5)
            have HN5 := Lib.hid (HN2.out.keep v5)
            have HO5 := Lib.hid ho5
            have e5 : w5.cell? ⟨w.heap.size + 1, 1, none⟩ = some (.slice aE1 E1.length cE1) := HA5.out.s4.at_ 1
            clear v5 ho5
            try go_wp2_with fail
            refine hK.out _ _ (HS0.out _ _ HA5.out.s4 HN5.out) (fun hHeld => ?_)
            clear hK K
            try simp only [Act.put, List.setIfInBounds_toArray, List.set_cons_zero, List.set_cons_succ]
            refine wpAnyH_ready (rs := [1]) (by kernel_rfl) (by simp) ?_
            refine AllReadyH.cons (o := ?_) ?_ (fun K hK => ?_) ?_
            rotate_left
            (focus ((simp only [List.getElem?_toArray, List.getElem?_cons_succ, List.getElem?_cons_zero]); first | done | rfl))
            · skip
              go_simp
              refine hK.out _ _ (HS0.out _ _ HA5.out.s4 HN5.out) (fun hHeld => ?_)
              clear hK K
              try simp only [Act.put, List.setIfInBounds_toArray, List.set_cons_zero, List.set_cons_succ]
              refine wpAnyH_ready (rs := [7]) (by kernel_rfl) (by simp) ?_
              refine AllReadyH.cons (o := ?_) ?_ (fun K hK => ?_) ?_
              rotate_left
              (focus ((simp only [List.getElem?_toArray, List.getElem?_cons_succ, List.getElem?_cons_zero]); first | done | rfl))
              · skip
                skip
                refine step_append_own9 (by rfl) _ _ _ (by rfl) w.heap.size 35 i0 (.agg #[.int .i64 0, .int .i64 0, .int .u64 0, .int .u64 0, .int .u64 0, .int .u64 0, .bool false]) 7 56 Try.underlying22 hi hz0 hz1 hz2 (by rfl) (by decide) _ E1.length (egs (E1.map En.z)) (by rfl) HA5.out.oe ⟨g5, 0, none⟩ L.length L.length (egs ((L.map (En.by p)).map En.z)) (by rfl) (own_full HO5.out).2.2.2 (World.news_of_block (cs := (egs ((L.map (En.by p)).map En.z)).toArray) (own_full HO5.out).1) (egs_one _) (by unfold maxLen; omega) (by omega) HA5.out.below.size ?_
                intro v6 w6 hown6 hgrow6
                obtain ⟨a6, c6, rfl⟩ := ownsRow_slice hown6
                have hs4 := HA5.out.s4.grown_own HA5.out.oe (by decide) hgrow6
                have hn6 := HN5.out.grown_own HA5.out.oe (by decide) hgrow6
                have HA7 := Lib.hid (HA5.out.app (L2 := (L.map (En.by p))) (vE' := .slice a6 (E1.length + L.length) c6) (by first | exact (by rw [List.length_map]; exact hown6) | (rw [List.length_append]; exact (by rw [List.length_map]; exact hown6))) hgrow6)
                have HN7 := Lib.hid (hn6.far (p := ⟨w.heap.size + 1, 1, none⟩) (by show wr.heap.size ≠ w.heap.size + 1; omega) (.slice a6 (E1.length + L.length) c6))
                have t3 : w6.cell? ⟨w.heap.size + 1, 1, none⟩ = some (.slice aE1 E1.length cE1) := hs4.at_ 1
                have f3 := hs4.thaw_ 1
                refine hK.out _ _ (HS0.out _ _ hs4 hn6) (fun hHeld => ?_)
                clear hK K hown6 hgrow6 hs4 hn6
                try simp only [Act.put, List.setIfInBounds_toArray, List.set_cons_zero, List.set_cons_succ]
                (refine wpAnyH_take (i := 8) (oi := ?_) (v := ?_) ?_ (by kernel_rfl) (by kernel_rfl) (by kernel_rfl) ?_ (Or.inl ⟨?_, ?_⟩) (by assumption) ?_; rotate_left 2; (focus ((simp only [List.getElem?_toArray, List.getElem?_cons_succ, List.getElem?_cons_zero]); first | done | rfl)); (focus (exact fun _ _ _ h => h)); (focus rfl); (focus (intro wz hSw; (try dsimp only at hSw); go_simp; first | done | with_reducible rfl)); try simp only [Act.put, List.setIfInBounds_toArray, List.set_cons_zero, List.set_cons_succ])
                refine wpAnyH_ready (rs := [9]) (by kernel_rfl) (by simp) ?_
                refine AllReadyH.cons (o := ?_) ?_ (fun K hK => ?_) ?_
                rotate_left
                (focus ((simp only [List.getElem?_toArray, List.getElem?_cons_succ, List.getElem?_cons_zero]); first | done | rfl))
                · skip
                  go_simp
                  refine hK.out _ _ (HS0.out _ _ HA7.out.s4 HN7.out) (fun hHeld => ?_)
                  clear hK K
                  try simp only [Act.put, List.setIfInBounds_toArray, List.set_cons_zero, List.set_cons_succ]
                  refine wpAnyH_done (by kernel_rfl) ?_ _
                  clear hHeld
                  go_wp2_with fail
                  go_meet
                  exact ⟨_, _, rfl, HA7.out, HN7.out⟩
                exact AllReadyH.nil
              exact AllReadyH.nil
            exact AllReadyH.nil
          exact AllReadyH.nil
          -- END7
        case rest =>
          obtain ⟨aE2, cE2, rfl, hA2, hN2⟩ := hcut
          obtain ⟨E2, hE2⟩ : ∃ E2, E1 ++ L.map (En.by p) = E2 := ⟨_, rfl⟩
          have hE2l : E2.length = E1.length + L.length := by rw [← hE2]; simp
          have HE2 := Lib.hid hE2
          rw [hE2, ← hE2l] at hA2
          have HA3 := Lib.hid hA2
          have HN3 := Lib.hid hN2
          clear hA2 hN2 hE2 hE2l HA1 HN1 z0 z1 z2 z3 HbL
          obtain ⟨z0, z1, z2, z3⟩ := HA3.out.s4.cells4
          obtain ⟨y0, y1, y2, y3⟩ := HN3.out.cells4
          have hO1 := HA3.out.ol
          have hs1 := HA3.out.below.size
          obtain ⟨i1, hi1, hy0, hy1, hy2⟩ := info_parts Try.info_int9
          go_wp2_with (at_builtin; refine wpList_append_own _ rfl _ _ 43 rfl w.heap.size 3 i1 (.int .i64 0) 1 8 Try.underlying43 hi1 hy0 hy1 hy2 rfl (by decide) _ _ _ rfl (hO1.alloc _) ⟨wc.heap.size, 0, none⟩ 1 1 [.int .i64 ((p : Int) + (T : Int))] rfl rfl (cell_one_new _ _ _) ?d2 ?d3 ?d4 ?d5 ?_)
          case d2 => simp [Value.oneCell']
          case d3 => unfold maxLen; omega
          case d4 => omega
          case d5 => simp; omega
          intro v6 w6 hown6 hgrow6 _
          obtain ⟨a6, c6, rfl⟩ := ownsRow_slice hown6
          have hF := HA3.out.last (N := N) (t := p + T) hown6 hgrow6
          have hk1 : k + 1 ≤ n := by omega
          have HF : Hid (UnA w (uo M (k + 1)) (uE M (k + 1)) (k + 1) (ula M (k + 1)) (.slice aE2 (uE M (k + 1)).length cE2) (.slice a6 (k + 1) c6) (w6.setCell ⟨w.heap.size + 1, 0, none⟩ (.int .i64 ((p : Int) + (N : Int))))) := by
            show UnA _ _ _ _ _ _ _ _
            rw [HSu.out.1, HSu.out.2.1, HSu.out.2.2]
            have e : E ++ [fre 0 (p + F)] ++ L.map (En.by p) = E2 := by rw [HE1.out, HE2.out]
            rw [e]
            exact hF
          have al1 := al wc (.cells #[.int .i64 ((p : Int) + (T : Int))] 3)
          have hs4 := (HA3.out.s4.keep al1).grown_own (ownsRow_keep hO1 al1) (by decide) hgrow6
          have hs7 := (HN3.out.keep al1).grown_own (ownsRow_keep hO1 al1) (by decide) hgrow6
          clear z0 z1 z2 z3 y0 y1 y2 y3 hF al1
          obtain ⟨z0, z1, z2, z3⟩ := hs4.cells4
          obtain ⟨y0, y1, y2, y3⟩ := hs7.cells4
          have f0 := hs4.thaw_ 0
          clear hown6 hgrow6 hs4 hs7 hO1 HA3 HN3
          go_wp2_with fail
          go_roundw
          case rel => exact ⟨k + 1, aE2, cE2, a6, c6, by go_num, hk1, rfl, HF⟩
          case measure => simp [intOf]; omega
    · obtain rfl : k = n := by omega
      obtain ⟨z0, z1, z2, z3⟩ := HA.out.s4.cells4
      obtain ⟨x0, x1, x2, x3, g0, g1, g2, g3⟩ := row4 HA.out.s2
      obtain ⟨E, hE⟩ : ∃ E, uE M k = E := ⟨_, rfl⟩
      obtain ⟨p, hp⟩ : ∃ p, uo M k = p := ⟨_, rfl⟩
      rw [hE, hp] at HA
      rw [hp] at z0
      rw [hE] at z1
      have HSf : Hid (St ((((wr.setCell ⟨w.heap.size, 0, none⟩ (.int .i64 ((p : Nat) : Int))).setCell ⟨w.heap.size, 1, none⟩ (.slice aE E.length cE)).setCell ⟨w.heap.size, 2, none⟩ (.int .i64 0)).setCell ⟨w.heap.size, 3, none⟩ (.int .i64 0)) 24 w.heap.size #[.int .i64 ((p : Nat) : Int), .slice aE E.length cE, .int .i64 0, .int .i64 0]) := HA.out.s2.set4 _ _ _ _
      have HF := Lib.hid (And.intro (own_set4n HA.out.oe HA.out.s2 (by decide) (.int .i64 ((p : Nat) : Int)) (.slice aE E.length cE) (.int .i64 0) (.int .i64 0)) (And.intro (own_set4n HA.out.ol HA.out.s2 (by decide) (.int .i64 ((p : Nat) : Int)) (.slice aE E.length cE) (.int .i64 0) (.int .i64 0)) (below4 HA.out.below (Nat.le_refl _) (.int .i64 ((p : Nat) : Int)) (.slice aE E.length cE) (.int .i64 0) (.int .i64 0))))
      go_wp2_with fail
      generalize (((wr.setCell ⟨w.heap.size, 0, none⟩ (.int .i64 ((p : Nat) : Int))).setCell ⟨w.heap.size, 1, none⟩ (.slice aE E.length cE)).setCell ⟨w.heap.size, 2, none⟩ (.int .i64 0)).setCell ⟨w.heap.size, 3, none⟩ (.int .i64 0) = Wf at HF HSf ⊢
      obtain ⟨v0, v1, v2, v3⟩ := HSf.out.cells4
      rw [hE, hp]
      exact bodyPost_ret (v := .tuple #[.agg #[.int .i64 ((p : Nat) : Int), .slice aE E.length cE, .int .i64 0, .int .i64 0], .slice aL k cL]) (by simp [results, Try.results19, go_sem, v0, v1, v2, v3]) rfl ⟨aE, cE, aL, cL, rfl, HF.out.1, HF.out.2.1, HF.out.2.2⟩
end Go.Proofs.Ythidhkaeebakjaa
