import Derived.Test.YtkdhdlokilgccaaZMem
import Derived.Test.YtkdhdlokilgccaaZOnesMath
import Derived.Test.YtkdhdlokilgccaaZStart
import Derived.IntWalk
import Derived.Laws.Bits128
import Derived.Laws.StructEq
import Derived.BigQuiet
import Derived.WalkSmall
import Derived.Deep.QuietTactic
import Derived.Deep.RegionHeld3
namespace Go.Proofs.Ytkdhdlokilgccaa
open Go.RowKit

theorem wrap_nat (x : Nat) (h : x < 18446744073709551616) : IntKind.u64.wrap (x : Int) = (x : Int) := by
  simp only [IntKind.wrap, IntKind.bits, IntKind.signed]
  simp
  omega
theorem and_nat (x : Nat) (m : Nat) (hx : x < 18446744073709551616) (hm : m < 18446744073709551616) : bits .and .u64 (x : Int) (m : Int) = ((x &&& m : Nat) : Int) := u64_and_nat x m hx hm

/-- One step to the right, of n digits of 8 bits of which the last is followed by none. -/
theorem dg_next (f : Nat → Nat) (h : ∀ i, f i < 256) (z : f 8 = 0) : dg f 8 8 / 256 = dg (fun i => f (i + 1)) 8 8 := by
  have h1 := dg_shift f 8 8 (h 0)
  rw [show dg f 8 (8 + 1) = dg f 8 8 by rw [dg, z]; simp] at h1
  exact h1
theorem fold8 (f : Nat → Nat) (h : ∀ i, f i ≤ 8) (z : ∀ i, 8 ≤ i → f i = 0) :
    ∃ y t u, y = dg f 8 8 + dg f 8 8 / 256 ∧ t = y + y / 65536 ∧ u = t + t / 4294967296 ∧ y < 18446744073709551616 ∧ t < 18446744073709551616 ∧ u < 9223372036854775808 ∧ u % 128 = f 0 + f 1 + f 2 + f 3 + f 4 + f 5 + f 6 + f 7 := by
  have a1 : ∀ i, (fun i => f i + f (i + 1)) i ≤ 16 := fun i => Nat.add_le_add (h i) (h (i + 1))
  have z1 : ∀ i, 8 ≤ i → (fun i => f i + f (i + 1)) i = 0 := fun i hi => by show f i + f (i + 1) = 0; rw [z i hi, z (i + 1) (Nat.le_succ_of_le hi)]
  have e1 : dg f 8 8 + dg f 8 8 / 256 = dg (fun i => f i + f (i + 1)) 8 8 := by
    rw [dg_next f (fun i => Nat.lt_of_le_of_lt (h i) (by decide)) (z 8 (Nat.le_refl _)), dg_add]
  have g1 : ∃ g : Nat → Nat, g = fun i => f i + f (i + 1) := ⟨_, rfl⟩
  obtain ⟨g, hg⟩ := g1
  rw [← hg] at a1 z1 e1
  have s1 : ∀ i, g i < 256 := fun i => Nat.lt_of_le_of_lt (a1 i) (by decide)
  have e2 : dg g 8 8 / 65536 = dg (fun i => g (i + 2)) 8 8 := by
    rw [show 65536 = 256 * 256 by rfl, ← Nat.div_div_eq_div_mul, dg_next g s1 (z1 8 (by decide)), dg_next (fun i => g (i + 1)) (fun i => s1 (i + 1)) (z1 9 (by decide))]
  have e3 : dg g 8 8 + dg g 8 8 / 65536 = dg (fun i => g i + g (i + 2)) 8 8 := by rw [e2, dg_add]
  have a2 : ∀ i, (fun i => g i + g (i + 2)) i ≤ 32 := fun i => Nat.add_le_add (a1 i) (a1 (i + 2))
  have z2 : ∀ i, 8 ≤ i → (fun i => g i + g (i + 2)) i = 0 := fun i hi => by show g i + g (i + 2) = 0; rw [z1 i hi, z1 (i + 2) (Nat.le_add_right_of_le hi)]
  have g2 : ∃ k : Nat → Nat, k = fun i => g i + g (i + 2) := ⟨_, rfl⟩
  obtain ⟨k, hk⟩ := g2
  rw [← hk] at a2 z2 e3
  have s2 : ∀ i, k i < 256 := fun i => Nat.lt_of_le_of_lt (a2 i) (by decide)
  have e4 : dg k 8 8 / 4294967296 = dg (fun i => k (i + 4)) 8 8 := by
    rw [show 4294967296 = 256 * 256 * 256 * 256 by rfl, ← Nat.div_div_eq_div_mul, ← Nat.div_div_eq_div_mul, ← Nat.div_div_eq_div_mul, dg_next k s2 (z2 8 (by decide)), dg_next (fun i => k (i + 1)) (fun i => s2 (i + 1)) (z2 9 (by decide)), dg_next (fun i => k (i + 1 + 1)) (fun i => s2 (i + 1 + 1)) (z2 10 (by decide)), dg_next (fun i => k (i + 1 + 1 + 1)) (fun i => s2 (i + 1 + 1 + 1)) (z2 11 (by decide))]
  have e5 : dg k 8 8 + dg k 8 8 / 4294967296 = dg (fun i => k i + k (i + 4)) 8 8 := by rw [e4, dg_add]
  have a3 : ∀ i, (fun i => k i + k (i + 4)) i ≤ 64 := fun i => Nat.add_le_add (a2 i) (a2 (i + 4))
  have g3 : ∃ m : Nat → Nat, m = fun i => k i + k (i + 4) := ⟨_, rfl⟩
  obtain ⟨m, hm⟩ := g3
  rw [← hm] at a3 e5
  have s3 : ∀ i, m i < 2 ^ 8 := fun i => Nat.lt_of_le_of_lt (a3 i) (by decide)
  have hsum : m 0 = f 0 + f 1 + f 2 + f 3 + f 4 + f 5 + f 6 + f 7 := by
    subst hm
    show k 0 + k 4 = _
    subst hk
    show g 0 + g 2 + (g 4 + g 6) = _
    subst hg
    show f 0 + f 1 + (f 2 + f 3) + (f 4 + f 5 + (f 6 + f 7)) = _
    omega
  refine ⟨dg g 8 8, dg k 8 8, dg m 8 8, e1.symm, e3.symm, e5.symm, dg_lt g 8 s1 8, dg_lt k 8 s2 8, ?_, ?_⟩
  · have h7 := dg_lt m 8 s3 7
    have h8 := a3 7
    have e : dg m 8 8 = 2 ^ (8 * 7) * m 7 + dg m 8 7 := rfl
    rw [e]
    generalize dg m 8 7 = A at h7
    generalize m 7 = B at h8
    have h9 : 2 ^ (8 * 7) * B ≤ 2 ^ (8 * 7) * 64 := Nat.mul_le_mul_left _ h8
    omega
  · have e := dg_down m 8 7
    have h8 := a3 0
    rw [hsum] at e h8
    rw [show dg m 8 8 = dg m 8 (7 + 1) from rfl, e]
    generalize dg (fun i => m (i + 1)) 8 7 = A
    generalize f 0 + f 1 + f 2 + f 3 + f 4 + f 5 + f 6 + f 7 = B at h8
    omega

end Go.Proofs.Ytkdhdlokilgccaa

namespace Go.Proofs.Ytkdhdlokilgccaa
open Go.RowKit

theorem cnt_lst (p : Nat → Bool) (j n : Nat) (hn : n ≤ 64) : (lst p (64 * j + n)).length = (lst p (64 * j)).length + cnt p j n := by
  induction n with
  | zero => simp [cnt, sm]
  | succ n ih =>
    have e : cnt p j (n + 1) = cnt p j n + bt p j n := rfl
    rw [e, show 64 * j + (n + 1) = 64 * j + n + 1 by omega]
    rcases hp : p (64 * j + n) with _ | _
    · rw [lst_no _ _ hp, ih (by omega)]; simp [bt, hp]
    · rw [lst_yes _ _ hp, List.length_append, ih (by omega)]; simp [bt, hp, (by omega : n < 64)]; omega
/-- How many bytes of the first k words are in a set. -/
def tot (p : Nat → Bool) (k : Nat) : Nat := (lst p (64 * k)).length
theorem tot_succ (p : Nat → Bool) (k : Nat) : tot p (k + 1) = tot p k + cnt p k 64 := by
  unfold tot
  rw [show 64 * (k + 1) = 64 * k + 64 by omega, cnt_lst p k 64 (Nat.le_refl _)]
theorem tot_le (p : Nat → Bool) (k : Nat) : tot p k ≤ 64 * k := lst_le p (64 * k)
theorem cnt_le (p : Nat → Bool) (k : Nat) : cnt p k 64 ≤ 1000 := by
  have h : ∀ n, cnt p k n ≤ n := by
    intro n
    induction n with
    | zero => simp [cnt, sm]
    | succ n ih =>
      have e : cnt p k (n + 1) = cnt p k n + bt p k n := rfl
      have : bt p k n ≤ 1 := by unfold bt; split <;> (try split) <;> omega
      omega
  have := h 64
  omega

structure BoxAt (w : World) (p : Nat → Bool) (wr : World) : Prop where
  s0 : St wr 28 w.heap.size #[.int .u64 ((wd p 0 : Nat) : Int), .int .u64 ((wd p 1 : Nat) : Int), .int .u64 ((wd p 2 : Nat) : Int), .int .u64 ((wd p 3 : Nat) : Int)]
  below : Below w.heap.size w wr

end Go.Proofs.Ytkdhdlokilgccaa

namespace Go.Proofs.Ytkdhdlokilgccaa
open Go.RowKit

theorem run_part_u64 (w : World) (cs : Array Value) (i : Nat) (v : Value) (h : cs[i]? = some v) : (part 26 cs i).run Try.prog w = .ok v w := by
  have hag : (isAgg 26).run Try.prog w = .ok false w := by kernel_rfl
  unfold part
  simp [hag, h]
theorem run_eq_set_at (d : Nat) (hw : ∀ (w : World) (a b : Int), (Op.equalIn d 26 (.int .u64 a) (.int .u64 b)).run Try.prog w = .ok (a == b) w) (w : World) (a0 a1 a2 a3 b0 b1 b2 b3 : Int) :
    (Op.equalIn (d + 1) 28 (.agg #[.int .u64 a0, .int .u64 a1, .int .u64 a2, .int .u64 a3]) (.agg #[.int .u64 b0, .int .u64 b1, .int .u64 b2, .int .u64 b3])).run Try.prog w = .ok (a0 == b0 && (a1 == b1 && (a2 == b2 && a3 == b3))) w := by
  have hu : Try.prog.underlying 28 = some (.array 4 26) := by kernel_rfl
  have hsz : ∀ w, (sizeOf 26).run Try.prog w = .ok 1 w := fun w => by kernel_rfl
  simp only [Op.equalIn, Sem.run_bind, run_underlying hu, Result.andThen_ok, hsz]
  simp only [Std.Legacy.Range.forIn_eq_forIn_range', Std.Legacy.Range.size, List.range']
  have p0 : ∀ (w : World) (c0 c1 c2 c3 : Int), (part 26 #[.int .u64 c0, .int .u64 c1, .int .u64 c2, .int .u64 c3] (0 * 1)).run Try.prog w = .ok (.int .u64 c0) w := fun w c0 c1 c2 c3 => run_part_u64 w _ _ _ rfl
  have p1 : ∀ (w : World) (c0 c1 c2 c3 : Int), (part 26 #[.int .u64 c0, .int .u64 c1, .int .u64 c2, .int .u64 c3] ((0 + 1) * 1)).run Try.prog w = .ok (.int .u64 c1) w := fun w c0 c1 c2 c3 => run_part_u64 w _ _ _ rfl
  have p2 : ∀ (w : World) (c0 c1 c2 c3 : Int), (part 26 #[.int .u64 c0, .int .u64 c1, .int .u64 c2, .int .u64 c3] ((0 + 1 + 1) * 1)).run Try.prog w = .ok (.int .u64 c2) w := fun w c0 c1 c2 c3 => run_part_u64 w _ _ _ rfl
  have p3 : ∀ (w : World) (c0 c1 c2 c3 : Int), (part 26 #[.int .u64 c0, .int .u64 c1, .int .u64 c2, .int .u64 c3] ((0 + 1 + 1 + 1) * 1)).run Try.prog w = .ok (.int .u64 c3) w := fun w c0 c1 c2 c3 => run_part_u64 w _ _ _ rfl
  simp only [List.forIn_cons, List.forIn_nil, Sem.run_bind, p0, hw, Result.andThen_ok]
  cases h0 : (a0 == b0)
  · simp [Result.andThen]
  · cases h1 : (a1 == b1)
    · simp [Result.andThen, p1, hw, h1]
    · cases h2 : (a2 == b2)
      · simp [Result.andThen, p1, p2, hw, h1, h2]
      · cases h3 : (a3 == b3)
        · simp [Result.andThen, p1, p2, p3, hw, h1, h2, h3]
        · simp [Result.andThen, p1, p2, p3, hw, h1, h2, h3]
theorem run_eq_set (w : World) (a0 a1 a2 a3 b0 b1 b2 b3 : Int) :
    (Op.equalIn 10000 28 (.agg #[.int .u64 a0, .int .u64 a1, .int .u64 a2, .int .u64 a3]) (.agg #[.int .u64 b0, .int .u64 b1, .int .u64 b2, .int .u64 b3])).run Try.prog w = .ok (a0 == b0 && (a1 == b1 && (a2 == b2 && a3 == b3))) w :=
  run_eq_set_at 9999 (fun w a b => run_equalIn_int w 9998 26 .u64 .u64 a b Try.underlying26) w a0 a1 a2 a3 b0 b1 b2 b3
end Go.Proofs.Ytkdhdlokilgccaa

namespace Go.Proofs.Ytkdhdlokilgccaa
open Go.RowKit

theorem set_none (p : Nat → Bool) : (((wd p 0 : Nat) : Int) == 0 && (((wd p 1 : Nat) : Int) == 0 && (((wd p 2 : Nat) : Int) == 0 && ((wd p 3 : Nat) : Int) == 0))) = decide ((lst p 256).length = 0) := by
  have h := wd_iff p (fun _ => false)
  simp only [wd_none] at h
  have e : (∀ b, b < 256 → p b = false) ↔ (lst p 256).length = 0 := by
    constructor
    · intro h1
      refine List.length_eq_zero_iff.2 (List.eq_nil_iff_forall_not_mem.2 fun x hx => ?_)
      have := (lst_mem p 256 x).1 hx
      rw [h1 x this.1] at this; simp at this
    · intro h1 b hb
      have e : lst p 256 = [] := List.length_eq_zero_iff.1 h1
      rcases hp : p b with _ | _
      · rfl
      · have := (lst_mem p 256 b).2 ⟨hb, hp⟩
        rw [e] at this; simp at this
  rw [e] at h
  rw [Bool.eq_iff_iff]
  simp only [Bool.and_eq_true, beq_iff_eq, decide_eq_true_eq, ← h]
  omega
theorem empty_any (p : Nat → Bool) (w : World) :
    Calls Try.prog 56 #[(.agg #[.int .u64 ((wd p 0 : Nat) : Int), .int .u64 ((wd p 1 : Nat) : Int), .int .u64 ((wd p 2 : Nat) : Int), .int .u64 ((wd p 3 : Nat) : Int)])] w fun e w' => e = .returned (.bool (decide ((lst p 256).length = 0))) ∧ Below w.heap.size w w' := by
  have heq := run_eq_set
  have HS := Lib.hid (set_none p)
  go_enter Try.func56, Try.ntmps56
  go_wp2_with fail
  go_ret
  exact ⟨congrArg (fun b => Ending.returned (.bool b)) HS.out, (Below.refl _ _).alloc (Nat.le_refl _) _⟩
end Go.Proofs.Ytkdhdlokilgccaa

namespace Go.Proofs.Ytkdhdlokilgccaa
open Go.RowKit

theorem empty_is (p : Nat → Bool) (b : Bool) (h : noneB p = b) (w : World) :
    Calls Try.prog 56 #[(.agg #[.int .u64 ((wd p 0 : Nat) : Int), .int .u64 ((wd p 1 : Nat) : Int), .int .u64 ((wd p 2 : Nat) : Int), .int .u64 ((wd p 3 : Nat) : Int)])] w fun e w' => e = .returned (.bool b) ∧ Below w.heap.size w w' := by
  subst h
  exact empty_any p w
theorem chkGo_step (l : List Pc) (k : Nat) (hk : k < l.length) (n : Int) : chkGo (l.drop k) n = if okPc l[k] n = true then chkGo (l.drop (k + 1)) (n + 1 - takesZ l[k].k) else none := by
  rw [List.drop_eq_getElem_cons hk]
  rfl
theorem chkGo_end (l : List Pc) (k : Nat) (hk : l.length ≤ k) (n : Int) : chkGo (l.drop k) n = some n := by
  rw [List.drop_eq_nil_of_le hk]; rfl
theorem chkT_of (l : List Pc) (h : ¬ 400 < l.length) (o : Option Int) (ho : chkGo l 0 = o) : chkT l = if o = some 1 then 0 else 5 := by
  unfold chkT; rw [if_neg h, ho]

/-- A piece in a block of its own. -/
theorem piece_cells (w : World) (x : Pc) : (w.alloc (.cells #[.int .i64 x.k, .int .u64 ((wd x.p 0 : Nat) : Int), .int .u64 ((wd x.p 1 : Nat) : Int), .int .u64 ((wd x.p 2 : Nat) : Int), .int .u64 ((wd x.p 3 : Nat) : Int)] 66)).cell? ⟨w.heap.size, 0, none⟩ = some (.int .i64 x.k) ∧ (w.alloc (.cells #[.int .i64 x.k, .int .u64 ((wd x.p 0 : Nat) : Int), .int .u64 ((wd x.p 1 : Nat) : Int), .int .u64 ((wd x.p 2 : Nat) : Int), .int .u64 ((wd x.p 3 : Nat) : Int)] 66)).cell? ⟨w.heap.size, 1, none⟩ = some (.int .u64 ((wd x.p 0 : Nat) : Int)) ∧ (w.alloc (.cells #[.int .i64 x.k, .int .u64 ((wd x.p 0 : Nat) : Int), .int .u64 ((wd x.p 1 : Nat) : Int), .int .u64 ((wd x.p 2 : Nat) : Int), .int .u64 ((wd x.p 3 : Nat) : Int)] 66)).cell? ⟨w.heap.size, 2, none⟩ = some (.int .u64 ((wd x.p 1 : Nat) : Int)) ∧
    (w.alloc (.cells #[.int .i64 x.k, .int .u64 ((wd x.p 0 : Nat) : Int), .int .u64 ((wd x.p 1 : Nat) : Int), .int .u64 ((wd x.p 2 : Nat) : Int), .int .u64 ((wd x.p 3 : Nat) : Int)] 66)).cell? ⟨w.heap.size, 3, none⟩ = some (.int .u64 ((wd x.p 2 : Nat) : Int)) ∧ (w.alloc (.cells #[.int .i64 x.k, .int .u64 ((wd x.p 0 : Nat) : Int), .int .u64 ((wd x.p 1 : Nat) : Int), .int .u64 ((wd x.p 2 : Nat) : Int), .int .u64 ((wd x.p 3 : Nat) : Int)] 66)).cell? ⟨w.heap.size, 4, none⟩ = some (.int .u64 ((wd x.p 3 : Nat) : Int)) := by
  have h := St.new w 66 #[.int .i64 x.k, .int .u64 ((wd x.p 0 : Nat) : Int), .int .u64 ((wd x.p 1 : Nat) : Int), .int .u64 ((wd x.p 2 : Nat) : Int), .int .u64 ((wd x.p 3 : Nat) : Int)]
  refine ⟨?_, ?_, ?_, ?_, ?_⟩ <;> (rw [cell_of_row _ _ _ _ _ _ h]; rfl)

set_option maxHeartbeats 4000000 in
set_option maxRecDepth 100000 in
theorem check_any (l : List Pc) (a : Option Addr) (n cap : Nat) (w : World) (hL : RxAt w a l) (hn : l.length = n) (hmax : n ≤ maxLen) :
    Calls Try.prog 33 #[.slice a n cap] w fun e w' => e = .returned (.int .i64 ((chkT l : Nat) : Int)) ∧ Below w.heap.size w w' := by
  unfold maxLen at hmax
  by_cases hbig : 400 < n
  · have HZ : Hid (chkT l = 6) := by show _ = _; unfold chkT; rw [if_pos (by omega)]
    go_enter Try.func33, Try.ntmps33
    go_wp2_with fail
    go_ret
    exact ⟨by rw [HZ.out]; rfl, Below.refl _ _⟩
  have HC := Lib.hid (fun o => chkT_of l (by omega) o)
  have HN := Lib.hid hn
  have HL := Lib.hid hL
  clear hn hL
  go_enter Try.func33, Try.ntmps33
  go_wp2_with fail
  go_loopw [3, 12] (fun v i wr => ∃ (k : Nat) (m : Int), i = .int .i64 k ∧ k ≤ n ∧ v = .int .i64 m ∧ 0 ≤ m ∧ m ≤ k ∧ Hid (chkGo l 0 = chkGo (l.drop k) m) ∧ Below w.heap.size w wr) (fun _ i _ => n - (intOf i).toNat)
  case atStart => exact ⟨0, 0, rfl, Nat.zero_le _, rfl, by omega, by omega, rfl, Below.refl _ _⟩
  case round =>
    obtain ⟨k, m, rfl, hk, rfl, hm0, hmk, HG, hbel⟩ := hrel
    by_cases hlt : k < n
    · have hkl : k < l.length := by rw [HN.out]; exact hlt
      obtain ⟨g, off, rfl, hg, c0, c1, c2, c3, c4⟩ := (HL.out.below (hbel.mono (Nat.le_refl _))).get k hkl
      have HS := Lib.hid (chkGo_step l k hkl m)
      have hbw := hbel.size
      generalize l[k] = x at c0 c1 c2 c3 c4 HS
      obtain ⟨t, ht⟩ : ∃ t, takesZ x.k = t := ⟨_, rfl⟩
      have ht1 : -1 ≤ t ∧ t ≤ 2 := by have := takesZ_cases x.k; omega
      have HT := Lib.hid ht
      clear ht hkl
      go_wp2_with fail
      refine (takes_any _ _).mono ?_
      rintro e w1 ⟨rfl, rfl⟩
      rw [HT.out]
      have HW : Hid (∀ W, Below (wr.alloc (.cells #[.int .i64 x.k, .int .u64 ((wd x.p 0 : Nat) : Int), .int .u64 ((wd x.p 1 : Nat) : Int), .int .u64 ((wd x.p 2 : Nat) : Int), .int .u64 ((wd x.p 3 : Nat) : Int)] 66)).heap.size (wr.alloc (.cells #[.int .i64 x.k, .int .u64 ((wd x.p 0 : Nat) : Int), .int .u64 ((wd x.p 1 : Nat) : Int), .int .u64 ((wd x.p 2 : Nat) : Int), .int .u64 ((wd x.p 3 : Nat) : Int)] 66)) W → Below w.heap.size w W) := fun W h => (hbel.alloc hbw _).trans (h.mono (by simp; omega))
      obtain ⟨d0, d1, d2, d3, d4⟩ := piece_cells wr x
      by_cases h1 : t < 0 ∨ m < t
      · have HZ : Hid (chkT l = 5) := by
          show _ = _
          rw [HC.out none (by rw [HG.out, HS.out, if_neg]; simp [okPc, HT.out]; omega), if_neg (by simp)]
        rcases (by omega : t < 0 ∨ (0 ≤ t ∧ m < t)) with h2 | ⟨h2, h3⟩
        · have g1 : decide (t < 0) = true := by simp; omega
          clear h1
          go_wp2_with fail
          generalize hW2 : wr.alloc (.cells #[.int .i64 x.k, .int .u64 ((wd x.p 0 : Nat) : Int), .int .u64 ((wd x.p 1 : Nat) : Int), .int .u64 ((wd x.p 2 : Nat) : Int), .int .u64 ((wd x.p 3 : Nat) : Int)] 66) = W2 at HW d0 d1 d2 d3 d4 ⊢
          clear hW2 c0 c1 c2 c3 c4
          go_quiet (fail)
          go_wp2_with fail
          go_ret
          exact ⟨by rw [HZ.out]; rfl, HW.out _ (below_drewN (Below.refl _ _) _)⟩
        · have g1 : decide (t < 0) = false := by simp; omega
          have g2 : decide (m < t) = true := by simp; omega
          clear h1
          go_wp2_with fail
          generalize hW2 : wr.alloc (.cells #[.int .i64 x.k, .int .u64 ((wd x.p 0 : Nat) : Int), .int .u64 ((wd x.p 1 : Nat) : Int), .int .u64 ((wd x.p 2 : Nat) : Int), .int .u64 ((wd x.p 3 : Nat) : Int)] 66) = W2 at HW d0 d1 d2 d3 d4 ⊢
          clear hW2 c0 c1 c2 c3 c4
          go_quiet (fail)
          go_wp2_with fail
          go_ret
          exact ⟨by rw [HZ.out]; rfl, HW.out _ (below_drewN (Below.refl _ _) _)⟩
      have h2 : 0 ≤ t := by omega
      have h3 : t ≤ m := by omega
      clear h1
      have g1 : decide (t < 0) = false := by simp; omega
      have g2 : decide (m < t) = false := by simp; omega
      have HO : Hid (okPc x m = okSet x) := by
        show _ = _
        simp [okPc, HT.out, decide_eq_true h2, decide_eq_true h3]
      obtain ⟨b, hb⟩ : ∃ b, noneB x.p = b := ⟨_, rfl⟩
      obtain ⟨b1, hb1⟩ : ∃ b1, (x.k == 1) = b1 := ⟨_, rfl⟩
      have HB := Lib.hid hb
      have HS2 : Hid (okSet x = (b != b1)) := by show _ = _; unfold okSet; rw [hb, hb1]
      clear hb
      rcases b1 with _ | _ <;> rcases b with _ | _
      rotate_left
      rotate_left
      rotate_left
      all_goals
        go_wp2_with fail
        generalize hW2 : wr.alloc (.cells #[.int .i64 x.k, .int .u64 ((wd x.p 0 : Nat) : Int), .int .u64 ((wd x.p 1 : Nat) : Int), .int .u64 ((wd x.p 2 : Nat) : Int), .int .u64 ((wd x.p 3 : Nat) : Int)] 66) = W2 at HW d0 d1 d2 d3 d4 ⊢
        clear hW2 c0 c1 c2 c3 c4
        have hh : Below W2.heap.size W2 W2.drew := (Below.refl _ _).drew
        have hlt2 : wr.heap.size < W2.heap.size := by
          by_cases h : wr.heap.size < W2.heap.size
          · exact h
          · simp [World.cell?, Array.getElem?_eq_none (by omega : W2.heap.size ≤ wr.heap.size)] at d0
        have HD := Lib.hid (And.intro d0 (And.intro d1 (And.intro d2 (And.intro d3 d4))))
        go_region_held3 (fun W' => W'.cell? ⟨wr.heap.size, 0, none⟩ = some (.int .i64 x.k) ∧ W'.cell? ⟨wr.heap.size, 1, none⟩ = some (.int .u64 ((wd x.p 0 : Nat) : Int)) ∧ W'.cell? ⟨wr.heap.size, 2, none⟩ = some (.int .u64 ((wd x.p 1 : Nat) : Int)) ∧ W'.cell? ⟨wr.heap.size, 3, none⟩ = some (.int .u64 ((wd x.p 2 : Nat) : Int)) ∧ W'.cell? ⟨wr.heap.size, 4, none⟩ = some (.int .u64 ((wd x.p 3 : Nat) : Int))) (first | exact ⟨d0, d1, d2, d3, d4⟩ | go_keep)
          (first
            | (go_at_call 56; refine (empty_is x.p _ HB.out _).mono ?_; rintro e w5 ⟨rfl, b5⟩; have hh5 := hh.trans (b5.mono hh.size); clear hh d0 d1 d2 d3 d4; have hh := hh5; clear hh5 b5; have d0 := (hh.cell (p := ⟨wr.heap.size, 0, none⟩) hlt2).trans HD.out.1; have d1 := (hh.cell (p := ⟨wr.heap.size, 1, none⟩) hlt2).trans HD.out.2.1; have d2 := (hh.cell (p := ⟨wr.heap.size, 2, none⟩) hlt2).trans HD.out.2.2.1; have d3 := (hh.cell (p := ⟨wr.heap.size, 3, none⟩) hlt2).trans HD.out.2.2.2.1; have d4 := (hh.cell (p := ⟨wr.heap.size, 4, none⟩) hlt2).trans HD.out.2.2.2.2))
        have HHH := Lib.hid (HW.out _ hh)
        clear d0 d1 d2 d3 d4 hh
        first
          | (have HZ : Hid (chkT l = 5) := by
               show _ = _
               rw [HC.out none (by rw [HG.out, HS.out, if_neg (by rw [HO.out, HS2.out]; decide)]), if_neg (by simp)]
             go_wp2_with fail
             go_ret
             exact ⟨by rw [HZ.out]; rfl, HHH.out⟩)
          | (have HZ : Hid (chkGo l 0 = chkGo (l.drop (k + 1)) (m + (1 - t))) := by
               show _ = _
               rw [HG.out, HS.out, if_pos (by rw [HO.out, HS2.out]; decide), HT.out]
               congr 1; omega
             go_wp2_with fail
             go_roundw
             case rel => exact ⟨k + 1, m + (1 - t), by go_num, by omega, rfl, by omega, by omega, HZ, HHH.out⟩
             case measure => simp [intOf]; omega)
    · obtain rfl : k = n := by omega
      have HE : Hid (chkT l = if some m = some 1 then 0 else 5) := by
        show _ = _
        rw [HC.out (some m) (by rw [HG.out, chkGo_end l k (by rw [HN.out]; exact Nat.le_refl _)])]
      by_cases h1 : m = 1
      · have HZ : Hid (chkT l = 0) := by show _ = _; rw [HE.out, if_pos (by rw [h1])]
        subst h1
        go_wp2_with fail
        go_ret
        exact ⟨by rw [HZ.out]; rfl, hbel⟩
      · have HZ : Hid (chkT l = 5) := by show _ = _; rw [HE.out, if_neg (by simpa using h1)]
        have e1 : (m != 1) = true := by simpa using h1
        go_wp2_with fail
        go_ret
        exact ⟨by rw [HZ.out]; rfl, hbel⟩

end Go.Proofs.Ytkdhdlokilgccaa
