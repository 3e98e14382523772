import Derived.Test.YtkdhdlokilgccaaZMem
import Derived.Test.YtkdhdlokilgccaaZRefOf
import Derived.Test.YtkdhdlokilgccaaZStart
import Derived.LoopTactic
import Derived.BigQuiet
import Derived.Deep.QuietTactic
import Derived.Deep.RegionHeld3
import Derived.Maps.OwnOps
import Derived.Maps.OwnSet
import Derived.DeepKeys4
import Derived.Laws.Cover3
namespace Go.Proofs.Ytkdhdlokilgccaa
open Go.RowKit

theorem div_pow (x k : Nat) : x / 2 ^ k / 2 = x / 2 ^ (k + 1) := by rw [Nat.div_div_eq_div_mul, Nat.pow_succ]

theorem rhas_any (p : Nat → Bool) (b : Nat) (hb : b < 256) (w : World) :
    Calls Try.prog 13 #[(.agg #[.int .u64 ((wd p 0 : Nat) : Int), .int .u64 ((wd p 1 : Nat) : Int), .int .u64 ((wd p 2 : Nat) : Int), .int .u64 ((wd p 3 : Nat) : Int)]), .int .i64 b] w fun e w' => e = .returned (.bool (p b)) ∧ Below w.heap.size w w' := by
  have hq : b / 64 = 0 ∨ b / 64 = 1 ∨ b / 64 = 2 ∨ b / 64 = 3 := by omega
  rcases hq with h | h | h | h
  · go_enter Try.func13, Try.ntmps13
    go_wp2_with fail
    go_loop [5, 6] (fun x i => ∃ k y : Nat, k ≤ b % 64 ∧ i = .int .i64 k ∧ x = .int .u64 y ∧ y < 18446744073709551616 ∧ Hid (y = wd p 0 / 2 ^ k)) (fun _ i => b % 64 - (intOf i).toNat)
    case atStart => exact ⟨0, wd p 0, Nat.zero_le _, rfl, rfl, wd_lt _ _, by simp [Hid]⟩
    case round =>
      obtain ⟨k, y, hk, rfl, rfl, hy, HY⟩ := hrel
      by_cases hlt : k < b % 64
      · have HN : Hid (y / 2 = wd p 0 / 2 ^ (k + 1)) := by have := HY.out; subst this; exact div_pow _ _
        have hy2 : y / 2 < 18446744073709551616 := by omega
        go_wp2_with fail
        go_round
        case rel => exact ⟨k + 1, y / 2, by omega, by go_num, by simp, hy2, HN⟩
        case measure => simp [intOf]; omega
      · obtain rfl : k = b % 64 := by omega
        have HZ : Hid (((y : Int) % 2 == 1) = p b) := by
          have h1 := HY.out
          have h2 := wd_has p b 0 h
          rw [← h1] at h2
          show ((y : Int) % 2 == 1) = p b
          cases hp : p b
          · simp [hp] at h2; simp; omega
          · simp [hp] at h2; simp; omega
        clear HY
        go_wp2_with fail
        rw [HZ.out]
        go_ret
        exact ⟨rfl, (Below.refl _ _).alloc (Nat.le_refl _) _⟩
  · go_enter Try.func13, Try.ntmps13
    go_wp2_with fail
    go_loop [5, 6] (fun x i => ∃ k y : Nat, k ≤ b % 64 ∧ i = .int .i64 k ∧ x = .int .u64 y ∧ y < 18446744073709551616 ∧ Hid (y = wd p 1 / 2 ^ k)) (fun _ i => b % 64 - (intOf i).toNat)
    case atStart => exact ⟨0, wd p 1, Nat.zero_le _, rfl, rfl, wd_lt _ _, by simp [Hid]⟩
    case round =>
      obtain ⟨k, y, hk, rfl, rfl, hy, HY⟩ := hrel
      by_cases hlt : k < b % 64
      · have HN : Hid (y / 2 = wd p 1 / 2 ^ (k + 1)) := by have := HY.out; subst this; exact div_pow _ _
        have hy2 : y / 2 < 18446744073709551616 := by omega
        go_wp2_with fail
        go_round
        case rel => exact ⟨k + 1, y / 2, by omega, by go_num, by simp, hy2, HN⟩
        case measure => simp [intOf]; omega
      · obtain rfl : k = b % 64 := by omega
        have HZ : Hid (((y : Int) % 2 == 1) = p b) := by
          have h1 := HY.out
          have h2 := wd_has p b 1 h
          rw [← h1] at h2
          show ((y : Int) % 2 == 1) = p b
          cases hp : p b
          · simp [hp] at h2; simp; omega
          · simp [hp] at h2; simp; omega
        clear HY
        go_wp2_with fail
        rw [HZ.out]
        go_ret
        exact ⟨rfl, (Below.refl _ _).alloc (Nat.le_refl _) _⟩
  · go_enter Try.func13, Try.ntmps13
    go_wp2_with fail
    go_loop [5, 6] (fun x i => ∃ k y : Nat, k ≤ b % 64 ∧ i = .int .i64 k ∧ x = .int .u64 y ∧ y < 18446744073709551616 ∧ Hid (y = wd p 2 / 2 ^ k)) (fun _ i => b % 64 - (intOf i).toNat)
    case atStart => exact ⟨0, wd p 2, Nat.zero_le _, rfl, rfl, wd_lt _ _, by simp [Hid]⟩
    case round =>
      obtain ⟨k, y, hk, rfl, rfl, hy, HY⟩ := hrel
      by_cases hlt : k < b % 64
      · have HN : Hid (y / 2 = wd p 2 / 2 ^ (k + 1)) := by have := HY.out; subst this; exact div_pow _ _
        have hy2 : y / 2 < 18446744073709551616 := by omega
        go_wp2_with fail
        go_round
        case rel => exact ⟨k + 1, y / 2, by omega, by go_num, by simp, hy2, HN⟩
        case measure => simp [intOf]; omega
      · obtain rfl : k = b % 64 := by omega
        have HZ : Hid (((y : Int) % 2 == 1) = p b) := by
          have h1 := HY.out
          have h2 := wd_has p b 2 h
          rw [← h1] at h2
          show ((y : Int) % 2 == 1) = p b
          cases hp : p b
          · simp [hp] at h2; simp; omega
          · simp [hp] at h2; simp; omega
        clear HY
        go_wp2_with fail
        rw [HZ.out]
        go_ret
        exact ⟨rfl, (Below.refl _ _).alloc (Nat.le_refl _) _⟩
  · go_enter Try.func13, Try.ntmps13
    go_wp2_with fail
    go_loop [5, 6] (fun x i => ∃ k y : Nat, k ≤ b % 64 ∧ i = .int .i64 k ∧ x = .int .u64 y ∧ y < 18446744073709551616 ∧ Hid (y = wd p 3 / 2 ^ k)) (fun _ i => b % 64 - (intOf i).toNat)
    case atStart => exact ⟨0, wd p 3, Nat.zero_le _, rfl, rfl, wd_lt _ _, by simp [Hid]⟩
    case round =>
      obtain ⟨k, y, hk, rfl, rfl, hy, HY⟩ := hrel
      by_cases hlt : k < b % 64
      · have HN : Hid (y / 2 = wd p 3 / 2 ^ (k + 1)) := by have := HY.out; subst this; exact div_pow _ _
        have hy2 : y / 2 < 18446744073709551616 := by omega
        go_wp2_with fail
        go_round
        case rel => exact ⟨k + 1, y / 2, by omega, by go_num, by simp, hy2, HN⟩
        case measure => simp [intOf]; omega
      · obtain rfl : k = b % 64 := by omega
        have HZ : Hid (((y : Int) % 2 == 1) = p b) := by
          have h1 := HY.out
          have h2 := wd_has p b 3 h
          rw [← h1] at h2
          show ((y : Int) % 2 == 1) = p b
          cases hp : p b
          · simp [hp] at h2; simp; omega
          · simp [hp] at h2; simp; omega
        clear HY
        go_wp2_with fail
        rw [HZ.out]
        go_ret
        exact ⟨rfl, (Below.refl _ _).alloc (Nat.le_refl _) _⟩
end Go.Proofs.Ytkdhdlokilgccaa

namespace Go.Proofs.Ytkdhdlokilgccaa
open Go.RowKit

theorem Try.info_bool : (Try.prog.info? 4).map (fun i => (i.zero, i.size, i.bytes)) = some (some (.bool false), 1, 1) := by kernel_rfl
theorem undrew2 {W w' : World} (h : Below W.drew.heap.size W.drew w') : Below W.heap.size W w' := ⟨h.os, h.tape, h.output, h.size, h.block⟩

/-- The first k truths of a set. -/
def tru (g : Nat → Bool) (k : Nat) : List Value := (List.range k).map fun i => .bool (g i)
theorem tru_snoc (g : Nat → Bool) (k : Nat) : tru g (k + 1) = tru g k ++ [.bool (g k)] := by simp [tru, List.range_succ]
theorem tru_length (g : Nat → Bool) (k : Nat) : (tru g k).length = k := by simp [tru]
theorem tru_get (g : Nat → Bool) (k j : Nat) (h : j < k) : (tru g k)[j]? = some (.bool (g j)) := by simp [tru, h]

structure PutAt (w : World) (p q g : Nat → Bool) (k : Nat) (v : Value) (wr : World) : Prop where
  s0 : St wr 28 w.heap.size #[.int .u64 ((wd p 0 : Nat) : Int), .int .u64 ((wd p 1 : Nat) : Int), .int .u64 ((wd p 2 : Nat) : Int), .int .u64 ((wd p 3 : Nat) : Int)]
  s1 : St wr 28 (w.heap.size + 1) #[.int .u64 ((wd q 0 : Nat) : Int), .int .u64 ((wd q 1 : Nat) : Int), .int .u64 ((wd q 2 : Nat) : Int), .int .u64 ((wd q 3 : Nat) : Int)]
  s2 : St wr 28 (w.heap.size + 1 + 1) #[.int .u64 0, .int .u64 0, .int .u64 0, .int .u64 0]
  own : wr.ownsRow (w.heap.size + 3) 4 1 v k (tru g k)
  below : Below w.heap.size w wr
  size : w.heap.size + 3 ≤ wr.heap.size
theorem PutAt.start (w : World) (p q g : Nat → Bool) : PutAt w p q g 0 (.slice none 0 0) (((w.alloc (.cells #[.int .u64 ((wd p 0 : Nat) : Int), .int .u64 ((wd p 1 : Nat) : Int), .int .u64 ((wd p 2 : Nat) : Int), .int .u64 ((wd p 3 : Nat) : Int)] 28)).alloc (.cells #[.int .u64 ((wd q 0 : Nat) : Int), .int .u64 ((wd q 1 : Nat) : Int), .int .u64 ((wd q 2 : Nat) : Int), .int .u64 ((wd q 3 : Nat) : Int)] 28)).alloc (.cells #[.int .u64 0, .int .u64 0, .int .u64 0, .int .u64 0] 28)) := by
  refine ⟨((St.new _ _ _).alloc _).alloc _, ?_, ?_, World.ownsRow_nil _ _ _ _, (((Below.refl _ _).alloc (Nat.le_refl _) _).alloc (by simp) _).alloc (by simp; omega) _, by simp⟩
  · have := (St.new (w.alloc (.cells #[.int .u64 ((wd p 0 : Nat) : Int), .int .u64 ((wd p 1 : Nat) : Int), .int .u64 ((wd p 2 : Nat) : Int), .int .u64 ((wd p 3 : Nat) : Int)] 28)) 28 #[.int .u64 ((wd q 0 : Nat) : Int), .int .u64 ((wd q 1 : Nat) : Int), .int .u64 ((wd q 2 : Nat) : Int), .int .u64 ((wd q 3 : Nat) : Int)]).alloc (.cells #[.int .u64 0, .int .u64 0, .int .u64 0, .int .u64 0] 28)
    simpa using this
  · have := St.new ((w.alloc (.cells #[.int .u64 ((wd p 0 : Nat) : Int), .int .u64 ((wd p 1 : Nat) : Int), .int .u64 ((wd p 2 : Nat) : Int), .int .u64 ((wd p 3 : Nat) : Int)] 28)).alloc (.cells #[.int .u64 ((wd q 0 : Nat) : Int), .int .u64 ((wd q 1 : Nat) : Int), .int .u64 ((wd q 2 : Nat) : Int), .int .u64 ((wd q 3 : Nat) : Int)] 28)) 28 #[.int .u64 0, .int .u64 0, .int .u64 0, .int .u64 0]
    simpa using this
theorem PutAt.keep {w wr w1 : World} {p q g : Nat → Bool} {k : Nat} {v : Value} (h : PutAt w p q g k v wr) (b : Below wr.heap.size wr w1) : PutAt w p q g k v w1 :=
  ⟨h.s0.keep b, h.s1.keep b, h.s2.keep b, ownsRow_keep h.own b, h.below.trans (b.mono h.below.size), Nat.le_trans h.size b.size⟩
theorem PutAt.below_ {w wr w1 : World} {p q g : Nat → Bool} {k : Nat} {v v' : Value} (h : PutAt w p q g k v wr) (b : Below (w.heap.size + 3) wr w1) (ho : w1.ownsRow (w.heap.size + 3) 4 1 v' (k + 1) (tru g (k + 1))) : PutAt w p q g (k + 1) v' w1 :=
  ⟨h.s0.below b (by omega), h.s1.below b (by omega), h.s2.below b (by omega), ho, h.below.trans (b.mono (by omega)), Nat.le_trans h.size b.size⟩
theorem PutAt.flags {w wr : World} {p q g : Nat → Bool} {a : Option Addr} {cap : Nat} (h : PutAt w p q g 256 (.slice a 256 cap) wr) : ∃ b, a = some ⟨b, 0, none⟩ ∧ b < wr.heap.size ∧ ∀ j, j < 256 → wr.cell? ⟨b, 0 + j, none⟩ = some (.bool (g j)) := by
  obtain ⟨b, rfl, _, hb, hc⟩ := ownsRow_read h.own (by omega)
  exact ⟨b, rfl, hb, fun j hj => by rw [Nat.zero_add, (hc j (by omega)).1, tru_get g 256 j hj]⟩
end Go.Proofs.Ytkdhdlokilgccaa

namespace Go.Proofs.Ytkdhdlokilgccaa
open Go.RowKit
set_option linter.unusedVariables false

/-- Truths in memory. -/
def BAt (w : World) (a : Option Addr) (n : Nat) (f : Nat → Bool) : Prop := 0 < n → ∃ g off, a = some ⟨g, off, none⟩ ∧ g < w.heap.size ∧ ∀ j, j < n → w.cell? ⟨g, off + j, none⟩ = some (.bool (f j))
theorem BAt.below {w w' : World} {a : Option Addr} {n : Nat} {f : Nat → Bool} (h : BAt w a n f) (k : Below w.heap.size w w') : BAt w' a n f := by
  intro h0
  obtain ⟨g, off, e, hg, hc⟩ := h h0
  have := k.size
  exact ⟨g, off, e, by omega, fun j hj => (k.cell (p := ⟨g, off + j, none⟩) hg).trans (hc j hj)⟩
def bls (f : Nat → Bool) (n : Nat) : List Value := (List.range n).map fun j => .bool (f j)
theorem bls_succ (f : Nat → Bool) (n : Nat) : bls f (n + 1) = bls f n ++ [.bool (f n)] := by simp [bls, List.range_succ]
theorem bls_len (f : Nat → Bool) (n : Nat) : (bls f n).length = n := by simp [bls]
theorem bls_at {w : World} {B n c : Nat} {a : Option Addr} {f : Nat → Bool} (h : w.ownsRow B 4 1 (.slice a n c) n (bls f n)) : BAt w a n f := by
  intro h0
  obtain ⟨g, e, _, hg, hc⟩ := ownsRow_read h h0
  exact ⟨g, 0, e, hg, fun j hj => by rw [Nat.zero_add, (hc j (by omega)).1]; simp [bls, hj]⟩

set_option maxHeartbeats 1000000 in
set_option maxRecDepth 100000 in
theorem ror_any (f h : Nat → Bool) (a1 a2 : Option Addr) (n c1 c2 : Nat) (w : World) (h1 : BAt w a1 n f) (h2 : BAt w a2 n h) (hmax : n ≤ 100000) :
    Calls Try.prog 64 #[.slice a1 n c1, .slice a2 n c2] w fun e w' => ∃ a c, e = .returned (.slice a n c) ∧ w'.ownsRow w.heap.size 4 1 (.slice a n c) n (bls (fun j => f j || h j) n) ∧ Below w.heap.size w w' := by
  obtain ⟨i0, hi, hz0, hz1, hz2⟩ := info_parts Try.info_bool
  have H1 := Lib.hid h1
  have H2 := Lib.hid h2
  clear h1 h2
  go_enter Try.func64, Try.ntmps64
  go_wp2_with fail
  go_loopw [5, 6] (fun v i wr => ∃ k : Nat, i = .int .i64 k ∧ k ≤ n ∧ Hid (wr.ownsRow w.heap.size 4 1 v k (bls (fun j => f j || h j) k)) ∧ Below w.heap.size w wr) (fun _ i _ => n - (intOf i).toNat)
  case atStart => exact ⟨0, rfl, Nat.zero_le _, World.ownsRow_nil _ _ _ _, Below.refl _ _⟩
  case round =>
    obtain ⟨k, rfl, hk, HO, hbel⟩ := hrel
    obtain ⟨a3, c3, rfl⟩ := ownsRow_slice HO.out
    by_cases hlt : k < n
    · obtain ⟨g1, o1, rfl, hg1, hc1⟩ := (H1.out.below hbel) (by omega)
      obtain ⟨g2, o2, rfl, hg2, hc2⟩ := (H2.out.below hbel) (by omega)
      have d1 := hc1 k hlt
      have d2 := hc2 k hlt
      have hO := HO.out
      have hsz := hbel.size
      obtain ⟨r, hr⟩ : ∃ r, (f k || h k) = r := ⟨_, rfl⟩
      have HZ : Hid (bls (fun j => f j || h j) (k + 1) = bls (fun j => f j || h j) k ++ [.bool r]) := by show _ = _; rw [bls_succ]; simp only [hr]
      obtain ⟨L, hL⟩ : ∃ L, bls (fun j => f j || h j) k = L := ⟨_, rfl⟩
      rw [hL] at hO HZ
      obtain ⟨x, hx⟩ : ∃ x, f k = x := ⟨_, rfl⟩
      obtain ⟨y, hy⟩ : ∃ y, h k = y := ⟨_, rfl⟩
      rw [hx] at d1 hr
      rw [hy] at d2 hr
      clear hc1 hc2 hL hx hy HO
      rcases x with _ | _
      · obtain rfl : y = r := by simpa using hr
        clear hr
        go_wp2_with (at_builtin; refine wpList_append_own _ rfl _ _ 47 rfl w.heap.size 4 i0 (.bool false) 1 1 Try.underlying47 hi hz0 hz1 hz2 rfl (by decide) _ _ _ rfl (hO.alloc _) ⟨wr.heap.size, 0, none⟩ 1 1 [.bool y] rfl rfl (cell_one_new _ _ _) ?d2 ?d3 ?d4 ?d5 ?_)
        case d2 => intro u hu; simp at hu; subst hu; rfl
        case d3 => unfold maxLen; omega
        case d4 => omega
        case d5 => simp; omega
        intro v' w5 hown5 hgrow5 _
        have hB5 := hbel.trans (((Below.refl _ wr).alloc hsz (.cells #[.bool y] 4)).trans (grown_kept hgrow5 (hO.alloc _) (by simp; omega)))
        have HO5 : Hid (w5.ownsRow w.heap.size 4 1 v' (k + 1) (bls (fun j => f j || h j) (k + 1))) := by show World.ownsRow _ _ _ _ _ _ _; rw [HZ.out]; exact hown5
        clear hown5 hgrow5 hO
        go_wp2_with fail
        go_roundw
        case rel => exact ⟨k + 1, by go_num, by omega, HO5, hB5⟩
        case measure => simp [intOf]; omega
      · obtain rfl : true = r := by simpa using hr
        clear hr
        go_wp2_with (at_builtin; refine wpList_append_own _ rfl _ _ 47 rfl w.heap.size 4 i0 (.bool false) 1 1 Try.underlying47 hi hz0 hz1 hz2 rfl (by decide) _ _ _ rfl (hO.alloc _) ⟨wr.heap.size, 0, none⟩ 1 1 [.bool true] rfl rfl (cell_one_new _ _ _) ?d2 ?d3 ?d4 ?d5 ?_)
        case d2 => intro u hu; simp at hu; subst hu; rfl
        case d3 => unfold maxLen; omega
        case d4 => omega
        case d5 => simp; omega
        intro v' w5 hown5 hgrow5 _
        have hB5 := hbel.trans (((Below.refl _ wr).alloc hsz (.cells #[.bool true] 4)).trans (grown_kept hgrow5 (hO.alloc _) (by simp; omega)))
        have HO5 : Hid (w5.ownsRow w.heap.size 4 1 v' (k + 1) (bls (fun j => f j || h j) (k + 1))) := by show World.ownsRow _ _ _ _ _ _ _; rw [HZ.out]; exact hown5
        clear hown5 hgrow5 hO
        go_wp2_with fail
        go_roundw
        case rel => exact ⟨k + 1, by go_num, by omega, HO5, hB5⟩
        case measure => simp [intOf]; omega
    · obtain rfl : k = n := by omega
      go_wp2_with fail
      go_ret
      exact ⟨a3, c3, rfl, HO.out, hbel⟩
end Go.Proofs.Ytkdhdlokilgccaa

namespace Go.Proofs.Ytkdhdlokilgccaa
open Go.RowKit Go.Maps Go.WideElems Go.ChangeMaps Go.MapKept
set_option linter.unusedVariables false

/-! ### What a call leaves as it was -/
/-- Every block of w stands in w', but for rows of the types ts, and the blocks bs. -/
def Kept (ts : List TypeId) (bs : List Nat) (w w' : World) : Prop :=
  ∀ k o, w.heap[k]? = some o → (∀ c e fz, o = .cells c e fz → e ∉ ts) → k ∉ bs → w'.heap[k]? = some o
theorem Kept.refl (ts : List TypeId) (bs : List Nat) (w : World) : Kept ts bs w w := fun _ _ h _ _ => h
theorem Kept.trans {ts : List TypeId} {bs : List Nat} {a b c : World} (h : Kept ts bs a b) (k : Kept ts bs b c) : Kept ts bs a c :=
  fun i o hi ho hb => k i o (h i o hi ho hb) ho hb
theorem Kept.mono {ts ts' : List TypeId} {bs bs' : List Nat} {a b : World} (h : Kept ts bs a b) (ht : ∀ t ∈ ts, t ∈ ts') (hb : ∀ t ∈ bs, t ∈ bs') : Kept ts' bs' a b :=
  fun i o hi ho hn => h i o hi (fun c e fz e0 hm => ho c e fz e0 (ht e hm)) (fun hm => hn (hb i hm))
theorem Kept.drew {ts : List TypeId} {bs : List Nat} {a w : World} (h : Kept ts bs a w) : Kept ts bs a w.drew := h
theorem Kept.drewN {ts : List TypeId} {bs : List Nat} {a w : World} (h : Kept ts bs a w) (n : Nat) : Kept ts bs a (w.drewN n) := fun i o hi ho hb => by
  have := h i o hi ho hb
  simpa using this
theorem Kept.alloc {ts : List TypeId} {bs : List Nat} {a w : World} (h : Kept ts bs a w) (o : Obj) : Kept ts bs a (w.alloc o) := by
  intro k x hk hx hb
  have h1 := h k x hk hx hb
  have hlt : k < w.heap.size := (Array.getElem?_eq_some_iff.1 h1).1
  exact (Below.heap_alloc w o k hlt).trans h1
theorem Kept.below {ts : List TypeId} {bs : List Nat} {a w w' : World} (h : Kept ts bs a w) (k : Below w.heap.size w w') : Kept ts bs a w' := by
  intro i x hi hx hb
  have h1 := h i x hi hx hb
  exact (k.block i (Array.getElem?_eq_some_iff.1 h1).1).trans h1
theorem Kept.setCell {ts : List TypeId} {bs : List Nat} {a w : World} (h : Kept ts bs a w) (p : Addr) (v : Value) (hp : p.block ∈ bs ∨ a.heap.size ≤ p.block ∨ ∃ c e fz, w.heap[p.block]? = some (.cells c e fz) ∧ e ∈ ts) : Kept ts bs a (w.setCell p v) := by
  intro k x hk hx hb
  have h1 := h k x hk hx hb
  rw [Below.heap_setCell _ _ _ _ (fun e => ?_)]
  · exact h1
  · rcases hp with hp | hp | ⟨c, e', fz, hc, he⟩
    · exact hb (by rw [e]; exact hp)
    · have := (Array.getElem?_eq_some_iff.1 hk).1; omega
    · rw [← e, h1] at hc
      exact hx c e' fz (Option.some.inj hc) he
theorem Kept.grown {ts : List TypeId} {bs : List Nat} {a w w' : World} {row : Option Nat} (h : Kept ts bs a w) (hg : w.grownBy w' row)
    (hrow : ∀ g, row = some g → g ∈ bs ∨ a.heap.size ≤ g ∨ ∃ c e fz, w.heap[g]? = some (.cells c e fz) ∧ e ∈ ts) : Kept ts bs a w' := by
  intro k x hk hx hb
  have h1 := h k x hk hx hb
  have hlt : k < w.heap.size := (Array.getElem?_eq_some_iff.1 h1).1
  rw [hg.block k hlt ?_]
  · exact h1
  · intro hk2
    rcases hrow k hk2.symm with hm | hm | ⟨c, e', fz, hc, he⟩
    · exact hb hm
    · have := (Array.getElem?_eq_some_iff.1 hk).1; omega
    · rw [h1] at hc
      exact hx c e' fz (Option.some.inj hc) he
theorem St.kept {w w' : World} {t g : Nat} {cs : Array Value} {ts : List TypeId} {bs : List Nat} (h : St w t g cs) (k : Kept ts bs w w') (ht : t ∉ ts) (hg : g ∉ bs) : St w' t g cs :=
  k g _ h (fun c e fz e0 => by injection e0 with _ e1; subst e1; exact ht) hg
/-- What an owned value's block holds. -/
theorem own_kind {w : World} {B : Nat} {e : TypeId} {size : Nat} {v : Value} {n : Nat} {xs : List Value} (h : w.ownsRow B e size v n xs) : ∀ g, v.ownBlock = some g → ∃ c fz, w.heap[g]? = some (.cells c e fz) := by
  intro g hg
  rcases h.2 with ⟨rfl, _⟩ | ⟨g', cap, cur, rfl, _, hgg, _⟩
  · simp [Value.ownBlock] at hg
  · simp [Value.ownBlock] at hg
    subst hg
    exact ⟨cur, _, hgg⟩
theorem own_kept {w w' : World} {B : Nat} {t : TypeId} {size : Nat} {v : Value} {n : Nat} {xs : List Value} {ts : List TypeId} {bs : List Nat} (h : w.ownsRow B t size v n xs) (k : Kept ts bs w w') (ht : t ∉ ts) (hg : ∀ g, v.ownBlock = some g → g ∉ bs) : w'.ownsRow B t size v n xs := by
  refine ⟨h.1, ?_⟩
  rcases h.2 with h0 | ⟨g, cap, cur, rfl, hB, hgg, r⟩
  · exact Or.inl h0
  · exact Or.inr ⟨g, cap, cur, rfl, hB, k g _ hgg (fun c e fz e0 => by injection e0 with _ e1; subst e1; exact ht) (hg g (by simp [Value.ownBlock])), r⟩

theorem St.ne {w : World} {t t' g g' : Nat} {cs cs' : Array Value} (h : St w t g cs) (h' : St w t' g' cs') (ht : t ≠ t') : g ≠ g' := by
  intro e
  subst e
  have h1 : w.heap[g]? = _ := h
  have h2 : w.heap[g]? = _ := h'
  rw [h1] at h2
  injection h2 with h2
  injection h2 with _ h2
  exact ht h2
theorem own_ne {w : World} {B : Nat} {t t' g' : Nat} {size : Nat} {v : Value} {n : Nat} {xs : List Value} {cs' : Array Value} (h : w.ownsRow B t size v n xs) (h' : St w t' g' cs') (ht : t ≠ t') : ∀ g, v.ownBlock = some g → g ≠ g' := by
  intro g hg e
  subst e
  obtain ⟨c, fz, hc⟩ := own_kind h g hg
  have h2 : w.heap[g]? = _ := h'
  rw [hc] at h2
  injection h2 with h2
  injection h2 with _ h2
  exact ht h2
/-- A store into a block of another type. -/
theorem own_set {w : World} {B : Nat} {t t' g' : Nat} {size : Nat} {v : Value} {n : Nat} {xs : List Value} {cs' : Array Value} (h : w.ownsRow B t size v n xs) (h' : St w t' g' cs') (ht : t ≠ t') (i : Nat) (u : Value) : (w.setCell ⟨g', i, none⟩ u).ownsRow B t size v n xs :=
  own_kept (ts := []) (bs := [g']) h ((Kept.refl _ _ _).setCell _ _ (Or.inl (by simp))) (by simp) (fun g hg => by
    have := own_ne h h' ht g hg
    simpa using this)
theorem St.set_far {w : World} {t t' g g' : Nat} {cs cs' : Array Value} (h : St w t g cs) (h' : St w t' g' cs') (ht : t ≠ t') (i : Nat) (u : Value) : St (w.setCell ⟨g', i, none⟩ u) t g cs :=
  h.far (p := ⟨g', i, none⟩) (h.ne h' ht) u
/-! ### A map of the call's own, by what holds of its entries -/
def anyR : Value → Option (DataW Value × List MemPlace) := fun v => some (.held v, [])
def MapOf (w : World) (k : TypeId) (b n : Nat) (Q : Value → Value → Prop) : Prop :=
  ∃ es clock, w.heap[b]? = some (.map es clock) ∧ Fit Try.prog k anyR es clock ∧ es.size ≤ n ∧ ∀ e ∈ es.toList, Q e.key e.val
theorem MapOf.made (w : World) (k : TypeId) (Q : Value → Value → Prop) : MapOf (w.alloc (.map #[] 0)) k w.heap.size 0 Q :=
  ⟨#[], 0, (MapKept.heap_alloc w _).1, ⟨by simp, stamped_empty 0, by simp⟩, Nat.le_refl _, by simp⟩
theorem MapOf.lt {w : World} {k : TypeId} {b n : Nat} {Q : Value → Value → Prop} (h : MapOf w k b n Q) : b < w.heap.size := by
  obtain ⟨es, clock, hb, _⟩ := h
  exact (Array.getElem?_eq_some_iff.1 hb).1
theorem MapOf.same {w w' : World} {k : TypeId} {b n : Nat} {Q : Value → Value → Prop} (h : MapOf w k b n Q) (e : w'.heap[b]? = w.heap[b]?) : MapOf w' k b n Q := by
  obtain ⟨es, clock, hb, r⟩ := h
  exact ⟨es, clock, e.trans hb, r⟩
theorem MapOf.kept {w w' : World} {k : TypeId} {b n : Nat} {Q : Value → Value → Prop} {ts : List TypeId} {bs : List Nat} (h : MapOf w k b n Q) (hk : Kept ts bs w w') (hb : b ∉ bs) : MapOf w' k b n Q := by
  obtain ⟨es, clock, hbb, r⟩ := h
  exact ⟨es, clock, hk b _ hbb (fun c e fz e0 => by cases e0) hb, r⟩
theorem MapOf.mono {w : World} {k : TypeId} {b n n' : Nat} {Q Q' : Value → Value → Prop} (h : MapOf w k b n Q) (hn : n ≤ n') (hQ : ∀ x y, Q x y → Q' x y) : MapOf w k b n' Q' := by
  obtain ⟨es, clock, hb, F, hs, hq⟩ := h
  exact ⟨es, clock, hb, F, Nat.le_trans hs hn, fun e he => hQ _ _ (hq e he)⟩
theorem MapOf.set {w : World} {k : TypeId} {b n t g i : Nat} {u : Value} {cs : Array Value} {Q : Value → Value → Prop} (h : MapOf w k b n Q) (h' : St w t g cs) : MapOf (w.setCell ⟨g, i, none⟩ u) k b n Q := by
  refine h.same (Below.heap_setCell _ _ _ _ ?_)
  intro e
  obtain ⟨es, clock, hb, _⟩ := h
  have h2 : w.heap[g]? = _ := h'
  rw [show b = g from e, h2] at hb
  cases hb
/-! ### Behind an append to a row of the call's own, and behind a store into a map -/
theorem St.grown {w w' : World} {t g : Nat} {cs : Array Value} {row : Option Nat} (h : St w t g cs) (hg : w.grownBy w' row) (hn : some g ≠ row) : St w' t g cs := (hg.block g h.lt hn).trans h
theorem St.grown_own {w w' : World} {B t t' g size n : Nat} {cs : Array Value} {v : Value} {xs : List Value} (h : St w t g cs) (ho : w.ownsRow B t' size v n xs) (ht : t' ≠ t) (hg : w.grownBy w' v.ownBlock) : St w' t g cs :=
  h.grown hg (fun e => own_ne ho h ht g e.symm rfl)
theorem MapOf.grown_own {w w' : World} {B t' size n k b N : Nat} {v : Value} {xs : List Value} {Q : Value → Value → Prop} (h : MapOf w k b N Q) (ho : w.ownsRow B t' size v n xs) (hg : w.grownBy w' v.ownBlock) : MapOf w' k b N Q := by
  refine h.same (hg.block b h.lt (fun e => ?_))
  obtain ⟨c, fz, hc⟩ := own_kind ho b e.symm
  obtain ⟨es, clock, hb, _⟩ := h
  rw [hc] at hb
  cases hb
theorem own_grown {w w' : World} {B t size n : Nat} {v : Value} {xs : List Value} {row : Option Nat} (h : w.ownsRow B t size v n xs) (hg : w.grownBy w' row) (hn : ∀ g, v.ownBlock = some g → some g ≠ row) : w'.ownsRow B t size v n xs := by
  refine ⟨h.1, ?_⟩
  rcases h.2 with h0 | ⟨g, cap, cur, rfl, hB, hgg, r⟩
  · exact Or.inl h0
  · exact Or.inr ⟨g, cap, cur, rfl, hB, (hg.block g (Array.getElem?_eq_some_iff.1 hgg).1 (hn g (by simp [Value.ownBlock]))).trans hgg, r⟩
theorem own_grown_own {w w' : World} {B t size n B' t' size' n' : Nat} {v v' : Value} {xs xs' : List Value} (h : w.ownsRow B t size v n xs) (ho : w.ownsRow B' t' size' v' n' xs') (ht : t' ≠ t) (hg : w.grownBy w' v'.ownBlock) : w'.ownsRow B t size v n xs :=
  own_grown h hg (fun g e1 e2 => by
    obtain ⟨c, fz, hc⟩ := own_kind h g e1
    obtain ⟨c', fz', hc'⟩ := own_kind ho g e2.symm
    rw [hc] at hc'
    injection hc' with hc'
    injection hc' with _ hc'
    exact ht hc'.symm)
theorem own_grown_map {w w' : World} {B t size n k b N : Nat} {v : Value} {xs : List Value} {Q : Value → Value → Prop} (h : w.ownsRow B t size v n xs) (hm : MapOf w k b N Q) (hg : w.grownBy w' (some b)) : w'.ownsRow B t size v n xs :=
  own_grown h hg (fun g e1 e2 => by
    obtain ⟨c, fz, hc⟩ := own_kind h g e1
    obtain ⟨es, clock, hb, _⟩ := hm
    injection e2 with e2
    subst e2
    rw [hc] at hb
    cases hb)
theorem St.grown_map {w w' : World} {t g k b N : Nat} {cs : Array Value} {Q : Value → Value → Prop} (h : St w t g cs) (hm : MapOf w k b N Q) (hg : w.grownBy w' (some b)) : St w' t g cs :=
  h.grown hg (fun e2 => by
    obtain ⟨es, clock, hb, _⟩ := hm
    injection e2 with e2
    subst e2
    have h1 : w.heap[g]? = _ := h
    rw [h1] at hb
    cases hb)
theorem Kept.grown_own {ts : List TypeId} {bs : List Nat} {a w w' : World} {B t size n : Nat} {v : Value} {xs : List Value} (h : Kept ts bs a w) (ho : w.ownsRow B t size v n xs) (ht : t ∈ ts) (hg : w.grownBy w' v.ownBlock) : Kept ts bs a w' :=
  h.grown hg (fun g e => by
    obtain ⟨c, fz, hc⟩ := own_kind ho g e
    exact Or.inr (Or.inr ⟨c, t, fz, hc, ht⟩))
theorem own_above {w : World} {B t size n : Nat} {v : Value} {xs : List Value} (ho : w.ownsRow B t size v n xs) : ∀ g, v.ownBlock = some g → B ≤ g := by
  intro g hg
  rcases ho.2 with ⟨rfl, _⟩ | ⟨g', cap, cur, rfl, hB, _⟩
  · simp [Value.ownBlock] at hg
  · simp [Value.ownBlock] at hg
    omega
theorem below_grown_own {a w w' : World} {B t size n : Nat} {v : Value} {xs : List Value} (h : Below B a w) (ho : w.ownsRow B t size v n xs) (hB : B ≤ w.heap.size) (hg : w.grownBy w' v.ownBlock) : Below B a w' :=
  h.grown hg hB (own_above ho)
/-- 'v, ok := m[k]'. -/
theorem MapOf.look {w : World} {k t e : TypeId} {b n : Nat} {Q : Value → Value → Prop} (h : MapOf w k b n Q) (K : Keyed Try.prog k) (ht : Try.prog.underlying t = some (.map k e)) {z : Value} (hz : (zeroValue e).run Try.prog w = .ok z w)
    {key : Value} {kl : Lit} (hkey : keyOf Try.prog k key = some kl) :
    (Instr.lookup t (.map (some b)) key true).run Try.prog w = .ok (.tuple #[z, .bool false]) w ∨ ∃ v, Q key v ∧ (Instr.lookup t (.map (some b)) key true).run Try.prog w = .ok (.tuple #[v, .bool true]) w := by
  obtain ⟨es, clock, hb, F, _, hq⟩ := h
  rcases Maps.fit_look true K ht hz hb F hkey with ⟨hrun, _, _⟩ | ⟨e0, y, hm, hk, hrun, _⟩
  · exact Or.inl (by simpa using hrun)
  · exact Or.inr ⟨e0.val, by rw [← hk]; exact hq e0 hm, by simpa using hrun⟩
/-- 'm[k] = v'. -/
theorem MapOf.update {w : World} {k t e : TypeId} {b n : Nat} {Q Q' : Value → Value → Prop} (h : MapOf w k b n Q) (K : Keyed Try.prog k) (ht : Try.prog.underlying t = some (.map k e)) (hn : n < maxLen)
    {key val : Value} {kl : Lit} (hkey : keyOf Try.prog k key = some kl) (hQ : ∀ x y, Q x y → x ≠ key → Q' x y) (hv : Q' key val) :
    ∃ w', (Instr.mapUpdate t (.map (some b)) key val).run Try.prog w = .ok () w' ∧ MapOf w' k b (n + 1) Q' ∧ w.grownBy w' (some b) := by
  obtain ⟨es, clock, hb, F, hs, hq⟩ := h
  obtain ⟨es', clock', hrun, F', hput, _, _, hall⟩ := Maps.fit_store (R' := anyR) K ht hb F (Nat.lt_of_le_of_lt hs hn) (fun _ _ _ _ hz => hz) hkey (yv := (.held val, [])) rfl
  refine ⟨_, hrun, ⟨es', clock', heap_setBlock_same hb _, F', ?_, fun x hx => ?_⟩, ⟨rfl, rfl, rfl, by simp [setBlock], fun i _ hi => heap_setBlock_other hb _ (fun e => hi (by rw [e]))⟩⟩
  · have e1 : es'.size = ((es'.toList.map (rg Try.prog k anyR)).foldr DataW.insert []).length := by rw [length_sorted]; simp
    rw [e1, hput]
    unfold putKey
    rw [length_insert]
    have e2 := List.length_filter_le (notKey kl) ((es.toList.map (rg Try.prog k anyR)).foldr DataW.insert [])
    rw [length_sorted] at e2
    simp at e2
    omega
  · rcases hall x hx with ⟨h1, h2⟩ | ⟨h1, h2⟩
    · exact hQ _ _ (hq x h1) h2
    · rw [h1, h2]; exact hv
/-- .. at the operation. -/
theorem wpList_store_any (w : World) {ops : Array Oper} {rest : List Oper} {o : Oper} {a : Act} {Q : Exit → Act → World → Prop}
    (hg : o.guard = none) (m x v : Operand) (t : TypeId) (hop : o.op = Op.mapUpdate t m x v)
    (k e : TypeId) (K : Keyed Try.prog k) (ht : Try.prog.underlying t = some (.map k e)) (b n : Nat) (Q0 Q1 : Value → Value → Prop)
    (hm : a.eval m = .map (some b)) (hown : MapOf w k b n Q0) (hn : n < maxLen) (key val : Value) (kl : Lit) (hx : a.eval x = key) (hv : a.eval v = val) (hkey : keyOf Try.prog k key = some kl)
    (hQ : ∀ x y, Q0 x y → x ≠ key → Q1 x y) (hval : Q1 key val)
    (hK : ∀ w', MapOf w' k b (n + 1) Q1 → w.grownBy w' (some b) → wpList Try.prog ops Q rest (a.put o.dst undef) w') :
    wpList Try.prog ops Q (o :: rest) a w := by
  refine wpList_plain hg fun K' hK' => ?_
  obtain ⟨w', hrun, r1, r2⟩ := hown.update K ht hn hkey hQ hval
  unfold Oper.wp
  simp [execOp, hop, hm, hx, hv, hrun, Result.andThen]
  exact hK' _ _ (hK w' r1 r2)

/-! ### .. and by all that it should hold -/
def MapEx (w : World) (k : TypeId) (b n : Nat) (Q : Value → Value → Prop) : Prop :=
  ∃ es clock, w.heap[b]? = some (.map es clock) ∧ Fit Try.prog k anyR es clock ∧ es.size ≤ n ∧ (∀ e ∈ es.toList, Q e.key e.val) ∧ ∀ x y, Q x y → ∃ e ∈ es.toList, e.key = x
theorem MapEx.of {w : World} {k : TypeId} {b n : Nat} {Q : Value → Value → Prop} (h : MapEx w k b n Q) : MapOf w k b n Q := by
  obtain ⟨es, clock, h1, h2, h3, h4, _⟩ := h
  exact ⟨es, clock, h1, h2, h3, h4⟩
theorem MapEx.made (w : World) (k : TypeId) (Q : Value → Value → Prop) (h0 : ∀ x y, ¬ Q x y) : MapEx (w.alloc (.map #[] 0)) k w.heap.size 0 Q :=
  ⟨#[], 0, (MapKept.heap_alloc w _).1, ⟨by simp, stamped_empty 0, by simp⟩, Nat.le_refl _, by simp, fun x y h => absurd h (h0 x y)⟩
theorem MapEx.lt {w : World} {k : TypeId} {b n : Nat} {Q : Value → Value → Prop} (h : MapEx w k b n Q) : b < w.heap.size := h.of.lt
theorem MapEx.same {w w' : World} {k : TypeId} {b n : Nat} {Q : Value → Value → Prop} (h : MapEx w k b n Q) (e : w'.heap[b]? = w.heap[b]?) : MapEx w' k b n Q := by
  obtain ⟨es, clock, hb, r⟩ := h
  exact ⟨es, clock, e.trans hb, r⟩
theorem MapEx.kept {w w' : World} {k : TypeId} {b n : Nat} {Q : Value → Value → Prop} {ts : List TypeId} {bs : List Nat} (h : MapEx w k b n Q) (hk : Kept ts bs w w') (hb : b ∉ bs) : MapEx w' k b n Q := by
  obtain ⟨es, clock, hbb, r⟩ := h
  exact ⟨es, clock, hk b _ hbb (fun c e fz e0 => by cases e0) hb, r⟩
theorem MapEx.more {w : World} {k : TypeId} {b n n' : Nat} {Q : Value → Value → Prop} (h : MapEx w k b n Q) (hn : n ≤ n') : MapEx w k b n' Q := by
  obtain ⟨es, clock, hb, F, hs, r⟩ := h
  exact ⟨es, clock, hb, F, Nat.le_trans hs hn, r⟩
theorem MapEx.set {w : World} {k : TypeId} {b n t g i : Nat} {u : Value} {cs : Array Value} {Q : Value → Value → Prop} (h : MapEx w k b n Q) (h' : St w t g cs) : MapEx (w.setCell ⟨g, i, none⟩ u) k b n Q := by
  refine h.same (Below.heap_setCell _ _ _ _ ?_)
  intro e
  obtain ⟨es, clock, hb, _⟩ := h
  have h2 : w.heap[g]? = _ := h'
  rw [show b = g from e, h2] at hb
  cases hb
/-- 'm[k] = v' at a key that is new. -/
theorem MapEx.update {w : World} {k t e : TypeId} {b n : Nat} {Q Q' : Value → Value → Prop} (h : MapEx w k b n Q) (K : Keyed Try.prog k) (ht : Try.prog.underlying t = some (.map k e)) (hn : n < maxLen)
    {key val : Value} {kl : Lit} (hkey : keyOf Try.prog k key = some kl) (hnew : ∀ y, ¬ Q key y) (hQ : ∀ x y, Q x y → Q' x y) (hv : Q' key val) (hback : ∀ x y, Q' x y → x ≠ key → ∃ y', Q x y') :
    ∃ w', (Instr.mapUpdate t (.map (some b)) key val).run Try.prog w = .ok () w' ∧ MapEx w' k b (n + 1) Q' ∧ w.grownBy w' (some b) := by
  obtain ⟨es, clock, hb, F, hs, hq, hall⟩ := h
  have hno : ∀ x ∈ es.toList, x.key ≠ key := fun x hx e0 => hnew x.val (by rw [← e0]; exact hq x hx)
  obtain ⟨F1, _, _⟩ := F.stay (R' := anyR) (fun x hx z hz => hz)
  have hrd : WideElems.rd Try.prog k anyR ⟨key, val, clock⟩ = some (kl, .held val) := by unfold WideElems.rd anyR; rw [hkey]; rfl
  rcases K.find w hkey es.toList F.keys with ⟨h1, h2⟩ | ⟨j, e0, h1, h2, h3⟩
  · refine ⟨setBlock w b (.map (es.push ⟨key, val, clock⟩) (clock + 1)), ?_, ⟨es.push ⟨key, val, clock⟩, clock + 1, heap_setBlock_same hb _, ⟨by simp; omega, stamped_push F.stamped h2, ?_⟩, by simp; omega, fun x hx => ?_, fun x y hx => ?_⟩, ⟨rfl, rfl, rfl, by simp [setBlock], fun i _ hi => heap_setBlock_other hb _ (fun e => hi (by rw [e]))⟩⟩
    · simp [Instr.mapUpdate, run_underlying ht, MapKept.run_getObj_map hb, K.check w false hkey, h1, MapKept.run_setObj_map _ hb, Result.andThen, setBlock]
    · intro x hx
      simp only [Array.toList_push, List.mem_append, List.mem_singleton] at hx
      rcases hx with hx | rfl
      · exact F1.reads x hx
      · exact ⟨_, hrd⟩
    · simp only [Array.toList_push, List.mem_append, List.mem_singleton] at hx
      rcases hx with hx | rfl
      · exact hQ _ _ (hq x hx)
      · exact hv
    · by_cases e0 : x = key
      · exact ⟨⟨key, val, clock⟩, by rw [Array.toList_push]; exact List.mem_append_right _ (List.mem_singleton.2 rfl), e0.symm⟩
      · obtain ⟨y', hy⟩ := hback x y hx e0
        obtain ⟨e1, h4, h5⟩ := hall x y' hy
        exact ⟨e1, by rw [Array.toList_push]; exact List.mem_append_left _ h4, h5⟩
  · exact absurd h3 (hno e0 (List.mem_of_getElem? h2))
theorem MapEx.grown_own {w w' : World} {B t' size n k b N : Nat} {v : Value} {xs : List Value} {Q : Value → Value → Prop} (h : MapEx w k b N Q) (ho : w.ownsRow B t' size v n xs) (hg : w.grownBy w' v.ownBlock) : MapEx w' k b N Q := by
  refine h.same (hg.block b h.lt (fun e => ?_))
  obtain ⟨c, fz, hc⟩ := own_kind ho b e.symm
  obtain ⟨es, clock, hb, _⟩ := h
  rw [hc] at hb
  cases hb
/-- .. at the operation. -/
theorem wpList_store_new (w : World) {ops : Array Oper} {rest : List Oper} {o : Oper} {a : Act} {Q : Exit → Act → World → Prop}
    (hg : o.guard = none) (m x v : Operand) (t : TypeId) (hop : o.op = Op.mapUpdate t m x v)
    (k e : TypeId) (K : Keyed Try.prog k) (ht : Try.prog.underlying t = some (.map k e)) (b n : Nat) (Q0 Q1 : Value → Value → Prop)
    (hm : a.eval m = .map (some b)) (hown : MapEx w k b n Q0) (hn : n < maxLen) (key val : Value) (kl : Lit) (hx : a.eval x = key) (hv : a.eval v = val) (hkey : keyOf Try.prog k key = some kl)
    (hnew : ∀ y, ¬ Q0 key y) (hQ : ∀ x y, Q0 x y → Q1 x y) (hval : Q1 key val) (hback : ∀ x y, Q1 x y → x ≠ key → ∃ y', Q0 x y')
    (hK : ∀ w', MapEx w' k b (n + 1) Q1 → w.grownBy w' (some b) → wpList Try.prog ops Q rest (a.put o.dst undef) w') :
    wpList Try.prog ops Q (o :: rest) a w := by
  refine wpList_plain hg fun K' hK' => ?_
  obtain ⟨w', hrun, r1, r2⟩ := hown.update K ht hn hkey hnew hQ hval hback
  unfold Oper.wp
  simp [execOp, hop, hm, hx, hv, hrun, Result.andThen]
  exact hK' _ _ (hK w' r1 r2)

/-! ### Keys -/
theorem wf64 {n : Int} (h : -9223372036854775808 ≤ n ∧ n ≤ 9223372036854775807) : (Lit.int .i64 n).wf = true := by
  simp [Lit.wf, IntKind.min, IntKind.max, IntKind.bits, IntKind.signed]; omega
theorem wfu64 (n : Nat) (h : n < 18446744073709551616) : (Lit.int .u64 (n : Int)).wf = true := by
  simp [Lit.wf, IntKind.min, IntKind.max, IntKind.bits, IntKind.signed]; omega
end Go.Proofs.Ytkdhdlokilgccaa
