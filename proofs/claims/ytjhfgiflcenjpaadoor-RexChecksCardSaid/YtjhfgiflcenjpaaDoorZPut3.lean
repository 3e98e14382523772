import Derived.Test.YtjhfgiflcenjpaaDoorZRefOf
import Derived.Test.YtjhfgiflcenjpaaDoorZRx
import Derived.BigQuiet
import Derived.Deep.QuietTactic
import Derived.Deep.RegionHeld3
namespace Go.Proofs.YtjhfgiflcenjpaaDoor
open Go.RowKit

theorem Tryd.info_bool : (Tryd.prog.info? 4).map (fun i => (i.zero, i.size, i.bytes)) = some (some (.bool false), 1, 1) := by kernel_rfl
theorem undrew2 {W w' : World} (h : Below W.drew.heap.size W.drew w') : Below W.heap.size W w' := ⟨h.os, h.tape, h.output, h.size, h.block⟩

/-- The first k truths of a set. -/
def tru (g : Nat → Bool) (k : Nat) : List Value := (List.range k).map fun i => .bool (g i)
theorem tru_snoc (g : Nat → Bool) (k : Nat) : tru g (k + 1) = tru g k ++ [.bool (g k)] := by simp [tru, List.range_succ]
theorem tru_length (g : Nat → Bool) (k : Nat) : (tru g k).length = k := by simp [tru]
theorem tru_get (g : Nat → Bool) (k j : Nat) (h : j < k) : (tru g k)[j]? = some (.bool (g j)) := by simp [tru, h]

structure PutAt (w : World) (p q g : Nat → Bool) (k : Nat) (v : Value) (wr : World) : Prop where
  s0 : St wr 33 w.heap.size #[.int .u64 ((wd p 0 : Nat) : Int), .int .u64 ((wd p 1 : Nat) : Int), .int .u64 ((wd p 2 : Nat) : Int), .int .u64 ((wd p 3 : Nat) : Int)]
  s1 : St wr 33 (w.heap.size + 1) #[.int .u64 ((wd q 0 : Nat) : Int), .int .u64 ((wd q 1 : Nat) : Int), .int .u64 ((wd q 2 : Nat) : Int), .int .u64 ((wd q 3 : Nat) : Int)]
  s2 : St wr 33 (w.heap.size + 1 + 1) #[.int .u64 0, .int .u64 0, .int .u64 0, .int .u64 0]
  own : wr.ownsRow (w.heap.size + 3) 4 1 v k (tru g k)
  below : Below w.heap.size w wr
  size : w.heap.size + 3 ≤ wr.heap.size
theorem PutAt.start (w : World) (p q g : Nat → Bool) : PutAt w p q g 0 (.slice none 0 0) (((w.alloc (.cells #[.int .u64 ((wd p 0 : Nat) : Int), .int .u64 ((wd p 1 : Nat) : Int), .int .u64 ((wd p 2 : Nat) : Int), .int .u64 ((wd p 3 : Nat) : Int)] 33)).alloc (.cells #[.int .u64 ((wd q 0 : Nat) : Int), .int .u64 ((wd q 1 : Nat) : Int), .int .u64 ((wd q 2 : Nat) : Int), .int .u64 ((wd q 3 : Nat) : Int)] 33)).alloc (.cells #[.int .u64 0, .int .u64 0, .int .u64 0, .int .u64 0] 33)) := by
  refine ⟨((St.new _ _ _).alloc _).alloc _, ?_, ?_, World.ownsRow_nil _ _ _ _, (((Below.refl _ _).alloc (Nat.le_refl _) _).alloc (by simp) _).alloc (by simp; omega) _, by simp⟩
  · have := (St.new (w.alloc (.cells #[.int .u64 ((wd p 0 : Nat) : Int), .int .u64 ((wd p 1 : Nat) : Int), .int .u64 ((wd p 2 : Nat) : Int), .int .u64 ((wd p 3 : Nat) : Int)] 33)) 33 #[.int .u64 ((wd q 0 : Nat) : Int), .int .u64 ((wd q 1 : Nat) : Int), .int .u64 ((wd q 2 : Nat) : Int), .int .u64 ((wd q 3 : Nat) : Int)]).alloc (.cells #[.int .u64 0, .int .u64 0, .int .u64 0, .int .u64 0] 33)
    simpa using this
  · have := St.new ((w.alloc (.cells #[.int .u64 ((wd p 0 : Nat) : Int), .int .u64 ((wd p 1 : Nat) : Int), .int .u64 ((wd p 2 : Nat) : Int), .int .u64 ((wd p 3 : Nat) : Int)] 33)).alloc (.cells #[.int .u64 ((wd q 0 : Nat) : Int), .int .u64 ((wd q 1 : Nat) : Int), .int .u64 ((wd q 2 : Nat) : Int), .int .u64 ((wd q 3 : Nat) : Int)] 33)) 33 #[.int .u64 0, .int .u64 0, .int .u64 0, .int .u64 0]
    simpa using this
theorem PutAt.keep {w wr w1 : World} {p q g : Nat → Bool} {k : Nat} {v : Value} (h : PutAt w p q g k v wr) (b : Below wr.heap.size wr w1) : PutAt w p q g k v w1 :=
  ⟨h.s0.keep b, h.s1.keep b, h.s2.keep b, ownsRow_keep h.own b, h.below.trans (b.mono h.below.size), Nat.le_trans h.size b.size⟩
theorem PutAt.below_ {w wr w1 : World} {p q g : Nat → Bool} {k : Nat} {v v' : Value} (h : PutAt w p q g k v wr) (b : Below (w.heap.size + 3) wr w1) (ho : w1.ownsRow (w.heap.size + 3) 4 1 v' (k + 1) (tru g (k + 1))) : PutAt w p q g (k + 1) v' w1 :=
  ⟨h.s0.below b (by omega), h.s1.below b (by omega), h.s2.below b (by omega), ho, h.below.trans (b.mono (by omega)), Nat.le_trans h.size b.size⟩
theorem PutAt.flags {w wr : World} {p q g : Nat → Bool} {a : Option Addr} {cap : Nat} (h : PutAt w p q g 256 (.slice a 256 cap) wr) : ∃ b, a = some ⟨b, 0, none⟩ ∧ b < wr.heap.size ∧ ∀ j, j < 256 → wr.cell? ⟨b, 0 + j, none⟩ = some (.bool (g j)) := by
  obtain ⟨b, rfl, _, hb, hc⟩ := ownsRow_read h.own (by omega)
  exact ⟨b, rfl, hb, fun j hj => by rw [Nat.zero_add, (hc j (by omega)).1, tru_get g 256 j hj]⟩
end Go.Proofs.YtjhfgiflcenjpaaDoor

namespace Go.Proofs.YtjhfgiflcenjpaaDoor
open Go.RowKit

set_option maxHeartbeats 4000000 in
set_option maxRecDepth 100000 in
theorem put3 (p q : Nat → Bool) (w : World) :
    Calls Tryd.prog 39 #[.int .i64 3, (.agg #[.int .u64 ((wd p 0 : Nat) : Int), .int .u64 ((wd p 1 : Nat) : Int), .int .u64 ((wd p 2 : Nat) : Int), .int .u64 ((wd p 3 : Nat) : Int)]), (.agg #[.int .u64 ((wd q 0 : Nat) : Int), .int .u64 ((wd q 1 : Nat) : Int), .int .u64 ((wd q 2 : Nat) : Int), .int .u64 ((wd q 3 : Nat) : Int)])] w fun e w' => e = .returned (.agg #[.int .u64 ((wd ((fun x => !p x)) 0 : Nat) : Int), .int .u64 ((wd ((fun x => !p x)) 1 : Nat) : Int), .int .u64 ((wd ((fun x => !p x)) 2 : Nat) : Int), .int .u64 ((wd ((fun x => !p x)) 3 : Nat) : Int)]) ∧ Below w.heap.size w w' := by
  obtain ⟨i0, hi, hz0, hz1, hz2⟩ := info_parts Tryd.info_bool
  obtain ⟨g, hg⟩ : ∃ g : Nat → Bool, g = fun x => !p x := ⟨_, rfl⟩
  rw [← hg]
  have HG := Lib.hid hg
  clear hg
  go_enter Tryd.func39, Tryd.ntmps39
  go_wp2_with fail
  go_loopw [7, 8] (fun v i wr => ∃ k : Nat, i = .int .i64 k ∧ k ≤ 256 ∧ PutAt w p q g k v wr) (fun _ i _ => 256 - (intOf i).toNat)
  case atStart => exact ⟨0, rfl, Nat.zero_le _, PutAt.start w p q g⟩
  case round =>
    obtain ⟨k, rfl, hk, R⟩ := hrel
    obtain ⟨r0, r1, r2, r3, r4, r5, r6, r7⟩ := row4 R.s0
    obtain ⟨q0, q1, q2, q3, q4, q5, q6, q7⟩ := row4 R.s1
    by_cases hlt : k < 256
    · go_wp2_with fail
      go_region_held3 (fun W' => W'.cell? ⟨w.heap.size, 0, none⟩ = some (.int .u64 ((wd p 0 : Nat) : Int)) ∧ W'.cell? ⟨w.heap.size, 1, none⟩ = some (.int .u64 ((wd p 1 : Nat) : Int)) ∧ W'.cell? ⟨w.heap.size, 2, none⟩ = some (.int .u64 ((wd p 2 : Nat) : Int)) ∧ W'.cell? ⟨w.heap.size, 3, none⟩ = some (.int .u64 ((wd p 3 : Nat) : Int)) ∧ W'.cell? ⟨w.heap.size + 1, 0, none⟩ = some (.int .u64 ((wd q 0 : Nat) : Int)) ∧ W'.cell? ⟨w.heap.size + 1, 1, none⟩ = some (.int .u64 ((wd q 1 : Nat) : Int)) ∧ W'.cell? ⟨w.heap.size + 1, 2, none⟩ = some (.int .u64 ((wd q 2 : Nat) : Int)) ∧ W'.cell? ⟨w.heap.size + 1, 3, none⟩ = some (.int .u64 ((wd q 3 : Nat) : Int))) (go_keep)
        (first
          | (go_at_call 40; have _t := b5; refine (rhas_any _ k hlt _).mono ?_; rintro e w6 ⟨rfl, b6'⟩; have b6 : Below w5.heap.size w5 w6 := (by first | exact b6' | exact undrew2 b6'); have R6 := R5.keep b6; obtain ⟨z0, z1, z2, z3, z4, z5, z6, z7⟩ := row4 R6.s0; obtain ⟨x0, x1, x2, x3, x4, x5, x6, x7⟩ := row4 R6.s1; clear _t)
          | (go_at_call 40; refine (rhas_any _ k hlt _).mono ?_; rintro e w5 ⟨rfl, b5'⟩; have b5 : Below wr.heap.size wr w5 := (by first | exact b5' | exact undrew2 b5'); have R5 := R.keep b5; obtain ⟨y0, y1, y2, y3, y4, y5, y6, y7⟩ := row4 R5.s0; obtain ⟨u0, u1, u2, u3, u4, u5, u6, u7⟩ := row4 R5.s1))
      all_goals
        have hown := R6.own
        have hsz := R6.size
        have HR6 := Lib.hid R6
        clear R R5 R6 b5 b6 b5' b6' r0 r1 r2 r3 r4 r5 r6 r7 q0 q1 q2 q3 q4 q5 q6 q7 y0 y1 y2 y3 y4 y5 y6 y7 u0 u1 u2 u3 u4 u5 u6 u7 z0 z1 z2 z3 z4 z5 z6 z7 x0 x1 x2 x3 x4 x5 x6 x7
        obtain ⟨a, cap, rfl⟩ := ownsRow_slice hown
        have hgk : g k = (!p k) := congrFun HG.out k
        obtain ⟨pk, hpk⟩ : ∃ c, p k = c := ⟨_, rfl⟩
        obtain ⟨qk, hqk⟩ : ∃ c, q k = c := ⟨_, rfl⟩
        rw [hpk] at hgk
        have hG2 := Lib.hid hgk
        rw [hpk, hqk]
        clear hpk hqk hgk
        cases pk <;> cases qk
        all_goals
          first
            | (go_wp2_with (at_builtin; refine wpList_append_own _ rfl _ _ 81 rfl (w.heap.size + 3) 4 i0 (.bool false) 1 1 Tryd.underlying81 hi hz0 hz1 hz2 rfl (by decide) _ _ _ rfl (hown.alloc _) ⟨w6.heap.size, 0, none⟩ 1 1 [.bool true] rfl rfl ?_ ?_ ?_ ?_ ?_ ?_)
               · intro j u hj
                 match j, hj with
                 | 0, hj => simp at hj; subst hj; simp [Addr.add]
               · intro u hu; simp at hu; subst hu; rfl
               · unfold maxLen; omega
               · omega
               · simp; omega
               · intro v' w7 hown7 hgrow7 _
                 have hB7 : Below (w.heap.size + 3) w6 w7 := ((Below.refl _ w6).alloc hsz _).trans (grown_kept hgrow7 (hown.alloc _) (by simp; omega))
                 have R7 : PutAt w p q g (k + 1) v' w7 := HR6.out.below_ hB7 (by rw [tru_snoc, hG2.out]; exact hown7)
                 clear hown7 hgrow7 hown hB7
                 go_wp2_with fail
                 go_roundw
                 case rel => exact ⟨k + 1, by go_num, by omega, R7⟩
                 case measure => simp [intOf]; omega)
            | (go_wp2_with (at_builtin; refine wpList_append_own _ rfl _ _ 81 rfl (w.heap.size + 3) 4 i0 (.bool false) 1 1 Tryd.underlying81 hi hz0 hz1 hz2 rfl (by decide) _ _ _ rfl (hown.alloc _) ⟨w6.heap.size, 0, none⟩ 1 1 [.bool false] rfl rfl ?_ ?_ ?_ ?_ ?_ ?_)
               · intro j u hj
                 match j, hj with
                 | 0, hj => simp at hj; subst hj; simp [Addr.add]
               · intro u hu; simp at hu; subst hu; rfl
               · unfold maxLen; omega
               · omega
               · simp; omega
               · intro v' w7 hown7 hgrow7 _
                 have hB7 : Below (w.heap.size + 3) w6 w7 := ((Below.refl _ w6).alloc hsz _).trans (grown_kept hgrow7 (hown.alloc _) (by simp; omega))
                 have R7 : PutAt w p q g (k + 1) v' w7 := HR6.out.below_ hB7 (by rw [tru_snoc, hG2.out]; exact hown7)
                 clear hown7 hgrow7 hown hB7
                 go_wp2_with fail
                 go_roundw
                 case rel => exact ⟨k + 1, by go_num, by omega, R7⟩
                 case measure => simp [intOf]; omega)
    · obtain rfl : k = 256 := by omega
      obtain ⟨x0, x1, x2, x3, x4, x5, x6, x7⟩ := row4 R.s2
      obtain ⟨a, cap, rfl⟩ := ownsRow_slice R.own
      obtain ⟨b, rfl, hb, hc⟩ := R.flags
      go_wp2_with fail
      refine (rof_any g b 0 cap _ hb hc).mono ?_
      rintro e w3 ⟨rfl, b3⟩
      have s2 := R.s2.keep b3
      have hbel := R.below.trans (b3.mono R.below.size)
      have hlt2 := s2.lt
      obtain ⟨y0, y1, y2, y3, y4, y5, y6, y7⟩ := row4 s2
      clear R b3 s2 hc x0 x1 x2 x3 x4 x5 x6 x7 r0 r1 r2 r3 r4 r5 r6 r7 q0 q1 q2 q3 q4 q5 q6 q7
      go_wp2_with fail
      exact bodyPost_ret (v := (.agg #[.int .u64 ((wd g 0 : Nat) : Int), .int .u64 ((wd g 1 : Nat) : Int), .int .u64 ((wd g 2 : Nat) : Int), .int .u64 ((wd g 3 : Nat) : Int)])) (by simp [results, Tryd.results39, go_sem, y0, y1, y2, y3]) rfl ⟨rfl, below4 hbel (by omega) _ _ _ _⟩
end Go.Proofs.YtjhfgiflcenjpaaDoor
