import Derived.Test.YtnkaenfmmlahlaaNew
import Derived.Test.YtnkaenfmmlahlaaPeek
import Derived.WalkSpells
namespace Go.Proofs.Ytnkaenfmmlahlaa
open Go.Conc Go.RowKit

/-- What is known of a slice of ints that came in. -/
def Els (w : World) (a : Option Addr) (len : Nat) (zs : List Int) : Prop :=
  0 < len → ∃ b off, a = some ⟨b, off, none⟩ ∧ b < w.heap.size ∧ ∀ j, j < len → w.cell? ⟨b, off + j, none⟩ = some (.int .i64 (zs.getD j 0))

theorem FeedAt.below {w w' : World} {b c cap : Nat} {l : List Int} {sh : Bool} {lost : Nat} (h : FeedAt w b c cap l sh lost) {B : Nat} (k : Below B w w') (hb : b < B) (hc : c < B) : FeedAt w' b c cap l sh lost := by
  obtain ⟨s, r, hh⟩ := h.hc
  exact ⟨(k.block b hb).trans h.hb, ⟨s, r, (k.block c hc).trans hh⟩, h.fits⟩
theorem ownsRow_kept {w w' : World} {base : Nat} {e : TypeId} {size : Nat} {v : Value} {n : Nat} {xs : List Value} (h : w.ownsRow base e size v n xs) {T : List Nat} (k : Kept T w w') (hT : ∀ i, i ∈ T → i < base) : w'.ownsRow base e size v n xs := by
  obtain ⟨h1, h2⟩ := h
  refine ⟨h1, ?_⟩
  rcases h2 with h2 | ⟨g, cap, cur, hv, hg, hh, r⟩
  · exact Or.inl h2
  · refine Or.inr ⟨g, cap, cur, hv, hg, ?_, r⟩
    rw [k.block g (Array.getElem?_eq_some_iff.1 hh).1 (fun e => by have := hT g e; omega)]
    exact hh
theorem ownsRow_slice {w : World} {base : Nat} {e : TypeId} {size : Nat} {v : Value} {n : Nat} {xs : List Value} (h : w.ownsRow base e size v n xs) : ∃ a cap, v = .slice a n cap := by
  rcases h.2 with ⟨h1, h2⟩ | ⟨g, cap, cur, hv, _⟩
  · subst h2; exact ⟨_, _, h1⟩
  · exact ⟨_, _, hv⟩
theorem ownsRow_read {w : World} {base : Nat} {e : TypeId} {a : Option Addr} {n cap : Nat} {xs : List Value} (h : w.ownsRow base e 1 (.slice a n cap) n xs) {j : Nat} (hj : j < n) : ∃ g, a = some ⟨g, 0, none⟩ ∧ w.cell? ⟨g, j, none⟩ = xs[j]? := by
  rcases h.2 with ⟨h1, h2⟩ | ⟨g, cap', cur, hv, _⟩
  · omega
  · simp at hv
    obtain ⟨rfl, rfl⟩ := hv
    exact ⟨g, rfl, h.cellAt j (by omega)⟩
theorem grown_kept {w w' : World} {v : Value} (h : w.grownBy w' v.ownBlock) {base : Nat} {e : TypeId} {size : Nat} {n : Nat} {xs : List Value} (ho : w.ownsRow base e size v n xs) (hb : base ≤ w.heap.size) : Below base w w' := by
  refine ⟨h.os, h.tape, h.output, h.size, fun k hk => h.block k (by omega) fun e => ?_⟩
  rcases ho.2 with ⟨rfl, _⟩ | ⟨g, cap, cur, rfl, hg, _⟩
  · simp [Value.ownBlock] at e
  · simp [Value.ownBlock] at e; omega

theorem Try.info3 : (Try.prog.info? 3).map (fun i => (i.zero, i.size, i.bytes)) = some (some (.int .i64 0), 1, 8) := by kernel_rfl

/-- After k rounds of the first loop. -/
structure Loop1 (w : World) (B bf cf m : Nat) (zs : List Int) (len k : Nat) (v : Value) (wr : World) : Prop where
  hk : k ≤ len
  own : wr.ownsRow B 3 1 v (min k m) ((zs.take (min k m)).map (Value.int .i64))
  feed : FeedAt wr bf cf m (zs.take (min k m)) false (k - min k m)
  below : Below w.heap.size w wr
  size : B ≤ wr.heap.size

/-- After j rounds of the second loop. -/
structure Loop2 (w : World) (B bf cf mm : Nat) (zs : List Int) (n j : Nat) (v : Value) (lost : Nat) (wr : World) : Prop where
  hj : j ≤ n
  own : wr.ownsRow B 3 1 v n ((zs.take n).map (Value.int .i64))
  feed : FeedAt wr bf cf mm ((zs.take n).drop j) false lost
  below : Below w.heap.size w wr

theorem drop_take (zs : List Int) (n j : Nat) (hj : j < n) (hn : n ≤ zs.length) : (zs.take n).drop j = zs.getD j 0 :: (zs.take n).drop (j + 1) := by
  rw [List.drop_eq_getElem_cons (by simp; omega)]
  congr 1
  simp [List.getElem?_eq_getElem (by omega : j < zs.length)]

set_option maxHeartbeats 1000000 in
set_option maxRecDepth 100000 in
theorem order_walk (m : Nat) (hm : m ≤ 255) (a : Option Addr) (len cap : Nat) (zs : List Int) (w : World) (hlen : len ≤ 300) (hz : len ≤ zs.length) (hE : Els w a len zs) :
    Calls Try.prog 4 #[.int .u8 m, .slice a len cap] w fun e w' => e = .returned (.bool true) ∧ Below w.heap.size w w' := by
  obtain ⟨i0, hi, hz0, hz1, hz2⟩ := info_parts Try.info3
  go_enter Try.func4, Try.ntmps4
  go_wp2_with fail
  refine (awake_any _).mono ?_
  rintro e w1 ⟨rfl, b1⟩
  go_wp2_with fail
  refine (new_ok m (by omega) _).mono ?_
  rintro e w2 ⟨rfl, h2, b2, z2⟩
  have hw2 : w1.heap.size + 2 ≤ w2.heap.size := by omega
  clear z2
  have hs1 := b1.size
  have hB : w.heap.size ≤ w1.heap.size + 1 := by omega
  have hlt := h2.lt
  obtain ⟨bf, hbf, hbf1, hbf2⟩ : ∃ bf, w1.heap.size + 1 = bf ∧ bf < w2.heap.size ∧ w.heap.size ≤ bf := ⟨_, rfl, by omega, by omega⟩
  obtain ⟨cf, hcf, hcf1, hcf2⟩ : ∃ cf, w1.heap.size = cf ∧ cf < w2.heap.size ∧ w.heap.size ≤ cf := ⟨_, rfl, by omega, by omega⟩
  rw [hbf, hcf] at h2
  rw [hbf]
  clear hbf hcf hlt hB
  have b2' : Below w.heap.size w w2 := b1.trans (b2.mono hs1)
  clear b2 b1 hw2 hs1
  obtain ⟨B, hBe, hB1⟩ : ∃ B, B = w2.heap.size ∧ B ≤ w2.heap.size := ⟨_, rfl, by omega⟩
  rw [← hBe] at hbf1 hcf1
  have hB2 : w.heap.size ≤ B := by omega
  clear hBe
  go_wp2_with fail
  go_loopw [7, 8] (fun v i wr => ∃ k : Nat, i = .int .i64 k ∧ Loop1 w B bf cf m zs len k v wr) (fun _ i _ => len - (intOf i).toNat)
  case atStart => exact ⟨0, rfl, ⟨by omega, by simpa using World.ownsRow_nil _ _ _ _, by simpa using h2, b2', hB1⟩⟩
  case round =>
    clear h2 b2' hB1
    obtain ⟨k, rfl, R⟩ := hrel
    have hk := R.hk
    have hsz := R.below.size
    by_cases hlt : k < len
    · obtain ⟨b, off, rfl, hbw, hcl⟩ := hE (by omega)
      have hcell := fun W (hW : Below w.heap.size w W) => (hW.cell (p := ⟨b, off + k, none⟩) hbw).trans (hcl k hlt)
      have HC := Lib.hid hcell
      clear hcell
      have hc1 := HC.out wr R.below
      by_cases hkm : k < m
      · have hmk : min k m = k := by omega
        have hmk1 : min (k + 1) m = k + 1 := by omega
        have hown := R.own
        have hfeed := R.feed
        have hbel := R.below
        have hBr := R.size
        rw [hmk] at hown hfeed
        have H1 := Lib.hid hmk1
        clear R hmk hmk1
        go_wp2_with fail
        refine (put_kept hfeed _ (by simp; omega)).mono ?_
        rintro e w3 ⟨rfl, h3, k3⟩
        have hown3 := ownsRow_kept hown k3 (by simp; omega)
        have hbel3 := hbel.trans (k3.below hsz (by simp; omega))
        have hB3 := Nat.le_trans hBr k3.size
        have hc3 := HC.out w3 hbel3
        clear hown hfeed hbel k3 hc1
        go_wp2_with (at_builtin; refine wpList_append_own _ rfl _ _ 29 rfl B 3 i0 (.int .i64 0) 1 8 Try.underlying29 hi hz0 hz1 hz2 rfl (by decide) _ _ _ rfl (hown3.alloc _) ⟨w3.heap.size, 0, none⟩ 1 1 [.int .i64 (zs.getD k 0)] rfl rfl ?c1 ?c2 ?c3 ?c4 ?c5 ?_)
        case c1 =>
          intro j u hj
          match j, hj with
          | 0, hj => simp at hj; subst hj; simp [Addr.add]
        case c2 => intro u hu; simp at hu; subst hu; rfl
        case c3 => unfold maxLen; omega
        case c4 => omega
        case c5 => simp; omega
        intro v' w5 hown5 hgrow5 _
        have hB5 : Below B w3 w5 := ((Below.refl B w3).alloc hB3 _).trans (grown_kept hgrow5 (hown3.alloc _) (by simp; omega))
        have R5 : Loop1 w B bf cf m zs len (k + 1) v' w5 := by
          refine ⟨by omega, ?_, ?_, hbel3.trans (hB5.mono hB2), Nat.le_trans hB3 hB5.size⟩
          · rw [H1.out, List.take_succ_eq_append_getElem (by omega : k < zs.length), List.map_append]
            simpa [List.getElem?_eq_getElem (by omega : k < zs.length), List.map_take] using hown5
          · rw [H1.out, List.take_succ_eq_append_getElem (by omega : k < zs.length)]
            have h3' := h3.below hB5 hbf1 hcf1
            simpa [List.getElem?_eq_getElem (by omega : k < zs.length)] using h3'
        clear hown5 hgrow5 hown3 h3 hB5 hbel3 hB3 hc3
        go_wp2_with fail
        go_roundw
        case rel => exact ⟨k + 1, by go_num, R5⟩
        case measure => simp [intOf]; omega
      · have hno : m ≤ (zs.take (min k m)).length := by simp; omega
        go_wp2_with fail
        refine (put_lost R.feed _ (.inr hno) (by omega)).mono ?_
        rintro e w3 ⟨rfl, h3, k3⟩
        go_wp2_with fail
        go_roundw
        case rel => exact ⟨k + 1, by go_num, ⟨by omega, by rw [show min (k + 1) m = min k m by omega]; exact ownsRow_kept R.own k3 (by simp; omega), by rw [show min (k + 1) m = min k m by omega, show k + 1 - min k m = k - min k m + 1 by omega]; exact h3, R.below.trans (k3.below hsz (by simp; omega)), Nat.le_trans R.size k3.size⟩⟩
        case measure => simp [intOf]; omega
    · obtain rfl : k = len := by omega
      obtain ⟨n, hn, hnk, hnm⟩ : ∃ n, min k m = n ∧ n ≤ k ∧ n ≤ m := ⟨_, rfl, by omega, by omega⟩
      have hown := R.own
      have hfeed := R.feed
      have hbel := R.below
      have hBr := R.size
      rw [hn] at hown hfeed
      clear R hk hlt
      obtain ⟨ao, cv, rfl⟩ := ownsRow_slice hown
      rcases (by omega : n = k ∨ (n = m ∧ m < k)) with hkn | ⟨hkn, hmk⟩ <;> subst hkn
      all_goals
        clear hn
        go_wp2_with fail
        refine (lost_any hfeed).mono ?_
        rintro e w3 ⟨rfl, rfl⟩
        try rw [show ((k - n : Nat) : Int) = (k : Int) - n from by omega]
        go_wp2_with fail
        obtain ⟨mm, lost, hmm, hfeed⟩ : ∃ mm lost, mm ≤ 255 ∧ FeedAt wr bf cf mm (zs.take n) false lost := ⟨_, _, hm, hfeed⟩
        obtain ⟨wo, rfl⟩ : ∃ wo : World, wo = wr := ⟨_, rfl⟩
        go_loopw [9] (fun i wl => ∃ j : Nat, i = .int .i64 j ∧ Loop2 w B bf cf mm zs n j (.slice ao n cv) lost wl) (fun i _ => n - (intOf i).toNat)
        case atStart => exact ⟨0, rfl, ⟨by omega, hown, by simpa using hfeed, hbel⟩⟩
        case round =>
          clear hown hfeed hbel
          obtain ⟨j, rfl, R⟩ := hrel
          have hj := R.hj
          have hfeed := R.feed
          have hsr := R.below.size
          by_cases hlt : j < n
          · obtain ⟨b, off, rfl, hbw, hcl⟩ := hE (by omega)
            have hcx := hcl j (by omega)
            rw [drop_take zs n j hlt (by omega)] at hfeed
            have hget : ((zs.take n).map (Value.int .i64))[j]? = some (.int .i64 (zs.getD j 0)) := by
              rw [List.getElem?_map, List.getElem?_take_of_lt hlt, List.getElem?_eq_getElem (by omega : j < zs.length)]
              simp [List.getElem?_eq_getElem (by omega : j < zs.length)]
            generalize zs.getD j 0 = x at hcx hfeed hget
            have HG := Lib.hid hget
            have HX := Lib.hid hcx
            clear hget hcx hcl
            go_wp2_with fail
            refine (peek_some hfeed (by omega)).mono ?_
            rintro e w3 ⟨rfl, h3, k3⟩
            go_wp2_with fail
            refine (Take_some h3).mono ?_
            rintro e w4 ⟨rfl, h4, k4⟩
            have kk := k3.trans k4
            have hown4 := ownsRow_kept R.own kk (by simp; omega)
            have hb4 := R.below.trans (kk.below hsr (by simp; omega))
            obtain ⟨g, rfl, hg⟩ := ownsRow_read hown4 hlt
            rw [HG.out] at hg
            have hx4 := (hb4.cell (p := ⟨b, off + j, none⟩) hbw).trans HX.out
            have R4 : Loop2 w B bf cf mm zs n (j + 1) (.slice (some ⟨g, 0, none⟩) n cv) lost w4 := ⟨by omega, hown4, h4, hb4⟩
            clear hown4 hb4 h4 h3 k3 k4 kk R hfeed
            go_wp2_with fail
            go_roundw
            case rel => exact ⟨j + 1, by go_num, R4⟩
            case measure => simp [intOf]; omega
          · obtain rfl : j = n := by omega
            go_wp2_with fail
            refine (len_any hfeed).mono ?_
            rintro e w3 ⟨rfl, rfl⟩
            rw [List.drop_of_length_le (by simp; omega)]
            go_wp2_with fail
            go_ret
            exact ⟨rfl, R.below⟩
end Go.Proofs.Ytnkaenfmmlahlaa
