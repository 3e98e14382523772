import Derived.Test.YtjhfgiflcenjpaaDoorZBldB
import Derived.Test.YtjhfgiflcenjpaaDoorZEmpty
import Derived.Test.YtjhfgiflcenjpaaDoorZNot
import Derived.Test.YtjhfgiflcenjpaaDoorZPByte
import Derived.Test.YtjhfgiflcenjpaaDoorZRxText
import Derived.BigQuiet
import Derived.Deep.QuietTactic
import Derived.Deep.RegionHeld3
namespace Go.Proofs.YtjhfgiflcenjpaaDoor
open Go.RowKit

theorem St.others {w w' : World} {t g e b : Nat} {cs : Array Value} (h : St w t g cs) (k : Lib.OthersKept e (some b) w w') (hb : g ≠ b) (ht : t ≠ e) : St w' t g cs :=
  k g _ h (by simpa using hb) (by intro c fz h; simp at h; exact ht h.2.1)
theorem others_below {e : TypeId} {b : Option Nat} {a w w' : World} (h : Lib.OthersKept e b a w) (k : Below w.heap.size w w') : Lib.OthersKept e b a w' := by
  intro i o hi hb ho
  have h1 := h i o hi hb ho
  exact (k.block i (Array.getElem?_eq_some_iff.1 h1).1).trans h1
theorem st2 {w : World} {t g : Nat} {c0 c1 : Value} (h : St w t g #[c0, c1]) : w.cell? ⟨g, 0, none⟩ = some c0 ∧ w.cell? ⟨g, 1, none⟩ = some c1 := by
  have h : w.heap[g]? = some (.cells #[c0, c1] t (0, 0)) := h
  constructor <;> (rw [cell_of_row w g _ _ _ _ h]; rfl)
theorem spCells_at (l : List (Nat × Nat)) (i : Nat) (h : i < l.length) : (spCells l)[i * 2]? = some (.int .u8 ((l[i].1 : Nat) : Int)) ∧ (spCells l)[i * 2 + 1]? = some (.int .u8 ((l[i].2 : Nat) : Int)) := spCells_get l i h

set_option maxHeartbeats 4000000 in
set_option maxRecDepth 100000 in
theorem spansText_any (p : Nat → Bool) (w : World) :
    Calls Tryd.prog 51 #[(.agg #[.int .u64 ((wd p 0 : Nat) : Int), .int .u64 ((wd p 1 : Nat) : Int), .int .u64 ((wd p 2 : Nat) : Int), .int .u64 ((wd p 3 : Nat) : Int)])] w fun e w' => e = .returned (.string (strOf (spT (spansOf p)))) ∧ Below w.heap.size w w' := by
  have HI : Hid (∀ c, inB ⟨#[47, 93, 94, 45, 34]⟩ c = inB insS c) := fun c => rfl
  have hlt := spansOf_lt p
  have hlen := spansOf_len p
  go_enter Tryd.func51, Tryd.ntmps51
  go_wp2_with fail
  obtain ⟨S, hS⟩ : ∃ S, spansOf p = S := ⟨_, rfl⟩
  have hB0 : Bld w.heap.size (w.heap.size + 1) [] ((w.alloc (.cells #[.int .u64 ((wd p 0 : Nat) : Int), .int .u64 ((wd p 1 : Nat) : Int), .int .u64 ((wd p 2 : Nat) : Int), .int .u64 ((wd p 3 : Nat) : Int)] 33)).alloc (.cells #[.pointer none, .slice none 0 0] 51)) := by
    have := Bld.new (w.alloc (.cells #[.int .u64 ((wd p 0 : Nat) : Int), .int .u64 ((wd p 1 : Nat) : Int), .int .u64 ((wd p 2 : Nat) : Int), .int .u64 ((wd p 3 : Nat) : Int)] 33))
    exact Bld.weaken (by simpa using this) (Nat.le_succ _)
  have hbel0 : Below w.heap.size w ((w.alloc (.cells #[.int .u64 ((wd p 0 : Nat) : Int), .int .u64 ((wd p 1 : Nat) : Int), .int .u64 ((wd p 2 : Nat) : Int), .int .u64 ((wd p 3 : Nat) : Int)] 33)).alloc (.cells #[.pointer none, .slice none 0 0] 51)) := ((Below.refl _ _).alloc (Nat.le_refl _) _).alloc (by simp) _
  refine (spans_any p _).mono ?_
  rintro e w1 ⟨a, cap, rfl, hown, b1⟩
  rw [hS] at hown hlt hlen ⊢
  have hB1 := hB0.keep b1
  have hbel1 := hbel0.trans (b1.mono (by simp; omega))
  have HS := Lib.hid hS
  have HLT := Lib.hid hlt
  obtain ⟨n, hn⟩ : ∃ n, S.length = n := ⟨_, rfl⟩
  rw [hn] at hown hlen ⊢
  have hread : 0 < n → ∃ g, a = some ⟨g, 0, none⟩ ∧ w.heap.size + 1 < g ∧ (∃ cur, w1.heap[g]? = some (.cells cur 94 (0, 0))) ∧ ∀ j, j < n * 2 → w1.cell? ⟨g, j, none⟩ = (spCells S)[j]? := by
    intro h0
    obtain ⟨g, rfl, hg1, hg2, hg3⟩ := ownsRow_read hown h0
    obtain ⟨cur, fz, hc⟩ := Lib.ownsRow_kind hown g (by simp [Value.ownBlock])
    refine ⟨g, rfl, by simp at hg1; omega, ?_, fun j hj => (hg3 j hj).1⟩
    have := hown.2
    rcases this with ⟨_, h⟩ | ⟨g', cap', cur', hv, _, hh, _⟩
    · omega
    · simp at hv
      obtain ⟨rfl, _⟩ := hv
      exact ⟨cur', hh⟩
  have HR := Lib.hid hread
  have HN := Lib.hid hn
  have HB := Lib.hid hB1
  have hsz1 := b1.size
  simp at hsz1
  clear hS hlt hn hread hown b1 hB0 hbel0 hB1
  go_wp2_with fail
  go_loopw [9] (fun i wr => ∃ k : Nat, i = .int .i64 k ∧ k ≤ n ∧ Bld w.heap.size (w.heap.size + 1) (spT (S.take k)) wr ∧ Below w.heap.size w wr ∧ Lib.OthersKept 5 (some (w.heap.size + 1)) w1 wr ∧ w1.heap.size ≤ wr.heap.size) (fun i _ => n - (intOf i).toNat)
  case atStart => exact ⟨0, rfl, Nat.zero_le _, HB.out, hbel1, Lib.OthersKept.refl _ _ _, Nat.le_refl _⟩
  case round =>
    clear HB hbel1
    obtain ⟨k, rfl, hk, hb, hbel, hok, hsz⟩ := hrel
    have hbw := hbel.size
    by_cases hlt : k < n
    · have hkS : k < S.length := by rw [HN.out]; exact hlt
      obtain ⟨g, rfl, hg1, ⟨cur, hg2⟩, hg3⟩ := HR.out (by omega)
      obtain ⟨q0, q1⟩ := spCells_at S k hkS
      have hge : wr.heap[g]? = w1.heap[g]? := (hok g _ hg2 (by simp; omega) (by intro c fz h; simp at h)).trans hg2.symm
      have hce : ∀ j, wr.cell? ⟨g, j, none⟩ = w1.cell? ⟨g, j, none⟩ := fun j => by simp [World.cell?, hge]
      have c0 : wr.cell? ⟨g, k * 2, none⟩ = some (.int .u8 ((S[k].1 : Nat) : Int)) := by rw [hce, hg3 _ (by omega), q0]
      have c1 : wr.cell? ⟨g, k * 2 + 1, none⟩ = some (.int .u8 ((S[k].2 : Nat) : Int)) := by rw [hce, hg3 _ (by omega), q1]
      have HT := Lib.hid (spT_take S k hkS)
      have hx := HLT.out S[k] (List.getElem_mem hkS)
      have hl := spT_len (S.take k)
      have hl2 : (S.take k).length ≤ 256 := by simp; omega
      have HB := Lib.hid hb
      have HOK := Lib.hid hok
      have hglt : g < wr.heap.size := by
        by_cases h : g < wr.heap.size
        · exact h
        · simp [World.cell?, Array.getElem?_eq_none (by omega : wr.heap.size ≤ g)] at c0
      generalize S[k] = x at c0 c1 HT hx
      obtain ⟨x0, x1⟩ := x
      simp only at c0 c1 HT hx
      clear hge hce q0 q1 hkS hb hok hg3 hg2
      have s5 := St.new wr 94 #[.int .u8 ((x0 : Nat) : Int), .int .u8 ((x1 : Nat) : Int)]
      have HB5 := Lib.hid (HB.out.keep ((Below.refl _ wr).alloc (Nat.le_refl _) (.cells #[.int .u8 ((x0 : Nat) : Int), .int .u8 ((x1 : Nat) : Int)] 94)))
      have hbel5 := hbel.alloc hbw (.cells #[.int .u8 ((x0 : Nat) : Int), .int .u8 ((x1 : Nat) : Int)] 94)
      have HOK5 := Lib.hid (HOK.out.alloc (.cells #[.int .u8 ((x0 : Nat) : Int), .int .u8 ((x1 : Nat) : Int)] 94))
      obtain ⟨d0, d1⟩ := st2 s5
      have S5 := Lib.hid s5
      have hne : w.heap.size + 1 < wr.heap.size := by have := HB.out.lt; omega
      clear s5 HB HOK hbel
      go_wp2_with fail
      refine (byte_any x0 hx.1 _ _).mono ?_
      rintro e w2 ⟨rfl, b2⟩
      rw [HI.out]
      have S6 := Lib.hid (S5.out.keep b2)
      have HB6 := Lib.hid (HB5.out.keep b2)
      have hbel6 := hbel5.trans (b2.mono (by simp; omega))
      have HOK6 := Lib.hid (others_below HOK5.out b2)
      have hsz2 := b2.size
      simp at hsz2
      clear b2 S5 HB5 hbel5 HOK5 d0 d1 c0 c1
      go_wp2_with fail
      refine (write_kept w.heap.size (w.heap.size + 1) _ _ _ HB6.out (byteT_lt _ _ hx.1) (by have := byteT_len x0 (inB insS x0); omega) (by omega)).mono ?_
      rintro e w3 ⟨rfl, hb3, bl3, ok3⟩
      have s7 := S6.out.others ok3 (by omega) (by decide)
      obtain ⟨d0, d1⟩ := st2 s7
      have S7 := Lib.hid s7
      have HB7 := Lib.hid hb3
      have hbel7 := hbel6.trans bl3
      have HOK7 := Lib.hid (HOK6.out.trans ok3)
      have hsz3 := bl3.size
      clear hb3 bl3 ok3 s7 S6 HB6 hbel6 HOK6
      by_cases he : x1 = x0
      · have e1 : ((x1 : Int) != (x0 : Int)) = false := by simp; omega
        have HZ : Hid (spT (S.take (k + 1)) = spT (S.take k) ++ byteT x0 (inB insS x0)) := by
          show _ = _
          rw [HT.out, spanT]; simp [he]
        clear he
        go_wp2_with fail
        go_roundw
        case rel => exact ⟨k + 1, by go_num, by omega, by rw [HZ.out]; exact HB7.out, hbel7, HOK7.out, by omega⟩
        case measure => simp [intOf]; omega
      · have e1 : ((x1 : Int) != (x0 : Int)) = true := by simp; omega
        have HZ : Hid (spT (S.take (k + 1)) = (spT (S.take k) ++ byteT x0 (inB insS x0)) ++ [45] ++ byteT x1 (inB insS x1)) := by
          show _ = _
          rw [HT.out, spanT]; simp [he]
        have hL1 : (spT (S.take k) ++ byteT x0 (inB insS x0)).length ≤ 4000 := by have := byteT_len x0 (inB insS x0); simp; omega
        clear he
        go_wp2_with fail
        refine (put_kept w.heap.size (w.heap.size + 1) _ 45 _ HB7.out (by omega) (by omega)).mono ?_
        rintro e w4 ⟨rfl, hb4, bl4, ok4⟩
        have s8 := S7.out.others ok4 (by omega) (by decide)
        clear d0 d1
        obtain ⟨d0, d1⟩ := st2 s8
        have HB8 := Lib.hid hb4
        have hbel8 := hbel7.trans bl4
        have HOK8 := Lib.hid (HOK7.out.trans ok4)
        have hsz4 := bl4.size
        clear hb4 bl4 ok4 s8 S7 HB7 hbel7 HOK7
        go_wp2_with fail
        refine (byte_any x1 hx.2 _ _).mono ?_
        rintro e w5 ⟨rfl, b5⟩
        rw [HI.out]
        have HB9 := Lib.hid (HB8.out.keep b5)
        have hbel9 := hbel8.trans (b5.mono (by omega))
        have HOK9 := Lib.hid (others_below HOK8.out b5)
        have hsz5 := b5.size
        clear b5 HB8 hbel8 HOK8 d0 d1
        go_wp2_with fail
        refine (write_kept w.heap.size (w.heap.size + 1) _ _ _ HB9.out (byteT_lt _ _ hx.2) (by have := byteT_len x1 (inB insS x1); rw [List.length_append]; simp only [List.length_singleton]; omega) (by omega)).mono ?_
        rintro e w6 ⟨rfl, hb6, bl6, ok6⟩
        have HBA := Lib.hid hb6
        have hbelA := hbel9.trans bl6
        have HOKA := Lib.hid (HOK9.out.trans ok6)
        have hsz6 := bl6.size
        clear hb6 bl6 ok6 HB9 hbel9 HOK9
        go_wp2_with fail
        go_roundw
        case rel => exact ⟨k + 1, by go_num, by omega, by rw [HZ.out]; exact HBA.out, hbelA, HOKA.out, by omega⟩
        case measure => simp [intOf]; omega
    · obtain rfl : k = n := by omega
      have HZ : Hid (S.take k = S) := by show _ = _; rw [← HN.out, List.take_length]
      rw [HZ.out] at hb
      have hl := spT_lt S HLT.out
      clear hok
      go_wp2_with fail
      refine (text_any w.heap.size (w.heap.size + 1) _ _ hb hl (by omega)).mono ?_
      rintro e w2 ⟨rfl, b2⟩
      have hb2 := hbel.trans b2
      go_wp2_with fail
      go_ret
      exact ⟨by rw [HS.out]; rfl, hb2⟩

/-- Is a set all bytes? -/
theorem set_full (p : Nat → Bool) : (((wd p 0 : Nat) : Int) == ((wd (fun _ => true) 0 : Nat) : Int) && (((wd p 1 : Nat) : Int) == ((wd (fun _ => true) 1 : Nat) : Int) && (((wd p 2 : Nat) : Int) == ((wd (fun _ => true) 2 : Nat) : Int) && ((wd p 3 : Nat) : Int) == ((wd (fun _ => true) 3 : Nat) : Int)))) = decide ((lst p 256).length = 256) := by
  have h := wd_iff p (fun _ => true)
  have e : (∀ b, b < 256 → p b = true) ↔ (lst p 256).length = 256 := by
    constructor
    · intro h1
      have : lst p 256 = List.range 256 := by
        unfold lst
        rw [List.filter_eq_self]
        intro x hx
        exact h1 x (by simpa using hx)
      rw [this]; simp
    · intro h1 b hb
      have h2 : lst p 256 = List.range 256 := by
        have : (lst p 256).length = (List.range 256).length := by rw [h1]; simp
        exact List.Sublist.eq_of_length (List.filter_sublist) this
      have : b ∈ lst p 256 := by rw [h2]; simpa using hb
      exact ((lst_mem p 256 b).1 this).2
  rw [e] at h
  rw [Bool.eq_iff_iff]
  simp only [Bool.and_eq_true, beq_iff_eq, decide_eq_true_eq, ← h]
  omega

theorem len_is (p : Nat → Bool) (n : Nat) (h : (lst p 256).length = n) (w : World) :
    Calls Tryd.prog 47 #[(.agg #[.int .u64 ((wd p 0 : Nat) : Int), .int .u64 ((wd p 1 : Nat) : Int), .int .u64 ((wd p 2 : Nat) : Int), .int .u64 ((wd p 3 : Nat) : Int)])] w fun e w' => e = .returned (.int .i64 ((n : Nat) : Int)) ∧ Below w.heap.size w w' := by
  subst h
  exact len_any p w
theorem first_one (p : Nat → Bool) (c : Nat) (h : least p = (c : Int)) (w : World) (hT : TabAt w) :
    Calls Tryd.prog 50 #[(.agg #[.int .u64 ((wd p 0 : Nat) : Int), .int .u64 ((wd p 1 : Nat) : Int), .int .u64 ((wd p 2 : Nat) : Int), .int .u64 ((wd p 3 : Nat) : Int)])] w fun e w' => e = .returned (.int .i64 ((c : Nat) : Int)) ∧ Below w.heap.size w w' := by
  rw [← h]
  exact first_any p w hT

set_option maxHeartbeats 4000000 in
set_option maxRecDepth 100000 in
theorem setText_any (p : Nat → Bool) (w : World) (hT : TabAt w) :
    Calls Tryd.prog 42 #[(.agg #[.int .u64 ((wd p 0 : Nat) : Int), .int .u64 ((wd p 1 : Nat) : Int), .int .u64 ((wd p 2 : Nat) : Int), .int .u64 ((wd p 3 : Nat) : Int)])] w fun e w' => e = .returned (.string (strOf (setT p))) ∧ Below w.heap.size w w' := by
  have HI : Hid (∀ c, inB ⟨#[47, 40, 41, 91, 93, 124, 42, 43, 63, 46, 34, 126]⟩ c = inB outS c) := fun c => rfl
  have heq := run_eq_set
  have hE := set_full p
  obtain ⟨n, hn⟩ : ∃ n, (lst p 256).length = n := ⟨_, rfl⟩
  have hn2 : n ≤ 256 := by have := lst_le p 256; omega
  have HN := Lib.hid hn
  rw [hn] at hE
  have HX : Hid (setT p = if n = 256 then [46] else if n = 1 then byteT (least p).toNat (inB outS (least p).toNat) else if 128 < n then 91 :: 94 :: (spT (spansOf fun x => !p x) ++ [93]) else 91 :: (spT (spansOf p) ++ [93])) := by
    show _ = _; unfold setT; rw [hn]
  clear hn
  have hs0 := St.new w 33 #[.int .u64 ((wd p 0 : Nat) : Int), .int .u64 ((wd p 1 : Nat) : Int), .int .u64 ((wd p 2 : Nat) : Int), .int .u64 ((wd p 3 : Nat) : Int)]
  have hbel0 : Below w.heap.size w (w.alloc (.cells #[.int .u64 ((wd p 0 : Nat) : Int), .int .u64 ((wd p 1 : Nat) : Int), .int .u64 ((wd p 2 : Nat) : Int), .int .u64 ((wd p 3 : Nat) : Int)] 33)) := (Below.refl _ _).alloc (Nat.le_refl _) _
  go_enter Tryd.func42, Tryd.ntmps42
  go_wp2_with fail
  refine (len_is p n HN.out _).mono ?_
  rintro e w1 ⟨rfl, b1⟩
  have s1 := hs0.keep b1
  have hbel1 := hbel0.trans (b1.mono (by simp))
  have hT1 := hT.keep hbel1
  obtain ⟨c0, c1, c2, c3, -⟩ := row4 s1
  have S1 := Lib.hid s1
  have hlt := s1.lt
  clear b1 s1 hs0 hbel0 hT
  go_wp2_with fail
  have hh : Below w1.heap.size w1 w1.drew := (Below.refl _ _).drew
  go_region_held3 (fun W' => W'.cell? ⟨w.heap.size, 0, none⟩ = some (.int .u64 ((wd p 0 : Nat) : Int)) ∧ W'.cell? ⟨w.heap.size, 1, none⟩ = some (.int .u64 ((wd p 1 : Nat) : Int)) ∧ W'.cell? ⟨w.heap.size, 2, none⟩ = some (.int .u64 ((wd p 2 : Nat) : Int)) ∧ W'.cell? ⟨w.heap.size, 3, none⟩ = some (.int .u64 ((wd p 3 : Nat) : Int))) (first | exact ⟨c0, c1, c2, c3⟩ | go_keep)
    (first
      | (go_at_call 48; refine (full_any _).mono ?_; rintro e w5 ⟨rfl, b5⟩; have hh5 := hh.trans (b5.mono hh.size); clear hh c0 c1 c2 c3; have hh := hh5; clear hh5 b5; obtain ⟨c0, c1, c2, c3, -⟩ := row4 (S1.out.keep hh)))
  have hT5 := hT1.keep hh
  have hbel5 := hbel1.trans (hh.mono hbel1.size)
  have S5 := Lib.hid (S1.out.keep hh)
  have hlt5 := hh.size
  clear hE heq hT1 hbel1 S1 hh
  rcases hd : decide (n = 256) with _ | _
  · have h256 : n ≠ 256 := by simpa using hd
    clear hd
    by_cases h1 : n = 1
    · subst h1
      obtain ⟨c, hc, hl, hle⟩ := least_one p HN.out
      have HLE := Lib.hid hle
      have HZ : Hid (setT p = byteT c (inB outS c)) := by
        show _ = _
        rw [HX.out, if_neg h256, if_pos rfl, hle]; simp
      clear hl hle HX
      go_wp2_with fail
      refine (first_one p c HLE.out _ hT5).mono ?_
      rintro e w6 ⟨rfl, b6⟩
      have hb6 := hbel5.trans (b6.mono hbel5.size)
      clear b6
      go_wp2_with fail
      refine (byte_any c hc _ _).mono ?_
      rintro e w7 ⟨rfl, b7⟩
      rw [HI.out]
      have hb7 := hb6.trans (b7.mono hb6.size)
      clear b7
      go_wp2_with fail
      go_ret
      exact ⟨by rw [HZ.out]; rfl, hb7⟩
    · have e1 : ((n : Int) == 1) = false := by simp; omega
      by_cases h128 : 128 < n
      · have HZ : Hid (setT p = [91, 94] ++ spT (spansOf fun x => !p x) ++ [93]) := by
          show _ = _
          rw [HX.out, if_neg h256, if_neg h1, if_pos h128]; simp
        have hz : (strOf (spT (spansOf fun x => !p x))).size ≤ 3000 := by
          have h1 := spT_len (spansOf fun x => !p x)
          have h2 := spansOf_len fun x => !p x
          rw [strOf_size]; omega
        clear h1 HX h256
        go_wp2_with fail
        refine (not_any p _).mono ?_
        rintro e w6 ⟨rfl, b6⟩
        have hb6 := hbel5.trans (b6.mono hbel5.size)
        clear b6
        go_wp2_with fail
        refine (spansText_any _ _).mono ?_
        rintro e w7 ⟨rfl, b7⟩
        have hb7 := hb6.trans (b7.mono hb6.size)
        clear b7
        go_wp2_with fail
        go_ret
        exact ⟨by rw [HZ.out, ← strOf_append, ← strOf_append]; rfl, hb7⟩
      · have HZ : Hid (setT p = [91] ++ spT (spansOf p) ++ [93]) := by
          show _ = _
          rw [HX.out, if_neg h256, if_neg h1, if_neg h128]; simp
        have hz : (strOf (spT (spansOf p))).size ≤ 3000 := by
          have h1 := spT_len (spansOf p)
          have h2 := spansOf_len p
          rw [strOf_size]; omega
        clear h1 HX h256
        go_wp2_with fail
        refine (spansText_any _ _).mono ?_
        rintro e w7 ⟨rfl, b7⟩
        have hb7 := hbel5.trans (b7.mono hbel5.size)
        clear b7
        go_wp2_with fail
        go_ret
        exact ⟨by rw [HZ.out, ← strOf_append, ← strOf_append]; rfl, hb7⟩
  · have h256 : n = 256 := by simpa using hd
    have HZ : Hid (setT p = [46]) := by show _ = _; rw [HX.out, if_pos h256]
    clear hd HX
    go_wp2_with fail
    go_ret
    exact ⟨by rw [HZ.out]; rfl, hbel5⟩
end Go.Proofs.YtjhfgiflcenjpaaDoor
