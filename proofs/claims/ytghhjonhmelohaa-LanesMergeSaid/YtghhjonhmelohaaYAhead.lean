import Derived.Test.YtghhjonhmelohaaYOwn
import Derived.Test.YtghhjonhmelohaaYBrk
namespace Go.Proofs.Ytghhjonhmelohaa
open Go.RowKit Go.Maps Go.WideElems Go.ChangeMaps Go.MapKept
set_option linter.unusedVariables false
set_option linter.unusedSimpArgs false

theorem tk_box {w : World} {g : Nat} {t : Tok} (h : Bl w 32 g #[.int .i64 t.r, .string t.s, .int .i64 t.p]) :
    w.cell? ⟨g, 0, none⟩ = some (.int .i64 t.r) ∧ w.cell? ⟨g, 1, none⟩ = some (.string t.s) ∧ w.cell? ⟨g, 2, none⟩ = some (.int .i64 t.p) := by
  obtain ⟨a, b, c, _⟩ := row3t h
  exact ⟨a, b, c⟩
theorem behF_drop {k : Int → Int} {l : List Tok} {i : Nat} (h : i < l.length) : behF k (l.drop i) = if k l[i].r = 0 then false else if k l[i].r = 2 then false else if bkF l[i].s then true else behF k (l.drop (i + 1)) := by
  rw [List.drop_eq_getElem_cons h, behF]
theorem befF_take {k : Int → Int} {l : List Tok} {i : Nat} (h : i < l.length) : befF k (l.take (i + 1)).reverse = if k l[i].r = 0 then false else if bkF l[i].s then true else if k l[i].r = 2 then false else befF k (l.take i).reverse := by
  rw [List.take_succ_eq_append_getElem h, List.reverse_append, List.reverse_singleton, List.singleton_append, befF]

set_option maxHeartbeats 2000000 in
set_option maxRecDepth 100000 in
theorem follows_any (n c : Nat) (a : Option Addr) (z : Nat → Int) (m c2 : Nat) (a2 : Option Addr) (A : List Tok) (hA : A.length = m) (hm : m ≤ 100000) (w : World) (hK : ZAt w a n z) (hT : TkAt w a2 A) :
    Calls Try.prog 25 #[.slice a n c, .slice a2 m c2] w fun e w' => e = .returned (.bool (behF (kdF z n) A)) ∧ Below w.heap.size w w' := by
  have H := Lib.hid (And.intro hK (And.intro hT hA))
  clear hK hT hA
  go_enter Try.func25, Try.ntmps25
  go_wp2_with fail
  go_loopw [6, 7, 10] (fun _ _ v10 wr => ∃ k : Nat, v10 = .int .i64 k ∧ k ≤ m ∧ Hid (behF (kdF z n) A = behF (kdF z n) (A.drop k) ∧ Below w.heap.size w wr)) (fun _ _ v _ => m - (nV v).toNat)
  case atStart => exact ⟨0, rfl, Nat.zero_le _, rfl, Below.refl _ _⟩
  case round =>
    obtain ⟨k, rfl, hk, HX⟩ := hrel
    by_cases hlt : k < m
    · have hkA : k < A.length := by rw [H.out.2.2]; exact hlt
      obtain ⟨g1, o1, rfl, _, x0, x1, x2⟩ := (H.out.2.1.below HX.out.2).get k hkA
      have HT := Lib.hid (HX.out.1.trans (behF_drop hkA))
      have i1 : (k : Int) < (m : Int) := by omega
      generalize A[k] = x at x0 x1 x2 HT
      have HC := Lib.hid (fun W h => lkind_any n c a z x W h)
      have HK := Lib.hid (fun W => breaks_any x.s W)
      have k1 := al wr (.cells #[.int .i64 x.r, .string x.s, .int .i64 x.p] 32)
      have hz := HX.out.2.size
      have H1 : Hid (Bl (wr.alloc (.cells #[.int .i64 x.r, .string x.s, .int .i64 x.p] 32)) 32 wr.heap.size #[.int .i64 x.r, .string x.s, .int .i64 x.p] ∧ Below w.heap.size w (wr.alloc (.cells #[.int .i64 x.r, .string x.s, .int .i64 x.p] 32))) :=
        ⟨Bl.new _ _ _, HX.out.2.trans (k1.mono hz)⟩
      have hkz := H.out.1.below H1.out.2
      clear k1 hkA
      generalize kdF z n x.r = kx at HT HC
      rcases hq : (kx == 0) with _ | _
      · have hn0 : ¬ kx = 0 := by simpa using hq
        rw [if_neg hn0] at HT
        rcases hq2 : (kx == 2) with _ | _
        · have hn2 : ¬ kx = 2 := by simpa using hq2
          rw [if_neg hn2] at HT
          clear hn0 hn2
          rcases hb : bkF x.s with _ | _
          · rw [hb, if_neg (by decide)] at HT
            go_wp2_with (first
              | (go_at_call 13; refine (HC.out _ hkz).mono ?_; rintro e w2 ⟨rfl, b2⟩
                 have H2 := Lib.hid (And.intro (H1.out.1.below b2 H1.out.1.lt) (H1.out.2.trans (b2.mono H1.out.2.size)))
                 obtain ⟨y0, y1, y2⟩ := tk_box H2.out.1
                 clear b2)
              | (go_at_call 15; refine (HK.out _).mono ?_; rintro e w3 ⟨rfl, rfl⟩))
            go_roundw
            case rel => exact ⟨k + 1, by go_num, by omega, HT.out, H2.out.2⟩
            case measure => simp [nV]; omega
          · rw [hb, if_pos rfl] at HT
            go_wp2_with (first
              | (go_at_call 13; refine (HC.out _ hkz).mono ?_; rintro e w2 ⟨rfl, b2⟩
                 have H2 := Lib.hid (And.intro (H1.out.1.below b2 H1.out.1.lt) (H1.out.2.trans (b2.mono H1.out.2.size)))
                 obtain ⟨y0, y1, y2⟩ := tk_box H2.out.1
                 clear b2)
              | (go_at_call 15; refine (HK.out _).mono ?_; rintro e w3 ⟨rfl, rfl⟩))
            go_ret
            exact ⟨by rw [HT.out]; rfl, H2.out.2⟩
        · have hn2 : kx = 2 := by simpa using hq2
          rw [if_pos hn2] at HT
          clear hn0 hn2
          go_wp2_with (go_at_call 13; refine (HC.out _ hkz).mono ?_; rintro e w2 ⟨rfl, b2⟩)
          go_ret
          exact ⟨by rw [HT.out]; rfl, H1.out.2.trans (b2.mono H1.out.2.size)⟩
      · have hn0 : kx = 0 := by simpa using hq
        rw [if_pos hn0] at HT
        clear hn0
        go_wp2_with (go_at_call 13; refine (HC.out _ hkz).mono ?_; rintro e w2 ⟨rfl, b2⟩)
        go_ret
        exact ⟨by rw [HT.out]; rfl, H1.out.2.trans (b2.mono H1.out.2.size)⟩
    · obtain rfl : k = m := by omega
      have h1 := HX.out.1
      rw [List.drop_of_length_le (by rw [H.out.2.2]; exact Nat.le_refl _)] at h1
      have HE := Lib.hid h1
      clear h1
      go_wp2_with fail
      go_ret
      exact ⟨by rw [HE.out]; rfl, HX.out.2⟩
end Go.Proofs.Ytghhjonhmelohaa
