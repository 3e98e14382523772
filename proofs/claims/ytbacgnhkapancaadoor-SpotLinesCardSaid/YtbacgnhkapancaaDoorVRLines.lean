import Derived.Test.YtbacgnhkapancaaDoorVBase
import Derived.Test.YtbacgnhkapancaaDoorMem
import Derived.Deep.OwnRows
namespace Go.Proofs.YtbacgnhkapancaaDoor
open Go.RowKit Go.Maps Go.WideElems Go.ChangeMaps Go.MapKept
set_option linter.unusedVariables false
set_option linter.unusedSimpArgs false

theorem Tryd.info_str13 : (Tryd.prog.info? 9).map (fun i => (i.zero, i.size, i.bytes)) = some (some (.string ⟨#[]⟩), 1, 16) := by kernel_rfl
/-- Values that are the first lines of a text. -/
def LsOf (s : ByteArray) (m : Nat) (xs : List Value) : Prop := ∀ q, q < xs.length → ∃ a b : Nat, LnIs (bz s) m ((q : Int) + 1) a b ∧ xs[q]? = some (.string (s.extract a b))
theorem LsOf.nil (s : ByteArray) (m : Nat) : LsOf s m [] := fun q h => by simp at h
theorem LsOf.snoc {s : ByteArray} {m : Nat} {xs : List Value} (h : LsOf s m xs) {a b : Nat} (hl : LnIs (bz s) m ((xs.length : Int) + 1) a b) : LsOf s m (xs ++ [.string (s.extract a b)]) := fun q hq => by
  by_cases e : q < xs.length
  · obtain ⟨x, y, h1, h2⟩ := h q e
    exact ⟨x, y, h1, by rw [List.getElem?_append_left e]; exact h2⟩
  · obtain rfl : q = xs.length := by simp at hq; omega
    exact ⟨a, b, hl, by simp⟩
/-- The reference's lines. -/
def LinesPost (s : ByteArray) (m : Nat) (w : World) (e : Ending) (w' : World) : Prop :=
  ∃ (a : Option Addr) (c : Nat) (xs : List Value), e = .returned (.slice a (lnF (bz s) m) c) ∧ w'.ownsRow w.heap.size 9 1 (.slice a (lnF (bz s) m) c) (lnF (bz s) m) xs ∧ xs.length = lnF (bz s) m ∧ LsOf s m xs ∧ Below w.heap.size w w'

set_option maxHeartbeats 1000000 in
set_option maxRecDepth 100000 in
theorem rlines13_any (s : ByteArray) (m : Nat) (hs : s.size = m) (hm : m ≤ 1000000) (w : World) :
    Calls Tryd.prog 10 #[.string s] w (LinesPost s m w) := by
  obtain ⟨iT, hT, hT0, hT1, hT2⟩ := info_parts Tryd.info_str13
  have hss := hs
  have HS := Lib.hid hs
  clear hs
  go_enter Tryd.func10, Tryd.ntmps10
  go_wp2_with fail
  go_loopw [3, 4, 5] (fun v3 v4 v5 wr => ∃ (k n : Nat) (a : Option Addr) (c : Nat) (xs : List Value), k ≤ m ∧ n + 1 = lnF (bz s) k ∧ v3 = .slice a n c ∧ v4 = .int .i64 ((frF (bz s) k : Nat) : Int) ∧ v5 = .int .i64 (k : Int) ∧ Hid (wr.ownsRow w.heap.size 9 1 (.slice a n c) n xs ∧ xs.length = n ∧ LsOf s m xs ∧ Below w.heap.size w wr)) (fun _ _ v _ => m - (nV v).toNat)
  case atStart => exact ⟨0, 0, none, 0, [], Nat.zero_le _, rfl, rfl, rfl, rfl, World.ownsRow_nil _ _ _ _, rfl, LsOf.nil s m, Below.refl _ _⟩
  case round =>
    obtain ⟨k, n, a, c, xs, hk, hn, rfl, rfl, rfl, HX⟩ := hrel
    have hl := lnF_le (bz s) k
    have hf := frF_le (bz s) k
    have HN := Lib.hid hn
    clear hn
    have hO := HX.out.1
    have hsv := HX.out.2.2.2.size
    have hn9 : n ≤ 1000000 := by have := HN.out; omega
    by_cases hlt : k < m
    · have i2 : (k : Int) < (m : Int) := by omega
      have hks : k < s.size := by omega
      have hbz := bz_at s k hks
      obtain ⟨bt, hbe⟩ : ∃ bt, (s[k]'hks).toNat = bt := ⟨_, rfl⟩
      rw [hbe] at hbz
      have Hbz := Lib.hid hbz
      clear hbz
      by_cases hz : bt = 10
      · have hz' : (bt : Int) = 10 := by omega
        have hz9 : bz s k = 10 := by rw [← Hbz.out]; exact hz
        have HE : Hid (n + 1 + 1 = lnF (bz s) (k + 1) ∧ frF (bz s) (k + 1) = k + 1) := ⟨by rw [lnF, if_pos hz9, HN.out], by rw [frF, if_pos hz9]⟩
        have HL : Hid (LsOf s m (xs ++ [.string (s.extract (frF (bz s) k) k)])) := HX.out.2.2.1.snoc (by
          rw [HX.out.2.1, show ((n : Int) + 1) = ((lnF (bz s) k : Nat) : Int) by rw [← HN.out]; rfl]
          exact LnIs.stop hlt hz9)
        have i3 : ((frF (bz s) k : Nat) : Int) ≤ (k : Int) := by omega
        have i4 : (k : Int) ≤ (m : Int) := by omega
        have i5 : ¬ ((k : Int) < ((frF (bz s) k : Nat) : Int)) := by omega
        subst hz
        clear hz9
        go_wp2_with (at_builtin; refine wpList_append_own _ rfl _ _ 32 rfl w.heap.size 9 iT (.string ⟨#[]⟩) 1 16 Tryd.underlying32 hT hT0 hT1 hT2 rfl (by decide) _ _ _ rfl (hO.alloc _) ⟨wr.heap.size, 0, none⟩ 1 1 [.string (s.extract (frF (bz s) k) k)] rfl rfl ?c1 ?c2 ?c3 ?c4 ?c5 ?_)
        case c2 => first | rfl | (intro u hu; simp at hu; subst hu; rfl)
        case c3 => unfold maxLen; omega
        case c4 => omega
        case c5 => first | omega | (simp; omega)
        intro v' w5 hown5 hgrow5 _
        obtain ⟨a5, c5, rfl⟩ := ownsRow_slice hown5
        have hb5 : Below w.heap.size w w5 := (HX.out.2.2.2.trans ((al wr _).mono hsv)).grown hgrow5 (by simp; omega) (fun g e => (hO.lt g e).1)
        have HX5 := Lib.hid (And.intro hown5 hb5)
        clear hown5 hgrow5 hb5 hO
        go_wp2_with fail
        go_roundw
        case rel => exact ⟨k + 1, n + 1, a5, c5, _, by omega, HE.out.1, rfl, by rw [HE.out.2]; rfl, by go_num, HX5.out.1, by simp [HX.out.2.1], HL.out, HX5.out.2⟩
        case measure => simp [nV]; omega
      · have hz' : ¬ ((bt : Int) = 10) := by omega
        have HE : Hid (n + 1 = lnF (bz s) (k + 1) ∧ frF (bz s) (k + 1) = frF (bz s) k) := ⟨by rw [lnF, if_neg (by rw [← Hbz.out]; exact hz), HN.out], by rw [frF, if_neg (by rw [← Hbz.out]; exact hz)]⟩
        clear hO
        go_wp2_with fail
        go_roundw
        case rel => exact ⟨k + 1, n, a, c, xs, by omega, HE.out.1, rfl, by rw [HE.out.2], by go_num, HX⟩
        case measure => simp [nV]; omega
    · obtain rfl : k = m := by omega
      have HL : Hid (LsOf s k (xs ++ [.string (s.extract (frF (bz s) k) k)])) := HX.out.2.2.1.snoc (by
        rw [HX.out.2.1, show ((n : Int) + 1) = ((lnF (bz s) k : Nat) : Int) by rw [← HN.out]; rfl]
        exact LnIs.last (bz s) k)
      have i3 : ((frF (bz s) k : Nat) : Int) ≤ (k : Int) := by omega
      have i5 : ¬ ((k : Int) < ((frF (bz s) k : Nat) : Int)) := by omega
      go_wp2_with (at_builtin; refine wpList_append_own _ rfl _ _ 32 rfl w.heap.size 9 iT (.string ⟨#[]⟩) 1 16 Tryd.underlying32 hT hT0 hT1 hT2 rfl (by decide) _ _ _ rfl (hO.alloc _) ⟨wr.heap.size, 0, none⟩ 1 1 [.string (s.extract (frF (bz s) k) k)] rfl rfl ?c1 ?c2 ?c3 ?c4 ?c5 ?_)
      case c2 => first | rfl | (intro u hu; simp at hu; subst hu; rfl)
      case c3 => unfold maxLen; omega
      case c4 => omega
      case c5 => first | omega | (simp; omega)
      intro v' w5 hown5 hgrow5 _
      obtain ⟨a5, c5, rfl⟩ := ownsRow_slice hown5
      have hb5 : Below w.heap.size w w5 := (HX.out.2.2.2.trans ((al wr _).mono hsv)).grown hgrow5 (by simp; omega) (fun g e => (hO.lt g e).1)
      have HX5 := Lib.hid (And.intro hown5 hb5)
      clear hown5 hgrow5 hb5 hO
      go_wp2_with fail
      go_ret
      refine ⟨a5, c5, _, by rw [← HN.out]; rfl, by rw [← HN.out]; exact HX5.out.1, ?_, HL.out, HX5.out.2⟩
      rw [← HN.out]
      simp [HX.out.2.1]
end Go.Proofs.YtbacgnhkapancaaDoor
