import Derived.Test.YtkdhdlokilgccaaZDThruA
import Derived.Test.YtkdhdlokilgccaaZMem
import Derived.Laws.BytesArg
import Derived.Deep.RegionWith
namespace Go.Proofs.Ytkdhdlokilgccaa
open Go.RowKit Go.Maps Go.WideElems Go.ChangeMaps Go.MapKept
set_option linter.unusedVariables false

/-- The bytes of a text. -/
def bytesL (s : ByteArray) : List Nat := s.data.toList.map (·.toNat)
theorem bytesL_len (s : ByteArray) : (bytesL s).length = s.size := by unfold bytesL; rw [List.length_map]; rfl
theorem bytesL_take (s : ByteArray) (k : Nat) (h : k < s.size) : (bytesL s).take (k + 1) = (bytesL s).take k ++ [s[k].toNat] := by
  rw [List.take_succ_eq_append_getElem (by rw [bytesL_len]; exact h)]
  congr 1
  unfold bytesL
  simp
  rfl
theorem left_cells {w : World} {g : Nat} {x y : Value} (h : St w 34 g #[x, y]) : w.cell? ⟨g, 0, none⟩ = some x ∧ w.cell? ⟨g, 1, none⟩ = some y ∧ w.frozen? ⟨g, 0, none⟩ = false ∧ w.frozen? ⟨g, 1, none⟩ = false := by
  have hh : w.heap[g]? = some (.cells #[x, y] 34 (0, 0)) := h
  exact ⟨h.cell 0, h.cell 1, frozen_of_row w g 0 _ _ hh, frozen_of_row w g 1 _ _ hh⟩
theorem left_set {w : World} {g : Nat} {x y : Value} (h : St w 34 g #[x, y]) (u v : Value) : St ((w.setCell ⟨g, 0, none⟩ u).setCell ⟨g, 1, none⟩ v) 34 g #[u, v] := by
  have := (h.set 0 u).set 1 v
  simpa using this

set_option maxHeartbeats 4000000 in
set_option maxRecDepth 100000 in
theorem thru_any (t : Rx) (hck : chkT t.flat = 0) (hen : EnterOk t) (a : Option Addr) (n c : Nat) (w : World) (hL : RxAt w a t.flat) (hn : t.flat.length = n) (hmax : n ≤ 400) (hcap : n ≤ c ∧ c ≤ maxLen)
    (s : ByteArray) (N : Nat) (hs : s.size = N) (hN0 : 0 < N) (hN : N ≤ 100000) (most : Int) (hm1 : -9223372036854775808 ≤ most) (hm2 : most ≤ 9223372036854775807) :
    Calls Try.prog 14 #[.slice a n c, .string s, .int .i64 most] w (ThPost t (bytesL s) most ((2 * n) * (n + 1) * 402) w) := by
  have hres := St.new w 34 #[.bool false, .slice none 0 0]
  have hA : Below w.heap.size w (w.alloc (.cells #[.bool false, .slice none 0 0] 34)) := (Below.refl _ _).alloc (Nat.le_refl _) _
  have hsz : (w.alloc (.cells #[.bool false, .slice none 0 0] 34)).heap.size = w.heap.size + 1 := by simp
  have HC := Lib.hid (check_any t.flat a n c _ (hL.below hA) hn (by unfold maxLen; omega))
  rw [hck] at HC
  have H0 := Lib.hid (And.intro hres (And.intro hA (And.intro hL (And.intro hn (And.intro hcap hen)))))
  have HSZ := Lib.hid hsz
  have hse : s.toList.isEmpty = false := by
    rw [ByteArray.toList_eq]
    have : 0 < s.data.size := by show 0 < s.size; omega
    simp
    intro e
    rw [e] at this; simp at this
  clear hres hA hL hn hcap hen hck hsz
  go_enter Try.func14, Try.ntmps14
  go_wp2_with fail
  refine HC.out.mono ?_
  rintro e w2 ⟨rfl, b2⟩
  have H2 := Lib.hid (And.intro (H0.out.1.keep b2) (And.intro (H0.out.2.1.trans (b2.mono (by rw [HSZ.out]; omega))) (H0.out.2.2.1.below (H0.out.2.1.trans (b2.mono (by rw [HSZ.out]; omega))))))
  clear b2
  go_wp2_with fail
  refine (new_any t H0.out.2.2.2.2.2 a n c w2 H2.out.2.2 H0.out.2.2.2.1 hmax H0.out.2.2.2.2.1).mono ?_
  rintro e w3 ⟨u, kr, bl, cur, E, F, T, b1, b2, n0, bD, i0, m, l, vA, vI, rfl, hRP, hl, hD, hnb, hpb, hT, huw, huL, hul, hB3⟩
  have hTh := ThSt.start hRP hl hD hnb hpb hT huw huL
  have hb3w := H2.out.2.1.trans (hB3.mono H2.out.2.1.size)
  have H3 := Lib.hid (And.intro hTh (And.intro (H2.out.1.keep hB3) hb3w))
  have HK : Hid ((allTails u).length * 402 ≤ (2 * n) * (n + 1) * 402) := Lib.hid (Nat.mul_le_mul_right 402 (allTails_len u n (by have := H0.out.2.2.2.1; omega)))
  have hB3' : w2.heap.size ≤ w3.heap.size := hB3.size
  have hw2 : w.heap.size < w2.heap.size := H2.out.1.lt
  have hBs := Lib.hid hB3
  have hss := hs
  have HS := Lib.hid hs
  clear hRP hl hD hnb hpb hT huw huL hul hB3 hTh hb3w hs
  go_wp2_with fail
  go_loopw [9, 28] (fun lv iv wr => ∃ (k : Nat) (cur : Array Value) (E : List Ex) (F : List Fa) (T : List Tl) (b1 b2 ba : Nat) (l : List Nat) (m : Nat) (vA vI : Value) (Nd : Nat), lv = .pointer (some ⟨ba, 0, none⟩) ∧ iv = .int .i64 ((k : Nat) : Int) ∧ k ≤ N ∧ Nd ≤ k * 1000000 ∧ Hid (ThSt w2.heap.size kr bD n0 (allTails u) t ((bytesL s).take k) wr cur E F T b1 b2 ba l m vA vI Nd ∧ St wr 34 w.heap.size #[.bool false, .slice none 0 0] ∧ Below w.heap.size w wr ∧ Below w2.heap.size w2 wr ∧ (0 < k → l ≠ []))) (fun _ iv _ => N - (intOf iv).toNat)
  case atStart => exact ⟨0, cur, E, F, T, b1, b2, bl, l, m, vA, vI, 0, rfl, rfl, Nat.zero_le _, by omega, Lib.hid ⟨H3.out.1, H3.out.2.1, H3.out.2.2, hBs.out, fun h => absurd h (by decide)⟩⟩
  case round =>
    clear H3 hBs
    obtain ⟨k, cur, E, F, T, b1, b2, ba, l, m, vA, vI, Nd, rfl, rfl, hk, hNd, HI⟩ := hrel
    by_cases hlt : k < N
    · have hks : k < s.size := by rw [hss]; exact hlt
      have hb := UInt8.toNat_lt s[k]
      obtain ⟨b, hbe⟩ : ∃ b, s[k].toNat = b := ⟨_, rfl⟩
      have hT4 := HI.out.1.rp.rd.si.tlen
      have hll : l.length ≤ 1000000 := by have := nodup_below HI.out.1.rp.pl.nd HI.out.1.rp.pl.lt; have := HI.out.1.rp.pl.big; omega
      have HC := Lib.hid (behind_any wr w2.heap.size kr cur E F T b1 b2 n0 (allTails u) bD Nd b HI.out.1.rp.rd HI.out.1.dn HI.out.1.nb HI.out.2.2.2.1.size (by omega) ba l m vA vI HI.out.1.rp.pl (fun g hg => ⟨HI.out.1.npb g hg, HI.out.1.rp.dis g hg⟩) (fun i hi => by obtain ⟨_, h⟩ := HI.out.1.td i hi; exact h.lt) (by omega))
      have HT := Lib.hid (bytesL_take s k hks)
      rw [hbe] at HT
      have ik : (k : Int) < (N : Int) := by omega
      have hkl : k < (bytesL s).length := by rw [bytesL_len]; exact hks
      have HKL := Lib.hid hkl
      clear hkl
      go_wp2_with fail
      refine HC.out.mono ?_
      rintro e w4 ⟨ba2, cur2, E2, F2, T2, p2, q2, l2, m2, vA2, vI2, rfl, hBI⟩
      have hTh2 := HI.out.1.next (by omega) hBI
      rw [← HT.out] at hTh2
      have hb4 := hBI.fr.below
      have hres4 := HI.out.2.1.below hb4 hw2
      have hbw4 := HI.out.2.2.1.trans (hb4.mono (by omega))
      have hb24 := HI.out.2.2.2.1.trans hb4
      obtain ⟨c0, c1, z0, z1⟩ := left_cells hres4
      obtain ⟨aA, cA, hvA⟩ := ownsRow_slice hBI.rp.pl.all
      have k0 := (row2 hBI.rp.pl.st).1
      rw [hvA] at k0
      have hp4 := hBI.rp.pl.st.lt
      have hw4 : w.heap.size < w4.heap.size := hres4.lt
      obtain ⟨nl, hnl⟩ : ∃ nl, l2.length = nl := ⟨_, rfl⟩
      have hnl6 : nl ≤ 1000000 := by have := nodup_below hBI.rp.pl.nd hBI.rp.pl.lt; have := hBI.rp.pl.big; omega
      rw [hnl] at k0
      have H4 := Lib.hid (And.intro hTh2 (And.intro hres4 (And.intro hbw4 (And.intro hb24 hnl))))
      have hT24 := hBI.rp.rd.si.tlen
      have HTr := Lib.hid (tree_any w4 w2.heap.size kr cur2 E2 F2 T2 p2 q2 n0 (allTails u) hBI.rp.rd ba2 l2 m2 vA2 vI2 hBI.rp.pl (fun i hi => by obtain ⟨_, h⟩ := hTh2.td i hi; exact h.lt))
      clear hBI hTh2 hb4 hres4 hbw4 hb24 hvA hnl
      rcases Nat.eq_zero_or_pos nl with hz | hz
      · subst hz
        obtain ⟨s0, s1, _, _⟩ := left_cells (left_set H4.out.2.1 (.bool true) (.slice none 0 0))
        go_wp2_with fail
        refine bodyPost_ret (v := .tuple #[.agg #[.bool true, .slice none 0 0], .int .i64 ((k : Nat) : Int)]) (by simp [results, Try.results14, go_sem, s0, s1]) rfl ⟨(H4.out.2.2.1.setCell (p := ⟨w.heap.size, 0, none⟩) (Nat.le_refl _) _).setCell (p := ⟨w.heap.size, 1, none⟩) (Nat.le_refl _) _, true, _, k, rfl, Or.inl ⟨rfl, rfl, HKL.out, fun s' hs' => ?_⟩⟩
        obtain ⟨i, _, hi, _⟩ := (H4.out.1.lan s').2 hs'
        rw [List.length_eq_zero_iff.1 H4.out.2.2.2.2] at hi
        cases hi
      · have hzi : ¬ (nl : Int) = 0 := by omega
        have hzi2 : ((nl : Int) == 0) = false := by simp; omega
        go_wp2_with fail
        refine HTr.out.mono ?_
        rintro e w5 ⟨bt, bL, f, rfl, hTr5, hG, hAll⟩
        have hO : Out w4 w2.heap.size kr cur2 E2 F2 T2 p2 q2 n0 (allTails u) ba2 l2 m2 vA2 vI2 f := ⟨H4.out.1.rp.rd, H4.out.1.rp.pl, hG, hAll⟩
        have HO := Lib.hid hO
        have HP := Lib.hid (pieces_any hO bt bL w5 hTr5)
        have hne : l2 ≠ [] := fun e => by have := H4.out.2.2.2.2; rw [e] at this; simp at this; omega
        have HNE := Lib.hid hne
        clear hTr5 hG hAll hO hne
        go_wp2_with fail
        refine HP.out.mono ?_
        rintro e w6 ⟨np, rfl, hTr6, hnp⟩
        have HX := Lib.hid (expr_any HO.out bt bL HNE.out w6 hTr6)
        have HNP := Lib.hid hnp
        have H6 := Lib.hid hTr6.below
        clear hTr6 hnp
        by_cases hmo : most < (np : Int)
        · go_wp2_with fail
          refine HX.out.mono ?_
          rintro e w7 ⟨u', v, l0, rfl, h0, hA, hTr7⟩
          obtain ⟨a7, c7, hv7⟩ := ownsRow_slice hTr7.row
          generalize hul7 : u'.flat.length = n7 at hv7
          subst hv7
          have hE := H4.out.1.expr HO.out h0 hA hTr7
          have hnn := HNP.out l0 u' h0 hA
          have hres7 := H4.out.2.1.keep hTr7.below
          obtain ⟨c0, c1, z0, z1⟩ := left_cells hres7
          obtain ⟨s0, s1, _, _⟩ := left_cells (left_set hres7 (.bool false) (.slice a7 n7 c7))
          have H7 := Lib.hid (And.intro hE (And.intro hnn (H4.out.2.2.1.trans (hTr7.below.mono (by omega)))))
          have HM := Lib.hid hmo
          clear hE hnn hres7 h0 hA hTr7 hmo
          go_wp2_with fail
          refine bodyPost_ret (v := .tuple #[.agg #[.bool false, .slice a7 n7 c7], .int .i64 ((k : Nat) : Int)]) (by simp [results, Try.results14, go_sem, s0, s1]) rfl ⟨(H7.out.2.2.setCell (p := ⟨w.heap.size, 0, none⟩) (Nat.le_refl _) _).setCell (p := ⟨w.heap.size, 1, none⟩) (Nat.le_refl _) _, false, _, k, rfl, Or.inr ⟨rfl, _, ((H7.out.1.set (p := ⟨w.heap.size, 0, none⟩) hw4 _).set (p := ⟨w.heap.size, 1, none⟩) hw4 _).more HK.out (by omega), Or.inl ⟨HKL.out, by rw [← H7.out.2.1]; exact HM.out⟩⟩⟩
        · go_wp2_with fail
          go_roundw
          case rel => exact ⟨k + 1, cur2, E2, F2, T2, p2, q2, ba2, l2, m2, vA2, vI2, Nd + l.length, rfl, by go_num, by omega, by omega, Lib.hid ⟨H4.out.1.below H6.out, H4.out.2.1.keep H6.out, H4.out.2.2.1.trans (H6.out.mono (by omega)), H4.out.2.2.2.1.trans (H6.out.mono H4.out.2.2.2.1.size), fun _ => HNE.out⟩⟩
          case measure => simp [intOf]; omega
    · obtain rfl : k = N := by omega
      have hne : l ≠ [] := HI.out.2.2.2.2 hN0
      have HTr := Lib.hid (tree_any wr w2.heap.size kr cur E F T b1 b2 n0 (allTails u) HI.out.1.rp.rd ba l m vA vI HI.out.1.rp.pl (fun i hi => by obtain ⟨_, h⟩ := HI.out.1.td i hi; exact h.lt))
      have HNE := Lib.hid hne
      have hwr : w.heap.size < wr.heap.size := HI.out.2.1.lt
      clear hne
      go_wp2_with fail
      refine HTr.out.mono ?_
      rintro e w5 ⟨bt, bL, f, rfl, hTr5, hG, hAll⟩
      have hO : Out wr w2.heap.size kr cur E F T b1 b2 n0 (allTails u) ba l m vA vI f := ⟨HI.out.1.rp.rd, HI.out.1.rp.pl, hG, hAll⟩
      have HO := Lib.hid hO
      have HX := Lib.hid (expr_any hO bt bL HNE.out w5 hTr5)
      clear hTr5 hG hAll hO
      go_wp2_with fail
      refine HX.out.mono ?_
      rintro e w7 ⟨u', v, l0, rfl, h0, hA, hTr7⟩
      obtain ⟨a7, c7, hv7⟩ := ownsRow_slice hTr7.row
      generalize hul7 : u'.flat.length = n7 at hv7
      subst hv7
      have hE := HI.out.1.expr HO.out h0 hA hTr7
      have hres7 := HI.out.2.1.keep hTr7.below
      obtain ⟨c0, c1, z0, z1⟩ := left_cells hres7
      obtain ⟨s0, s1, _, _⟩ := left_cells (left_set hres7 (.bool false) (.slice a7 n7 c7))
      have H7 := Lib.hid (And.intro hE (HI.out.2.2.1.trans (hTr7.below.mono (by omega))))
      have htk : (bytesL s).take (k + 1) = (bytesL s).take k := by rw [List.take_of_length_le (by rw [bytesL_len]; omega), List.take_of_length_le (by rw [bytesL_len]; omega)]
      have HTK := Lib.hid (And.intro htk (show k = (bytesL s).length by rw [bytesL_len]; omega))
      clear hE hres7 h0 hA hTr7 htk
      go_wp2_with fail
      refine bodyPost_ret (v := .tuple #[.agg #[.bool false, .slice a7 n7 c7], .int .i64 ((k : Nat) : Int)]) (by simp [results, Try.results14, go_sem, s0, s1]) rfl ⟨(H7.out.2.setCell (p := ⟨w.heap.size, 0, none⟩) (Nat.le_refl _) _).setCell (p := ⟨w.heap.size, 1, none⟩) (Nat.le_refl _) _, false, _, k, rfl, Or.inr ⟨rfl, u'.flat.length, ?_, Or.inr HTK.out.2⟩⟩
      rw [HTK.out.1]
      exact ((H7.out.1.set (p := ⟨w.heap.size, 0, none⟩) hwr _).set (p := ⟨w.heap.size, 1, none⟩) hwr _).more HK.out (by omega)
end Go.Proofs.Ytkdhdlokilgccaa

namespace Go.Proofs.Ytkdhdlokilgccaa
open Go.RowKit

/-- A list of bytes as a string. -/
def strOf (l : List Nat) : ByteArray := strOfNums (l.map fun n => ((n : Nat) : Int))
theorem strOf_list (l : List Nat) : (strOf l).data.toList = l.map UInt8.ofNat := by simp [strOf, strOfNums_data]
theorem strOf_size (l : List Nat) : (strOf l).size = l.length := by simp [strOf, strOfNums_size]
theorem bytes_ext {a b : ByteArray} (h : a.data.toList = b.data.toList) : a = b := by
  obtain ⟨⟨x⟩⟩ := a
  obtain ⟨⟨y⟩⟩ := b
  simp at h
  rw [h]
theorem strOf_append (a b : List Nat) : strOf a ++ strOf b = strOf (a ++ b) := bytes_ext (by rw [ByteArray.data_append, Array.toList_append, strOf_list, strOf_list, strOf_list, List.map_append])
/-- A string as a list of numbers. -/
def numsOf (s : ByteArray) : List Nat := s.data.toList.map UInt8.toNat
theorem strOf_nums (s : ByteArray) : strOf (numsOf s) = s := bytes_ext (by
  rw [strOf_list, numsOf, List.map_map]
  have : (UInt8.ofNat ∘ UInt8.toNat) = id := by funext x; simp
  rw [this, List.map_id])
theorem numsOf_lt (s : ByteArray) : ∀ n ∈ numsOf s, n < 256 := by
  intro n hn
  simp only [numsOf, List.mem_map] at hn
  obtain ⟨x, _, rfl⟩ := hn
  exact UInt8.toNat_lt x
theorem ne_empty (s : ByteArray) (h : 0 < s.size) : s.toList.isEmpty = false := by
  rw [ByteArray.toList_eq]
  have : 0 < s.data.size := h
  simp
  intro e
  rw [e] at this; simp at this
/-- The text of one byte, made through a slice. -/
theorem conv_one (w : World) (g : Nat) (c : Nat) (h : w.cell? ⟨g, 0, none⟩ = some (.int .u8 ((c : Nat) : Int))) :
    (convert 74 9 (.slice (some ⟨g, 0, none⟩) 1 1)).run Try.prog w = .ok (.string (strOf [c])) w :=
  run_convert_bytes_arg w 74 5 Try.underlying74 Try.underlying5 g 0 1 1 [((c : Nat) : Int)] rfl (fun i hi => by
    obtain rfl : i = 0 := by omega
    simpa using h) 9 Try.underlying9
end Go.Proofs.Ytkdhdlokilgccaa

namespace Go.Proofs.Ytkdhdlokilgccaa
open Go.RowKit Go.Maps Go.WideElems Go.ChangeMaps Go.MapKept
set_option linter.unusedVariables false

theorem bytesL_one (b : Nat) (hb : b < 256) : bytesL (strOf [b]) = [b] := by
  unfold bytesL
  rw [strOf_list]
  simp [Nat.mod_eq_of_lt hb]
theorem ThR.below {H : Nat} {w w' : World} {t : Rx} {K : Nat} {L : List Nat} {v : Value} {n : Nat} (h : ThR H w t K L v n) (k : Below w.heap.size w w') : ThR H w' t K L v n := by
  obtain ⟨u, a, c, h1, h2, h3, h4, h5, h6⟩ := h
  exact ⟨u, a, c, h1, h2, h3, h4, h5.below k, h6⟩
/-- What By gives of a valid expression. -/
def ByPost (t : Rx) (b K : Nat) (w : World) (e : Ending) (w' : World) : Prop :=
  Below w.heap.size w w' ∧ ∃ (vd : Bool) (a : Option Addr) (n c : Nat), e = .returned (.agg #[.bool vd, .slice a n c]) ∧
    ((vd = true ∧ ∀ s, ¬ Lan t (b :: s)) ∨ (vd = false ∧ ThR w.heap.size w' t K [b] (.slice a n c) n))

set_option maxHeartbeats 1000000 in
set_option maxRecDepth 100000 in
theorem by_any (t : Rx) (hck : chkT t.flat = 0) (hen : EnterOk t) (a : Option Addr) (n c : Nat) (w : World) (hL : RxAt w a t.flat) (hn : t.flat.length = n) (hmax : n ≤ 400) (hcap : n ≤ c ∧ c ≤ maxLen) (b : Nat) (hb : b < 256) :
    Calls Try.prog 12 #[.slice a n c, .int .u8 b] w (ByPost t b ((2 * n) * (n + 1) * 402) w) := by
  have hcv := fun W g => conv_one W g b
  have hz : (strOf [b]).size = 1 := by rw [strOf_size]; rfl
  have H0 := Lib.hid (And.intro hck (And.intro hen (And.intro hL (And.intro hn (And.intro hcap hz)))))
  have hW : Below w.heap.size w ((w.alloc (.cells #[.bool false, .slice none 0 0] 34)).alloc (.cells #[.int .u8 ((b : Nat) : Int)] 5)) := ((Below.refl _ _).alloc (Nat.le_refl _) _).alloc (by simp) _
  have hres := (St.new w 34 #[.bool false, .slice none 0 0]).alloc (.cells #[.int .u8 ((b : Nat) : Int)] 5)
  have hsz : ((w.alloc (.cells #[.bool false, .slice none 0 0] 34)).alloc (.cells #[.int .u8 ((b : Nat) : Int)] 5)).heap.size = w.heap.size + 2 := by simp
  have HW := Lib.hid (And.intro hW (And.intro hres hsz))
  clear hck hen hL hn hcap hz hW hres hsz
  go_enter Try.func12, Try.ntmps12
  go_wp2_with fail
  generalize (w.alloc (.cells #[.bool false, .slice none 0 0] 34)).alloc (.cells #[.int .u8 ((b : Nat) : Int)] 5) = W at HW ⊢
  refine (thru_any t H0.out.1 H0.out.2.1 a n c W (H0.out.2.2.1.below HW.out.1) H0.out.2.2.2.1 hmax H0.out.2.2.2.2.1 (strOf [b]) 1 H0.out.2.2.2.2.2 (by omega) (by omega) 9223372036854775807 (by omega) (by omega)).mono ?_
  rintro e w2 ⟨hB2, vd, v, k, rfl, hcase⟩
  rw [bytesL_one b hb] at hcase
  have hc2 : ∃ (a' : Option Addr) (n' c' : Nat), v = .slice a' n' c' ∧ ((vd = true ∧ ∀ s, ¬ Lan t (b :: s)) ∨ (vd = false ∧ ThR W.heap.size w2 t ((2 * n) * (n + 1) * 402) [b] (.slice a' n' c') n')) := by
    rcases hcase with ⟨h1, h2, h3, h4⟩ | ⟨h1, n', h2, h3⟩
    · have hk0 : k = 0 := by simp at h3; omega
      subst hk0
      exact ⟨_, _, _, h2, Or.inl ⟨h1, fun s => h4 s⟩⟩
    · obtain ⟨u', a', c', e1, e2⟩ := id h2
      subst e1
      have hk1 : [b].take (k + 1) = [b] := List.take_of_length_le (by simp)
      rw [hk1] at h2
      exact ⟨a', n', c', rfl, Or.inr ⟨h1, h2⟩⟩
  obtain ⟨a', n', c', rfl, hc3⟩ := hc2
  have hr2 := HW.out.2.1.keep hB2
  have hN := St.new w2 34 #[.bool vd, .slice a' n' c']
  obtain ⟨q0, q1, _, _⟩ := left_cells hN
  obtain ⟨r0, r1, y0, y1⟩ := left_cells hr2
  have hr5 := (left_set hr2 (.bool vd) (.slice a' n' c')).alloc (.cells #[.bool vd, .slice a' n' c'] 34)
  obtain ⟨s0, s1, _, _⟩ := left_cells hr5
  have hbb : Below w.heap.size w w2 := HW.out.1.trans (hB2.mono (by have := HW.out.2.2; omega))
  have H4 := Lib.hid (And.intro hc3 hbb)
  have HH := Lib.hid HW.out.2.2
  have hwl := hr2.lt
  clear hc3 hbb hr2 hr5 hN hB2 hcase hcv hb
  go_wp2_with fail
  refine bodyPost_ret (v := .agg #[.bool vd, .slice a' n' c']) (by simp [results, Try.results12, go_sem, s0, s1]) rfl ⟨((H4.out.2.setCell (p := ⟨w.heap.size, 0, none⟩) (Nat.le_refl _) _).setCell (p := ⟨w.heap.size, 1, none⟩) (Nat.le_refl _) _).alloc (by simp [World.setCell]; omega) _, vd, a', n', c', rfl, ?_⟩
  rcases H4.out.1 with h | ⟨h1, h2⟩
  · exact Or.inl h
  · exact Or.inr ⟨h1, (((h2.set (p := ⟨w.heap.size, 0, none⟩) (by show w.heap.size < W.heap.size; have := HH.out; omega) _).set (p := ⟨w.heap.size, 1, none⟩) (by show w.heap.size < W.heap.size; have := HH.out; omega) _).below ((Below.refl _ _).alloc (Nat.le_refl _) _)).more (Nat.le_refl _) (by have := HH.out; omega)⟩
end Go.Proofs.Ytkdhdlokilgccaa
