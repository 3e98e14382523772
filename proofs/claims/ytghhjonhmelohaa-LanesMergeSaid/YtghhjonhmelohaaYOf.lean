import Derived.Test.YtghhjonhmelohaaYOwn
import Derived.Test.YtghhjonhmelohaaYAhead
import Derived.Deep.OwnRows
namespace Go.Proofs.Ytghhjonhmelohaa
open Go.RowKit Go.Maps Go.WideElems Go.ChangeMaps Go.MapKept
set_option linter.unusedVariables false
set_option linter.unusedSimpArgs false

/-- A list of tokens is told. -/
def OfP (L : List Tok) (w : World) (e : Ending) (w' : World) : Prop := ∃ (a : Option Addr) (c : Nat), e = .returned (.slice a L.length c) ∧ TkAt w' a L ∧ Below w.heap.size w w' ∧ L.length ≤ c
theorem own_cap {w : World} {B t size n c : Nat} {a : Option Addr} {xs : List Value} (h : w.ownsRow B t size (.slice a n c) n xs) : n ≤ c := by
  rcases h.2 with ⟨e, rfl⟩ | ⟨g, cap, cur, e, _, _, h1, _⟩
  · exact Nat.zero_le _
  · injection e with _ _ e3
    omega
theorem ofF_take {k : Int → Int} {q : Int} {l : List Tok} {i : Nat} (h : i < l.length) : ofF k q (l.take (i + 1)) = ofF k q (l.take i) ++ (if k l[i].r == q then [l[i]] else []) := by
  unfold ofF
  rw [List.take_succ_eq_append_getElem h, List.filter_append]
  cases hk : k l[i].r == q <;> simp [hk]
theorem ofF_len (k : Int → Int) (q : Int) (l : List Tok) : (ofF k q l).length ≤ l.length := List.length_filter_le _ _
theorem bl_news {w : World} {g : Nat} {t : TypeId} {cs : Array Value} (h : Bl w t g cs) : ∀ (j : Nat) u, cs.toList[j]? = some u → w.cell? ((⟨g, 0, none⟩ : Addr).add j) = some u := by
  intro j u hu
  have e : (⟨g, 0, none⟩ : Addr).add j = ⟨g, j, none⟩ := by unfold Addr.add; split <;> simp_all
  have h : w.heap[g]? = some (.cells cs t (0, 0)) := h
  rw [e, cell_of_row w g _ _ _ _ h]
  simpa using hu

set_option maxHeartbeats 2000000 in
set_option maxRecDepth 100000 in
theorem lof_any (n c : Nat) (a : Option Addr) (z : Nat → Int) (m c2 : Nat) (a2 : Option Addr) (A : List Tok) (q : Int) (hA : A.length = m) (hm : m ≤ 100000) (hs : ∀ t ∈ A, t.s.size ≤ 100000) (w : World) (hK : ZAt w a n z) (hT : TkAt w a2 A) :
    Calls Try.prog 11 #[.slice a n c, .slice a2 m c2, .int .i64 q] w (OfP (ofF (kdF z n) q A) w) := by
  have H := Lib.hid (And.intro hK (And.intro hT (And.intro hA hs)))
  have hlen := fun i => ofF_len (kdF z n) q (A.take i)
  have HLen := Lib.hid hlen
  obtain ⟨iT, hiT, hT0, hT1, hT2⟩ := info_parts Try.info_tok
  clear hK hT hA hs hlen
  go_enter Try.func11, Try.ntmps11
  go_wp2_with fail
  go_loopw [7, 9, 12] (fun v7 _ v12 wr => ∃ (k p : Nat) (b : Option Addr) (d : Nat), v7 = .slice b p d ∧ v12 = .int .i64 k ∧ k ≤ m ∧ p ≤ k ∧ Hid ((ofF (kdF z n) q (A.take k)).length = p ∧ wr.ownsRow w.heap.size 32 3 (.slice b p d) p (tks (ofF (kdF z n) q (A.take k))) ∧ Below w.heap.size w wr)) (fun _ _ v _ => m - (nV v).toNat)
  case atStart => exact ⟨0, 0, none, 0, rfl, rfl, Nat.zero_le _, Nat.zero_le _, rfl, World.ownsRow_nil _ _ _ _, Below.refl _ _⟩
  case round =>
    obtain ⟨k, p, b, d, rfl, rfl, hk, hp, HX⟩ := hrel
    by_cases hlt : k < m
    · have hkA : k < A.length := by rw [H.out.2.2.1]; exact hlt
      obtain ⟨g1, o1, rfl, _, x0, x1, x2⟩ := (H.out.2.1.below HX.out.2.2).get k hkA
      have HT := Lib.hid (ofF_take (k := kdF z n) (q := q) hkA)
      have hsm := H.out.2.2.2 A[k] (List.getElem_mem hkA)
      have i1 : (k : Int) < (m : Int) := by omega
      generalize A[k] = x at x0 x1 x2 HT hsm
      have HC := Lib.hid (fun W h => lkind_any n c a z x W h)
      have HO := Lib.hid (fun W => own_any x hsm W)
      have k1 := al wr (.cells #[.int .i64 x.r, .string x.s, .int .i64 x.p] 32)
      have hz := HX.out.2.2.size
      have H1 : Hid (Bl (wr.alloc (.cells #[.int .i64 x.r, .string x.s, .int .i64 x.p] 32)) 32 wr.heap.size #[.int .i64 x.r, .string x.s, .int .i64 x.p] ∧ (wr.alloc (.cells #[.int .i64 x.r, .string x.s, .int .i64 x.p] 32)).ownsRow w.heap.size 32 3 (.slice b p d) p (tks (ofF (kdF z n) q (A.take k))) ∧ Below w.heap.size w (wr.alloc (.cells #[.int .i64 x.r, .string x.s, .int .i64 x.p] 32))) :=
        ⟨Bl.new _ _ _, ownsRow_keep HX.out.2.1 k1, HX.out.2.2.trans (k1.mono hz)⟩
      have hkz := H.out.1.below H1.out.2.2
      clear k1 hkA hsm
      rcases hq : (kdF z n x.r == q) with _ | _
      · have HX2 := HX
        rw [hq, if_neg (by decide), List.append_nil] at HT
        go_wp2_with (go_at_call 13; refine (HC.out _ hkz).mono ?_; rintro e w2 ⟨rfl, b2⟩)
        have HE := Lib.hid (And.intro (ownsRow_keep H1.out.2.1 b2) (H1.out.2.2.trans (b2.mono H1.out.2.2.size)))
        clear b2 hkz x0 x1 x2
        go_roundw
        case rel => exact ⟨k + 1, p, b, d, rfl, by go_num, by omega, by omega, by rw [HT.out]; exact HX.out.1, by rw [HT.out]; exact HE.out.1, HE.out.2⟩
        case measure => simp [nV]; omega
      · rw [hq, if_pos rfl] at HT
        go_upto_region 6 with (go_at_call 13; refine (HC.out _ hkz).mono ?_; rintro e w2 ⟨rfl, b2⟩)
        have H2 := Lib.hid (And.intro (H1.out.1.below b2 H1.out.1.lt) (And.intro (ownsRow_keep H1.out.2.1 b2) (H1.out.2.2.trans (b2.mono H1.out.2.2.size))))
        obtain ⟨y0, y1, y2⟩ := tk_box H2.out.1
        clear b2 hkz x0 x1 x2 H1
        have hp9 : p + 1 ≤ m := by omega
        go_wp2_with (first
          | (go_at_call 22; refine (HO.out _).mono ?_; rintro e w3 ⟨rfl, b3⟩
             have H3 := Lib.hid (And.intro (ownsRow_keep H2.out.2.1 b3) (H2.out.2.2.trans (b3.mono H2.out.2.2.size)))
             clear b3 y0 y1 y2 H2
             have hO := H3.out.1
             have hsv := H3.out.2.size)
          | (at_builtin; refine wpList_append_own _ rfl _ _ 23 rfl w.heap.size 32 iT (.agg #[.int .i64 0, .string ⟨#[]⟩, .int .i64 0]) 3 32 Try.underlying23 hiT hT0 hT1 hT2 rfl (by decide) _ _ _ rfl (hO.alloc _) ⟨w3.heap.size, 0, none⟩ 1 1 (#[.int .i64 x.r, .string x.s, .int .i64 x.p]).toList rfl rfl (bl_news (Bl.new _ _ _)) ?_ ?_ ?_ ?_ ?_))
        · exact ⟨rfl, rfl, rfl⟩
        · unfold maxLen; omega
        · omega
        · first | omega | (simp; omega)
        intro v' w5 hown5 hgrow5 _
        obtain ⟨a5, c5, rfl⟩ := ownsRow_slice hown5
        have hb5 : Below w.heap.size w w5 := (H3.out.2.trans ((al w3 _).mono hsv)).grown hgrow5 (by simp; omega) (fun g e => (hO.lt g e).1)
        have HX5 := Lib.hid (And.intro hown5 hb5)
        clear hown5 hgrow5 hb5 hO H3 hsv
        go_wp2_with fail
        go_roundw
        case rel => exact ⟨k + 1, p + 1, a5, c5, rfl, by go_num, by omega, by omega, by rw [HT.out, List.length_append, HX.out.1]; rfl, by rw [HT.out, tks_append]; exact HX5.out.1, HX5.out.2⟩
        case measure => simp [nV]; omega
    · obtain rfl : k = m := by omega
      have HE : Hid (OfP (ofF (kdF z n) q A) w (.returned (.slice b p d)) wr) := by
        have h1 := HX.out.1
        have h2 := HX.out.2.1
        rw [List.take_of_length_le (by rw [H.out.2.2.1]; exact Nat.le_refl _)] at h1 h2
        exact ⟨b, d, by rw [h1], own_tks h1 h2, HX.out.2.2, by rw [h1]; exact own_cap h2⟩
      go_wp2_with fail
      go_ret
      exact HE.out
end Go.Proofs.Ytghhjonhmelohaa
