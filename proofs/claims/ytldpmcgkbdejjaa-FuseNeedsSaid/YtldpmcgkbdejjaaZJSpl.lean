import Derived.Test.YtldpmcgkbdejjaaZJDelM
import Derived.Test.YtldpmcgkbdejjaaZJFew
import Derived.Test.YtldpmcgkbdejjaaZUAll
import Derived.Test.YtldpmcgkbdejjaaZURall
namespace Go.Proofs.Ytldpmcgkbdejjaa
open Go.RowKit Go.Maps Go.WideElems Go.ChangeMaps Go.MapKept
set_option linter.unusedVariables false
set_option linter.unusedSimpArgs false

set_option maxRecDepth 100000 in
theorem call_spl1 : ∀ (args : Array Value) (W : World), (callFunc 24 args).run Try.prog W = .ok (.enter 24 args) W := fun _ _ => by rfl
set_option maxRecDepth 100000 in
theorem call_spl2 : ∀ (args : Array Value) (W : World), (callFunc 26 args).run Try.prog W = .ok (.enter 26 args) W := fun _ _ => by rfl

set_option maxHeartbeats 1000000 in
set_option maxRecDepth 100000 in
theorem spl1_any (bB : Nat) (bl r p : Int) (s : ByteArray) (w : World) (hlt : bB < w.heap.size) (hc : w.cell? ⟨bB, 0, none⟩ = some (.int .i64 bl)) :
    Calls Try.prog 24 #[.agg #[.int .i64 r, .string s, .int .i64 p], .pointer (some ⟨bB, 0, none⟩)] w fun e w' => e = .returned (.bool (r == bl)) ∧ Below w.heap.size w w' := by
  have kb := al w (.cells #[.int .i64 r, .string s, .int .i64 p] 51)
  have hc2 := (kb.cell (p := ⟨bB, 0, none⟩) hlt).trans hc
  have HK := Lib.hid kb
  clear hc kb
  go_enter Try.func24, Try.ntmps24
  go_wp2_with fail
  go_ret
  exact ⟨rfl, HK.out⟩

set_option maxHeartbeats 1000000 in
set_option maxRecDepth 100000 in
theorem spl2_any (r p : Int) (s t : ByteArray) (w : World) :
    Calls Try.prog 26 #[.agg #[.int .i64 r, .string s, .int .i64 p], .string t] w fun e w' => e = .returned (.bool (decide (s = t))) ∧ Below w.heap.size w w' := by
  have HK := Lib.hid (al w (.cells #[.int .i64 r, .string s, .int .i64 p] 51))
  have hse := str_eq15 s t
  go_enter Try.func26, Try.ntmps26
  rcases hE : (s.toList == t.toList) with _ | _
  all_goals
    rw [hE] at hse
    have HZ := Lib.hid hse
    clear hse
    go_wp2_with fail
    go_ret
    exact ⟨by rw [← HZ.out]; rfl, HK.out⟩

/-- The first of a rule. -/
def IdxP (bl : Int) (l : List Tok) (w : World) (e : Ending) (w' : World) : Prop :=
  ∃ i : Int, e = .returned (.int .i64 i) ∧ ((i = -1 ∧ ∀ j (h : j < l.length), l[j].r ≠ bl) ∨ (∃ k : Nat, i = k ∧ k < l.length ∧ (∀ j (h : j < l.length), j < k → l[j].r ≠ bl) ∧ ∀ (h : k < l.length), l[k].r = bl)) ∧ Below w.heap.size w w'

set_option maxHeartbeats 2000000 in
set_option maxRecDepth 100000 in
theorem idx_any (l : List Tok) (n c : Nat) (a : Option Addr) (hn : l.length = n) (hn8 : n ≤ 1000000) (bB : Nat) (bl : Int) (w : World) (h : TkAt w a l) (hlt : bB < w.heap.size) (hc : w.cell? ⟨bB, 0, none⟩ = some (.int .i64 bl)) :
    Calls Try.prog 38 #[.slice a n c, .func (.func 24) #[] #[.pointer (some ⟨bB, 0, none⟩)]] w (IdxP bl l w) := by
  have H := Lib.hid (And.intro h (And.intro hn (And.intro hlt hc)))
  have hcf := call_spl1
  clear h hn hlt hc
  go_enter Try.func38, Try.ntmps38
  go_wp2_with fail
  go_loopw [5, 8] (fun _ v wr => ∃ k : Nat, v = .int .i64 k ∧ k ≤ n ∧ Hid (Below w.heap.size w wr ∧ ∀ j (h : j < l.length), j < k → l[j].r ≠ bl)) (fun _ v _ => n - (intOf v).toNat)
  case atStart => exact ⟨0, rfl, Nat.zero_le _, Below.refl _ _, fun j _ h => absurd h (by omega)⟩
  case round =>
    obtain ⟨k, rfl, hk, HL⟩ := hrel
    by_cases hk2 : k < n
    · have hkA : k < l.length := by rw [H.out.2.1]; exact hk2
      obtain ⟨g1, o1, rfl, _, x0, x1, x2⟩ := (H.out.1.below HL.out.1).get k hkA
      have HS : Hid ((l[k].r = bl → IdxP bl l w (.returned (.int .i64 ((k : Nat) : Int))) wr) ∧ (l[k].r ≠ bl → ∀ j (h : j < l.length), j < k + 1 → l[j].r ≠ bl)) := by
        refine ⟨fun h => ⟨k, rfl, Or.inr ⟨k, rfl, hkA, HL.out.2, fun _ => h⟩, HL.out.1⟩, fun h j hj h3 => ?_⟩
        by_cases e : j = k
        · subst e; exact h
        · exact HL.out.2 j hj (by omega)
      have i1 : (k : Int) < (n : Int) := by omega
      generalize l[k] = x at x0 x1 x2 HS
      obtain ⟨r, t, p⟩ := x
      dsimp only at x0 x1 x2 HS
      have hz := HL.out.1.size
      have HC := Lib.hid (spl1_any bB bl r p t wr (by have := H.out.2.2.1; omega) ((HL.out.1.cell (p := ⟨bB, 0, none⟩) H.out.2.2.1).trans H.out.2.2.2))
      clear hkA hz
      go_wp2_with fail
      refine HC.out.mono ?_
      rintro e w5 ⟨rfl, b5⟩
      have HB5 := Lib.hid (HL.out.1.trans (b5.mono HL.out.1.size))
      clear b5 HC x0 x1 x2
      by_cases hr : r = bl
      · have j1 : (r == bl) = true := by simp [hr]
        have HZ := Lib.hid (HS.out.1 hr)
        clear hr
        go_wp2_with fail
        go_ret
        obtain ⟨i, e1, e2, _⟩ := HZ.out
        exact ⟨i, e1, e2, HB5.out⟩
      · have j1 : (r == bl) = false := by simp [hr]
        have HZ := Lib.hid (HS.out.2 hr)
        clear hr
        go_wp2_with fail
        go_roundw
        case rel => exact ⟨k + 1, by go_num, by omega, HB5.out, HZ.out⟩
        case measure => simp [intOf]; omega
    · obtain rfl : k = n := by omega
      go_wp2_with fail
      go_ret
      exact ⟨-1, rfl, Or.inl ⟨rfl, fun j hj => HL.out.2 j hj (by rw [← H.out.2.1]; exact hj)⟩, HL.out.1⟩

/-- What is left of a row of tokens. -/
def DelP (bl : Int) (l : List Tok) (B : Nat) (w : World) (e : Ending) (w' : World) : Prop :=
  ∃ (a : Option Addr) (k c : Nat), e = .returned (.slice a k c) ∧ (l.filter (keepT bl)).length = k ∧ TkAt w' a (l.filter (keepT bl)) ∧ Below B w w'

theorem keep_all {bl : Int} {l : List Tok} (h : ∀ j (h : j < l.length), l[j].r ≠ bl) : l.filter (keepT bl) = l := by
  refine List.filter_eq_self.2 fun t ht => ?_
  obtain ⟨j, hj, rfl⟩ := List.getElem_of_mem ht
  simp [keepT, h j hj]
set_option maxRecDepth 100000 in
theorem zero_tok (w : World) : (zeroValue 51).run Try.prog w = .ok zTok w := by rfl

set_option maxHeartbeats 4000000 in
set_option maxRecDepth 100000 in
theorem del_any (l : List Tok) (n c : Nat) (a : Option Addr) (hn : l.length = n) (hn8 : n ≤ 1000000) (bB B : Nat) (bl : Int) (w0 w : World) (h : w.ownsRow B 51 3 (.slice a n c) n (tks l)) (hB : B ≤ w.heap.size) (hlt : bB < B) (hc : w.cell? ⟨bB, 0, none⟩ = some (.int .i64 bl)) :
    Calls Try.prog 23 #[.slice a n c, .func (.func 24) #[] #[.pointer (some ⟨bB, 0, none⟩)]] w (DelP bl l B w) := by
  have hTk := own_tks hn h
  have HI := Lib.hid (idx_any l n c a hn hn8 bB bl w hTk (by omega) hc)
  have H := Lib.hid (And.intro h (And.intro hn (And.intro hB (And.intro hlt (And.intro hc hTk)))))
  have hcf := call_spl1
  clear h hn hB hlt hc hTk
  go_enter Try.func23, Try.ntmps23
  go_upto_region 2 with (go_at_call 38; refine HI.out.mono ?_; rintro e w2 ⟨i, rfl, hi, b2⟩)
  rcases hi with ⟨rfl, hno⟩ | ⟨k0, rfl, hk0, hb0, hb1⟩
  · have HZ : Hid (DelP bl l B w (.returned (.slice a n c)) w2) := by
      have e := keep_all hno
      exact ⟨a, n, c, rfl, by rw [e]; exact H.out.2.1, by rw [e]; exact H.out.2.2.2.2.2.below b2, b2.mono H.out.2.2.1⟩
    clear hno b2
    go_wp2_with fail
    go_ret
    exact HZ.out
  · have hk2 : k0 < n := by rw [← H.out.2.1]; exact hk0
    obtain ⟨g, rest, rfl, hRw, hnc, hcm⟩ := RwT.of (B := B) (w := w) (w' := w2) H.out.2.1 (by omega) (b2.mono H.out.2.2.1) (ownsRow_keep H.out.1 b2)
    have HD : Hid (RwT w B g c l rest w2 ∧ DlI bl l l k0 (k0 + 1) ∧ n ≤ c ∧ c ≤ maxLen ∧ B ≤ w2.heap.size) := by
      refine ⟨hRw, ⟨rfl, ?_, rfl, by omega⟩, hnc, hcm, by have := b2.size; have := H.out.2.2.1; omega⟩
      have h1 : (l.take k0).filter (keepT bl) = l.take k0 := keep_all (fun j hj => by
        rw [List.length_take] at hj
        rw [List.getElem_take]
        exact hb0 j (by omega) (by omega))
      have hf : keepT bl l[k0] = false := by simp [keepT, hb1 hk0]
      rw [List.take_succ_eq_append_getElem hk0, List.filter_append, h1]
      simp [List.filter_cons, hf]
    clear hb0 hb1 hRw hnc hcm b2 hk0 HI
    have j0 : ((k0 : Int) == -1) = false := by rw [beq_eq_false_iff_ne]; omega
    go_wp2_with fail
    go_loopw [5, 6, 7] (fun v5 v6 _ wr => ∃ (i j : Nat) (R : List Tok), v5 = .int .i64 i ∧ v6 = .int .i64 j ∧ j ≤ n ∧ i < j ∧ Hid (RwT w B g c R rest wr ∧ DlI bl l R i j ∧ B ≤ wr.heap.size)) (fun _ v _ _ => n - (intOf v).toNat)
    case atStart => exact ⟨k0, k0 + 1, l, rfl, by go_num, by omega, by omega, HD.out.1, HD.out.2.1, HD.out.2.2.2.2⟩
    case round =>
      obtain ⟨i, j, R, rfl, rfl, hj, hij, HX⟩ := hrel
      by_cases hj2 : j < n
      · have hjl : j < l.length := by rw [H.out.2.1]; exact hj2
        have hjR : j < R.length := by rw [HX.out.2.1.n]; exact hjl
        obtain ⟨x0, x1, x2⟩ := HX.out.1.cell j hjR
        have hat := HX.out.2.1.at_ hjl
        rw [hat] at x0 x1 x2
        have HS : Hid ((l[j].r = bl → DlI bl l R i (j + 1)) ∧ (l[j].r ≠ bl → DlI bl l (R.set i l[j]) (i + 1) (j + 1))) := ⟨HX.out.2.1.skip hjl, HX.out.2.1.take hjl⟩
        have hiR : i < R.length := by omega
        have HiR := Lib.hid hiR
        have i1 : (j : Int) < (n : Int) := by omega
        have i2 : (i : Int) < (n : Int) := by omega
        generalize l[j] = x at x0 x1 x2 HS
        obtain ⟨r, t, p⟩ := x
        dsimp only at x0 x1 x2 HS
        clear hjl hjR hat hiR
        have kb := al wr (.cells #[.int .i64 r, .string t, .int .i64 p] 51)
        have HX2 : Hid (RwT w B g c R rest (wr.alloc (.cells #[.int .i64 r, .string t, .int .i64 p] 51)) ∧ St (wr.alloc (.cells #[.int .i64 r, .string t, .int .i64 p] 51)) 51 wr.heap.size #[.int .i64 r, .string t, .int .i64 p] ∧ B ≤ (wr.alloc (.cells #[.int .i64 r, .string t, .int .i64 p] 51)).heap.size) := ⟨HX.out.1.keep kb HX.out.2.2, St.new _ _ _, by have := kb.size; have := HX.out.2.2; omega⟩
        clear kb
        go_upto_region 8 with fail
        generalize wr.alloc (.cells #[.int .i64 r, .string t, .int .i64 p] 51) = w4 at HX2 ⊢
        generalize wr.heap.size = b4 at HX2 ⊢
        have y0 : w4.cell? ⟨b4, 0, none⟩ = some (.int .i64 r) := HX2.out.2.1.at_ 0
        have y1 : w4.cell? ⟨b4, 1, none⟩ = some (.string t) := HX2.out.2.1.at_ 1
        have y2 : w4.cell? ⟨b4, 2, none⟩ = some (.int .i64 p) := HX2.out.2.1.at_ 2
        have hlt4 : bB < w4.heap.size := by have := H.out.2.2.2.1; have := HX2.out.2.2; omega
        have HC := Lib.hid (spl1_any bB bl r p t w4 hlt4 ((HX2.out.1.bel.cell (p := ⟨bB, 0, none⟩) H.out.2.2.2.1).trans H.out.2.2.2.2.1))
        clear hlt4 x0 x1 x2
        go_wp2_with fail
        refine HC.out.mono ?_
        rintro e w5 ⟨rfl, b5⟩
        have HX5 : Hid (RwT w B g c R rest w5 ∧ St w5 51 b4 #[.int .i64 r, .string t, .int .i64 p] ∧ B ≤ w5.heap.size) := ⟨HX2.out.1.keep b5 HX2.out.2.2, HX2.out.2.1.keep b5, by have := b5.size; have := HX2.out.2.2; omega⟩
        clear b5 HC y0 y1 y2 HX2
        by_cases hr : r = bl
        · have j1 : (r == bl) = true := by simp [hr]
          have HZ := Lib.hid (HS.out.1 hr)
          clear hr
          go_wp2_with fail
          go_roundw
          case rel => exact ⟨i, j + 1, R, rfl, by go_num, by omega, by omega, HX5.out.1, HZ.out, HX5.out.2.2⟩
          case measure => simp [intOf]; omega
        · have j1 : (r == bl) = false := by simp [hr]
          have HZ := Lib.hid (HS.out.2 hr)
          clear hr
          have y0 : w5.cell? ⟨b4, 0, none⟩ = some (.int .i64 r) := HX5.out.2.1.at_ 0
          have y1 : w5.cell? ⟨b4, 1, none⟩ = some (.string t) := HX5.out.2.1.at_ 1
          have y2 : w5.cell? ⟨b4, 2, none⟩ = some (.int .i64 p) := HX5.out.2.1.at_ 2
          have HP := Lib.hid (HX5.out.1.put i HiR.out ⟨r, t, p⟩)
          go_wp2_with (refine wpList_store_part9 rfl 51 _ _ rfl g (i * 3) 51 (tks R ++ rest).toArray #[.int .i64 r, .string t, .int .i64 p] rfl rfl HX5.out.1.st (by have := HiR.out; simp [tks_length]; omega) (by kernel_rfl) (by intro u hu; simp at hu; rcases hu with rfl | rfl | rfl <;> rfl) ?_)
          have HP2 : Hid (RwT w B g c (R.set i ⟨r, t, p⟩) rest (w5.setRow g (blit9 (tks R ++ rest).toArray #[.int .i64 r, .string t, .int .i64 p] (i * 3))) ∧ B ≤ (w5.setRow g (blit9 (tks R ++ rest).toArray #[.int .i64 r, .string t, .int .i64 p] (i * 3))).heap.size) := ⟨HP.out, by rw [setRow_size]; exact HX5.out.2.2⟩
          clear HP y0 y1 y2 HX5
          generalize w5.setRow g (blit9 (tks R ++ rest).toArray #[.int .i64 r, .string t, .int .i64 p] (i * 3)) = w6 at HP2 ⊢
          go_wp2_with fail
          go_roundw
          case rel => exact ⟨i + 1, j + 1, _, by go_num, by go_num, by omega, by omega, HP2.out.1, HZ.out, HP2.out.2⟩
          case measure => simp [intOf]; omega
      · obtain rfl : j = n := by omega
        have HF : Hid (R.take i = l.filter (keepT bl) ∧ R.length = j) := by
          have h1 := HX.out.2.1.t
          have hl9 : l.take j = l := List.take_of_length_le (by rw [H.out.2.1]; exact Nat.le_refl _)
          rw [hl9] at h1
          exact ⟨h1, by rw [HX.out.2.1.n]; exact H.out.2.1⟩
        have HC := Lib.hid (HX.out.1.cut HF.out.2 i hij)
        obtain ⟨zc, hzc⟩ : ∃ zc, Builtin.zeroCells zTok.cells (j - i) = zc := ⟨_, rfl⟩
        have Hzc : Hid (Builtin.zeroCells zTok.cells (j - i) = zc ∧ (∀ v ∈ zc.toList, v.oneCell' = true) ∧ zc.size = (j - i) * 3) := by
          refine ⟨hzc, ?_, ?_⟩
          · rw [← hzc]; exact zTok_one _
          · rw [← hzc]; exact zTok_size _
        rw [hzc] at HC
        clear hzc
        have i2 : (i : Int) ≤ (j : Int) := by omega
        have i3 : ¬ (c = i) := by have := HD.out.2.2.1; omega
        have i4 : i ≤ c := by have := HD.out.2.2.1; omega
        have HZ : Hid (DelP bl l B w (.returned (.slice (some ⟨g, 0, none⟩) i c)) (wr.setRow g (blit9 (tks R ++ rest).toArray zc (i * 3)))) := by
          refine ⟨_, i, c, rfl, ?_, ?_, HC.out.2⟩
          · rw [← HF.out.1, List.length_take, HF.out.2]; omega
          · rw [← HF.out.1]; exact HC.out.1
        go_wp2_with (refine wpList_clear15 rfl _ 46 rfl 51 zTok Try.underlying46 zero_tok g (i * 3) (j - i) (c - i) rfl (by omega) zc Hzc.out.1 Hzc.out.2.1 (tks R ++ rest).toArray 51 HX.out.1.st (by rw [Hzc.out.2.2]; have := HF.out.2; simp [tks_length]; omega) ?_)
        generalize wr.setRow g (blit9 (tks R ++ rest).toArray zc (i * 3)) = w6 at HZ ⊢
        go_wp2_with fail
        go_ret
        exact HZ.out
end Go.Proofs.Ytldpmcgkbdejjaa

namespace Go.Proofs.Ytldpmcgkbdejjaa
open Go.RowKit Go.Maps Go.WideElems Go.ChangeMaps Go.MapKept
set_option linter.unusedVariables false
set_option linter.unusedSimpArgs false

set_option maxHeartbeats 2000000 in
set_option maxRecDepth 100000 in
theorem eqf_any (l : List Tok) (ts : List ByteArray) (n c m c2 : Nat) (a b : Option Addr) (hn : l.length = n) (hm : ts.length = m) (hn8 : n ≤ 1000000) (w : World) (h : TkAt w a l) (h2 : SsAt w b ts) :
    Calls Try.prog 25 #[.slice a n c, .slice b m c2, .func (.func 26) #[] #[]] w fun e w' => e = .returned (.bool (decide (l.map (·.s) = ts))) ∧ Below w.heap.size w w' := by
  have H := Lib.hid (And.intro h (And.intro h2 (And.intro hn hm)))
  have hcf := call_spl2
  clear h h2 hn hm
  go_enter Try.func25, Try.ntmps25
  by_cases hnm : n = m
  · subst hnm
    have i0 : ((n : Int) != (n : Int)) = false := by simp
    go_wp2_with fail
    go_loopw [7, 8, 9, 17] (fun _ _ _ v wr => ∃ k : Nat, v = .int .i64 k ∧ k ≤ n ∧ Hid (Below w.heap.size w wr ∧ ∀ j (h1 : j < l.length) (h2 : j < ts.length), j < k → l[j].s = ts[j])) (fun _ _ _ v _ => n - (intOf v).toNat)
    case atStart => exact ⟨0, rfl, Nat.zero_le _, Below.refl _ _, fun j _ _ h => absurd h (by omega)⟩
    case round =>
      obtain ⟨k, rfl, hk, HL⟩ := hrel
      by_cases hk2 : k < n
      · have hkA : k < l.length := by rw [H.out.2.2.1]; exact hk2
        have hkT : k < ts.length := by rw [H.out.2.2.2]; exact hk2
        obtain ⟨g1, o1, rfl, _, x0, x1, x2⟩ := (H.out.1.below HL.out.1).get k hkA
        obtain ⟨g2, o2, rfl, _, q2⟩ := (H.out.2.1.below HL.out.1) (by omega)
        have y1 := q2 k hkT
        have HS : Hid ((l[k].s = ts[k] → ∀ j (h1 : j < l.length) (h2 : j < ts.length), j < k + 1 → l[j].s = ts[j]) ∧ (l[k].s ≠ ts[k] → decide (l.map (·.s) = ts) = false)) := by
          refine ⟨fun h j h1 h2 h3 => ?_, fun h => ?_⟩
          · by_cases e : j = k
            · subst e; exact h
            · exact HL.out.2 j h1 h2 (by omega)
          · have : ¬ l.map (·.s) = ts := fun e => h (by subst e; simp)
            simp [this]
        have i1 : (k : Int) < (n : Int) := by omega
        clear q2
        generalize l[k] = x at x0 x1 x2 HS
        obtain ⟨r, t, p⟩ := x
        dsimp only at x0 x1 x2 HS
        generalize ts[k] = u at y1 HS
        have kb := al wr (.cells #[.int .i64 r, .string t, .int .i64 p] 51)
        obtain ⟨w4, hw4⟩ : ∃ w4, wr.alloc (.cells #[.int .i64 r, .string t, .int .i64 p] 51) = w4 := ⟨_, rfl⟩
        have HC := Lib.hid (spl2_any r p t u w4)
        have HB4 : Hid (Below w.heap.size w w4) := by rw [← hw4]; exact HL.out.1.trans (kb.mono HL.out.1.size)
        have HW4 := Lib.hid hw4
        clear hkA hkT kb hw4
        go_wp2_with fail
        rw [HW4.out]
        refine HC.out.mono ?_
        rintro e w5 ⟨rfl, b5⟩
        have HB5 := Lib.hid (HB4.out.trans (b5.mono HB4.out.size))
        clear b5 HC x0 x1 x2 y1
        by_cases hr : t = u
        · have j1 : decide (t = u) = true := by simp [hr]
          have HZ := Lib.hid (HS.out.1 hr)
          clear hr
          go_wp2_with fail
          go_roundw
          case rel => exact ⟨k + 1, by go_num, by omega, HB5.out, HZ.out⟩
          case measure => simp [intOf]; omega
        · have j1 : decide (t = u) = false := by simp [hr]
          have HZ := Lib.hid (HS.out.2 hr)
          clear hr
          go_wp2_with fail
          go_ret
          exact ⟨by rw [HZ.out]; rfl, HB5.out⟩
      · obtain rfl : k = n := by omega
        have HZ : Hid (decide (l.map (·.s) = ts) = true) := by
          have : l.map (·.s) = ts := list_same (by rw [List.length_map, H.out.2.2.1, H.out.2.2.2]) (fun j h1 h2 => by
            rw [List.getElem_map]
            exact HL.out.2 j (by simpa using h1) h2 (by rw [← H.out.2.2.2]; exact h2))
          show _ = _
          simp [this]
        go_wp2_with fail
        go_ret
        exact ⟨by rw [HZ.out]; rfl, HL.out.1⟩
  · have i1 : ((n : Int) != (m : Int)) = true := by simp; omega
    have HZ : Hid (decide (l.map (·.s) = ts) = false) := by
      have : ¬ l.map (·.s) = ts := fun e => hnm (by rw [← H.out.2.2.1, ← H.out.2.2.2, ← e, List.length_map])
      show _ = _
      simp [this]
    go_wp2_with fail
    go_ret
    exact ⟨by rw [HZ.out]; rfl, Below.refl _ _⟩

set_option maxHeartbeats 4000000 in
set_option maxRecDepth 100000 in
theorem splits_any (D : Dd) (C : Nat) (hR : DR D C) (bl : Int) (s : ByteArray) (hs : s.size ≤ 255) (ts : List ByteArray) (n c : Nat) (a : Option Addr) (hn : ts.length = n) (hn8 : n ≤ 1000000) (w : World) (hD : DM w D) (h1 : SsAt w a ts) :
    Calls Try.prog 12 #[.agg D.cD, .int .i64 bl, .string s, .slice a n c] w fun e w' => e = .returned (.bool (spB D bl s ts)) ∧ Below w.heap.size w w' := by
  have kb := al w (.cells D.cD 26)
  have kb2 := al (w.alloc (.cells D.cD 26)) (.cells #[.int .i64 bl] 3)
  have HB : Hid (DBx ((w.alloc (.cells D.cD 26)).alloc (.cells #[.int .i64 bl] 3)) w.heap.size D ∧ Below w.heap.size w ((w.alloc (.cells D.cD 26)).alloc (.cells #[.int .i64 bl] 3)) ∧ SsAt ((w.alloc (.cells D.cD 26)).alloc (.cells #[.int .i64 bl] 3)) a ts ∧ ts.length = n ∧ St ((w.alloc (.cells D.cD 26)).alloc (.cells #[.int .i64 bl] 3)) 3 (w.heap.size + 1) #[.int .i64 bl]) := by
    refine ⟨(DBx.new hD).keep kb2, kb.trans (kb2.mono kb.size), (h1.below kb).below kb2, hn, ?_⟩
    have := St.new (w.alloc (.cells D.cD 26)) 3 #[.int .i64 bl]
    simpa using this
  have HR := Lib.hid hR
  clear kb kb2 hR hD hn h1
  go_enter Try.func12, Try.ntmps12
  go_upto_region 1 with fail
  try simp only [alloc_sz9]
  generalize (w.alloc (.cells D.cD 26)).alloc (.cells #[.int .i64 bl] 3) = V at HB ⊢
  obtain ⟨b2, hb2⟩ : ∃ b2, w.heap.size + 1 = b2 := ⟨_, rfl⟩
  obtain ⟨b, hb0⟩ : ∃ b0, w.heap.size = b0 := ⟨_, rfl⟩
  have Hb0 := Lib.hid (And.intro hb0 hb2)
  rw [hb2, hb0] at HB
  rw [hb2, hb0]
  clear hb0 hb2
  have HFw : Hid (∀ W', Below V.heap.size V W' → Below w.heap.size w W') := fun W' h => by
    have hz := HB.out.2.1.size
    rw [Hb0.out.1]
    exact HB.out.2.1.trans (h.mono (by have := Hb0.out.1; omega))
  have HL := Lib.hid (mall_own D C HR.out s s.size rfl hs V HB.out.1.dm)
  go_upto_region 2 with (first
    | (refine wpList_load_any9 (by rfl) 26 _ rfl ⟨b, 0, none⟩ rfl D.cD _ HB.out.1.st.part Try.underlying26 rfl HB.out.1.dm.info ?_)
    | (go_at_call 22; refine HL.out.mono ?_; rintro e w2 ⟨q, aT, cT, hst, hno, rfl, hT, hq, b3⟩))
  have HQ : Hid (w2.ownsRow V.heap.size 51 3 (.slice aT q cT) q (tks (tkL D s q)) ∧ (tkL D s q).length = q ∧ Below V.heap.size V w2 ∧ spB D bl s ts = (decide (s.size ≤ tkE D s q) && decide (ownT bl (tkL D s q) = ts))) := ⟨hT, tkL_len D s q, b3, spB_eq hst hno bl ts⟩
  have hq2 : q ≤ 255 := by omega
  clear hst hno hT hq b3 HL
  unfold errO
  generalize tkL D s q = T at HQ ⊢
  generalize tkE D s q = p at HQ ⊢
  rcases hok : decide (s.size ≤ p) with _ | _
  · have HZ : Hid (spB D bl s ts = false) := by
      rw [hok] at HQ
      exact HQ.out.2.2.2
    clear hok
    go_wp2_with fail
    go_ret
    exact ⟨by rw [HZ.out]; rfl, HFw.out _ HQ.out.2.2.1⟩
  · have HZ : Hid (spB D bl s ts = decide (ownT bl T = ts)) := by
      have := HQ.out.2.2.2
      rw [hok, Bool.true_and] at this
      exact this
    clear hok
    have hb2V : b2 < V.heap.size := HB.out.2.2.2.2.lt
    have HD2 := Lib.hid (del_any T q cT aT HQ.out.2.1 (by omega) b2 V.heap.size bl w w2 HQ.out.1 HQ.out.2.2.1.size hb2V ((HQ.out.2.2.1.cell (p := ⟨b2, 0, none⟩) hb2V).trans (HB.out.2.2.2.2.at_ 0)))
    clear hb2V
    have hmf : ∀ (fn : Fn) (first cap : Array Value) (w : World), (Instr.makeFunc fn first cap).run Try.prog w = .ok (.func fn first cap) w := fun _ _ _ _ => rfl
    go_upto_region 5 with (go_at_call 23; refine HD2.out.mono ?_; rintro e w3 ⟨a3, k3, c3, rfl, hk3, ht3, b3⟩)
    have HQ3 : Hid (TkAt w3 a3 (T.filter (keepT bl)) ∧ (T.filter (keepT bl)).length = k3 ∧ Below V.heap.size V w3) := by
      refine ⟨ht3, hk3, HQ.out.2.2.1.trans b3⟩
    have hk4 : k3 ≤ 1000000 := by have := List.length_filter_le (keepT bl) T; have := HQ.out.2.1; omega
    have HE := Lib.hid (eqf_any (T.filter (keepT bl)) ts k3 c3 n c a3 a HQ3.out.2.1 HB.out.2.2.2.1 hk4 w3 HQ3.out.1 (HB.out.2.2.1.below HQ3.out.2.2))
    clear hk3 ht3 b3 HD2
    go_wp2_with (go_at_call 25; refine HE.out.mono ?_; rintro e w4 ⟨rfl, b4⟩)
    go_ret
    exact ⟨by rw [HZ.out]; rfl, HFw.out _ (HQ3.out.2.2.trans (b4.mono HQ3.out.2.2.size))⟩
end Go.Proofs.Ytldpmcgkbdejjaa

namespace Go.Proofs.Ytldpmcgkbdejjaa
open Go.RowKit Go.Maps Go.WideElems Go.ChangeMaps Go.MapKept
set_option linter.unusedVariables false
set_option linter.unusedSimpArgs false

set_option maxHeartbeats 4000000 in
set_option maxRecDepth 100000 in
theorem rsplits_any (D : Dd) (C : Nat) (hR : DR D C) (bl : Int) (s : ByteArray) (hs : s.size ≤ 255) (ts : List ByteArray) (n c : Nat) (a : Option Addr) (hn : ts.length = n) (hn8 : n ≤ 1000000) (w : World) (hD : DM w D) (h1 : SsAt w a ts) :
    Calls Try.prog 20 #[.agg D.cD, .int .i64 bl, .string s, .slice a n c] w fun e w' => e = .returned (.bool (spB D bl s ts)) ∧ Below w.heap.size w w' := by
  have kb := al w (.cells D.cD 26)
  have HB : Hid (DBx (w.alloc (.cells D.cD 26)) w.heap.size D ∧ Below w.heap.size w (w.alloc (.cells D.cD 26)) ∧ SsAt (w.alloc (.cells D.cD 26)) a ts ∧ ts.length = n) := ⟨DBx.new hD, kb, h1.below kb, hn⟩
  have HR := Lib.hid hR
  clear kb hR hD hn h1
  go_enter Try.func20, Try.ntmps20
  go_upto_region 1 with fail
  generalize w.alloc (.cells D.cD 26) = V at HB ⊢
  obtain ⟨b, hb0⟩ : ∃ b0, w.heap.size = b0 := ⟨_, rfl⟩
  have Hb0 := Lib.hid hb0
  rw [hb0] at HB
  rw [hb0]
  clear hb0
  have HFw : Hid (∀ W', Below V.heap.size V W' → Below w.heap.size w W') := fun W' h => by
    have hz := HB.out.2.1.size
    rw [Hb0.out]
    exact HB.out.2.1.trans (h.mono (by have := Hb0.out; omega))
  have HL := Lib.hid (rall_any D C HR.out s s.size rfl hs V HB.out.1.dm)
  go_wp2_with (first
    | (refine wpList_load_any9 (by rfl) 26 _ rfl ⟨b, 0, none⟩ rfl D.cD _ HB.out.1.st.part Try.underlying26 rfl HB.out.1.dm.info ?_)
    | (go_at_call 35; refine HL.out.mono ?_; rintro e w2 ⟨q, aT, cT, hst, hno, rfl, hT, hq, b2⟩))
  have HQ : Hid (TkAt w2 aT (tkL D s q) ∧ (tkL D s q).length = q ∧ Below V.heap.size V w2 ∧ spB D bl s ts = (decide (s.size ≤ tkE D s q) && decide (ownT bl (tkL D s q) = ts))) := ⟨hT, tkL_len D s q, b2, spB_eq hst hno bl ts⟩
  have hq2 : q ≤ 255 := by omega
  clear hst hno hT hq b2 HL
  unfold boolO
  generalize tkL D s q = T at HQ ⊢
  generalize decide (s.size ≤ tkE D s q) = ok at HQ ⊢
  go_upto_region 3 with fail
  go_loopw [12, 13] (fun v12 v13 wr => ∃ (k : Nat) (a1 : Option Addr) (c1 : Nat), v13 = .int .i64 k ∧ k ≤ q ∧ v12 = .slice a1 (ownT bl (T.take k)).length c1 ∧ Hid (wr.ownsRow w2.heap.size 9 1 v12 (ownT bl (T.take k)).length (sss (ownT bl (T.take k))) ∧ Below w2.heap.size w2 wr)) (fun _ v _ => q - (intOf v).toNat)
  case atStart => exact ⟨0, none, 0, rfl, Nat.zero_le _, rfl, World.ownsRow_nil _ _ _ _, Below.refl _ _⟩
  case round =>
    obtain ⟨k, a1, c1, rfl, hk, rfl, HX⟩ := hrel
    by_cases hlt : k < q
    · have hkT : k < T.length := by rw [HQ.out.2.1]; exact hlt
      obtain ⟨g1, o1, rfl, _, x0, x1, x2⟩ := (HQ.out.1.below HX.out.2).get k hkT
      have HT := Lib.hid (ownT_take (bl := bl) hkT)
      have hle := ownT_take_le bl T k
      have i1 : (k : Int) < (q : Int) := by omega
      generalize T[k] = x at x0 x1 x2 HT
      obtain ⟨r, t, p⟩ := x
      dsimp only at x0 x1 x2 HT
      clear hkT
      by_cases hr : r = bl
      · have j1 : (r != bl) = false := by simp [hr]
        have HE := Lib.hid (HT.out.1 hr)
        clear hr
        go_wp2_with fail
        go_roundw
        case rel => exact ⟨k + 1, a1, c1, by go_num, by omega, by rw [HE.out], by rw [HE.out]; exact HX.out⟩
        case measure => simp [intOf]; omega
      · have j1 : (r != bl) = true := by simp [hr]
        have HE := Lib.hid (HT.out.2 hr)
        clear hr
        have hO := HX.out.1
        have hz := HX.out.2.size
        obtain ⟨m, hm⟩ : ∃ m, (ownT bl (T.take k)).length = m := ⟨_, rfl⟩
        have Hm := Lib.hid hm
        rw [hm] at hO hle
        rw [hm]
        clear hm
        obtain ⟨iT, hT, hT0, hT1, hT2⟩ := info_parts Try.info_str15
        go_wp2_with (at_builtin; refine wpList_append_own _ rfl _ _ 27 rfl w2.heap.size 9 iT (.string ⟨#[]⟩) 1 16 Try.underlying27 hT hT0 hT1 hT2 rfl (by decide) _ _ _ rfl (hO.alloc _) ⟨wr.heap.size, 0, none⟩ 1 1 [.string t] rfl rfl (World.news_of_block (cs := #[.string t]) (St.new _ _ _)) ?_ ?_ ?_ ?_ ?_)
        · intro u hu; rw [List.mem_singleton.1 hu]; rfl
        · unfold maxLen; omega
        · omega
        · simp; omega
        intro v' w5 hown5 hgrow5 _
        obtain ⟨a5, c5, rfl⟩ := ownsRow_slice hown5
        have hb5 : Below w2.heap.size w2 w5 := (HX.out.2.trans ((al wr _).mono hz)).grown hgrow5 (by simp; omega) (fun g e => (hO.lt g e).1)
        have hlen : (ownT bl (T.take (k + 1))).length = m + 1 := by rw [HE.out, List.length_append, Hm.out]; rfl
        have HX5 : Hid (w5.ownsRow w2.heap.size 9 1 (.slice a5 (m + 1) c5) (m + 1) (sss (ownT bl (T.take (k + 1)))) ∧ Below w2.heap.size w2 w5 ∧ (ownT bl (T.take (k + 1))).length = m + 1) := ⟨by rw [HE.out]; simpa [sss] using hown5, hb5, hlen⟩
        clear hown5 hgrow5 hb5 hO hlen hz
        go_wp2_with fail
        go_roundw
        case rel => exact ⟨k + 1, a5, c5, by go_num, by omega, by rw [HX5.out.2.2], by rw [HX5.out.2.2]; exact ⟨HX5.out.1, HX5.out.2.1⟩⟩
        case measure => simp [intOf]; omega
    · obtain rfl : k = q := by omega
      have HT : Hid (T.take k = T) := List.take_of_length_le (by rw [HQ.out.2.1]; exact Nat.le_refl _)
      rw [HT.out] at HX ⊢
      have hle := ownT_le bl T
      have HO : Hid (SsAt wr a1 (ownT bl T) ∧ SsAt wr a ts ∧ ts.length = n ∧ Below w.heap.size w wr) := ⟨own_sss rfl HX.out.1, (HB.out.2.2.1.below HQ.out.2.2.1).below HX.out.2, HB.out.2.2.2, HFw.out _ (HQ.out.2.2.1.trans (HX.out.2.mono HQ.out.2.2.1.size))⟩
      have HE := Lib.hid HQ.out.2.2.2
      have hm9 : (ownT bl T).length ≤ 255 := by have := HQ.out.2.1; omega
      clear HX HQ hle
      generalize ownT bl T = L at HO HE hm9 ⊢
      obtain ⟨m, hm⟩ : ∃ m, L.length = m := ⟨_, rfl⟩
      have Hm := Lib.hid hm
      rw [hm] at hm9
      rw [hm]
      clear hm
      obtain ⟨r0, hr0⟩ : ∃ r0, (ok && decide (m = n)) = r0 := ⟨_, rfl⟩
      have HR0 : Hid ((r0 = true → ok = true ∧ m = n) ∧ (r0 = false → spB D bl s ts = false)) := by
        refine ⟨fun h => by rw [h] at hr0; simpa using hr0, fun h => ?_⟩
        rw [HE.out]
        rw [h] at hr0
        cases ok with
        | false => rfl
        | true =>
          have hmn : ¬ m = n := by simpa using hr0
          have : ¬ L = ts := fun e => hmn (by rw [← Hm.out, e, HO.out.2.2.1])
          simp [this]
      have HG : (ok = true ∧ ((m : Int) == (n : Int)) = true ∧ r0 = true) ∨ (ok = true ∧ ((m : Int) == (n : Int)) = false ∧ r0 = false) ∨ (ok = false ∧ r0 = false) := by
        rw [← hr0]
        cases ok with
        | false => exact Or.inr (Or.inr ⟨rfl, rfl⟩)
        | true =>
          by_cases h : m = n
          · exact Or.inl ⟨rfl, by simp [h], by simp [h]⟩
          · exact Or.inr (Or.inl ⟨rfl, by simp; omega, by simp [h]⟩)
      clear hr0
      go_upto_region 8 with fail
      go_cut [11] from 43 to 51 (fun v wx => v = .bool r0 ∧ wx = wr)
      case first =>
        rcases HG with ⟨rfl, j1, rfl⟩ | ⟨rfl, j1, rfl⟩ | ⟨rfl, rfl⟩
        all_goals
          go_wp2_with fail
          go_meet
          exact ⟨rfl, rfl⟩
      case rest =>
        obtain ⟨rfl, rfl⟩ := hcut
        go_wp2_with fail
        go_loopw [11, 14] (fun v11 v14 wq => ∃ (i : Nat) (r : Bool), v14 = .int .i64 i ∧ v11 = .bool r ∧ i ≤ m ∧ Below wc.heap.size wc wq ∧ Hid ((r = true → ok = true ∧ m = n ∧ ∀ j (h1 : j < L.length) (h2 : j < ts.length), j < i → L[j] = ts[j]) ∧ (r = false → spB D bl s ts = false))) (fun _ v _ => m - (intOf v).toNat)
        case atStart => exact ⟨0, r0, rfl, rfl, Nat.zero_le _, Below.refl _ _, fun h => ⟨(HR0.out.1 h).1, (HR0.out.1 h).2, fun j _ _ h => absurd h (by omega)⟩, HR0.out.2⟩
        case round =>
          obtain ⟨i, r, rfl, rfl, hi, hbw, HI⟩ := hrel
          have HBw := Lib.hid hbw
          clear hbw
          by_cases hil : i < m
          · have i2 : (i : Int) < (m : Int) := by omega
            rcases r with _ | _
            · have HZ := Lib.hid (HI.out.2 rfl)
              go_wp2_with fail
              go_ret
              exact ⟨by rw [HZ.out]; rfl, HO.out.2.2.2.trans (HBw.out.mono HO.out.2.2.2.size)⟩
            · have HY := Lib.hid (HI.out.1 rfl)
              have hiL : i < L.length := by rw [Hm.out]; exact hil
              have hiT : i < ts.length := by rw [HO.out.2.2.1, ← HY.out.2.1]; exact hil
              have i3 : (i : Int) < (n : Int) := by have := HY.out.2.1; omega
              obtain ⟨g1, o1, rfl, _, q1⟩ := (HO.out.1.below HBw.out) (by omega)
              obtain ⟨g2, o2, rfl, _, q2⟩ := (HO.out.2.1.below HBw.out) (by omega)
              have y1 := q1 i hiL
              have y2 := q2 i hiT
              have HK : Hid ((L[i] = ts[i] → ∀ j (h1 : j < L.length) (h2 : j < ts.length), j < i + 1 → L[j] = ts[j]) ∧ (L[i] ≠ ts[i] → spB D bl s ts = false)) := by
                refine ⟨fun h j h1 h2 h3 => ?_, fun h => ?_⟩
                · by_cases e : j = i
                  · subst e; exact h
                  · exact HY.out.2.2 j h1 h2 (by omega)
                · rw [HE.out]
                  have : ¬ L = ts := fun e => h (by subst e; rfl)
                  simp [this]
              have hse := str_eq15 L[i] ts[i]
              clear q1 q2
              generalize L[i] = u at y1 HK hse
              generalize ts[i] = v at y2 HK hse
              rcases hE : (u.toList == v.toList) with _ | _
              · rw [hE] at hse
                have HZ := Lib.hid (HK.out.2 (by simpa using hse.symm))
                clear hse HK hiL hiT
                go_upto_region 12 with fail
                go_quiet (fail)
                go_wp2_with fail
                go_roundw
                case rel => exact ⟨i + 1, false, by go_num, rfl, by omega, below_drewN HBw.out _, fun h => absurd h (by decide), fun _ => HZ.out⟩
                case measure => simp [intOf]; omega
              · rw [hE] at hse
                have HZ := Lib.hid (HK.out.1 (by simpa using hse.symm))
                clear hse HK hiL hiT
                go_upto_region 12 with fail
                go_quiet (fail)
                go_wp2_with fail
                go_roundw
                case rel => exact ⟨i + 1, true, by go_num, rfl, by omega, below_drewN HBw.out _, fun _ => ⟨HY.out.1, HY.out.2.1, HZ.out⟩, fun h => absurd h (by decide)⟩
                case measure => simp [intOf]; omega
          · obtain rfl : i = m := by omega
            have HZ : Hid (spB D bl s ts = r) := by
              show _ = _
              cases r with
              | false => exact HI.out.2 rfl
              | true =>
                obtain ⟨k1, k2, k3⟩ := HI.out.1 rfl
                rw [HE.out, k1]
                have : L = ts := list_same (by rw [Hm.out, HO.out.2.2.1]; exact k2) (fun j h1 h2 => k3 j h1 h2 (by rw [← Hm.out]; exact h1))
                simp [this]
            go_wp2_with fail
            go_ret
            exact ⟨by rw [HZ.out]; rfl, HO.out.2.2.2.trans (HBw.out.mono HO.out.2.2.2.size)⟩
end Go.Proofs.Ytldpmcgkbdejjaa
