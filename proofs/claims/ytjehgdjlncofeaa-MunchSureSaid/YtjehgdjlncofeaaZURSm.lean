import Derived.Test.YtjehgdjlncofeaaZUTok
import Derived.Deep.QuietTactic
import Derived.BigQuiet
namespace Go.Proofs.Ytjehgdjlncofeaa
open Go.RowKit Go.Maps Go.WideElems Go.ChangeMaps Go.MapKept
set_option linter.unusedVariables false
set_option linter.unusedSimpArgs false

theorem str_beq (a b : ByteArray) : (a.toList == b.toList) = true ↔ a = b := by
  rw [beq_iff_eq, ByteArray.toList_eq, ByteArray.toList_eq]
  exact ⟨bytes_ext, fun h => by rw [h]⟩
theorem str_beqF {a b : ByteArray} (h : (a.toList == b.toList) = false) : a ≠ b := fun e => by
  have := (str_beq a b).2 e
  rw [this] at h
  cases h
/-- What of a token counts. -/
def tkK (t : Tok) : Int × ByteArray := (t.r, t.s)
def SmT (A B : List Tok) : Prop := A.map tkK = B.map tkK
theorem SmT.len {A B : List Tok} (h : SmT A B) : A.length = B.length := by
  have := congrArg List.length h
  simpa using this
theorem smT_of {A B : List Tok} (hl : A.length = B.length) (h : ∀ j (ha : j < A.length) (hb : j < B.length), tkK A[j] = tkK B[j]) : SmT A B := by
  apply List.ext_getElem
  · simpa using hl
  · intro j ha hb
    simp only [List.getElem_map]
    exact h j (by simpa using ha) (by simpa using hb)
theorem SmT.at_ {A B : List Tok} (h : SmT A B) (j : Nat) (ha : j < A.length) (hb : j < B.length) : tkK A[j] = tkK B[j] := by
  have h1 : (A.map tkK)[j]? = (B.map tkK)[j]? := by rw [show A.map tkK = B.map tkK from h]
  simpa [ha, hb] using h1

set_option maxHeartbeats 1000000 in
set_option maxRecDepth 100000 in
theorem same1_any (x y : Tok) (w : World) :
    Calls Try.prog 28 #[.agg #[.int .i64 x.r, .string x.s, .int .i64 x.p], .agg #[.int .i64 y.r, .string y.s, .int .i64 y.p]] w (TruPost (tkK x = tkK y) w) := by
  have k1 := al w (.cells #[.int .i64 x.r, .string x.s, .int .i64 x.p] 36)
  have k2 := al (w.alloc (.cells #[.int .i64 x.r, .string x.s, .int .i64 x.p] 36)) (.cells #[.int .i64 y.r, .string y.s, .int .i64 y.p] 36)
  have HB := Lib.hid (k1.trans (k2.mono k1.size))
  clear k1 k2
  obtain ⟨r, s, p⟩ := x
  obtain ⟨r', s', p'⟩ := y
  dsimp only at HB ⊢
  go_enter Try.func28, Try.ntmps28
  by_cases hr : r = r'
  · have i0 : ((r : Int) == r') = true := by rw [beq_iff_eq]; exact hr
    rcases hE : (s.toList == s'.toList) with _ | _
    · have HZ : Hid (¬ (tkK ⟨r, s, p⟩ = tkK ⟨r', s', p'⟩)) := fun h => str_beqF hE (congrArg Prod.snd h)
      clear hr
      go_wp2_with fail
      go_ret
      exact ⟨false, rfl, ⟨(fun h => by cases h), fun h => absurd h HZ.out⟩, HB.out⟩
    · have HZ : Hid (tkK ⟨r, s, p⟩ = tkK ⟨r', s', p'⟩) := by show _ = _; unfold tkK; rw [hr, (str_beq s s').1 hE]
      clear hr
      go_wp2_with fail
      go_ret
      exact ⟨true, rfl, ⟨fun _ => HZ.out, fun _ => rfl⟩, HB.out⟩
  · have i0 : ((r : Int) == r') = false := by rw [beq_eq_false_iff_ne]; exact hr
    have HZ : Hid (¬ (tkK ⟨r, s, p⟩ = tkK ⟨r', s', p'⟩)) := fun h => hr (congrArg Prod.fst h)
    clear hr
    go_wp2_with fail
    go_ret
    exact ⟨false, rfl, ⟨(fun h => by cases h), fun h => absurd h HZ.out⟩, HB.out⟩

set_option maxRecDepth 100000 in
theorem call_same1 : ∀ (args : Array Value) (W : World), (callFunc 28 args).run Try.prog W = .ok (.enter 28 args) W := fun _ _ => by rfl
set_option maxHeartbeats 2000000 in
set_option maxRecDepth 100000 in
theorem tokEqualFunc_any (n n2 c1 c2 : Nat) (a1 a2 : Option Addr) (A B : List Tok) (hA : A.length = n) (hB : B.length = n2) (hn : n ≤ 9223372036854775807) (hn2 : n2 ≤ 9223372036854775807) (w : World) (h1 : TkAt w a1 A) (h2 : TkAt w a2 B) :
    Calls Try.prog 27 #[.slice a1 n c1, .slice a2 n2 c2, .func (.func 28) #[] #[]] w (TruPost (SmT A B) w) := by
  have H := Lib.hid (And.intro h1 (And.intro h2 (And.intro hA hB)))
  have hcf := call_same1
  clear h1 h2 hA hB
  go_enter Try.func27, Try.ntmps27
  by_cases hnn : n = n2
  · subst hnn
    have i0 : ((n : Int) != (n : Int)) = false := by simp
    go_wp2_with fail
    go_loopw [7, 8, 9, 17] (fun _ _ _ v wr => ∃ k : Nat, v = .int .i64 k ∧ k ≤ n ∧ Hid (Below w.heap.size w wr ∧ ∀ j (ha : j < A.length) (hb : j < B.length), j < k → tkK A[j] = tkK B[j])) (fun _ _ _ v _ => n - (intOf v).toNat)
    case atStart => exact ⟨0, rfl, Nat.zero_le _, Below.refl _ _, fun x _ _ hx => by omega⟩
    case round =>
      obtain ⟨k, rfl, hk, HL⟩ := hrel
      by_cases hlt : k < n
      · have hkA : k < A.length := by rw [H.out.2.2.1]; exact hlt
        have hkB : k < B.length := by rw [H.out.2.2.2]; exact hlt
        obtain ⟨g1, o1, rfl, _, x0, x1, x2⟩ := (H.out.1.below HL.out.1).get k hkA
        obtain ⟨g2, o2, rfl, hg2, y0, y1, y2⟩ := (H.out.2.1.below HL.out.1).get k hkB
        have HS : Hid (tkK A[k] = tkK B[k] → ∀ j (ha : j < A.length) (hb : j < B.length), j < k + 1 → tkK A[j] = tkK B[j]) := fun h j ha hb hj => by
          by_cases e2 : j = k
          · subst e2; exact h
          · exact HL.out.2 j ha hb (by omega)
        have HN : Hid (tkK A[k] ≠ tkK B[k] → ¬ SmT A B) := fun h h2 => h (h2.at_ k hkA hkB)
        have HB := Lib.hid HL.out.1
        have i1 : (k : Int) < (n : Int) := by omega
        generalize A[k] = x at x0 x1 x2 HS HN
        generalize B[k] = y at y0 y1 y2 HS HN
        have z0 := (al wr (.cells #[.int .i64 x.r, .string x.s, .int .i64 x.p] 36)).cell (p := ⟨g2, o2 + k * 3, none⟩) hg2
        have z1 := (al wr (.cells #[.int .i64 x.r, .string x.s, .int .i64 x.p] 36)).cell (p := ⟨g2, o2 + k * 3 + 1, none⟩) hg2
        have z2 := (al wr (.cells #[.int .i64 x.r, .string x.s, .int .i64 x.p] 36)).cell (p := ⟨g2, o2 + k * 3 + 2, none⟩) hg2
        have k1 := al wr (.cells #[.int .i64 x.r, .string x.s, .int .i64 x.p] 36)
        have k2 := al (wr.alloc (.cells #[.int .i64 x.r, .string x.s, .int .i64 x.p] 36)) (.cells #[.int .i64 y.r, .string y.s, .int .i64 y.p] 36)
        have HBa := Lib.hid (HB.out.trans ((k1.trans (k2.mono k1.size)).mono HB.out.size))
        clear hkA hkB k1 k2
        go_wp2_with fail
        refine (same1_any x y _).mono ?_
        rintro e w5 ⟨b, rfl, hb, b5⟩
        have Hb := Lib.hid hb
        have HB5 := Lib.hid (HBa.out.trans (b5.mono HBa.out.size))
        clear hb b5 x0 x1 x2 y0 y1 y2 z0 z1 z2
        rcases b with _ | _
        · have HZ : Hid (¬ SmT A B) := HN.out (fun h => by have := Hb.out.2 h; cases this)
          go_wp2_with fail
          go_ret
          exact ⟨false, rfl, ⟨(fun h => by cases h), (fun h => absurd h HZ.out)⟩, HB5.out⟩
        · have HZ := Lib.hid (HS.out (Hb.out.1 rfl))
          go_wp2_with fail
          go_roundw
          case rel => exact ⟨k + 1, by go_num, by omega, HB5.out, HZ.out⟩
          case measure => simp [intOf]; omega
      · obtain rfl : k = n := by omega
        have HZ : Hid (SmT A B) := smT_of (by rw [H.out.2.2.1, H.out.2.2.2]) (fun j ha hb => HL.out.2 j ha hb (by have := H.out.2.2.1; omega))
        go_wp2_with fail
        go_ret
        exact ⟨true, rfl, ⟨(fun _ => HZ.out), (fun _ => rfl)⟩, HL.out.1⟩
  · have i1 : ((n : Int) != (n2 : Int)) = true := by simp; omega
    have HZ : Hid (¬ SmT A B) := fun h => hnn (by rw [← H.out.2.2.1, ← H.out.2.2.2]; exact h.len)
    go_wp2_with fail
    go_ret
    exact ⟨false, rfl, ⟨(fun h => by cases h), (fun h => absurd h HZ.out)⟩, Below.refl _ _⟩

set_option maxHeartbeats 1000000 in
set_option maxRecDepth 100000 in
theorem msame_any (n n2 c1 c2 : Nat) (a1 a2 : Option Addr) (A B : List Tok) (hA : A.length = n) (hB : B.length = n2) (hn : n ≤ 9223372036854775807) (hn2 : n2 ≤ 9223372036854775807) (w : World) (h1 : TkAt w a1 A) (h2 : TkAt w a2 B) :
    Calls Try.prog 13 #[.slice a1 n c1, .slice a2 n2 c2] w (TruPost (SmT A B) w) := by
  have HE := Lib.hid (tokEqualFunc_any n n2 c1 c2 a1 a2 A B hA hB hn hn2 w h1 h2)
  clear hA hB h1 h2 hn hn2
  go_enter Try.func13, Try.ntmps13
  go_wp2_with fail
  refine HE.out.mono ?_
  rintro e w2 ⟨b, rfl, hb, b2⟩
  have HF := Lib.hid (And.intro hb b2)
  clear hb b2 HE
  go_wp2_with fail
  go_ret
  exact ⟨b, rfl, HF.out.1, HF.out.2⟩
end Go.Proofs.Ytjehgdjlncofeaa

namespace Go.Proofs.Ytjehgdjlncofeaa
open Go.RowKit Go.Maps Go.WideElems Go.ChangeMaps Go.MapKept
set_option linter.unusedVariables false
set_option linter.unusedSimpArgs false

set_option maxHeartbeats 2000000 in
set_option maxRecDepth 100000 in
theorem rsame12_any (n n2 c1 c2 : Nat) (a1 a2 : Option Addr) (A B : List Tok) (hA : A.length = n) (hB : B.length = n2) (hn : n ≤ 1000000) (hn2 : n2 ≤ 1000000) (w : World) (h1 : TkAt w a1 A) (h2 : TkAt w a2 B) :
    Calls Try.prog 19 #[.slice a1 n c1, .slice a2 n2 c2] w (TruPost (SmT A B) w) := by
  have H := Lib.hid (And.intro h1 (And.intro h2 (And.intro hA hB)))
  clear h1 h2 hA hB
  go_enter Try.func19, Try.ntmps19
  by_cases hnn : n = n2
  · subst hnn
    have i0 : ((n : Int) != (n : Int)) = false := by simp
    go_wp2_with fail
    go_loopw [5] (fun v wr => ∃ k : Nat, v = .int .i64 k ∧ k ≤ n ∧ Hid (Below w.heap.size w wr ∧ ∀ j (ha : j < A.length) (hb : j < B.length), j < k → tkK A[j] = tkK B[j])) (fun v _ => n - (intOf v).toNat)
    case atStart => exact ⟨0, rfl, Nat.zero_le _, Below.refl _ _, fun x _ _ hx => by omega⟩
    case round =>
      obtain ⟨k, rfl, hk, HL⟩ := hrel
      by_cases hlt : k < n
      · have hkA : k < A.length := by rw [H.out.2.2.1]; exact hlt
        have hkB : k < B.length := by rw [H.out.2.2.2]; exact hlt
        obtain ⟨g1, o1, rfl, _, x0, x1, x2⟩ := (H.out.1.below HL.out.1).get k hkA
        obtain ⟨g2, o2, rfl, hg2, y0, y1, y2⟩ := (H.out.2.1.below HL.out.1).get k hkB
        have HS : Hid (tkK A[k] = tkK B[k] → ∀ j (ha : j < A.length) (hb : j < B.length), j < k + 1 → tkK A[j] = tkK B[j]) := fun h j ha hb hj => by
          by_cases e2 : j = k
          · subst e2; exact h
          · exact HL.out.2 j ha hb (by omega)
        have HN : Hid (tkK A[k] ≠ tkK B[k] → ¬ SmT A B) := fun h h2 => h (h2.at_ k hkA hkB)
        have HB := Lib.hid HL.out.1.drew
        have i1 : (k : Int) < (n : Int) := by omega
        generalize A[k] = x at x0 x1 x2 HS HN
        generalize B[k] = y at y0 y1 y2 HS HN
        obtain ⟨r, s, p⟩ := x
        obtain ⟨r', s', p'⟩ := y
        dsimp only at x0 x1 x2 y0 y1 y2
        clear hkA hkB hg2 x2 y2
        by_cases hr : r = r'
        · have e0 : ((r : Int) != r') = false := by rw [bne_eq_false_iff_eq]; exact hr
          have e0' : ((r : Int) == r') = true := by rw [beq_iff_eq]; exact hr
          rcases hE : (s.toList == s'.toList) with _ | _
          · have HZ : Hid (¬ SmT A B) := HN.out (fun h => str_beqF hE (congrArg Prod.snd h))
            clear hr
            go_upto_region 6 with fail
            go_region
            go_wp2_with fail
            go_ret
            exact ⟨false, rfl, ⟨(fun h => by cases h), (fun h => absurd h HZ.out)⟩, HB.out⟩
          · have HZ : Hid (∀ j (ha : j < A.length) (hb : j < B.length), j < k + 1 → tkK A[j] = tkK B[j]) := HS.out (by unfold tkK; rw [hr, (str_beq s s').1 hE])
            clear hr
            go_upto_region 6 with fail
            go_region
            go_wp2_with fail
            go_roundw
            case rel => exact ⟨k + 1, by go_num, by omega, HB.out, HZ.out⟩
            case measure => simp [intOf]; omega
        · have e0 : ((r : Int) != r') = true := by rw [bne_iff_ne]; exact hr
          have e0' : ((r : Int) == r') = false := by rw [beq_eq_false_iff_ne]; exact hr
          have HZ : Hid (¬ SmT A B) := HN.out (fun h => hr (congrArg Prod.fst h))
          clear hr
          go_upto_region 6 with fail
          go_region
          go_wp2_with fail
          go_ret
          exact ⟨false, rfl, ⟨(fun h => by cases h), (fun h => absurd h HZ.out)⟩, HB.out⟩
      · obtain rfl : k = n := by omega
        have HZ : Hid (SmT A B) := smT_of (by rw [H.out.2.2.1, H.out.2.2.2]) (fun j ha hb => HL.out.2 j ha hb (by have := H.out.2.2.1; omega))
        go_wp2_with fail
        go_ret
        exact ⟨true, rfl, ⟨(fun _ => HZ.out), (fun _ => rfl)⟩, HL.out.1⟩
  · have i1 : ((n : Int) != (n2 : Int)) = true := by simp; omega
    have HZ : Hid (¬ SmT A B) := fun h => hnn (by rw [← H.out.2.2.1, ← H.out.2.2.2]; exact h.len)
    go_wp2_with fail
    go_ret
    exact ⟨false, rfl, ⟨(fun h => by cases h), (fun h => absurd h HZ.out)⟩, Below.refl _ _⟩
end Go.Proofs.Ytjehgdjlncofeaa
