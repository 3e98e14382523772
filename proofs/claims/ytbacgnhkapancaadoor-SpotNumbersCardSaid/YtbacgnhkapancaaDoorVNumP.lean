import Derived.Test.YtbacgnhkapancaaDoorVDig
namespace Go.Proofs.YtbacgnhkapancaaDoor
open Go.RowKit Go.Maps Go.WideElems Go.ChangeMaps Go.MapKept
set_option linter.unusedVariables false
set_option linter.unusedSimpArgs false

/-- The library's variables: the table of powers of ten, and its two errors. -/
structure LibAt (w : World) : Prop where
  pow : PowAt w
  syn : ∃ tp p, w.var? Tryd.prog "strconv.ErrSyntax" = some #[.iface tp p]
  rng : ∃ tp p, w.var? Tryd.prog "strconv.ErrRange" = some #[.iface tp p]
theorem gSyn : Tryd.prog.globalNamed "strconv.ErrSyntax" = some 0 := by kernel_rfl
theorem gRng : Tryd.prog.globalNamed "strconv.ErrRange" = some 1 := by kernel_rfl
theorem LibAt.keep {w w' : World} (h : LibAt w) (k : Below w.heap.size w w') : LibAt w' :=
  ⟨h.pow.keep k, (by obtain ⟨tp, p, e⟩ := h.syn; exact ⟨tp, p, Joins.var_stays gSyn e k (Nat.le_refl _)⟩), (by obtain ⟨tp, p, e⟩ := h.rng; exact ⟨tp, p, Joins.var_stays gRng e k (Nat.le_refl _)⟩)⟩
theorem toL (s : ByteArray) : s.toList = s.data.toList := ByteArray.toList_eq s
theorem strB_toL (l : List UInt8) : (strB l).toList = l := by rw [toL, strB_list]

/-- How Atoi ends. -/
def AtoiPost (s : ByteArray) (w : World) (e : Ending) (w' : World) : Prop :=
  ∃ (v : Int) (x : Value), e = .returned (.tuple #[.int .i64 v, x]) ∧ ((x = .nilIface ∧ Lib.atoiAll s.data.toList = .ok v) ∨ ((∃ (t : TypeId) (p : Value), x = .iface t p) ∧ ∀ v, Lib.atoiAll s.data.toList ≠ .ok v)) ∧ Below w.heap.size w w'
theorem atoi13_any (s : ByteArray) (hs : s.size ≤ 1000000) (w : World) (hL : LibAt w) : Calls Tryd.prog 22 #[.string s] w (AtoiPost s w) := by
  rcases h : Lib.atoiAll s.data.toList with v | _ | _
  · refine (Tryd.strconv_Atoi_ok s (by omega) v h w).mono ?_
    rintro e w' ⟨rfl, hw⟩
    refine ⟨v, _, rfl, Or.inl ⟨rfl, h⟩, ?_⟩
    rcases hw with rfl | ⟨t, rfl⟩
    · exact Below.refl _ _
    · exact Lib.bytesWorld_below ..
  · obtain ⟨tp, p, hv⟩ := hL.syn
    refine (Any.strconv_Atoi_syntax_var Tryd.laysC172 s (by omega) h tp p w hv).mono ?_
    rintro e w' ⟨N, rfl, _, _, hb⟩
    exact ⟨_, _, rfl, Or.inr ⟨⟨_, _, rfl⟩, fun v e => (by rw [h] at e; cases e)⟩, hb⟩
  · obtain ⟨tp, p, hv⟩ := hL.rng
    refine (Tryd.strconv_Atoi_range_var s (by omega) h tp p w hv).mono ?_
    rintro e w' ⟨N, rfl, _, _, hb⟩
    exact ⟨_, _, rfl, Or.inr ⟨⟨_, _, rfl⟩, fun v e => (by rw [h] at e; cases e)⟩, hb⟩

set_option maxHeartbeats 1000000 in
set_option maxRecDepth 100000 in
theorem number13_any (s : ByteArray) (hs : s.size ≤ 1000000) (w : World) (hL : LibAt w) :
    Calls Tryd.prog 15 #[.string s] w fun e w' => e = .returned (.tuple #[.int .i64 (nuF s.data.toList).1, .bool (nuF s.data.toList).2]) ∧ Below w.heap.size w w' := by
  have HA := Lib.hid (atoi13_any s hs w hL)
  have HL := Lib.hid hL
  clear hL
  go_enter Tryd.func15, Tryd.ntmps15
  go_wp2_with (go_at_call 22; refine HA.out.mono ?_; rintro e w1 ⟨v, x, rfl, hP, kb⟩; refine Hid.out ?_)
  refine Lib.hid ?_
  have HK := Lib.hid kb
  clear kb HA
  rcases hP with ⟨rfl, hv⟩ | ⟨⟨t, p, rfl⟩, hno⟩
  · have HV := Lib.hid hv
    have hb := atoi_bounds hv
    have HD := Lib.hid (Dg.any v hb.1 hb.2 w1 (HL.out.keep HK.out).pow w1 (Below.refl _ _))
    clear hv
    by_cases e : Lib.itoa v = s.data.toList
    · have HN := Lib.hid (nu_ok HV.out e)
      have e2 : strB (Lib.itoa v) = s := by rw [e, strB_of]
      rw [e2] at HD
      clear e e2
      have e1 : (s.toList == s.toList) = true := by simp
      have e3 : (s.toList != s.toList) = false := by simp
      go_wp2_with (go_at_call 17; refine HD.out.mono ?_; rintro e w2 ⟨rfl, kb⟩; refine Hid.out ?_)
      refine Lib.hid ?_
      have HF := Lib.hid (HK.out.trans (kb.mono HK.out.size))
      clear kb
      go_wp2_with fail
      go_ret2
      exact ⟨by rw [HN.out]; rfl, HF.out⟩
    · have HN := Lib.hid (nu_no (l := s.data.toList) (fun u hu => by rw [HV.out] at hu; injection hu with hu; rw [← hu]; exact e))
      have e1 : ((strB (Lib.itoa v)).toList == s.toList) = false := by rw [strB_toL, toL]; simpa using e
      have e3 : ((strB (Lib.itoa v)).toList != s.toList) = true := by rw [strB_toL, toL]; simpa using e
      generalize strB (Lib.itoa v) = u at HD e1 e3
      clear e
      go_wp2_with (go_at_call 17; refine HD.out.mono ?_; rintro e w2 ⟨rfl, kb⟩; refine Hid.out ?_)
      refine Lib.hid ?_
      have HF := Lib.hid (HK.out.trans (kb.mono HK.out.size))
      clear kb
      go_wp2_with fail
      go_ret2
      exact ⟨by rw [HN.out]; rfl, HF.out⟩
  · have HN := Lib.hid (nu_no (l := s.data.toList) (fun u hu => absurd hu (hno u)))
    clear hno
    go_wp2_with fail
    go_ret2
    exact ⟨by rw [HN.out]; rfl, HK.out⟩
end Go.Proofs.YtbacgnhkapancaaDoor
