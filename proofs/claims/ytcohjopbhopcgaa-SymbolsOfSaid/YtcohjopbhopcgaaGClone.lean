import Derived.Test.YtcohjopbhopcgaaGTab
namespace Go.Proofs.Ytcohjopbhopcgaa
open Go.RowKit Go.Maps Go.WideElems Go.ChangeMaps Go.MapKept
set_option linter.unusedVariables false
set_option linter.unusedSimpArgs false

theorem run_nilS (a : Option Addr) (n c : Nat) (W : World) : (binOp .eql 22 (.slice a n c) (.slice none 0 0)).run Try.prog W = .ok (.bool a.isNone) W := by
  have h := run_equal_slice_nil W 22 9 a n c Try.underlying22
  unfold binOp
  simp only [Sem.run_bind, h, Result.andThen_ok, Sem.run_pure]
/-- Texts of the call's own. -/
def OwnSP (l : List ByteArray) (w : World) (e : Ending) (w' : World) : Prop := ∃ (a : Option Addr) (c : Nat), e = .returned (.slice a l.length c) ∧ w'.ownsRow w.heap.size 9 1 (.slice a l.length c) l.length (sss l) ∧ Below w.heap.size w w'
set_option maxHeartbeats 1000000 in
set_option maxRecDepth 100000 in
theorem clones16_any (l : List ByteArray) (q c : Nat) (a : Option Addr) (hn : l.length = q) (hq : q ≤ 1000000) (w : World) (hz : SsAt w a l) (ha : a = none → q = 0 ∧ c = 0) (hs : ∀ ad, a = some ad → ad.spot = none) :
    Calls Try.prog 21 #[.slice a q c] w (OwnSP l w) := by
  have HZ := Lib.hid (And.intro hz hn)
  obtain ⟨iI, hI, hI0, hI1, hI2⟩ := info_parts Try.info_str15
  clear hz
  go_enter Try.func21, Try.ntmps21
  rcases a with _ | ⟨g, o, sp⟩
  · obtain ⟨rfl, rfl⟩ := ha rfl
    have he : (binOp .eql 22 (.slice none 0 0) (.slice none 0 0)).run Try.prog w = .ok (.bool true) w := run_nilS none 0 0 w
    have hl0 : l = [] := List.eq_nil_of_length_eq_zero hn
    subst hl0
    have HF : Hid (OwnSP [] w (.returned (.slice none 0 0)) w) := ⟨none, 0, rfl, World.ownsRow_nil _ _ _ _, Below.refl _ _⟩
    go_wp2_with fail
    go_ret
    exact HF.out
  · obtain rfl : sp = none := hs _ rfl
    have he : (binOp .eql 22 (.slice (some ⟨g, o, none⟩) q c) (.slice none 0 0)).run Try.prog w = .ok (.bool false) w := run_nilS _ q c w
    have hw := al w (.cells #[] 9)
    have HN : ∀ j u, (sss l)[j]? = some u → (w.alloc (.cells #[] 9)).cell? ((⟨g, o, none⟩ : Addr).add j) = some u := by
      rcases Nat.eq_zero_or_pos q with h0 | h0
      · have hl0 : l = [] := List.eq_nil_of_length_eq_zero (by omega)
        subst hl0
        intro j u hj
        simp [sss] at hj
      · obtain ⟨g', o', e, hg', hc⟩ := (HZ.out.1.below hw) (by omega)
        injection e with e
        injection e with e1 e2
        subst e1 e2
        exact ss_news hc
    have HF : Hid (∀ a5 c5 w5, w5.ownsRow w.heap.size 9 1 (.slice a5 q c5) q (sss l) → Below w.heap.size w w5 → OwnSP l w (.returned (.slice a5 q c5)) w5) := fun a5 c5 w5 h5 k5 => ⟨a5, c5, by rw [hn], by rw [hn]; exact h5, k5⟩
    have HEm := Lib.hid (And.intro (own_emptyS w) (And.intro hw (And.intro HN (And.intro (sss_one l) (by rw [sss_length, hn, Nat.mul_one] : (sss l).length = q * 1)))))
    clear HN hw
    go_wp2_with (at_builtin; refine wpList_append_own _ rfl _ _ 22 rfl w.heap.size 9 iI (.string ⟨#[]⟩) 1 16 Try.underlying22 hI hI0 hI1 hI2 rfl (by decide) _ _ _ rfl HEm.out.1 ⟨g, o, none⟩ q c (sss l) rfl HEm.out.2.2.2.2 HEm.out.2.2.1 HEm.out.2.2.2.1 ?_ ?_ ?_ ?_)
    · unfold maxLen; omega
    · omega
    · simp
    intro v5 w5 hown5 hgrow5 _
    obtain ⟨a5, c5, rfl⟩ := ownsRow_slice hown5
    have hb5 : Below w.heap.size w w5 := HEm.out.2.1.grown hgrow5 (by simp) (fun g e => (HEm.out.1.lt g e).1)
    try simp only [Nat.zero_add, List.nil_append] at hown5
    try simp only [Nat.zero_add]
    have HR := Lib.hid (HF.out a5 c5 w5 hown5 hb5)
    clear hown5 hgrow5 hb5 HF HEm HZ
    go_wp2_with fail
    go_ret
    exact HR.out

set_option maxHeartbeats 1000000 in
set_option maxRecDepth 100000 in
theorem names16_any {w : World} {B p : Nat} {v : Value} {l : List ByteArray} (h : TbM w B p v l) (hl : l.length ≤ 1000000) :
    Calls Try.prog 14 #[.pointer (some ⟨p, 0, none⟩)] w (OwnSP l w) := by
  obtain ⟨a, c, rfl, hs, h2, h3⟩ := h.list
  have HI := Lib.hid (clones16_any l l.length c a rfl hl w hs h2 h3)
  have h0 := h.cell
  have h1 := h.frz
  clear h hs h2 h3
  go_enter Try.func14, Try.ntmps14
  go_wp2_with fail
  refine HI.out.mono ?_
  rintro e w1 ⟨a1, c1, rfl, h4, h5⟩
  have HZ := Lib.hid (And.intro h4 h5)
  clear h4 h5
  go_wp2_with fail
  go_ret
  exact ⟨a1, c1, rfl, HZ.out.1, HZ.out.2⟩
end Go.Proofs.Ytcohjopbhopcgaa
