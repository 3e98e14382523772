import Derived.Test.YtkdhdlokilgccaaZDRFirst
import Derived.Test.YtkdhdlokilgccaaZDRFirst2
import Derived.Deep.RegionHeld3
import Derived.StillTailTactics
namespace Go.Proofs.Ytkdhdlokilgccaa
open Go.RowKit
set_option linter.unusedVariables false

set_option maxHeartbeats 2000000 in
set_option maxRecDepth 100000 in
theorem rfirst_alt (x : Pc) (s t : Rx) (hk : x.k = 3) (hw : (Rx.bin x s t).wf) (ihs : RFirstOk s) (iht : RFirstOk t) : RFirstOk (.bin x s t) := by
  intro g off n cap w hL hn hmax hcap
  obtain ⟨m, hm⟩ : ∃ m, n - 1 = m := ⟨_, rfl⟩
  have hpos := (Rx.bin x s t).flat_pos
  have hn1 : n = m + 1 := by omega
  obtain ⟨g', off', e, hg, d0, d1, d2, d3, d4⟩ := hL.get m (by omega)
  simp at e
  obtain ⟨rfl, rfl⟩ := e
  have hx0 : (Rx.bin x s t).flat[m]'(by omega) = x := by
    have h1 := (Rx.bin x s t).flat_top
    rw [hn, hm, List.getElem?_eq_getElem (by omega)] at h1
    exact Option.some.inj h1
  rw [hx0] at d0 d1 d2 d3 d4
  have hk0 : Below w.heap.size w (w.alloc (.cells #[.int .u64 0, .int .u64 0, .int .u64 0, .int .u64 0] 28)) := (Below.refl _ _).alloc (Nat.le_refl _) _
  have a0 := (hk0.cell (p := ⟨g, off + m * 5, none⟩) hg).trans d0
  have a1 := (hk0.cell (p := ⟨g, off + m * 5 + 1, none⟩) hg).trans d1
  have a2 := (hk0.cell (p := ⟨g, off + m * 5 + 2, none⟩) hg).trans d2
  have a3 := (hk0.cell (p := ⟨g, off + m * 5 + 3, none⟩) hg).trans d3
  have a4 := (hk0.cell (p := ⟨g, off + m * 5 + 4, none⟩) hg).trans d4
  have hR := (St.new w 28 #[.int .u64 0, .int .u64 0, .int .u64 0, .int .u64 0]).alloc (.cells #[.int .i64 x.k, .int .u64 ((wd x.p 0 : Nat) : Int), .int .u64 ((wd x.p 1 : Nat) : Int), .int .u64 ((wd x.p 2 : Nat) : Int), .int .u64 ((wd x.p 3 : Nat) : Int)] 66)
  have hP : St ((w.alloc (.cells #[.int .u64 0, .int .u64 0, .int .u64 0, .int .u64 0] 28)).alloc (.cells #[.int .i64 x.k, .int .u64 ((wd x.p 0 : Nat) : Int), .int .u64 ((wd x.p 1 : Nat) : Int), .int .u64 ((wd x.p 2 : Nat) : Int), .int .u64 ((wd x.p 3 : Nat) : Int)] 66)) 66 (w.heap.size + 1) #[.int .i64 x.k, .int .u64 ((wd x.p 0 : Nat) : Int), .int .u64 ((wd x.p 1 : Nat) : Int), .int .u64 ((wd x.p 2 : Nat) : Int), .int .u64 ((wd x.p 3 : Nat) : Int)] := by
    have := St.new (w.alloc (.cells #[.int .u64 0, .int .u64 0, .int .u64 0, .int .u64 0] 28)) 66 #[.int .i64 x.k, .int .u64 ((wd x.p 0 : Nat) : Int), .int .u64 ((wd x.p 1 : Nat) : Int), .int .u64 ((wd x.p 2 : Nat) : Int), .int .u64 ((wd x.p 3 : Nat) : Int)]
    simpa using this
  have hB := hk0.alloc (by simp) (.cells #[.int .i64 x.k, .int .u64 ((wd x.p 0 : Nat) : Int), .int .u64 ((wd x.p 1 : Nat) : Int), .int .u64 ((wd x.p 2 : Nat) : Int), .int .u64 ((wd x.p 3 : Nat) : Int)] 66)
  have HC := Lib.hid (rparts_cap (.bin x s t) hw g off n cap _ (hL.below hB) hn hmax hcap)
  have hsz := hB.size
  have HR := Lib.hid hR
  have HP := Lib.hid hP
  have HB := Lib.hid hB
  have en : (n : Int) - 1 = (m : Int) := by omega
  have hmn : m < n := by omega
  have hcc : n ≤ 9223372036854775807 := by have := hcap.1; have := hcap.2; unfold maxLen at this; omega
  have hsl : s.flat.length ≤ 1000000 ∧ t.flat.length ≤ 1000000 := by
    have : (Rx.bin x s t).flat.length = s.flat.length + t.flat.length + 1 := by simp [Rx.flat]; omega
    omega
  have IHS := Lib.hid ihs
  have IHT := Lib.hid iht
  have HHW := Lib.hid hw
  have HKQ := Lib.hid hk
  clear hL hn hcap hR hP hB hx0 hw hn1 hm hpos hk
  go_enter Try.func9, Try.ntmps9
  go_wp2_with fail
  refine HC.out.mono ?_
  rintro e w5 ⟨aL, cL, rfl, hPt, b5⟩
  have hR5 := HR.out.keep b5
  have hP5 := HP.out.keep b5
  have hB5 := HB.out.trans (b5.mono hsz)
  obtain ⟨r0, r1, r2, r3, f0, f1, f2, f3⟩ := row4 hR5
  obtain ⟨p0, p1, p2, p3, p4⟩ := row5 hP5
  obtain ⟨b, g1, o1, c1, rfl, hc1, hR1, _, hbl, hm1, hm1'⟩ := hPt 0 (by show 0 < 2; decide)
  obtain ⟨b', g2, o2, c2, hbb, hc2, hR2, _, _, hm2, hm2'⟩ := hPt 1 (by show 1 < 2; decide)
  simp at hbb
  subst hbb
  obtain ⟨n1, hn1⟩ : ∃ n1, s.flat.length = n1 := ⟨_, rfl⟩
  obtain ⟨n2, hn2⟩ : ∃ n2, t.flat.length = n2 := ⟨_, rfl⟩
  have t1 : w5.cell? ⟨b, 0, none⟩ = some (.slice (some ⟨g1, o1, none⟩) n1 c1) := by rw [← hn1]; exact hc1
  have t2 : w5.cell? ⟨b, 1, none⟩ = some (.slice (some ⟨g2, o2, none⟩) n2 c2) := by rw [← hn2]; exact hc2
  obtain ⟨X, hX⟩ : ∃ X, refF s = X := ⟨_, rfl⟩
  obtain ⟨Y, hY⟩ : ∃ Y, refF t = Y := ⟨_, rfl⟩
  have h1 := IHS.out g1 o1 n1 c1 w5 hR1 hn1 (by omega) ⟨by rw [← hn1]; exact hm1, hm1'⟩
  have h2 := fun (W : World) (bw : Below w5.heap.size w5 W) => IHT.out g2 o2 n2 c2 W (hR2.below bw) hn2 (by omega) ⟨by rw [← hn2]; exact hm2, hm2'⟩
  rw [hX] at h1
  rw [hY] at h2
  have H1 := Lib.hid h1
  have H2 := Lib.hid h2
  have hs5 := hB5.size
  have hlR := hR5.lt
  have hk := HKQ.out
  have hE : refF (.bin x s t) = ⟨X.e || Y.e, fun x => X.s x || Y.s x, X.n + Y.n + 1⟩ := by
    show joinOf _ _ _ = _
    unfold joinOf
    rw [hX, hY, if_neg (by show ¬ x.k = 0; omega), if_neg (by show ¬ x.k = 1; omega), if_pos (by show x.k = 3; omega)]
  have HE := Lib.hid hE
  have k0 : (x.k == 0) = false := by simp; omega
  have k1 : (x.k == 1) = false := by simp; omega
  have k2 : (x.k == 2) = false := by simp; omega
  have k3 : (x.k == 3) = true := by simp [hk]
  clear hE
  rw [show (Rx.bin x s t).kids.length = 2 from rfl]
  clear hPt hc1 hc2 hR1 hR2 hn1 hn2 h1 h2 hm1 hm2 hm1' hm2' hX hY hk
  go_wp2_with fail
  refine H1.out.mono ?_
  rintro e w6 ⟨rfl, b6⟩
  have hbA : Below w5.heap.size w5 (w6.alloc (.cells #[.int .u64 ((wd X.s 0 : Nat) : Int), .int .u64 ((wd X.s 1 : Nat) : Int), .int .u64 ((wd X.s 2 : Nat) : Int), .int .u64 ((wd X.s 3 : Nat) : Int)] 28)) := b6.alloc b6.size _
  have hFA := St.new w6 28 #[.int .u64 ((wd X.s 0 : Nat) : Int), .int .u64 ((wd X.s 1 : Nat) : Int), .int .u64 ((wd X.s 2 : Nat) : Int), .int .u64 ((wd X.s 3 : Nat) : Int)]
  have hcA : (w6.alloc (.cells #[.int .u64 ((wd X.s 0 : Nat) : Int), .int .u64 ((wd X.s 1 : Nat) : Int), .int .u64 ((wd X.s 2 : Nat) : Int), .int .u64 ((wd X.s 3 : Nat) : Int)] 28)).cell? ⟨b, 1, none⟩ = some (.slice (some ⟨g2, o2, none⟩) n2 c2) := (hbA.cell (p := ⟨b, 1, none⟩) hbl).trans t2
  have hlF : w5.heap.size ≤ w6.heap.size := b6.size
  clear t1 t2 r0 r1 r2 r3 f0 f1 f2 f3 p0 p1 p2 p3 p4
  go_wp2_with fail
  generalize w6.alloc (.cells #[.int .u64 ((wd X.s 0 : Nat) : Int), .int .u64 ((wd X.s 1 : Nat) : Int), .int .u64 ((wd X.s 2 : Nat) : Int), .int .u64 ((wd X.s 3 : Nat) : Int)] 28) = w7 at hbA hFA hcA ⊢
  generalize w6.heap.size = bF at hFA hlF ⊢
  clear b6
  refine (H2.out w7 hbA).mono ?_
  rintro e w8 ⟨rfl, b8⟩
  have hFB := (hFA.keep b8).alloc (.cells #[.int .u64 ((wd Y.s 0 : Nat) : Int), .int .u64 ((wd Y.s 1 : Nat) : Int), .int .u64 ((wd Y.s 2 : Nat) : Int), .int .u64 ((wd Y.s 3 : Nat) : Int)] 28)
  have hGB := St.new w8 28 #[.int .u64 ((wd Y.s 0 : Nat) : Int), .int .u64 ((wd Y.s 1 : Nat) : Int), .int .u64 ((wd Y.s 2 : Nat) : Int), .int .u64 ((wd Y.s 3 : Nat) : Int)]
  have hbB := ((hbA.trans (b8.mono hbA.size)).alloc (Nat.le_trans hbA.size b8.size) (.cells #[.int .u64 ((wd Y.s 0 : Nat) : Int), .int .u64 ((wd Y.s 1 : Nat) : Int), .int .u64 ((wd Y.s 2 : Nat) : Int), .int .u64 ((wd Y.s 3 : Nat) : Int)] 28))
  have hne : bF < w8.heap.size := (hFA.keep b8).lt
  obtain ⟨u0, u1, u2, u3, _, _, _, _⟩ := row4 hFB
  obtain ⟨v0, v1, v2, v3, _, _, _, _⟩ := row4 hGB
  have f0 := hFB.thaw 0
  have f1 := hFB.thaw 1
  have f2 := hFB.thaw 2
  have f3 := hFB.thaw 3
  have hRB := hR5.keep hbB
  have hBB := hB5.trans (hbB.mono hs5)
  obtain ⟨r0, r1, r2, r3, q0, q1, q2, q3⟩ := row4 hRB
  go_wp2_with fail
  refine (put0 X.s Y.s _).mono ?_
  rintro e w9 ⟨rfl, b9⟩
  have hR9 := hRB.keep b9
  have hB9 := hBB.trans (b9.mono hBB.size)
  clear r0 r1 r2 r3 q0 q1 q2 q3 u0 u1 u2 u3 v0 v1 v2 v3 f0 f1 f2 f3
  obtain ⟨r0, r1, r2, r3, q0, q1, q2, q3⟩ := row4 hR9
  obtain ⟨s0, s1, s2, s3, _, _, _, _⟩ := row4 (hR9.set4 (.int .u64 ((wd (fun x => X.s x || Y.s x) 0 : Nat) : Int)) (.int .u64 ((wd (fun x => X.s x || Y.s x) 1 : Nat) : Int)) (.int .u64 ((wd (fun x => X.s x || Y.s x) 2 : Nat) : Int)) (.int .u64 ((wd (fun x => X.s x || Y.s x) 3 : Nat) : Int)))
  obtain ⟨Xe, hXe⟩ : ∃ b, X.e = b := ⟨_, rfl⟩
  rw [hXe] at HE ⊢
  rcases Xe with _ | _
  · go_wp2_with fail
    exact bodyPost_ret (v := .tuple #[(.agg #[.int .u64 ((wd ((fun x => X.s x || Y.s x)) 0 : Nat) : Int), .int .u64 ((wd ((fun x => X.s x || Y.s x)) 1 : Nat) : Int), .int .u64 ((wd ((fun x => X.s x || Y.s x)) 2 : Nat) : Int), .int .u64 ((wd ((fun x => X.s x || Y.s x)) 3 : Nat) : Int)]), .bool Y.e]) (by simp [results, Try.results9, go_sem, s0, s1, s2, s3]) rfl ⟨by rw [HE.out]; simp, below4 hB9 (Nat.le_refl _) _ _ _ _⟩
  · go_wp2_with fail
    exact bodyPost_ret (v := .tuple #[(.agg #[.int .u64 ((wd ((fun x => X.s x || Y.s x)) 0 : Nat) : Int), .int .u64 ((wd ((fun x => X.s x || Y.s x)) 1 : Nat) : Int), .int .u64 ((wd ((fun x => X.s x || Y.s x)) 2 : Nat) : Int), .int .u64 ((wd ((fun x => X.s x || Y.s x)) 3 : Nat) : Int)]), .bool true]) (by simp [results, Try.results9, go_sem, s0, s1, s2, s3]) rfl ⟨by rw [HE.out]; simp, below4 hB9 (Nat.le_refl _) _ _ _ _⟩
end Go.Proofs.Ytkdhdlokilgccaa

namespace Go.Proofs.Ytkdhdlokilgccaa
open Go.RowKit

/-- What the reference tells of any expression. -/
theorem rfirst_any (t : Rx) (hw : t.wf) : RFirstOk t := by
  induction t with
  | leaf x => exact rfirst_leaf x hw
  | un x s ih => exact rfirst_un x s hw (ih hw.2.2)
  | bin x s t ihs iht =>
    have hk : x.k = 2 ∨ x.k = 3 := by have := takesZ_cases x.k; have := hw.1; omega
    rcases hk with h | h
    · exact rfirst_cat x s t h hw (ihs hw.2.2.1) (iht hw.2.2.2)
    · exact rfirst_alt x s t h hw (ihs hw.2.2.1) (iht hw.2.2.2)
end Go.Proofs.Ytkdhdlokilgccaa
