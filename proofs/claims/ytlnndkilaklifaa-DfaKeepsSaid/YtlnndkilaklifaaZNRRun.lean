import Derived.Test.YtlnndkilaklifaaZNRef
import Derived.Deep.RegionWith
namespace Go.Proofs.Ytlnndkilaklifaa
open Go.RowKit
set_option linter.unusedVariables false

/-- In a round of Close's: has it found one? -/
def Found (L : List En) (A : Nat → Prop) (N k : Nat) (f : Nat → Bool) (i : Nat) (ch : Bool) : Prop :=
  (ch = false ∧ Gat L A N k f ∧ ∀ j (h : j < L.length), j < i → Still f L[j]) ∨ (ch = true ∧ Gat L A N (k + 1) f)
theorem Found.skip {L : List En} {A : Nat → Prop} {N k : Nat} {f : Nat → Bool} {i : Nat} {ch : Bool} (h : Found L A N k f i ch) (hi : i < L.length) (hs : Still f L[i]) : Found L A N k f (i + 1) ch := by
  rcases h with ⟨h1, h2, h3⟩ | h
  · refine Or.inl ⟨h1, h2, fun j hj hji => ?_⟩
    by_cases e : j = i
    · subst e; exact hs
    · exact h3 j hj (by omega)
  · exact Or.inr h
theorem Found.add {L : List En} {A : Nat → Prop} {N k : Nat} {f : Nat → Bool} {i : Nat} {ch : Bool} (h : Found L A N k f i ch) {e : En} (he : e ∈ L) (hb : e.b = true) (hf : f e.f = true) (ht : f e.t = false) (hN : e.t < N) : Found L A N k (ins f e.t) (i + 1) true := by
  rcases h with ⟨h1, h2, h3⟩ | ⟨_, h⟩
  · exact Or.inr ⟨rfl, h2.add he hb hf ht hN⟩
  · exact Or.inr ⟨rfl, (h.add he hb hf ht hN).mono (by omega)⟩

set_option maxHeartbeats 4000000 in
set_option maxRecDepth 100000 in
theorem rclose_any (L : List En) (N F T : Nat) (hO : Ok L N F T) (hN : N ≤ 1000000) (a : Option Addr) (n c : Nat) (w : World) (hL : EdAt w a (L.map En.z)) (hn : L.length = n) (hmax : n ≤ 1000000) (ai : Option Addr) (m ci : Nat) (g : Nat → Bool) (hi : BAt w ai m g) (hm : m ≤ 1000000) :
    Calls Try.prog 36 #[.agg #[.int .i64 ((N : Nat) : Int), .slice a n c, .int .i64 ((F : Nat) : Int), .int .i64 ((T : Nat) : Int)], .slice ai m ci] w (SetPost w N (FR L (fun x => x < N ∧ On g m x))) := by
  have HL := Lib.hid (And.intro hL (And.intro hn (And.intro hO hi)))
  have hmk := make_bl N (by omega)
  have HR := Lib.hid (RfAt.start w #[.int .i64 ((N : Nat) : Int), .slice a n c, .int .i64 ((F : Nat) : Int), .int .i64 ((T : Nat) : Int)] N (by unfold maxLen; omega))
  have hNp : 0 < N := by have := hO.f; omega
  clear hL hn hO hi
  go_enter Try.func36, Try.ntmps36
  go_wp2_with fail
  generalize (w.alloc (.cells #[.int .i64 ((N : Nat) : Int), .slice a n c, .int .i64 ((F : Nat) : Int), .int .i64 ((T : Nat) : Int)] 24)).alloc (.cells (madeCells #[.bool false] N) 4) = W0 at HR ⊢
  go_loopw [6] (fun i wr => ∃ (k : Nat) (f : Nat → Bool), i = .int .i64 k ∧ k ≤ N ∧ k ≤ m ∧ Hid (RfAt w #[.int .i64 ((N : Nat) : Int), .slice a n c, .int .i64 ((F : Nat) : Int), .int .i64 ((T : Nat) : Int)] N f wr) ∧ Hid (∀ x, f x = true ↔ x < k ∧ g x = true)) (fun i _ => N - (intOf i).toNat)
  case atStart => exact ⟨0, _, rfl, Nat.zero_le _, Nat.zero_le _, HR, fun x => by simp⟩
  case round =>
    obtain ⟨k, f, rfl, hk, hkm, HA, HF⟩ := hrel
    obtain ⟨r0, r1, r2, r3⟩ := HA.out.s0.cells4
    have hsz := HA.out.size hNp
    by_cases hlt : k < N ∧ k < m
    · obtain ⟨gi, oi, rfl, hgi, qi⟩ := HL.out.2.2.2.below HA.out.below (by omega)
      have d := qi k hlt.2
      have i1 : (k : Int) < (N : Int) := by omega
      have i2 : (k : Int) < (m : Int) := by omega
      obtain ⟨y0, y1⟩ := HA.out.cell k hlt.1
      have HA2 := Lib.hid (HA.out.put k hlt.1 (g k))
      have HZ : Hid (∀ x, (if x = k then g k else f x) = true ↔ x < k + 1 ∧ g x = true) := fun x => by
        by_cases e : x = k
        · subst e; simp
        · rw [if_neg e, HF.out]
          exact ⟨fun h => ⟨by omega, h.2⟩, fun h => ⟨by omega, h.2⟩⟩
      generalize g k = v at d HA2 HZ
      have hk1 : k + 1 ≤ N ∧ k + 1 ≤ m := by omega
      obtain ⟨hk1, hk2⟩ := hk1
      clear qi hlt
      go_wp2_with fail
      go_roundw
      case rel => exact ⟨k + 1, _, by go_num, hk1, hk2, HA2, HZ⟩
      case measure => simp [intOf]; omega
    · have HG : Hid (Gat L (fun x => x < N ∧ On g m x) N 0 f) :=
        ⟨fun x hx => (HF.out x).2 ⟨by have := hx.1; have := hx.2.1; omega, hx.2.2⟩, fun x hx => .base (by have := (HF.out x).1 hx; exact ⟨by omega, by omega, this.2⟩), Nat.zero_le _⟩
      have H1 := HA
      clear HF HA r0 r1 r2 r3 hsz
      have hways : (¬ ((k : Int) < (N : Int))) ∨ (k < N ∧ ¬ ((k : Int) < (m : Int))) := by omega
      obtain ⟨r0, r1, r2, r3⟩ := H1.out.s0.cells4
      have hsz := H1.out.size hNp
      rcases hways with hq | ⟨hq0, hq⟩
      all_goals
        go_wp2_with fail
        clear r0 r1 r2 r3 hsz hq
        go_loopw [7, 8, 9, 10] (fun v _ _ _ wq => ∃ (k : Nat) (f : Nat → Bool), v = .int .i64 k ∧ k ≤ N ∧ Hid (RfAt w #[.int .i64 ((N : Nat) : Int), .slice a n c, .int .i64 ((F : Nat) : Int), .int .i64 ((T : Nat) : Int)] N f wq) ∧ Hid (Gat L (fun x => x < N ∧ On g m x) N k f)) (fun v _ _ _ _ => N - (intOf v).toNat)
        case atStart => exact ⟨0, f, rfl, Nat.zero_le _, H1, HG⟩
        case round =>
          obtain ⟨k2, f2, rfl, hk2, HA, HG2⟩ := hrel
          obtain ⟨wo, rfl⟩ : ∃ wo : World, wo = wr := ⟨_, rfl⟩
          obtain ⟨r0, r1, r2, r3⟩ := HA.out.s0.cells4
          by_cases hlt2 : k2 < N
          · go_wp2_with fail
            clear r0 r1 r2 r3
            go_loopw [8, 9, 10] (fun vc v _ wq => ∃ (i : Nat) (f : Nat → Bool) (ch : Bool), v = .int .i64 i ∧ i ≤ n ∧ vc = .bool ch ∧ Hid (RfAt w #[.int .i64 ((N : Nat) : Int), .slice a n c, .int .i64 ((F : Nat) : Int), .int .i64 ((T : Nat) : Int)] N f wq) ∧ Hid (Found L (fun x => x < N ∧ On g m x) N k2 f i ch)) (fun _ v _ _ => n - (intOf v).toNat)
            case atStart => exact ⟨0, f2, false, rfl, Nat.zero_le _, rfl, HA, Or.inl ⟨rfl, HG2.out, fun j _ h => absurd h (Nat.not_lt_zero _)⟩⟩
            case round =>
              obtain ⟨i, f3, ch, rfl, hi, rfl, HB, HF⟩ := hrel
              clear HA HG2 H1 HG
              obtain ⟨r0, r1, r2, r3⟩ := HB.out.s0.cells4
              have hsz := HB.out.size hNp
              have hsz0 : w.heap.size < wr.heap.size := by omega
              by_cases hlt3 : i < n
              · have hkl : i < L.length := by rw [HL.out.2.1]; exact hlt3
                obtain ⟨ge, off, rfl, hg, c0, c1, c2, c3, c4, c5, c6⟩ := (HL.out.1.below HB.out.below).getN i hkl
                have hx := HL.out.2.2.1.e L[i] (List.getElem_mem _)
                have HS : Hid (Still f3 L[i] → Found L (fun x => x < N ∧ On g m x) N k2 f3 (i + 1) ch) := fun h => HF.out.skip hkl h
                have HT : Hid (L[i].b = true → f3 L[i].f = true → f3 L[i].t = false → Found L (fun x => x < N ∧ On g m x) N k2 (ins f3 L[i].t) (i + 1) true) := fun h1 h2 h3 => HF.out.add (List.getElem_mem _) h1 h2 h3 hx.2
                generalize L[i] = x at c0 c1 c2 c3 c4 c5 c6 HS HT hx
                have HB1 := Lib.hid (HB.out.keep ((Below.refl _ _).alloc (Nat.le_refl _) (.cells #[.int .i64 ((x.f : Nat) : Int), .int .i64 ((x.t : Nat) : Int), .int .u64 ((wd x.p 0 : Nat) : Int), .int .u64 ((wd x.p 1 : Nat) : Int), .int .u64 ((wd x.p 2 : Nat) : Int), .int .u64 ((wd x.p 3 : Nat) : Int), .bool x.b] 43)))
                have i1 : (x.t : Int) < (N : Int) := by omega
                have i0 : (x.f : Int) < (N : Int) := by omega
                obtain ⟨xf, xt, xp, xb⟩ := x
                dsimp only at c0 c1 c2 c3 c4 c5 c6 HS HT hx i1 i0 HB1
                obtain ⟨y0, y1⟩ := HB.out.cell xf hx.1
                obtain ⟨z0, z1⟩ := HB.out.cell xt hx.2
                have HB2 := Lib.hid ((HB.out.tru xt hx.2).keep ((Below.refl _ _).alloc (Nat.le_refl _) (.cells #[.int .i64 ((xf : Nat) : Int), .int .i64 ((xt : Nat) : Int), .int .u64 ((wd xp 0 : Nat) : Int), .int .u64 ((wd xp 1 : Nat) : Int), .int .u64 ((wd xp 2 : Nat) : Int), .int .u64 ((wd xp 3 : Nat) : Int), .bool xb] 43)))
                rcases xb with _ | _
                · have HZ := Lib.hid (HS.out (by simp [Still]))
                  clear y0 y1 z0 z1
                  go_wp2_with fail
                  go_roundw
                  case rel => exact ⟨i + 1, f3, ch, by go_num, by omega, rfl, HB1, HZ⟩
                  case measure => simp [intOf]; omega
                · rcases hv : f3 xf with _ | _
                  · have HZ := Lib.hid (HS.out (by simp [Still, hv]))
                    rw [hv] at y0
                    clear hv z0 z1
                    go_wp2_with fail
                    go_roundw
                    case rel => exact ⟨i + 1, f3, ch, by go_num, by omega, rfl, HB1, HZ⟩
                    case measure => simp [intOf]; omega
                  · have HV := Lib.hid hv
                    rw [hv] at y0
                    clear hv
                    rcases hu : f3 xt with _ | _
                    · have HZ := Lib.hid (HT.out rfl HV.out hu)
                      rw [hu] at z0
                      clear hu
                      go_wp2_with fail
                      go_roundw
                      case rel => exact ⟨i + 1, ins f3 xt, true, by go_num, by omega, rfl, HB2, HZ⟩
                      case measure => simp [intOf]; omega
                    · have HZ := Lib.hid (HS.out (by simp [Still, hu]))
                      rw [hu] at z0
                      clear hu
                      go_wp2_with fail
                      go_roundw
                      case rel => exact ⟨i + 1, f3, ch, by go_num, by omega, rfl, HB1, HZ⟩
                      case measure => simp [intOf]; omega
              · obtain rfl : i = n := by omega
                rcases ch with _ | _
                · have HZ : Hid (∀ x, f3 x = true ↔ FR L (fun x => x < N ∧ On g m x) x) := by
                    rcases HF.out with ⟨_, h1, h2⟩ | ⟨h, _⟩
                    · exact h1.done (fun e he => by
                        obtain ⟨j, hj, rfl⟩ := List.getElem_of_mem he
                        exact h2 j hj (by rw [← HL.out.2.1]; exact hj))
                    · cases h
                  go_wp2_with fail
                  go_ret
                  exact ⟨f3, _, _, rfl, ownsRow_base HB.out.own (by omega), HZ.out, HB.out.below⟩
                · have HZ : Hid (Gat L (fun x => x < N ∧ On g m x) N (k2 + 1) f3) := by
                    rcases HF.out with ⟨h, _⟩ | ⟨_, h⟩
                    · cases h
                    · exact h
                  clear hsz0
                  go_wp2_with fail
                  go_roundw
                  case rel => exact ⟨k2 + 1, f3, by go_num, by omega, HB, HZ⟩
                  case measure => simp [intOf]; omega
          · obtain rfl : k2 = N := by omega
            have HZ : Hid (∀ x, f2 x = true ↔ FR L (fun x => x < k2 ∧ On g m x) x) := fun x => by
              refine ⟨HG2.out.hi x, fun h => ?_⟩
              have hx : x < k2 := FR.lt (fun x hx => hx.1) (fun e he => (HL.out.2.2.1.e e he).2) h
              exact (HG2.out.full (Nat.le_refl _) (fun x hx => hx.1) (fun e he => (HL.out.2.2.1.e e he).2) x hx).2 h
            go_wp2_with fail
            go_ret
            exact ⟨f2, _, _, rfl, ownsRow_base HA.out.own (by omega), HZ.out, HA.out.below⟩
end Go.Proofs.Ytlnndkilaklifaa

namespace Go.Proofs.Ytlnndkilaklifaa
open Go.RowKit
set_option linter.unusedVariables false

/-- The bytes of a string. -/
def zof (s : ByteArray) (k : Nat) : Nat := (s.get! k).toNat
theorem zof_lt (s : ByteArray) (k : Nat) : zof s k < 256 := UInt8.toNat_lt _
theorem zof_at (s : ByteArray) (k : Nat) (h : k < s.size) : (s[k]'h).toNat = zof s k := by
  unfold zof
  rw [show s.get! k = s[k]'h from getElem!_pos s.data k h]
theorem BAt.drew {w : World} {a : Option Addr} {n : Nat} {f : Nat → Bool} (h : BAt w a n f) : BAt w.drew a n f := h
theorem EdAt.drew {w : World} {a : Option Addr} {l : List Eg} (h : EdAt w a l) : EdAt w.drew a l := h

set_option maxHeartbeats 2000000 in
set_option maxRecDepth 100000 in
theorem rrun_any (L : List En) (N F T : Nat) (hO : Ok L N F T) (hN : N ≤ 1000000) (a : Option Addr) (n c : Nat) (w : World) (hL : EdAt w a (L.map En.z)) (hn : L.length = n) (hmax : n ≤ 1000000) (s : ByteArray) (m : Nat) (hs : s.size = m) (hm : m ≤ 1000000) :
    Calls Try.prog 17 #[.agg #[.int .i64 ((N : Nat) : Int), .slice a n c, .int .i64 ((F : Nat) : Int), .int .i64 ((T : Nat) : Int)], .string s] w (SetPost w N (RunP L F (zof s) m)) := by
  have HL := Lib.hid (And.intro hL (And.intro hn (And.intro hO hs)))
  have hmk := make_bl N (by omega)
  have hF := hO.f
  have hR := (RfAt.start w #[.int .i64 ((N : Nat) : Int), .slice a n c, .int .i64 ((F : Nat) : Int), .int .i64 ((T : Nat) : Int)] N (by unfold maxLen; omega))
  obtain ⟨y0, y1⟩ := hR.cell F hF
  have hR2 := hR.tru F hF
  rw [World.setCell_alloc_at _ _ _ _ _ (by simp)] at hR2
  have HR := Lib.hid hR2
  have HE : Hid (∀ W : World, (w.alloc (.cells #[.int .i64 ((N : Nat) : Int), .slice a n c, .int .i64 ((F : Nat) : Int), .int .i64 ((T : Nat) : Int)] 24)).alloc (.cells ((madeCells #[.bool false] N).setIfInBounds F (.bool true)) 4) = W → RfAt w #[.int .i64 ((N : Nat) : Int), .slice a n c, .int .i64 ((F : Nat) : Int), .int .i64 ((T : Nat) : Int)] N (ins (fun _ => false) F) W) := fun W h => by rw [← h]; exact HR.out
  have i0 : (F : Int) < (N : Int) := by omega
  have hss := hs
  clear hL hn hO hs hR hR2 HR
  go_enter Try.func17, Try.ntmps17
  go_wp2_with fail
  generalize hW0 : (w.alloc (.cells #[.int .i64 ((N : Nat) : Int), .slice a n c, .int .i64 ((F : Nat) : Int), .int .i64 ((T : Nat) : Int)] 24)).alloc (.cells ((madeCells #[.bool false] N).setIfInBounds F (.bool true)) 4) = W0
  have HR := Lib.hid (HE.out _ hW0)
  clear HE hW0 y0 y1
  have HBF : Hid (BAt W0 (some ⟨w.heap.size + 1, 0, none⟩) N (ins (fun _ => false) F)) := bls_at HR.out.own
  refine (rclose_any L N F T HL.out.2.2.1 hN a n c W0 (HL.out.1.below HR.out.below) HL.out.2.1 hmax (some ⟨w.heap.size + 1, 0, none⟩) N N (ins (fun _ => false) F) HBF.out hN).mono ?_
  rintro e w2 ⟨f, a2, c2, rfl, hown, hf, v2⟩
  have HZ : Hid (∀ x, f x = true ↔ RunP L F (zof s) 0 x) := fun x => by
    rw [hf]
    exact FR.congr (fun y => by simp only [On, ins, Bool.false_or, beq_iff_eq]; exact ⟨fun h => h.2.2, fun h => ⟨by omega, by omega, h⟩⟩) x
  have HO := Lib.hid (ownsRow_base (base := w.heap.size) hown HR.out.below.size)
  have HS := Lib.hid (And.intro (HR.out.s0.keep v2) (HR.out.below.trans (v2.mono HR.out.below.size)))
  clear hown hf v2
  go_wp2_with fail
  go_loopw [5, 6] (fun v i wr => ∃ (k : Nat) (f : Nat → Bool) (a3 : Option Addr) (c3 : Nat), i = .int .i64 k ∧ k ≤ m ∧ v = .slice a3 N c3 ∧ Hid (∀ x, f x = true ↔ RunP L F (zof s) k x) ∧ Hid (St wr 24 w.heap.size #[.int .i64 ((N : Nat) : Int), .slice a n c, .int .i64 ((F : Nat) : Int), .int .i64 ((T : Nat) : Int)] ∧ Below w.heap.size w wr) ∧ Hid (wr.ownsRow w.heap.size 4 1 (.slice a3 N c3) N (bls f N))) (fun _ i _ => m - (intOf i).toNat)
  case atStart => exact ⟨0, f, a2, c2, rfl, Nat.zero_le _, rfl, HZ, HS, HO⟩
  case round =>
    obtain ⟨k, f3, a3, c3, rfl, hk, rfl, HZ3, HS3, HO3⟩ := hrel
    obtain ⟨r0, r1, r2, r3⟩ := HS3.out.1.cells4
    by_cases hlt : k < m
    · have hks : k < s.size := by rw [HL.out.2.2.2]; exact hlt
      obtain ⟨bt, hbe⟩ : ∃ bt, (s[k]'hks).toNat = bt := ⟨_, rfl⟩
      have hbz := zof_at s k hks
      rw [hbe] at hbz
      have hbt : bt < 256 := by rw [hbz]; exact zof_lt s k
      have hwb : IntKind.i64.wrap ((bt : Nat) : Int) = ((bt : Nat) : Int) := IntWalk.i64_in _ (by omega)
      have HBZ := Lib.hid hbz
      have i1 : (k : Int) < (m : Int) := by omega
      have hdr : Below wr.heap.size wr wr.drew := (Below.refl _ _).drew
      have HM := Lib.hid (rmove_any L N F T HL.out.2.2.1 hN a n c wr.drew (HL.out.1.below HS3.out.2.drew) HL.out.2.1 hmax a3 N c3 f3 (bls_at HO3.out) hN bt hbt)
      clear hbz hdr
      go_wp2_with fail
      go_region_with (first
        | (go_at_call 37; refine HM.out.mono ?_; rintro e w4 ⟨f4, a4, c4, rfl, hown4, hf4, v4⟩; have hS4 := HS3.out.1.drew.keep v4; have hB4 := HS3.out.2.drew.trans (v4.mono HS3.out.2.drew.size); have HP4 := Lib.hid (And.intro hown4 (And.intro hf4 (And.intro hS4 hB4))); obtain ⟨q0, q1, q2, q3⟩ := hS4.cells4; clear hown4 hf4 v4 hS4 hB4)
        | (go_at_call 36; refine (rclose_any L N F T HL.out.2.2.1 hN a n c _ (HL.out.1.below HP4.out.2.2.2) HL.out.2.1 hmax a4 N c4 f4 (bls_at HP4.out.1) hN).mono ?_; rintro e w5 ⟨f5, a5, c5, rfl, hown5, hf5, v5⟩; have HP5 := Lib.hid (And.intro (ownsRow_base (base := w.heap.size) hown5 HP4.out.2.2.2.size) (And.intro hf5 (And.intro (HP4.out.2.2.1.keep v5) (HP4.out.2.2.2.trans (v5.mono HP4.out.2.2.2.size))))); clear hown5 hf5 v5))
      all_goals
        have HZ5 : Hid (∀ x, f5 x = true ↔ RunP L F (zof s) (k + 1) x) := fun x => by
          rw [HP5.out.2.1]
          refine FR.congr (fun y => ?_) x
          have h4 : f4 y = true ↔ Mv L (RunP L F (zof s) k) (zof s k) y := by
            rw [HP4.out.2.1, HBZ.out]
            exact Mv.congr (fun q => ⟨fun h => (HZ3.out q).1 h.2, fun h => ⟨RunP.lt HL.out.2.2.1.f (fun e he => (HL.out.2.2.1.e e he).2) k h, (HZ3.out q).2 h⟩⟩) _ y
          unfold On
          rw [h4]
          exact ⟨fun h => h.2.2, fun h => ⟨Mv.lt (fun e he => (HL.out.2.2.1.e e he).2) h, Mv.lt (fun e he => (HL.out.2.2.1.e e he).2) h, h⟩⟩
        go_wp2_with fail
        go_roundw
        case rel => exact ⟨k + 1, f5, a5, c5, by go_num, by omega, rfl, HZ5, Lib.hid HP5.out.2.2, Lib.hid HP5.out.1⟩
        case measure => simp [intOf]; omega
    · obtain rfl : k = m := by omega
      go_wp2_with fail
      go_ret
      exact ⟨f3, a3, c3, rfl, HO3.out, HZ3.out, HS3.out.2⟩
end Go.Proofs.Ytlnndkilaklifaa
