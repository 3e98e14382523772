import Derived.Test.YtlnndkilaklifaaZNRRun
import Derived.Test.YtlnndkilaklifaaZSMark
namespace Go.Proofs.Ytlnndkilaklifaa
open Go.RowKit Go.Maps Go.WideElems Go.ChangeMaps Go.MapKept
set_option linter.unusedVariables false
set_option linter.unusedSimpArgs false

/-- t is the place of b's lowest bit. -/
def TzOk (b t : Nat) : Prop := b ≠ 0 → t < 8 ∧ b.testBit t = true ∧ (b &&& (b - 1)) < b ∧ ∀ j, j < 8 → (b &&& (b - 1)).testBit j = (b.testBit j && decide (j ≠ t))
instance (b t : Nat) : Decidable (TzOk b t) := by unfold TzOk; infer_instance
theorem wrap_u8n (x : UInt8) : wrap64 ((x.toNat : Nat) : Int) = ((x.toNat : Nat) : Int) := by
  have : x.toNat < 256 := UInt8.toNat_lt x
  exact IntWalk.wrap64_in _ ⟨by omega, by omega⟩

set_option maxRecDepth 100000 in
theorem tz8_any (b : Nat) (hb : b < 256) (w : World) : Calls Try.prog 84 #[.int .u8 ((b : Nat) : Int)] w fun e w' => ∃ t : Nat, e = .returned (.int .i64 ((t : Nat) : Int)) ∧ TzOk b t ∧ w' = w := by
  go_enter Try.func84, Try.ntmps84
  go_wp2_with fail
  go_ret
  refine ⟨_, congrArg (fun z => Ending.returned (Value.int IntKind.i64 z)) (wrap_u8n _), ?_, rfl⟩
  clear w
  rename_i h
  revert h
  revert hb
  revert b
  decide +kernel

def MemPost (n : Nat) (g : Nat → Bool) (w : World) (e : Ending) (w' : World) : Prop :=
  ∃ (L : List Nat) (a : Option Addr) (c : Nat), e = .returned (.slice a L.length c) ∧ w'.ownsRow w.heap.size 3 1 (.slice a L.length c) L.length (nums64 L) ∧ L.Nodup ∧ (∀ x, x ∈ L ↔ x < 8 * n ∧ g x = true) ∧ Below w.heap.size w w'

set_option maxHeartbeats 2000000 in
set_option maxRecDepth 100000 in
theorem members_any (s : ByteArray) (n : Nat) (hs : s.size = n) (hn : n ≤ 100000) (g : Nat → Bool) (hg : ∀ i, i < n → zof s i = by8 g i) (w : World) : Calls Try.prog 76 #[.string s] w (MemPost n g w) := by
  have H := Lib.hid (And.intro hs hg)
  have hss := hs
  obtain ⟨i0, hi, hz0, hz1, hz2⟩ := info_parts Try.info_int9
  clear hg hs
  go_enter Try.func76, Try.ntmps76
  go_wp2_with fail
  go_loopw [3, 4, 5, 8] (fun v3 _ _ v wr => ∃ (k : Nat) (L : List Nat) (a : Option Addr) (c : Nat), v = .int .i64 k ∧ k ≤ n ∧ v3 = .slice a L.length c ∧ Hid (wr.ownsRow w.heap.size 3 1 (.slice a L.length c) L.length (nums64 L) ∧ L.Nodup ∧ (∀ x, x ∈ L ↔ x < 8 * k ∧ g x = true) ∧ Below w.heap.size w wr)) (fun _ _ _ v _ => n - (intOf v).toNat)
  case atStart => exact ⟨0, [], none, 0, rfl, Nat.zero_le _, rfl, World.ownsRow_nil _ _ _ _, List.nodup_nil, fun x => by simp, Below.refl _ _⟩
  case round =>
    obtain ⟨k, L, a, c, rfl, hk, rfl, HA⟩ := hrel
    by_cases hlt : k < n
    · have hks : k < s.size := by rw [hss]; exact hlt
      obtain ⟨bt, hbe⟩ : ∃ bt, (s[k]'hks).toNat = bt := ⟨_, rfl⟩
      have hbz := zof_at s k hks
      rw [hbe, H.out.2 k hlt] at hbz
      have hbt : bt < 256 := by rw [hbz]; exact by8_lt g k
      have HB := Lib.hid hbz
      have i1 : (k : Int) < (n : Int) := by omega
      clear hbz
      go_wp2_with fail
      go_loopw [3, 5] (fun v3 v5 wq => ∃ (b : Nat) (L2 : List Nat) (a2 : Option Addr) (c2 : Nat), v5 = .int .u8 b ∧ b < 256 ∧ v3 = .slice a2 L2.length c2 ∧ L2.length ≤ 8 * k + 8 ∧ Hid (wq.ownsRow w.heap.size 3 1 (.slice a2 L2.length c2) L2.length (nums64 L2) ∧ L2.Nodup ∧ (∀ x, x ∈ L2 ↔ (x < 8 * k ∧ g x = true) ∨ ∃ j, j < 8 ∧ x = 8 * k + j ∧ g x = true ∧ b.testBit j = false) ∧ Below w.heap.size w wq) ∧ Hid (∀ j, j < 8 → b.testBit j = true → g (8 * k + j) = true)) (fun _ v _ => (intOf v).toNat)
      case atStart =>
        refine ⟨bt, L, a, c, rfl, hbt, rfl, ?_, ⟨HA.out.1, HA.out.2.1, fun x => ?_, HA.out.2.2.2⟩, fun j hj h => ?_⟩
        · have := nodup_below HA.out.2.1 (m := 8 * k) (fun x hx => ((HA.out.2.2.1 x).1 hx).1)
          omega
        · rw [HA.out.2.2.1 x]
          constructor
          · exact Or.inl
          · rintro (h | ⟨j, hj, rfl, h1, h2⟩)
            · exact h
            · rw [HB.out, by8_bit] at h2
              simp [hj, h1] at h2
        · rw [HB.out, by8_bit] at h
          simpa [hj] using h
      case round =>
        obtain ⟨b, L2, a2, c2, rfl, hb, rfl, hlen, HC, HD⟩ := hrel
        by_cases hb0 : b = 0
        · subst hb0
          have HZ : Hid (wr.ownsRow w.heap.size 3 1 (.slice a2 L2.length c2) L2.length (nums64 L2) ∧ L2.Nodup ∧ (∀ x, x ∈ L2 ↔ x < 8 * (k + 1) ∧ g x = true) ∧ Below w.heap.size w wr) := by
            refine ⟨HC.out.1, HC.out.2.1, fun x => ?_, HC.out.2.2.2⟩
            rw [HC.out.2.2.1 x]
            constructor
            · rintro (⟨h1, h2⟩ | ⟨j, hj, rfl, h1, h2⟩)
              · exact ⟨by omega, h2⟩
              · exact ⟨by omega, h1⟩
            · rintro ⟨h1, h2⟩
              by_cases h3 : x < 8 * k
              · exact Or.inl ⟨h3, h2⟩
              · exact Or.inr ⟨x - 8 * k, by omega, by omega, h2, by simp⟩
          clear HA HC HD hbe
          go_wp2_with fail
          go_roundw
          case rel => exact ⟨k + 1, L2, a2, c2, by go_num, by omega, rfl, HZ⟩
          case measure => simp [intOf]; omega
        · have HC2 := Lib.hid HC.out.1
          have hO := HC.out.1
          have hB := HC.out.2.2.2
          have hBs := hB.size
          obtain ⟨q, hq⟩ : ∃ q, L2.length = q := ⟨_, rfl⟩
          rw [hq] at hlen hO
          have HQ := Lib.hid hq
          have hb1 : ¬ ((b : Int) = 0) := by omega
          clear HA hbe
          go_wp2_with fail
          refine (tz8_any b hb _).mono ?_
          rintro e w3 ⟨t, rfl, htz, rfl⟩
          obtain ⟨ht8, htb, hdec, hbits⟩ := htz hb0
          rw [hq]
          go_wp2_with (at_builtin; refine wpList_append_own _ rfl _ _ 25 rfl w.heap.size 3 i0 (.int .i64 0) 1 8 Try.underlying25 hi hz0 hz1 hz2 rfl (by decide) _ _ _ rfl (hO.alloc _) ⟨w3.heap.size, 0, none⟩ 1 1 [.int .i64 (8 * (k : Int) + (t : Int))] rfl rfl (cell_one_new _ _ _) ?d2 ?d3 ?d4 ?d5 ?_)
          case d2 => intro u hu; simp at hu; subst hu; rfl
          case d3 => unfold maxLen; omega
          case d4 => omega
          case d5 => simp; omega
          intro v' w5 hown5 hgrow5 _
          obtain ⟨a5, c5, rfl⟩ := ownsRow_slice hown5
          have hB5 := below_grown_own (hB.trans ((al w3 (.cells #[.int .i64 (8 * (k : Int) + (t : Int))] 3)).mono hBs)) (hO.alloc _) (by simp; omega) hgrow5
          have hnew : 8 * k + t ∉ L2 := by
            rw [HC.out.2.2.1]
            rintro (⟨h1, h2⟩ | ⟨j, hj, h1, h2, h3⟩)
            · omega
            · rw [show j = t by omega, htb] at h3; cases h3
          obtain ⟨b2, hb2⟩ : ∃ b2, b &&& (b - 1) = b2 := ⟨_, rfl⟩
          rw [hb2] at hdec hbits
          have hand : bits .and .u8 ((b : Nat) : Int) ((b : Int) - 1) = ((b2 : Nat) : Int) := by
            have := u8_and_nat b (b - 1) hb (by omega)
            rw [hb2] at this
            rw [← this]
            congr 1
            omega
          have HZ : Hid (w5.ownsRow w.heap.size 3 1 (.slice a5 (L2 ++ [8 * k + t]).length c5) (L2 ++ [8 * k + t]).length (nums64 (L2 ++ [8 * k + t])) ∧ (L2 ++ [8 * k + t]).Nodup ∧ (∀ x, x ∈ L2 ++ [8 * k + t] ↔ (x < 8 * k ∧ g x = true) ∨ ∃ j, j < 8 ∧ x = 8 * k + j ∧ g x = true ∧ b2.testBit j = false) ∧ Below w.heap.size w w5) := by
            refine ⟨?_, ?_, fun x => ?_, hB5⟩
            · rw [nums64_snoc, List.length_append, hq]
              simpa using hown5
            · refine List.nodup_append.2 ⟨HC.out.2.1, by simp, fun a ha b hb e => ?_⟩
              rw [List.mem_singleton.1 hb] at e
              exact hnew (e ▸ ha)
            · rw [List.mem_append, HC.out.2.2.1 x, List.mem_singleton]
              constructor
              · rintro ((h | ⟨j, hj, h1, h2, h3⟩) | h)
                · exact Or.inl h
                · exact Or.inr ⟨j, hj, h1, h2, by rw [hbits j hj, h3]; rfl⟩
                · exact Or.inr ⟨t, ht8, h, by rw [h]; exact HD.out t ht8 htb, by rw [hbits t ht8]; simp⟩
              · rintro (h | ⟨j, hj, h1, h2, h3⟩)
                · exact Or.inl (Or.inl h)
                · by_cases e : j = t
                  · exact Or.inr (by rw [h1, e])
                  · rw [hbits j hj] at h3
                    exact Or.inl (Or.inr ⟨j, hj, h1, h2, by simpa [e] using h3⟩)
          have HZ2 : Hid (∀ j, j < 8 → b2.testBit j = true → g (8 * k + j) = true) := fun j hj h => by
            rw [hbits j hj] at h
            simp at h
            exact HD.out j hj h.1
          have hl3 : (L2 ++ [8 * k + t]).length ≤ 8 * k + 8 := nodup_below HZ.out.2.1 (fun x hx => by
            rcases (HZ.out.2.2.1 x).1 hx with h | ⟨j, hj, h, _⟩ <;> omega)
          have hl4 : q + 1 ≤ 8 * k + 8 := by rw [List.length_append, hq] at hl3; simpa using hl3
          have HQ2 : Hid ((L2 ++ [8 * k + t]).length = q + 1) := by show _ = _; rw [List.length_append, hq]; rfl
          have hb2l : b2 < 256 := by omega
          clear hown5 hgrow5 hB5 hnew hb2 hbits hO hB hl3 hq
          go_wp2_with fail
          go_roundw
          case rel => exact ⟨b2, L2 ++ [8 * k + t], a5, c5, rfl, hb2l, by rw [HQ2.out], by rw [HQ2.out]; exact hl4, HZ, HZ2⟩
          case measure => simp [intOf]; omega
    · obtain rfl : k = n := by omega
      go_wp2_with fail
      go_ret
      exact ⟨L, a, c, rfl, HA.out⟩
end Go.Proofs.Ytlnndkilaklifaa

namespace Go.Proofs.Ytlnndkilaklifaa
open Go.RowKit Go.Maps Go.WideElems Go.ChangeMaps Go.MapKept
set_option linter.unusedVariables false
set_option linter.unusedSimpArgs false

set_option maxHeartbeats 1000000 in
set_option maxRecDepth 100000 in
theorem max_any (v : Nat → Nat) (n c g : Nat) (hn : 0 < n) (hn2 : n ≤ 1000) (hv : ∀ j, j < n → v j < 256) (w : World) (h : ∀ j, j < n → w.cell? ⟨g, j, none⟩ = some (.int .u8 ((v j : Nat) : Int))) :
    Calls Try.prog 77 #[.slice (some ⟨g, 0, none⟩) n c] w fun e w' => ∃ x : Nat, e = .returned (.int .u8 ((x : Nat) : Int)) ∧ (∀ j, j < n → v j ≤ x) ∧ (∃ j, j < n ∧ v j = x) ∧ w' = w := by
  have H := Lib.hid (And.intro hv h)
  have c0 := h 0 hn
  have hz : ¬ ((n : Int) < 1) := by omega
  clear hv h
  go_enter Try.func77, Try.ntmps77
  go_wp2_with fail
  go_loopw [3, 4] (fun v3 i wr => ∃ (k x : Nat), i = .int .i64 k ∧ 1 ≤ k ∧ k ≤ n ∧ v3 = .int .u8 ((x : Nat) : Int) ∧ Hid ((∀ j, j < k → v j ≤ x) ∧ ∃ j, j < k ∧ v j = x) ∧ wr = w) (fun _ i _ => n - (intOf i).toNat)
  case atStart => exact ⟨1, v 0, rfl, Nat.le_refl _, hn, rfl, ⟨fun j hj => by rw [show j = 0 by omega]; exact Nat.le_refl _, 0, by omega, rfl⟩, rfl⟩
  case round =>
    obtain ⟨k, x, rfl, hk1, hk, rfl, HX, rfl⟩ := hrel
    by_cases hlt : k < n
    · have ck := H.out.2 k hlt
      have hvk := H.out.1 k hlt
      have HZ : Hid (∀ y, (y = x ∧ v k ≤ x) ∨ (y = v k ∧ x ≤ v k) → (∀ j, j < k + 1 → v j ≤ y) ∧ ∃ j, j < k + 1 ∧ v j = y) := fun y hy => by
        obtain ⟨h1, j0, h2, h3⟩ := HX.out
        rcases hy with ⟨rfl, hy⟩ | ⟨rfl, hy⟩
        · exact ⟨fun j hj => by by_cases e : j = k; rw [e]; exact hy; exact h1 j (by omega), j0, by omega, h3⟩
        · exact ⟨fun j hj => by by_cases e : j = k; rw [e]; exact Nat.le_refl _; exact Nat.le_trans (h1 j (by omega)) hy, k, by omega, rfl⟩
      generalize v k = y at ck hvk HZ
      have i1 : (k : Int) < (n : Int) := by omega
      rcases Nat.le_total y x with hyx | hyx
      · have HZ2 := Lib.hid (HZ.out x (Or.inl ⟨rfl, hyx⟩))
        have hmx : max ((x : Nat) : Int) ((y : Nat) : Int) = ((x : Nat) : Int) := by omega
        have hmx2 : max x y = x := by omega
        go_wp2_with fail
        go_roundw
        case rel => exact ⟨k + 1, x, by go_num, by omega, by omega, by first | rfl | simp [hmx], HZ2, by first | trivial | rfl⟩
        case measure => simp [intOf]; omega
      · have HZ2 := Lib.hid (HZ.out y (Or.inr ⟨rfl, hyx⟩))
        have hmx : max ((x : Nat) : Int) ((y : Nat) : Int) = ((y : Nat) : Int) := by omega
        have hmx2 : max x y = y := by omega
        go_wp2_with fail
        go_roundw
        case rel => exact ⟨k + 1, y, by go_num, by omega, by omega, by first | rfl | simp [hmx], HZ2, by first | trivial | rfl⟩
        case measure => simp [intOf]; omega
    · obtain rfl : k = n := by omega
      go_wp2_with fail
      go_ret
      exact ⟨x, rfl, HX.out.1, HX.out.2, rfl⟩

set_option maxHeartbeats 1000000 in
set_option maxRecDepth 100000 in
theorem count_any (K : Nat → Lit) (cs : Array Value) (hs : cs.size = 256) (hc : ∀ j, j < 256 → cs[j]? = some (.int .u8 ((cls K j : Nat) : Int))) (w : World) :
    Calls Try.prog 66 #[.agg cs] w fun e w' => e = .returned (.int .i64 ((nrep K 256 : Nat) : Int)) ∧ Below w.heap.size w w' := by
  have hcl : ∀ j, j < 256 → cls K j < 256 := fun j hj => by have := cls_le K j; omega
  have hB := al w (.cells cs 27)
  have hS := St.new w 27 cs
  have hM := Lib.hid (max_any (cls K) 256 256 w.heap.size (by omega) (by omega) hcl (w.alloc (.cells cs 27)) (fun j hj => by rw [hS.at_, hc j hj]))
  have HB := Lib.hid hB
  have HT : Hid (∀ x, (∀ j, j < 256 → cls K j ≤ x) → (∃ j, j < 256 ∧ cls K j = x) → x + 1 = nrep K 256 ∧ x < 256) := fun x h1 h2 => by
    obtain ⟨b, hb, e⟩ := cls_top K 256 (by omega)
    obtain ⟨j, hj, rfl⟩ := h2
    have := cls_lt K j 256 hj
    have := h1 b hb
    have := hcl j hj
    omega
  clear hcl hB hS hc
  go_enter Try.func66, Try.ntmps66
  go_wp2_with fail
  refine hM.out.mono ?_
  rintro e w2 ⟨x, rfl, h1, h2, rfl⟩
  obtain ⟨hx, hx2⟩ := HT.out x h1 h2
  have HX := Lib.hid hx
  clear h1 h2 hx
  go_wp2_with fail
  go_ret
  exact ⟨by rw [← HX.out]; first | rfl | (simp; done), HB.out⟩
end Go.Proofs.Ytlnndkilaklifaa

namespace Go.Proofs.Ytlnndkilaklifaa
open Go.RowKit Go.Maps Go.WideElems Go.ChangeMaps Go.MapKept
set_option linter.unusedVariables false
set_option linter.unusedSimpArgs false

/-- An array, or a struct, that is a part of a block is loaded. -/
theorem run_loadVar_part {P : Program} (w : World) (ad : Addr) (ty : TypeId) (cs : Array Value) (d : TypeDesc) (hc : ∀ j v, cs.toList[j]? = some v → w.cell? (ad.add j) = some v)
    (hu : P.underlying ty = some d) (hd : (match d with | .struct _ | .array _ _ => true | _ => false) = true) (hi : (P.info? ty).map (·.size) = some cs.size) :
    (loadVar ty ad).run P w = .ok (.agg cs) w := by
  have hl : (loadCells ad cs.toList.length).run P w = .ok cs.toList.toArray w := run_loadCells_list (P := P) w ad cs.toList hc
  cases hq : P.info? ty with
  | none => simp [hq] at hi
  | some i =>
    have hs : i.size = cs.size := by simpa [hq] using hi
    have hagg : (isAgg ty).run P w = .ok true w := by
      unfold isAgg
      rw [Sem.run_bind, run_underlying hu w]
      cases d <;> simp_all
    simp only [Array.length_toList, Array.toArray_toList] at hl
    simp [loadVar, Sem.run_bind, hagg, sizeOf, typeInfo, hq, hs, hl]
theorem wpList_load_part {P : Program} {ops : Array Oper} {rest : List Oper} {o : Oper} {a : Act} {w : World} {Q : Exit → Act → World → Prop} (hgd : o.guard = none) (ty : TypeId) (x : Operand) (ho : o.op = .load ty x)
    (ad : Addr) (hx : a.eval x = .pointer (some ad)) (cs : Array Value) (d : TypeDesc) (hc : ∀ j v, cs.toList[j]? = some v → w.cell? (ad.add j) = some v)
    (hu : P.underlying ty = some d) (hd : (match d with | .struct _ | .array _ _ => true | _ => false) = true) (hi : (P.info? ty).map (·.size) = some cs.size)
    (h : wpList P ops Q rest (a.put o.dst (.agg cs)) w) : wpList P ops Q (o :: rest) a w :=
  wpList_plain hgd fun _ hK => by
    unfold Oper.wp execOp
    simp only [ho, hx, Instr.loadAt, Instr.sureAddr, Sem.run_bind, Sem.run_pure, Result.andThen_ok, run_loadVar_part w ad ty cs d hc hu hd hi]
    exact hK _ _ h

/-- The smallest bytes of the classes, of those below k. -/
noncomputable def rl (K : Nat → Lit) : Nat → List Nat
  | 0 => []
  | k + 1 => if cls K k = (rl K k).length then rl K k ++ [k] else rl K k
theorem rl_len (K : Nat → Lit) (k : Nat) : (rl K k).length = nrep K k := by
  induction k with
  | zero => rfl
  | succ k ih =>
    rw [rl, nrep, ih]
    by_cases e : fst K k = k
    · have : cls K k = nrep K k := by unfold cls; rw [e]
      rw [if_pos this, if_pos e]
      simp [ih]
    · have h1 := (fst_spec K k).1
      have h2 : cls K k + 1 ≤ nrep K k := by
        have h3 : fst K k < k := by omega
        have := cls_lt K (fst K k) k h3
        unfold cls at this ⊢
        rwa [fst_fst] at this
      rw [if_neg (by omega), if_neg e, ih]
      omega
theorem rl_at (K : Nat → Lit) (k : Nat) : ∀ c (h : c < (rl K k).length), cls K (rl K k)[c] = c ∧ (rl K k)[c] < k := by
  induction k with
  | zero => intro c h; simp [rl] at h
  | succ k ih =>
    intro c h
    by_cases e : cls K k = (rl K k).length
    · have er : rl K (k + 1) = rl K k ++ [k] := by rw [rl, if_pos e]
      simp only [er] at h ⊢
      by_cases hc : c < (rl K k).length
      · rw [List.getElem_append_left hc]
        have := ih c hc
        omega
      · rw [List.length_append] at h
        have : c = (rl K k).length := by simp at h; omega
        subst this
        rw [List.getElem_append_right (Nat.le_refl _)]
        simp [e]
    · have er : rl K (k + 1) = rl K k := by rw [rl, if_neg e]
      simp only [er] at h ⊢
      have := ih c h
      omega
/-- A net's classes. -/
structure NetCl (w : World) (B bn : Nat) (K : Nat → Lit) (cs : Array Value) : Prop where
  blk : bn < B
  sz : cs.size = 256
  val : ∀ j, j < 256 → cs[j]? = some (.int .u8 ((cls K j : Nat) : Int))
  at_ : ∀ j v, cs.toList[j]? = some v → w.cell? ((⟨bn, 0, none⟩ : Addr).add j) = some v
theorem NetCl.below {w w' : World} {B bn : Nat} {K : Nat → Lit} {cs : Array Value} (h : NetCl w B bn K cs) (k : Below B w w') : NetCl w' B bn K cs :=
  ⟨h.blk, h.sz, h.val, fun j v hj => by
    have e : (⟨bn, 0, none⟩ : Addr).add j = ⟨bn, j, none⟩ := by unfold Addr.add; split <;> simp_all
    have := h.at_ j v hj
    rw [e] at this ⊢
    exact (k.cell (p := ⟨bn, j, none⟩) h.blk).trans this⟩

theorem run_index_part {P : Program} (t e : TypeId) (n : Nat) (cs : Array Value) (i : Nat) (v : Value) (h : P.underlying t = some (.array n e)) (hi : i < n) (hs : (P.info? e).map (·.size) = some 1) (hd : ∃ d, P.underlying e = some d ∧ (match d with | .struct _ | .array _ _ => true | _ => false) = false) (hv : cs[i]? = some v) (w : World) :
    (Instr.index t (.agg cs) (.int .i64 ((i : Nat) : Int))).run P w = .ok v w := by
  obtain ⟨d, hd1, hd2⟩ := hd
  cases hq : P.info? e with
  | none => simp [hq] at hs
  | some inf =>
    have hs1 : inf.size = 1 := by simpa [hq] using hs
    have hagg : (isAgg e).run P w = .ok false w := by
      unfold isAgg
      rw [Sem.run_bind, run_underlying hd1 w]
      cases d <;> simp_all
    have h1 : (0 : Int) ≤ (i : Int) ∧ (i : Int) < (n : Int) := by omega
    simp [Instr.index, asIntOf, run_underlying h, h1, sizeOf, typeInfo, hq, hs1, part, hagg, hv]
    intro hni
    omega
def FstPost (K : Nat → Lit) (w : World) (e : Ending) (w' : World) : Prop :=
  ∃ (a : Option Addr) (c : Nat), e = .returned (.slice a (nrep K 256) c) ∧ w'.ownsRow w.heap.size 5 1 (.slice a (nrep K 256) c) (nrep K 256) (u8s (rl K 256)) ∧ Below w.heap.size w w'

set_option maxHeartbeats 1000000 in
set_option maxRecDepth 100000 in
theorem firstBytes_any (K : Nat → Lit) (B bn : Nat) (cs : Array Value) (w : World) (h : NetCl w B bn K cs) : Calls Try.prog 79 #[.pointer (some ⟨bn, 0, none⟩)] w (FstPost K w) := by
  have H := Lib.hid h
  have hinfo : (Try.prog.info? 27).map (·.size) = some cs.size := by rw [h.sz]; kernel_rfl
  obtain ⟨i0, hi, hz0, hz1, hz2⟩ := info_parts Try.info_u8
  clear h
  go_enter Try.func79, Try.ntmps79
  go_wp2_with (refine wpList_load_part rfl 27 _ rfl ⟨bn, 0, none⟩ rfl cs (.array 256 5) H.out.at_ Try.underlying27 rfl hinfo ?_)
  go_loopw [3, 4, 5, 10] (fun v3 _ _ v wr => ∃ (k q : Nat) (a : Option Addr) (c : Nat), v = .int .i64 k ∧ k ≤ 256 ∧ q ≤ 256 ∧ v3 = .slice a q c ∧ Hid ((rl K k).length = q ∧ wr.ownsRow w.heap.size 5 1 (.slice a q c) q (u8s (rl K k)) ∧ Below w.heap.size w wr)) (fun _ _ _ v _ => 256 - (intOf v).toNat)
  case atStart => exact ⟨0, 0, none, 0, rfl, Nat.zero_le _, Nat.zero_le _, rfl, rfl, World.ownsRow_nil _ _ _ _, Below.refl _ _⟩
  case round =>
    obtain ⟨k, q, a, c, rfl, hk, hq, rfl, HA⟩ := hrel
    by_cases hlt : k < 256
    · have hv := H.out.val k hlt
      have hsz := H.out.sz
      have hi1 : (k : Int) < 256 := by omega
      have hix := run_index_part 27 5 256 cs k _ Try.underlying27 hlt (by kernel_rfl) ⟨_, Try.underlying5, rfl⟩ hv wr
      have hcl : cls K k ≤ k := cls_le K k
      have hle : q ≤ k := by rw [← HA.out.1, rl_len]; exact nrep_le K k
      by_cases hc : cls K k = q
      · have HZ : Hid (rl K (k + 1) = rl K k ++ [k] ∧ (rl K (k + 1)).length = q + 1) := by
          have e : rl K (k + 1) = rl K k ++ [k] := by rw [rl, if_pos (by rw [HA.out.1]; exact hc)]
          exact ⟨e, by rw [e, List.length_append, HA.out.1]; rfl⟩
        generalize cls K k = x at hv hcl hc hix
        subst hc
        have hO := HA.out.2.1
        have hB := HA.out.2.2
        have hBs := hB.size
        go_wp2_with (at_builtin; refine wpList_append_own _ rfl _ _ 91 rfl w.heap.size 5 i0 (.int .u8 0) 1 1 Try.underlying91 hi hz0 hz1 hz2 rfl (by decide) _ _ _ rfl (hO.alloc _) ⟨wr.heap.size, 0, none⟩ 1 1 [.int .u8 ((k : Nat) : Int)] rfl rfl (cell_one_new _ _ _) ?d2 ?d3 ?d4 ?d5 ?_)
        case d2 => intro u hu; simp at hu; subst hu; rfl
        case d3 => unfold maxLen; omega
        case d4 => omega
        case d5 => simp; omega
        intro v' w5 hown5 hgrow5 _
        obtain ⟨a5, c5, rfl⟩ := ownsRow_slice hown5
        have hB5 := below_grown_own (hB.trans ((al wr (.cells #[.int .u8 ((k : Nat) : Int)] 5)).mono hBs)) (hO.alloc _) (by simp; omega) hgrow5
        have HF : Hid ((rl K (k + 1)).length = x + 1 ∧ w5.ownsRow w.heap.size 5 1 (.slice a5 (x + 1) c5) (x + 1) (u8s (rl K (k + 1))) ∧ Below w.heap.size w w5) := by
          refine ⟨HZ.out.2, ?_, hB5⟩
          rw [HZ.out.1, u8s_snoc]
          exact hown5
        clear hown5 hgrow5 hB5 hO hB HA
        go_wp2_with fail
        go_roundw
        case rel => exact ⟨k + 1, x + 1, a5, c5, by go_num, by omega, by omega, rfl, HF⟩
        case measure => simp [intOf]; omega
      · have HZ : Hid (rl K (k + 1) = rl K k) := by
          show _ = _
          rw [rl, if_neg (by rw [HA.out.1]; exact hc)]
        generalize cls K k = x at hv hcl hc hix
        have hc2 : ¬ ((x : Int) = (q : Int)) := by omega
        go_wp2_with fail
        go_roundw
        case rel => exact ⟨k + 1, q, a, c, by go_num, by omega, hq, rfl, by rw [HZ.out]; exact HA⟩
        case measure => simp [intOf]; omega
    · obtain rfl : k = 256 := by omega
      have HF : Hid (FstPost K w (.returned (.slice a q c)) wr) := by
        have e := HA.out.1
        rw [rl_len] at e
        subst e
        exact ⟨a, c, rfl, HA.out.2.1, HA.out.2.2⟩
      go_wp2_with fail
      go_ret
      exact HF.out
end Go.Proofs.Ytlnndkilaklifaa
