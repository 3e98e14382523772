import Derived.Test.YtcohjopbhopcgaaGFind
import Derived.OwnWalk
import Derived.Deep.AppendLies
import Derived.Deep.Upon
namespace Go.Proofs.Ytcohjopbhopcgaa
open Go.RowKit Go.Maps Go.WideElems Go.ChangeMaps Go.MapKept
set_option linter.unusedVariables false
set_option linter.unusedSimpArgs false

theorem wpList_append_noneG {P : Program} {ops : Array Oper} {rest : List Oper} {o : Oper} {a : Act} {Q : Exit → Act → World → Prop} (w : World) (hgd : o.guard = none) (s x : Operand) (t e : TypeId) (ht : P.underlying t = some (.slice e)) (i : TypeInfo) (hi : P.info? e = some i)
    (ho : o.op = .call { callee := .builtin .append, args := #[s, x], argTypes := #[t, t] })
    (b : Option Addr) (n c c2 : Nat) (hs : a.eval s = .slice b n c) (hle : n ≤ c) (hx : a.eval x = .slice none 0 c2)
    (h : wpList P ops Q rest (a.put o.dst (.slice b n c)) w) : wpList P ops Q (o :: rest) a w := by
  refine wpList_plain hgd fun K hK => ?_
  have hr := run_append_nothing (P := P) w t t o.type e i ht hi b n c hle (.slice none 0 c2) (Src.ofNil w ht c2)
  unfold Oper.wp execOp
  simp only [ho, resolve, invoke, builtin, Sem.run_bind, Sem.run_pure, Result.andThen_ok, List.map_toArray, List.map_cons, List.map_nil, hs, hx, hr]
  exact hK _ _ h

/-- The names then, the number, the error. -/
def RAddP (l : List ByteArray) (s : ByteArray) (a : Option Addr) (n c : Nat) (w : World) (e : Ending) (w' : World) : Prop :=
  ∃ (a' : Option Addr) (n' c' : Nat), e = .returned (.tuple #[.slice a' n' c', .int .i64 (adI l s), .int .i64 (adE l s)]) ∧ (adN l s).length = n' ∧ SsAt w' a' (adN l s) ∧
    (a' = a ∧ n' = n ∧ c' = c ∧ w' = w ∨ 0 < n' ∧ ∃ g, a' = some ⟨g, 0, none⟩ ∧ w.heap.size ≤ g ∧ g < w'.heap.size) ∧ Below w.heap.size w w'

set_option maxHeartbeats 2000000 in
set_option maxRecDepth 100000 in
theorem radd16_any (l : List ByteArray) (s : ByteArray) (n c : Nat) (a : Option Addr) (hn : l.length = n) (hn9 : n ≤ 300) (hs : s.size ≤ maxLen) (ha : n = 0 → a = none) (w : World) (h1 : SsAt w a l) :
    Calls Try.prog 9 #[.slice a n c, .string s] w (RAddP l s a n c w) := by
  have H := Lib.hid (And.intro h1 hn)
  have HF := Lib.hid (rfind16_any l s n c a hn (by omega) w h1)
  have HN := Lib.hid (rname_any s w hs)
  have HA := Lib.hid ha
  obtain ⟨iT, hT0, hT1, hT2, hT3⟩ := info_parts Try.info_str15
  clear h1 hn hs ha
  go_enter Try.func9, Try.ntmps9
  go_wp2_with fail
  refine HN.out.mono ?_
  rintro e w1 ⟨rfl, rfl⟩
  rcases hT : nameT s with _ | _
  · have HZ : Hid (RAddP l s a n c w (.returned (.tuple #[.slice a n c, .int .i64 0, .int .i64 8])) w) := by
      obtain ⟨e1, e2, e3⟩ := ad_name (l := l) hT
      exact ⟨a, n, c, by rw [e2, e3], by rw [e1, H.out.2], by rw [e1]; exact H.out.1, Or.inl ⟨rfl, rfl, rfl, rfl⟩, Below.refl _ _⟩
    clear hT HF HN
    go_wp2_with fail
    go_ret3
    exact HZ.out
  · have HT := Lib.hid hT
    clear hT HN
    go_wp2_with fail
    refine HF.out.mono ?_
    rintro e w1 ⟨rfl, rfl⟩
    rcases fdS_or l s with hf | ⟨k, hf, hk⟩
    · have HD := Lib.hid hf
      rw [hf]
      clear hf
      by_cases hb : n < 300
      · have i1 : ¬ ((300 : Int) ≤ (n : Int)) := by omega
        clear HF
        have hEm := own_emptyS w1
        have kE := al w1 (.cells #[] 9)
        have HY : Hid (∀ (g c' : Nat) w', w'.ownsRow w1.heap.size 9 1 (.slice (some ⟨g, 0, none⟩) (n + 1) c') (n + 1) (sss (l ++ [s])) → Below w1.heap.size w1 w' → RAddP l s a n c w1 (.returned (.tuple #[.slice (some ⟨g, 0, none⟩) (n + 1) c', .int .i64 ((n : Nat) : Int), .int .i64 0])) w') := fun g c' w' ho hb' => by
          obtain ⟨e1, e2, e3⟩ := ad_yes (l := l) HT.out HD.out (by rw [H.out.2]; exact hb)
          have hlen : (l ++ [s]).length = n + 1 := by simp [H.out.2]
          obtain ⟨g', e', hg', hw', _⟩ := ownsRow_read ho (by omega)
          injection e' with e'
          injection e' with e' _ _
          exact ⟨_, _, c', by rw [e2, e3, H.out.2], by rw [e1, hlen], by rw [e1]; exact own_sss hlen ho, Or.inr ⟨by omega, g, rfl, by omega, by omega⟩, hb'⟩
        rcases Nat.eq_zero_or_pos n with h0 | h0
        · subst h0
          obtain rfl := HA.out rfl
          have hl0 : l = [] := List.eq_nil_of_length_eq_zero H.out.2
          subst hl0
          have hO5 := ownsRow_keep hEm (al (w1.alloc (.cells #[] 9)) (.cells #[.string s] 9))
          have hk5 := kE.trans ((al (w1.alloc (.cells #[] 9)) (.cells #[.string s] 9)).mono kE.size)
          have hbk : ((w1.alloc (.cells #[] 9)).alloc (.cells #[.string s] 9)).heap[w1.heap.size + 1]? = some (.cells #[.string s] 9 (0, 0)) := by
            have := heap_alloc_new (w1.alloc (.cells #[] 9)) (.cells #[.string s] 9)
            simpa using this
          have HW5 := Lib.hid (And.intro hO5 (And.intro hk5 hbk))
          clear hEm kE hO5 hk5 hbk
          go_wp2_with (first | (at_builtin; refine wpList_append_noneG _ rfl _ _ 22 9 Try.underlying22 iT hT0 rfl (some ⟨w1.heap.size, 0, none⟩) 0 0 _ rfl (Nat.le_refl _) rfl ?_) | (at_builtin; refine wpList_append_lies _ rfl _ _ 22 rfl w1.heap.size 9 iT (.string ⟨#[]⟩) 1 16 Try.underlying22 hT0 hT1 hT2 hT3 rfl (by decide) (.slice (some ⟨w1.heap.size, 0, none⟩) 0 0) 0 (sss []) rfl HW5.out.1 ⟨w1.heap.size + 1, 0, none⟩ 1 1 [.string s] rfl rfl (World.news_of_block (cs := #[.string s]) HW5.out.2.2) (by intro u hu; simp at hu; rcases hu with rfl; rfl) (by omega) (by unfold maxLen; omega) (by omega) (by simp; omega) _ rfl ?_))
          intro g6 c6 w6 hown6 hgrow6 _ _
          have hb6 := HW5.out.2.1.trans ((grown_kept hgrow6 HW5.out.1 (by simp; omega)))
          have HZ := Lib.hid (HY.out g6 c6 w6 (by rw [sss_append]; exact hown6) hb6)
          clear hown6 hgrow6 hb6 HW5 HY
          go_wp2_with fail
          go_ret3
          exact HZ.out
        · obtain ⟨g1, o1, rfl, hg1, q1⟩ := H.out.1 (by rw [H.out.2]; exact h0)
          have hnew : ∀ j u, (sss l)[j]? = some u → (w1.alloc (.cells #[] 9)).cell? ((⟨g1, o1, none⟩ : Addr).add j) = some u := ss_news (fun j hj => (kE.cell (p := ⟨g1, o1 + j, none⟩) hg1).trans (q1 j hj))
          have HEm := Lib.hid (And.intro hEm (And.intro kE (And.intro hnew (And.intro (sss_one l) (by rw [sss_length, H.out.2, Nat.mul_one] : (sss l).length = n * 1)))))
          clear hEm kE hnew q1 hg1
          go_wp2_with (at_builtin; refine wpList_append_own _ rfl _ _ 22 rfl w1.heap.size 9 iT (.string ⟨#[]⟩) 1 16 Try.underlying22 hT0 hT1 hT2 hT3 rfl (by decide) _ _ _ rfl HEm.out.1 ⟨g1, o1, none⟩ n c (sss l) rfl HEm.out.2.2.2.2 HEm.out.2.2.1 HEm.out.2.2.2.1 ?_ ?_ ?_ ?_)
          · unfold maxLen; omega
          · omega
          · simp
          intro v' w5 hown5 hgrow5 _
          obtain ⟨a5, c5, rfl⟩ := ownsRow_slice hown5
          have hb5 : Below w1.heap.size w1 w5 := HEm.out.2.1.grown hgrow5 (by simp) (fun g e => (HEm.out.1.lt g e).1)
          try simp only [Nat.zero_add, List.nil_append] at hown5
          try simp only [Nat.zero_add]
          have hO5 := ownsRow_keep hown5 (al w5 (.cells #[.string s] 9))
          have hz5 := hb5.size
          have HW5 := Lib.hid (And.intro hown5 (And.intro hb5 hO5))
          clear hown5 hgrow5 hb5 hO5
          go_wp2_with (at_builtin; refine wpList_append_lies _ rfl _ _ 22 rfl w1.heap.size 9 iT (.string ⟨#[]⟩) 1 16 Try.underlying22 hT0 hT1 hT2 hT3 rfl (by decide) (.slice a5 n c5) n (sss l) rfl HW5.out.2.2 ⟨w5.heap.size, 0, none⟩ 1 1 [.string s] rfl rfl (World.news_of_block (cs := #[.string s]) (heap_alloc_new _ _)) (by intro u hu; simp at hu; rcases hu with rfl; rfl) (by omega) (by unfold maxLen; omega) (by omega) (by simp; omega) _ rfl ?_)
          intro g6 c6 w6 hown6 hgrow6 _ _
          have hb6 := HW5.out.2.1.trans (((al w5 (.cells #[.string s] 9)).mono HW5.out.2.1.size).trans (grown_kept hgrow6 HW5.out.2.2 (by simp; omega)))
          have HZ := Lib.hid (HY.out g6 c6 w6 (by rw [sss_append]; exact hown6) hb6)
          clear hown6 hgrow6 hb6 HW5 HY HEm
          go_wp2_with fail
          go_ret3
          exact HZ.out
      · have i1 : (300 : Int) ≤ (n : Int) := by omega
        have HZ : Hid (RAddP l s a n c w1 (.returned (.tuple #[.slice a n c, .int .i64 0, .int .i64 6])) w1) := by
          obtain ⟨e1, e2, e3⟩ := ad_big (l := l) HT.out HD.out (by rw [H.out.2]; exact hb)
          exact ⟨a, n, c, by rw [e2, e3], by rw [e1, H.out.2], by rw [e1]; exact H.out.1, Or.inl ⟨rfl, rfl, rfl, rfl⟩, Below.refl _ _⟩
        clear HF HT HD
        go_wp2_with fail
        go_ret3
        exact HZ.out
    · have HZ : Hid (RAddP l s a n c w1 (.returned (.tuple #[.slice a n c, .int .i64 ((k : Nat) : Int), .int .i64 9])) w1) := by
        obtain ⟨e1, e2, e3⟩ := ad_twice (l := l) HT.out (by rw [hf]; omega)
        exact ⟨a, n, c, by rw [e2, e3, hf], by rw [e1, H.out.2], by rw [e1]; exact H.out.1, Or.inl ⟨rfl, rfl, rfl, rfl⟩, Below.refl _ _⟩
      have HK := Lib.hid hf
      rw [hf]
      clear hf hk HT
      have i1 : (0 : Int) ≤ (k : Int) := by omega
      go_wp2_with fail
      refine HF.out.mono ?_
      rintro e w1 ⟨rfl, rfl⟩
      rw [HK.out]
      go_wp2_with fail
      go_ret3
      exact HZ.out
end Go.Proofs.Ytcohjopbhopcgaa
