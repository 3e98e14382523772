import Derived.Test.YtlnndkilaklifaaZNUnion
import Derived.Test.YtlnndkilaklifaaZSAdd
namespace Go.Proofs.Ytlnndkilaklifaa
open Go.RowKit Go.Maps Go.WideElems Go.ChangeMaps Go.MapKept
set_option linter.unusedVariables false
set_option linter.unusedSimpArgs false

theorem step_append_own_at9 {P : Program} {ops : Array Oper} {o : Oper} {a : Act} {w : World} {K : Act → World → Prop} {Q : Exit → Act → World → Prop} {E : Prop} (hgd : o.guard = none) (s x : Operand) (t : TypeId)
    (ho : o.op = .call { callee := .builtin .append, args := #[s, x], argTypes := #[t, t] })
    (base : Nat) (e : TypeId) (i : TypeInfo) (z : Value) (size bytes : Nat) (ht : P.underlying t = some (.slice e)) (hi : P.info? e = some i) (hz : i.zero = some z)
    (hsize : i.size = size) (hby : i.bytes = bytes) (hzs : z.cells.size = size) (hsz : 0 < size)
    (v : Value) (n : Nat) (xs : List Value) (hs : a.eval s = v) (hown : w.ownsRow base e size v n xs)
    (ad : Addr) (m c : Nat) (news : List Value) (hx : a.eval x = .slice (some ad) m c) (hl : news.length = m * size) (hnews : ∀ j u, news[j]? = some u → w.cell? (ad.add j) = some u) (h1 : ∀ u ∈ news, u.oneCell' = true)
    (h63 : n + m ≤ maxLen) (hbytes : (n + m) * bytes ≤ 140737488355328) (hbase : base ≤ w.heap.size)
    (h : ∀ v' w', w'.ownsRow base e size v' (n + m) (xs ++ news) → w.grownBy w' v.ownBlock → (v'.ownBlock = v.ownBlock ∨ v'.ownBlock = some w.heap.size) → K (a.put o.dst v') w') :
    if Region.wanted o (yielded ops a.tmps) = true then Oper.wp P o a w K Q else E := by
  have hw : Region.wanted o (yielded ops a.tmps) = true := by simp [Region.wanted, hgd]
  rw [if_pos hw]
  obtain ⟨v', w', hr, h2, h3, _, h4⟩ := run_append_own_at (P := P) w base t o.type e i z size bytes ht hi hz hsize hby hzs hsz v n xs hown ad m c news hl hnews h1 h63 hbytes hbase
  unfold Oper.wp execOp
  simp only [ho, resolve, invoke, builtin, Sem.run_bind, Sem.run_pure, Result.andThen_ok, List.map_toArray, List.map_cons, List.map_nil, hs, hx, hr]
  exact h v' w' h2 h3 h4

set_option maxHeartbeats 2000000 in
set_option maxRecDepth 100000 in
theorem madd_any (V : World) (B : Nat) (bs : List Nat) (bm gI m M bM bn gM cM : Nat) (cs : Array Value) (mk : Nat → Int) (HV : NetMk V B bn gM M cM mk) (hmk : ∀ i, i < M → -1 ≤ mk i) (hc0 : cs[0]? = some (.pointer (some ⟨bn, 0, none⟩))) (hM : M ≤ 100000)
    (l : List Nat) (vL vS vK : Value) (k n : Nat) (ss : List ByteArray) (ms : List Int) (Q Q' : Value → Value → Prop) (s : ByteArray) (hs : s.size ≤ 100000) (hk : k ≤ 1000000) (hn : n ≤ 1000000) (hno : ∀ y, ¬ Q (.string s) y) (hQ1 : ∀ x y, Q x y → Q' x y) (hQ2 : Q' (.string s) (.int .i64 ((k : Nat) : Int))) (hQ3 : ∀ x y, Q' x y → x ≠ .string s → ∃ y', Q x y')
    (wr : World) (h : MkA V B bs bm gI m M cs l vL wr) (t : MkT V B bs bM cs vL k k n ss ms Q vS vK wr) :
    Calls Try.prog 75 #[.pointer (some ⟨bm, 0, none⟩), .string s] wr (AddPost V B bs bm gI m M bM cs l vL k n ss ms Q' s mk) := by
  obtain ⟨aS, cS, rfl⟩ := ownsRow_slice t.os
  obtain ⟨aK, cK, rfl⟩ := ownsRow_slice t.ok
  have c1 : wr.cell? ⟨bm, 259, none⟩ = some (.slice aS k cS) := (h.r.other 259 (by decide)).trans t.cS
  obtain ⟨kl, hkl⟩ : ∃ kl, keyOf Try.prog 9 (.string s) = some kl := ⟨_, Go.WideMaps.keyOf_string_mk Try.underlying9 (by unfold maxLen; omega)⟩
  have HH := Lib.hid (And.intro h t)
  have HV2 := Lib.hid (And.intro HV (And.intro hmk hc0))
  have HQ := Lib.hid (And.intro hQ1 (And.intro hQ2 (And.intro hQ3 hno)))
  obtain ⟨i0, hi, hz0, hz1, hz2⟩ := info_parts Try.info_int9
  obtain ⟨i1, hi1, hy0, hy1, hy2⟩ := info_parts Try.info_str9
  have hO := t.os
  have hB0 := h.r.hB
  clear h t HV hmk hc0 hQ1 hQ2 hQ3 hno
  go_enter Try.func75, Try.ntmps75
  go_wp2_with (at_builtin; refine wpList_append_own_at _ rfl _ _ 89 rfl B 9 i1 (.string ⟨#[]⟩) 1 16 Try.underlying89 hi1 hy0 hy1 hy2 rfl (by decide) _ _ _ rfl (hO.alloc _) ⟨wr.heap.size, 0, none⟩ 1 1 [.string s] rfl rfl (cell_one_new _ _ _) ?d2 ?d3 ?d4 ?d5 ?_)
  case d2 => intro u hu; simp at hu; subst hu; rfl
  case d3 => unfold maxLen; omega
  case d4 => omega
  case d5 => simp; omega
  intro v' w5 hown5 hgrow5 _ hat5
  obtain ⟨a5, c5, rfl⟩ := ownsRow_slice hown5
  have al1 := al wr (.cells #[.string s] 9)
  have hms := mk_sets (HH.out.1.keep al1) (HH.out.2.keep al1) (s := s) (vS' := .slice a5 (k + 1) c5) hown5 hgrow5 (by rw [show (wr.alloc (.cells #[.string s] 9)).heap.size = wr.heap.size + 1 by simp]; exact hat5)
  have hsm5 : St w5 93 bm _ := (HH.out.1.keep al1).r.sm.grown_own (HH.out.2.keep al1).os (by decide) hgrow5
  have p1 : w5.cell? ⟨bm, 259, none⟩ = some (.slice aS k cS) := by rw [hsm5.at_, Array.getElem?_setIfInBounds_ne (by decide)]; exact HH.out.2.cS
  have pf := hsm5.thaw_ 259
  have HS := Lib.hid hms
  have HM5 := hms.2.map
  have q1 : (w5.setCell ⟨bm, 259, none⟩ (.slice a5 (k + 1) c5)).cell? ⟨bm, 260, none⟩ = some (.map (some bM)) := (hms.1.r.other 260 (by decide)).trans hms.2.cM
  clear hown5 hgrow5 hat5 al1 hms hsm5 hO
  go_wp2_with (at_mapUpdate; refine wpList_store_new _ rfl _ _ _ 90 rfl 9 3 law_str9 Try.underlying90 bM n Q Q' rfl HM5 (by unfold maxLen; omega) _ _ kl rfl rfl hkl HQ.out.2.2.2 HQ.out.1 HQ.out.2.1 HQ.out.2.2.1 ?_)
  intro w6 hM6 hg6
  have hmm := mk_map HS.out.1 HS.out.2 hM6 hg6
  clear hM6 hg6 HM5 q1 p1 pf HS
  have HA3 : Hid (MkA V B bs bm gI m M (cs.setIfInBounds 259 (.slice a5 (k + 1) c5)) l vL w6.drew ∧ MkT V B bs bM (cs.setIfInBounds 259 (.slice a5 (k + 1) c5)) vL (k + 1) k (n + 1) (ss ++ [s]) ms Q' (.slice a5 (k + 1) c5) (.slice aK k cK) w6.drew) :=
    ⟨hmm.1.keep (Below.refl w6.heap.size w6).drew, hmm.2.keep (Below.refl w6.heap.size w6).drew⟩
  clear hmm
  generalize w6 = W3 at HA3 ⊢
  have e3 : W3.drew.cell? ⟨bm, 258, none⟩ = some (.slice aK k cK) := (HA3.out.1.r.other 258 (by decide)).trans HA3.out.2.cK
  have HSm := Lib.hid (smallest_any V B bs bm gI m M bn gM cM (cs.setIfInBounds 259 (.slice a5 (k + 1) c5)) mk HV2.out.1 HV2.out.2.1 (by rw [Array.getElem?_setIfInBounds_ne (by decide)]; exact HV2.out.2.2) hM l vL W3.drew HA3.out.1)
  go_wp2_with fail
  -- REG4
  refine wp_region_held_drew (S := fun _ => True) (by kernel_rfl) trivial (fun hHeld => ?_)
  (refine wpAnyH_take (i := 0) (oi := ?_) (v := ?_) ?_ (by kernel_rfl) (by kernel_rfl) (by kernel_rfl) ?_ (Or.inl ⟨?_, ?_⟩) (by assumption) ?_; rotate_left 2; (focus ((simp only [List.getElem?_toArray, List.getElem?_cons_zero]); first | done | rfl)); (focus (exact fun _ _ _ h => h)); (focus rfl); (focus (intro wz hSw; (try dsimp only at hSw); go_simp; first | done | with_reducible rfl)); try simp only [Act.put, List.setIfInBounds_toArray, List.set_cons_zero, List.set_cons_succ])
  (refine wpAnyH_take (i := 1) (oi := ?_) (v := ?_) ?_ (by kernel_rfl) (by kernel_rfl) (by kernel_rfl) ?_ (Or.inl ⟨?_, ?_⟩) (by assumption) ?_; rotate_left 2; (focus ((simp only [List.getElem?_toArray, List.getElem?_cons_succ, List.getElem?_cons_zero]); first | done | rfl)); (focus (exact fun _ _ _ h => h)); (focus rfl); (focus (intro wz hSw; (try dsimp only at hSw); go_simp; first | done | with_reducible rfl)); try simp only [Act.put, List.setIfInBounds_toArray, List.set_cons_zero, List.set_cons_succ])
  (refine wpAnyH_take (i := 2) (oi := ?_) (v := ?_) ?_ (by kernel_rfl) (by kernel_rfl) (by kernel_rfl) ?_ (Or.inl ⟨?_, ?_⟩) (by assumption) ?_; rotate_left 2; (focus ((simp only [List.getElem?_toArray, List.getElem?_cons_succ, List.getElem?_cons_zero]); first | done | rfl)); (focus (exact fun _ _ _ h => h)); (focus rfl); (focus (intro wz hSw; (try dsimp only at hSw); go_simp; first | done | with_reducible rfl)); try simp only [Act.put, List.setIfInBounds_toArray, List.set_cons_zero, List.set_cons_succ])
  (refine wpAnyH_take (i := 3) (oi := ?_) (v := ?_) ?_ (by kernel_rfl) (by kernel_rfl) (by kernel_rfl) ?_ (Or.inl ⟨?_, ?_⟩) (by assumption) ?_; rotate_left 2; (focus ((simp only [List.getElem?_toArray, List.getElem?_cons_succ, List.getElem?_cons_zero]); first | done | rfl)); (focus (exact fun _ _ _ h => h)); (focus rfl); (focus (intro wz hSw; (try dsimp only at hSw); go_simp; first | done | with_reducible rfl)); try simp only [Act.put, List.setIfInBounds_toArray, List.set_cons_zero, List.set_cons_succ])
  (refine wpAnyH_take (i := 4) (oi := ?_) (v := ?_) ?_ (by kernel_rfl) (by kernel_rfl) (by kernel_rfl) ?_ (Or.inl ⟨?_, ?_⟩) (by assumption) ?_; rotate_left 2; (focus ((simp only [List.getElem?_toArray, List.getElem?_cons_succ, List.getElem?_cons_zero]); first | done | rfl)); (focus (exact fun _ _ _ h => h)); (focus rfl); (focus (intro wz hSw; (try dsimp only at hSw); go_simp; first | done | with_reducible rfl)); try simp only [Act.put, List.setIfInBounds_toArray, List.set_cons_zero, List.set_cons_succ])
  (refine wpAnyH_take (i := 6) (oi := ?_) (v := ?_) ?_ (by kernel_rfl) (by kernel_rfl) (by kernel_rfl) ?_ (Or.inl ⟨?_, ?_⟩) (by assumption) ?_; rotate_left 2; (focus ((simp only [List.getElem?_toArray, List.getElem?_cons_succ, List.getElem?_cons_zero]); first | done | rfl)); (focus (exact fun _ _ _ h => h)); (focus rfl); (focus (intro wz hSw; (try dsimp only at hSw); go_simp; first | done | with_reducible rfl)); try simp only [Act.put, List.setIfInBounds_toArray, List.set_cons_zero, List.set_cons_succ])
  refine wpAnyH_ready (rs := [5, 7]) (by kernel_rfl) (by simp) ?_
  refine AllReadyH.cons (o := ?_) ?_ (fun K hK => ?_) ?_
  rotate_left
  (focus ((simp only [List.getElem?_toArray, List.getElem?_cons_succ, List.getElem?_cons_zero]); first | done | rfl))
  · skip
    go_simp
    refine hK.out _ _ trivial (fun hHeld => ?_)
    clear hK K
    try simp only [Act.put, List.setIfInBounds_toArray, List.set_cons_zero, List.set_cons_succ]
    refine wpAnyH_ready (rs := [7]) (by kernel_rfl) (by simp) ?_
    refine AllReadyH.cons (o := ?_) ?_ (fun K hK => ?_) ?_
    rotate_left
    (focus ((simp only [List.getElem?_toArray, List.getElem?_cons_succ, List.getElem?_cons_zero]); first | done | rfl))
    · skip
      go_simp
      go_at_call 83
      refine HSm.out.mono ?_
      rintro e w5 ⟨r, rfl, hr, rfl⟩
      have HR := Lib.hid hr
      clear hr
      try go_wp2_with fail
      refine hK.out _ _ trivial (fun hHeld => ?_)
      clear hK K
      try simp only [Act.put, List.setIfInBounds_toArray, List.set_cons_zero, List.set_cons_succ]
      refine wpAnyH_ready (rs := [8]) (by kernel_rfl) (by simp) ?_
      refine AllReadyH.cons (o := ?_) ?_ (fun K hK => ?_) ?_
      rotate_left
      (focus ((simp only [List.getElem?_toArray, List.getElem?_cons_succ, List.getElem?_cons_zero]); first | done | rfl))
      · skip
        go_simp
        have HA6 := Lib.hid (HA3.out.1.keep (al W3.drew (.cells #[.int .i64 r] 3)))
        have HT6 := Lib.hid (HA3.out.2.keep (al W3.drew (.cells #[.int .i64 r] 3)))
        have e6 : (W3.alloc (.cells #[.int .i64 r] 3)).cell? ⟨bm, 258, none⟩ = some (.slice aK k cK) := (HA6.out.r.other 258 (by decide)).trans HT6.out.cK
        refine hK.out _ _ trivial (fun hHeld => ?_)
        clear hK K
        try simp only [Act.put, List.setIfInBounds_toArray, List.set_cons_zero, List.set_cons_succ]
        refine wpAnyH_ready (rs := [9]) (by kernel_rfl) (by simp) ?_
        refine AllReadyH.cons (o := ?_) ?_ (fun K hK => ?_) ?_
        rotate_left
        (focus ((simp only [List.getElem?_toArray, List.getElem?_cons_succ, List.getElem?_cons_zero]); first | done | rfl))
        · skip
          skip
          refine step_append_own_at9 (by rfl) _ _ _ (by rfl) B 3 i0 (.int .i64 0) 1 8 Try.underlying25 hi hz0 hz1 hz2 (by rfl) (by decide) _ k (ints ms) (by rfl) HT6.out.ok ⟨W3.heap.size, 0, none⟩ 1 1 (#[.int .i64 r]).toList (by rfl) (by rfl) (World.news_of_block (cs := #[.int .i64 r]) (t := 3) (fr := (0, 0)) (heap_alloc_new W3.drew _)) (by simp [Value.oneCell']) (by unfold maxLen; omega) (by omega) HA6.out.r.hB ?_
          intro v6 w6 hown6 hgrow6 hat6
          obtain ⟨a6, c6, rfl⟩ := ownsRow_slice hown6
          have hmk := mk_marks HA6.out HT6.out (r := r) (vK' := .slice a6 (k + 1) c6) hown6 hgrow6 hat6
          have hsm6 : St w6 93 bm _ := HA6.out.r.sm.grown_own HT6.out.ok (by decide) hgrow6
          have t3 : w6.cell? ⟨bm, 258, none⟩ = some (.slice aK k cK) := by rw [hsm6.at_, Array.getElem?_setIfInBounds_ne (by decide)]; exact HT6.out.cK
          have f3 := hsm6.thaw_ 258
          have HF : Hid (AddPost V B bs bm gI m M bM cs l vL k n ss ms Q' s mk (.returned (.int .i64 ((k : Nat) : Int))) (w6.setCell ⟨bm, 258, none⟩ (.slice a6 (k + 1) c6))) := ⟨r, _, _, rfl, HR.out, hmk.1, hmk.2⟩
          refine hK.out _ _ trivial (fun hHeld => ?_)
          clear hK K hown6 hgrow6 hat6 hmk hsm6
          try simp only [Act.put, List.setIfInBounds_toArray, List.set_cons_zero, List.set_cons_succ]
          (refine wpAnyH_take (i := 10) (oi := ?_) (v := ?_) ?_ (by kernel_rfl) (by kernel_rfl) (by kernel_rfl) ?_ (Or.inl ⟨?_, ?_⟩) (by assumption) ?_; rotate_left 2; (focus ((simp only [List.getElem?_toArray, List.getElem?_cons_succ, List.getElem?_cons_zero]); first | done | rfl)); (focus (exact fun _ _ _ h => h)); (focus rfl); (focus (intro wz hSw; (try dsimp only at hSw); go_simp; first | done | with_reducible rfl)); try simp only [Act.put, List.setIfInBounds_toArray, List.set_cons_zero, List.set_cons_succ])
          (refine wpAnyH_take (i := 11) (oi := ?_) (v := ?_) ?_ (by kernel_rfl) (by kernel_rfl) (by kernel_rfl) ?_ (Or.inl ⟨?_, ?_⟩) (by assumption) ?_; rotate_left 2; (focus ((simp only [List.getElem?_toArray, List.getElem?_cons_succ, List.getElem?_cons_zero]); first | done | rfl)); (focus (exact fun _ _ _ h => h)); (focus rfl); (focus (intro wz hSw; (try dsimp only at hSw); go_simp; first | done | with_reducible rfl)); try simp only [Act.put, List.setIfInBounds_toArray, List.set_cons_zero, List.set_cons_succ])
          (refine wpAnyH_take (i := 12) (oi := ?_) (v := ?_) ?_ (by kernel_rfl) (by kernel_rfl) (by kernel_rfl) ?_ (Or.inl ⟨?_, ?_⟩) (by assumption) ?_; rotate_left 2; (focus ((simp only [List.getElem?_toArray, List.getElem?_cons_succ, List.getElem?_cons_zero]); first | done | rfl)); (focus (exact fun _ _ _ h => h)); (focus rfl); (focus (intro wz hSw; (try dsimp only at hSw); go_simp; first | done | with_reducible rfl)); try simp only [Act.put, List.setIfInBounds_toArray, List.set_cons_zero, List.set_cons_succ])
          refine wpAnyH_ready (rs := [13]) (by kernel_rfl) (by simp) ?_
          refine AllReadyH.cons (o := ?_) ?_ (fun K hK => ?_) ?_
          rotate_left
          (focus ((simp only [List.getElem?_toArray, List.getElem?_cons_succ, List.getElem?_cons_zero]); first | done | rfl))
          · skip
            go_simp
            refine hK.out _ _ trivial (fun hHeld => ?_)
            clear hK K
            try simp only [Act.put, List.setIfInBounds_toArray, List.set_cons_zero, List.set_cons_succ]
            refine wpAnyH_done (by kernel_rfl) ?_ _
            clear hHeld
            go_wp2_with fail
            go_ret
            exact HF.out
          exact AllReadyH.nil
        exact AllReadyH.nil
      exact AllReadyH.nil
    exact AllReadyH.nil
  refine AllReadyH.cons (o := ?_) ?_ (fun K hK => ?_) ?_
  rotate_left
  (focus ((simp only [List.getElem?_toArray, List.getElem?_cons_succ, List.getElem?_cons_zero]); first | done | rfl))
  · skip
    go_simp
    go_at_call 83
    refine HSm.out.mono ?_
    rintro e w5 ⟨r, rfl, hr, rfl⟩
    have HR := Lib.hid hr
    clear hr
    try go_wp2_with fail
    refine hK.out _ _ trivial (fun hHeld => ?_)
    clear hK K
    try simp only [Act.put, List.setIfInBounds_toArray, List.set_cons_zero, List.set_cons_succ]
    refine wpAnyH_ready (rs := [5, 8]) (by kernel_rfl) (by simp) ?_
    refine AllReadyH.cons (o := ?_) ?_ (fun K hK => ?_) ?_
    rotate_left
    (focus ((simp only [List.getElem?_toArray, List.getElem?_cons_succ, List.getElem?_cons_zero]); first | done | rfl))
    · skip
      go_simp
      refine hK.out _ _ trivial (fun hHeld => ?_)
      clear hK K
      try simp only [Act.put, List.setIfInBounds_toArray, List.set_cons_zero, List.set_cons_succ]
      refine wpAnyH_ready (rs := [8]) (by kernel_rfl) (by simp) ?_
      refine AllReadyH.cons (o := ?_) ?_ (fun K hK => ?_) ?_
      rotate_left
      (focus ((simp only [List.getElem?_toArray, List.getElem?_cons_succ, List.getElem?_cons_zero]); first | done | rfl))
      · skip
        go_simp
        have HA6 := Lib.hid (HA3.out.1.keep (al W3.drew (.cells #[.int .i64 r] 3)))
        have HT6 := Lib.hid (HA3.out.2.keep (al W3.drew (.cells #[.int .i64 r] 3)))
        have e6 : (W3.alloc (.cells #[.int .i64 r] 3)).cell? ⟨bm, 258, none⟩ = some (.slice aK k cK) := (HA6.out.r.other 258 (by decide)).trans HT6.out.cK
        refine hK.out _ _ trivial (fun hHeld => ?_)
        clear hK K
        try simp only [Act.put, List.setIfInBounds_toArray, List.set_cons_zero, List.set_cons_succ]
        refine wpAnyH_ready (rs := [9]) (by kernel_rfl) (by simp) ?_
        refine AllReadyH.cons (o := ?_) ?_ (fun K hK => ?_) ?_
        rotate_left
        (focus ((simp only [List.getElem?_toArray, List.getElem?_cons_succ, List.getElem?_cons_zero]); first | done | rfl))
        · skip
          skip
          refine step_append_own_at9 (by rfl) _ _ _ (by rfl) B 3 i0 (.int .i64 0) 1 8 Try.underlying25 hi hz0 hz1 hz2 (by rfl) (by decide) _ k (ints ms) (by rfl) HT6.out.ok ⟨W3.heap.size, 0, none⟩ 1 1 (#[.int .i64 r]).toList (by rfl) (by rfl) (World.news_of_block (cs := #[.int .i64 r]) (t := 3) (fr := (0, 0)) (heap_alloc_new W3.drew _)) (by simp [Value.oneCell']) (by unfold maxLen; omega) (by omega) HA6.out.r.hB ?_
          intro v6 w6 hown6 hgrow6 hat6
          obtain ⟨a6, c6, rfl⟩ := ownsRow_slice hown6
          have hmk := mk_marks HA6.out HT6.out (r := r) (vK' := .slice a6 (k + 1) c6) hown6 hgrow6 hat6
          have hsm6 : St w6 93 bm _ := HA6.out.r.sm.grown_own HT6.out.ok (by decide) hgrow6
          have t3 : w6.cell? ⟨bm, 258, none⟩ = some (.slice aK k cK) := by rw [hsm6.at_, Array.getElem?_setIfInBounds_ne (by decide)]; exact HT6.out.cK
          have f3 := hsm6.thaw_ 258
          have HF : Hid (AddPost V B bs bm gI m M bM cs l vL k n ss ms Q' s mk (.returned (.int .i64 ((k : Nat) : Int))) (w6.setCell ⟨bm, 258, none⟩ (.slice a6 (k + 1) c6))) := ⟨r, _, _, rfl, HR.out, hmk.1, hmk.2⟩
          refine hK.out _ _ trivial (fun hHeld => ?_)
          clear hK K hown6 hgrow6 hat6 hmk hsm6
          try simp only [Act.put, List.setIfInBounds_toArray, List.set_cons_zero, List.set_cons_succ]
          (refine wpAnyH_take (i := 10) (oi := ?_) (v := ?_) ?_ (by kernel_rfl) (by kernel_rfl) (by kernel_rfl) ?_ (Or.inl ⟨?_, ?_⟩) (by assumption) ?_; rotate_left 2; (focus ((simp only [List.getElem?_toArray, List.getElem?_cons_succ, List.getElem?_cons_zero]); first | done | rfl)); (focus (exact fun _ _ _ h => h)); (focus rfl); (focus (intro wz hSw; (try dsimp only at hSw); go_simp; first | done | with_reducible rfl)); try simp only [Act.put, List.setIfInBounds_toArray, List.set_cons_zero, List.set_cons_succ])
          (refine wpAnyH_take (i := 11) (oi := ?_) (v := ?_) ?_ (by kernel_rfl) (by kernel_rfl) (by kernel_rfl) ?_ (Or.inl ⟨?_, ?_⟩) (by assumption) ?_; rotate_left 2; (focus ((simp only [List.getElem?_toArray, List.getElem?_cons_succ, List.getElem?_cons_zero]); first | done | rfl)); (focus (exact fun _ _ _ h => h)); (focus rfl); (focus (intro wz hSw; (try dsimp only at hSw); go_simp; first | done | with_reducible rfl)); try simp only [Act.put, List.setIfInBounds_toArray, List.set_cons_zero, List.set_cons_succ])
          (refine wpAnyH_take (i := 12) (oi := ?_) (v := ?_) ?_ (by kernel_rfl) (by kernel_rfl) (by kernel_rfl) ?_ (Or.inl ⟨?_, ?_⟩) (by assumption) ?_; rotate_left 2; (focus ((simp only [List.getElem?_toArray, List.getElem?_cons_succ, List.getElem?_cons_zero]); first | done | rfl)); (focus (exact fun _ _ _ h => h)); (focus rfl); (focus (intro wz hSw; (try dsimp only at hSw); go_simp; first | done | with_reducible rfl)); try simp only [Act.put, List.setIfInBounds_toArray, List.set_cons_zero, List.set_cons_succ])
          refine wpAnyH_ready (rs := [13]) (by kernel_rfl) (by simp) ?_
          refine AllReadyH.cons (o := ?_) ?_ (fun K hK => ?_) ?_
          rotate_left
          (focus ((simp only [List.getElem?_toArray, List.getElem?_cons_succ, List.getElem?_cons_zero]); first | done | rfl))
          · skip
            go_simp
            refine hK.out _ _ trivial (fun hHeld => ?_)
            clear hK K
            try simp only [Act.put, List.setIfInBounds_toArray, List.set_cons_zero, List.set_cons_succ]
            refine wpAnyH_done (by kernel_rfl) ?_ _
            clear hHeld
            go_wp2_with fail
            go_ret
            exact HF.out
          exact AllReadyH.nil
        exact AllReadyH.nil
      exact AllReadyH.nil
    refine AllReadyH.cons (o := ?_) ?_ (fun K hK => ?_) ?_
    rotate_left
    (focus ((simp only [List.getElem?_toArray, List.getElem?_cons_succ, List.getElem?_cons_zero]); first | done | rfl))
    · skip
      go_simp
      have HA6 := Lib.hid (HA3.out.1.keep (al W3.drew (.cells #[.int .i64 r] 3)))
      have HT6 := Lib.hid (HA3.out.2.keep (al W3.drew (.cells #[.int .i64 r] 3)))
      have e6 : (W3.alloc (.cells #[.int .i64 r] 3)).cell? ⟨bm, 258, none⟩ = some (.slice aK k cK) := (HA6.out.r.other 258 (by decide)).trans HT6.out.cK
      refine hK.out _ _ trivial (fun hHeld => ?_)
      clear hK K
      try simp only [Act.put, List.setIfInBounds_toArray, List.set_cons_zero, List.set_cons_succ]
      refine wpAnyH_ready (rs := [5]) (by kernel_rfl) (by simp) ?_
      refine AllReadyH.cons (o := ?_) ?_ (fun K hK => ?_) ?_
      rotate_left
      (focus ((simp only [List.getElem?_toArray, List.getElem?_cons_succ, List.getElem?_cons_zero]); first | done | rfl))
      · skip
        go_simp
        refine hK.out _ _ trivial (fun hHeld => ?_)
        clear hK K
        try simp only [Act.put, List.setIfInBounds_toArray, List.set_cons_zero, List.set_cons_succ]
        refine wpAnyH_ready (rs := [9]) (by kernel_rfl) (by simp) ?_
        refine AllReadyH.cons (o := ?_) ?_ (fun K hK => ?_) ?_
        rotate_left
        (focus ((simp only [List.getElem?_toArray, List.getElem?_cons_succ, List.getElem?_cons_zero]); first | done | rfl))
        · skip
          skip
          refine step_append_own_at9 (by rfl) _ _ _ (by rfl) B 3 i0 (.int .i64 0) 1 8 Try.underlying25 hi hz0 hz1 hz2 (by rfl) (by decide) _ k (ints ms) (by rfl) HT6.out.ok ⟨W3.heap.size, 0, none⟩ 1 1 (#[.int .i64 r]).toList (by rfl) (by rfl) (World.news_of_block (cs := #[.int .i64 r]) (t := 3) (fr := (0, 0)) (heap_alloc_new W3.drew _)) (by simp [Value.oneCell']) (by unfold maxLen; omega) (by omega) HA6.out.r.hB ?_
          intro v6 w6 hown6 hgrow6 hat6
          obtain ⟨a6, c6, rfl⟩ := ownsRow_slice hown6
          have hmk := mk_marks HA6.out HT6.out (r := r) (vK' := .slice a6 (k + 1) c6) hown6 hgrow6 hat6
          have hsm6 : St w6 93 bm _ := HA6.out.r.sm.grown_own HT6.out.ok (by decide) hgrow6
          have t3 : w6.cell? ⟨bm, 258, none⟩ = some (.slice aK k cK) := by rw [hsm6.at_, Array.getElem?_setIfInBounds_ne (by decide)]; exact HT6.out.cK
          have f3 := hsm6.thaw_ 258
          have HF : Hid (AddPost V B bs bm gI m M bM cs l vL k n ss ms Q' s mk (.returned (.int .i64 ((k : Nat) : Int))) (w6.setCell ⟨bm, 258, none⟩ (.slice a6 (k + 1) c6))) := ⟨r, _, _, rfl, HR.out, hmk.1, hmk.2⟩
          refine hK.out _ _ trivial (fun hHeld => ?_)
          clear hK K hown6 hgrow6 hat6 hmk hsm6
          try simp only [Act.put, List.setIfInBounds_toArray, List.set_cons_zero, List.set_cons_succ]
          (refine wpAnyH_take (i := 10) (oi := ?_) (v := ?_) ?_ (by kernel_rfl) (by kernel_rfl) (by kernel_rfl) ?_ (Or.inl ⟨?_, ?_⟩) (by assumption) ?_; rotate_left 2; (focus ((simp only [List.getElem?_toArray, List.getElem?_cons_succ, List.getElem?_cons_zero]); first | done | rfl)); (focus (exact fun _ _ _ h => h)); (focus rfl); (focus (intro wz hSw; (try dsimp only at hSw); go_simp; first | done | with_reducible rfl)); try simp only [Act.put, List.setIfInBounds_toArray, List.set_cons_zero, List.set_cons_succ])
          (refine wpAnyH_take (i := 11) (oi := ?_) (v := ?_) ?_ (by kernel_rfl) (by kernel_rfl) (by kernel_rfl) ?_ (Or.inl ⟨?_, ?_⟩) (by assumption) ?_; rotate_left 2; (focus ((simp only [List.getElem?_toArray, List.getElem?_cons_succ, List.getElem?_cons_zero]); first | done | rfl)); (focus (exact fun _ _ _ h => h)); (focus rfl); (focus (intro wz hSw; (try dsimp only at hSw); go_simp; first | done | with_reducible rfl)); try simp only [Act.put, List.setIfInBounds_toArray, List.set_cons_zero, List.set_cons_succ])
          (refine wpAnyH_take (i := 12) (oi := ?_) (v := ?_) ?_ (by kernel_rfl) (by kernel_rfl) (by kernel_rfl) ?_ (Or.inl ⟨?_, ?_⟩) (by assumption) ?_; rotate_left 2; (focus ((simp only [List.getElem?_toArray, List.getElem?_cons_succ, List.getElem?_cons_zero]); first | done | rfl)); (focus (exact fun _ _ _ h => h)); (focus rfl); (focus (intro wz hSw; (try dsimp only at hSw); go_simp; first | done | with_reducible rfl)); try simp only [Act.put, List.setIfInBounds_toArray, List.set_cons_zero, List.set_cons_succ])
          refine wpAnyH_ready (rs := [13]) (by kernel_rfl) (by simp) ?_
          refine AllReadyH.cons (o := ?_) ?_ (fun K hK => ?_) ?_
          rotate_left
          (focus ((simp only [List.getElem?_toArray, List.getElem?_cons_succ, List.getElem?_cons_zero]); first | done | rfl))
          · skip
            go_simp
            refine hK.out _ _ trivial (fun hHeld => ?_)
            clear hK K
            try simp only [Act.put, List.setIfInBounds_toArray, List.set_cons_zero, List.set_cons_succ]
            refine wpAnyH_done (by kernel_rfl) ?_ _
            clear hHeld
            go_wp2_with fail
            go_ret
            exact HF.out
          exact AllReadyH.nil
        exact AllReadyH.nil
      exact AllReadyH.nil
    exact AllReadyH.nil
  exact AllReadyH.nil
  -- END4
end Go.Proofs.Ytlnndkilaklifaa
