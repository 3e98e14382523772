import Derived.Test.YtlnndkilaklifaaZConv
import Derived.Test.YtlnndkilaklifaaZSAddAny
namespace Go.Proofs.Ytlnndkilaklifaa
open Go.RowKit Go.Maps Go.WideElems Go.ChangeMaps Go.MapKept
set_option linter.unusedVariables false
set_option linter.unusedSimpArgs false

/-- The blocks that a gathering changes. -/
def bsOf (bm gI : Nat) (vL : Value) : List Nat := bm :: gI :: vL.ownBlock.toList
theorem MkR.base {V wr : World} {B bm gI m : Nat} {bs : List Nat} {cs : Array Value} {P : Nat → Bool} {l : List Nat} {vL : Value} (h : MkR V B bs bm gI m cs P l vL wr) : MkR wr B (bsOf bm gI vL) bm gI m cs P l vL wr :=
  ⟨Kept.refl _ _ _, Below.refl _ _, h.sm, h.sz, h.cI, h.inn, h.lst, fun b e => Or.inl (by simp [bsOf, e]), ⟨by simp [bsOf], by simp [bsOf]⟩, h.lo.1, h.lo.2.1, h.hB⟩
theorem MkR.back {V wr w3 : World} {B bm gI m : Nat} {bs : List Nat} {cs cs' : Array Value} {P P' : Nat → Bool} {l l' : List Nat} {vL vL' : Value} (h : MkR V B bs bm gI m cs P l vL wr) (h' : MkR wr B (bsOf bm gI vL) bm gI m cs' P' l' vL' w3) : MkR V B bs bm gI m cs' P' l' vL' w3 := by
  have hsz := h.below.size
  refine ⟨fun k o hk ho hn => h'.kept k o (h.kept k o hk ho hn) ho (fun hm => ?_), h.below.trans h'.below, h'.sm, h'.sz, h'.cI, h'.inn, h'.lst, fun b e => ?_, h.inb, h.lo⟩
  · simp only [bsOf, List.mem_cons, Option.mem_toList] at hm
    rcases hm with rfl | rfl | hm
    · exact hn h.inb.1
    · exact hn h.inb.2
    · rcases h.loc k hm with h1 | h1
      · exact hn h1
      · have := (Array.getElem?_eq_some_iff.1 hk).1
        omega
  · rcases h'.loc b e with hm | hm
    · simp only [bsOf, List.mem_cons, Option.mem_toList] at hm
      rcases hm with rfl | rfl | hm
      · exact Or.inl h.inb.1
      · exact Or.inl h.inb.2
      · exact h.loc b hm
    · exact Or.inr (by omega)
theorem MkT.over {V wr w3 : World} {B bm gI m bM k q n : Nat} {bs : List Nat} {cs : Array Value} {P P' : Nat → Bool} {l l' : List Nat} {vL vL' vS vK : Value} {ss : List ByteArray} {ms : List Int} {Q : Value → Value → Prop} (h : MkR V B bs bm gI m cs P l vL wr) (t : MkT V B bs bM cs vL k q n ss ms Q vS vK wr)
    (h' : MkR wr B (bsOf bm gI vL) bm gI m cs P' l' vL' w3) : MkT V B bs bM cs vL' k q n ss ms Q vS vK w3 := by
  have hn : ∀ {t' n' : Nat} {v : Value} {xs : List Value}, wr.ownsRow B t' 1 v n' xs → t' ≠ 93 → t' ≠ 5 → (∀ b, vL.ownBlock = some b → v.ownBlock ≠ some b) → ∀ g, v.ownBlock = some g → g ∉ bsOf bm gI vL := by
    intro t' n' v xs ho h1 h2 h3 g hg hm
    simp only [bsOf, List.mem_cons, Option.mem_toList] at hm
    rcases hm with rfl | rfl | hm
    · exact own_ne ho h.sm h1 g hg rfl
    · exact own_kinds ho h.inn h2 g hg rfl
    · exact h3 g hm hg
  refine ⟨t.cK, t.cS, t.cM, own_kept t.os h'.kept (by simp) (hn t.os (by decide) (by decide) (fun b e1 e2 => own_kinds h.lst t.os (by decide) b e1 e2)), own_kept t.ok h'.kept (by simp) (hn t.ok (by decide) (by decide) t.sep), t.map.kept h'.kept ?_, fun b e1 e2 => ?_, t.lS, t.lK, t.lM⟩
  · simp only [bsOf, List.mem_cons, Option.mem_toList]
    rintro (e | e | e)
    · exact map_ne_st t.map h.sm e.symm
    · exact map_ne_own t.map h.inn gI rfl e.symm
    · exact map_ne_own t.map h.lst bM e rfl
  · rcases h'.loc b e1 with hm | hm
    · exact hn t.ok (by decide) (by decide) t.sep b e2 hm
    · obtain ⟨c, fz, hc⟩ := own_kind t.ok b e2
      have := (Array.getElem?_eq_some_iff.1 hc).1
      omega

/-- The text of a set. -/
def txt (M : Nat) (f : Nat → Bool) : ByteArray := strOf (keyL f M)
theorem txt_eq (M : Nat) (f g : Nat → Bool) : txt M f = txt M g ↔ ∀ x, x < M → f x = g x := by
  constructor
  · intro h
    exact (keyL_eq f g M).1 (bytes_inj (keyL_small _ M) (keyL_small _ M) (by rw [← strOf_list, ← strOf_list]; exact congrArg (fun s : ByteArray => s.data.toList) h))
  · intro h
    unfold txt
    rw [(keyL_eq f g M).2 h]
/-- The map's entries. -/
def MQ (M : Nat) (D : List ((Nat → Bool) × Nat)) (x y : Value) : Prop := ∃ p ∈ D, x = .string (txt M p.1) ∧ y = .int .i64 ((p.2 : Nat) : Int)
/-- What was found so far: sets, marks, entries. -/
structure Inv (L : List En) (M : Nat) (mk : Nat → Int) (SS : List (Nat → Bool)) (ms : List Int) (D : List ((Nat → Bool) × Nat)) : Prop where
  own : ∀ j (h : j < SS.length), (SS[j], j) ∈ D
  ent : ∀ p ∈ D, ∃ h : p.2 < SS.length, ∀ x, x < M → (SS[p.2] x = true ↔ FR L (fun y => y < M ∧ p.1 y = true) x)
  len : ms.length = SS.length
  mks : ∀ j (h : j < SS.length) (h2 : j < ms.length), Least mk (fun x => x < M ∧ SS[j] x = true) ms[j]
theorem rowL_key (f : Nat → Bool) (M m : Nat) (hm : (M + 7) / 8 = m) (h : ∀ x, f x = true → x < M) : rowL f m = keyL f M := by
  unfold rowL keyL
  rw [hm]
  refine List.map_congr_left fun j _ => by8_congr fun k _ => ?_
  by_cases e : 8 * j + k < M
  · simp [upTo, e]
  · have : f (8 * j + k) = false := by
      cases hf : f (8 * j + k) with
      | false => rfl
      | true => exact absurd (h _ hf) e
    simp [upTo, e, this]
theorem MkR.kback {V wr W : World} {B bm gI m : Nat} {bs : List Nat} {cs : Array Value} {P : Nat → Bool} {l : List Nat} {vL : Value} (h : MkR V B bs bm gI m cs P l vL wr) (k : Kept [] (bsOf bm gI vL) wr W) : Kept [] bs V W := fun k0 o hk ho hn => k k0 o (h.kept k0 o hk ho hn) ho (fun hm => by
  simp only [bsOf, List.mem_cons, Option.mem_toList] at hm
  rcases hm with rfl | rfl | hm
  · exact hn h.inb.1
  · exact hn h.inb.2
  · rcases h.loc k0 hm with h1 | h1
    · exact hn h1
    · have := (Array.getElem?_eq_some_iff.1 hk).1
      omega)
theorem FR.idem {L : List En} {A : Nat → Prop} (x : Nat) : FR L (FR L A) x ↔ FR L A x := by
  constructor
  · intro k
    induction k with
    | base h => exact h
    | step e _ h1 h2 h3 h4 ih => exact .step e ih h1 h2 h3 h4
  · exact .base
set_option maxRecDepth 100000 in
/-- The same entry once more. -/
theorem MapEx.again {w : World} {k t e : TypeId} {b n : Nat} {Q : Value → Value → Prop} (h : MapEx w k b n Q) (K : Keyed Try.prog k) (ht : Try.prog.underlying t = some (.map k e))
    {key val : Value} {kl : Lit} (hkey : keyOf Try.prog k key = some kl) (hv : Q key val) : ∃ w', (Instr.mapUpdate t (.map (some b)) key val).run Try.prog w = .ok () w' ∧ MapEx w' k b n Q ∧ w.grownBy w' (some b) := by
  obtain ⟨es, clock, hb, F, hs, hq, hall⟩ := h
  obtain ⟨F1, _, _⟩ := F.stay (R' := anyR) (fun x hx z hz => hz)
  rcases K.find w hkey es.toList F.keys with ⟨h1, h2⟩ | ⟨j, e0, h1, h2, h3⟩
  · obtain ⟨e1, h4, h5⟩ := hall _ _ hv
    exact absurd h5 (h2 e1 h4)
  · have hj : es[j]? = some e0 := by simpa using h2
    have hkeyf : ∀ e', es[j]? = some e' → ({ e' with key := key, val := val } : MapEntry).key = e'.key := fun e' he' => by rw [hj] at he'; cases he'; exact h3.symm
    have hlist : (es.modify j (fun e' => { e' with key := key, val := val })).toList = es.toList.set j { e0 with key := key, val := val } := by rw [Array.toList_modify, modify_eq_set _ _ _ _ h2]
    have who : ∀ x ∈ es.toList.set j { e0 with key := key, val := val }, x = { e0 with key := key, val := val } ∨ x ∈ es.toList := by
      intro x hx
      rcases List.mem_or_eq_of_mem_set hx with h | h
      · exact Or.inr h
      · exact Or.inl h
    have hrd : ∀ bn, WideElems.rd Try.prog k anyR ⟨key, val, bn⟩ = some (kl, .held val) := fun bn => by unfold WideElems.rd anyR; rw [hkey]; rfl
    refine ⟨setBlock w b (.map (es.modify j (fun e' => { e' with key := key, val := val })) clock), ?_, ⟨es.modify j (fun e' => { e' with key := key, val := val }), clock, heap_setBlock_same hb _, ⟨by simpa using F.size, stamped_modify F.stamped _ _ (fun _ _ => rfl) (fun e' _ he' => hkeyf e' he'), ?_⟩, by simpa using hs, fun x hx => ?_, fun x y hx => ?_⟩, ⟨rfl, rfl, rfl, by simp [setBlock], fun i _ hi => heap_setBlock_other hb _ (fun e => hi (by rw [e]))⟩⟩
    · simp [Instr.mapUpdate, run_underlying ht, MapKept.run_getObj_map hb, K.check w false hkey, h1, hj, h3, K.stays w hkey, MapKept.run_setObj_map _ hb, Result.andThen, setBlock]
    · intro x hx
      rw [hlist] at hx
      rcases who x hx with rfl | hx'
      · exact ⟨_, hrd _⟩
      · exact F1.reads x hx'
    · rw [hlist] at hx
      rcases who x hx with rfl | hx'
      · exact hv
      · exact hq x hx'
    · obtain ⟨e1, h4, h5⟩ := hall x y hx
      rw [hlist]
      obtain ⟨i, hi, ei⟩ := List.getElem_of_mem h4
      by_cases eij : i = j
      · refine ⟨{ e0 with key := key, val := val }, List.mem_set (by rw [← eij]; exact hi) _, ?_⟩
        subst eij
        rw [List.getElem?_eq_getElem hi, ei] at h2
        injection h2 with h2
        rw [← h5, h2]
        exact h3.symm
      · exact ⟨e1, by
          have : (es.toList.set j { e0 with key := key, val := val })[i]? = some e1 := by
            rw [List.getElem?_set_ne (fun e => eij e.symm), List.getElem?_eq_getElem hi, ei]
          exact List.mem_of_getElem? this, h5⟩
def ClPost (V : World) (B : Nat) (bs : List Nat) (bm gI m M bM : Nat) (cs : Array Value) (L : List En) (mk : Nat → Int) (SS : List (Nat → Bool)) (st : List Nat) (n : Nat) (e : Ending) (w' : World) : Prop :=
  ∃ (j : Nat) (SS' : List (Nat → Bool)) (ms' : List Int) (D' : List ((Nat → Bool) × Nat)) (vL' vS' vK' : Value) (cs' : Array Value) (l' : List Nat) (n' : Nat), e = .returned (.int .i64 ((j : Nat) : Int)) ∧ MkA V B bs bm gI m M cs' l' vL' w' ∧
    MkT V B bs bM cs' vL' SS'.length SS'.length n' (SS'.map (txt M)) ms' (MQ M D') vS' vK' w' ∧ Inv L M mk SS' ms' D' ∧ n' + 2 * SS.length ≤ n + 2 * SS'.length ∧ (∀ i, i ≠ 258 → i ≠ 259 → cs'[i]? = cs[i]?) ∧ (∃ h : j < SS'.length, ∀ x, x < M → (SS'[j] x = true ↔ FR L (fun y => y ∈ st) x)) ∧
    (SS' = SS ∨ ∃ f, SS' = SS ++ [f] ∧ j = SS.length ∧ ∀ i (h : i < SS.length), ∃ x, x < M ∧ SS[i] x ≠ f x)

set_option maxHeartbeats 2000000 in
set_option maxRecDepth 100000 in
theorem closeOf_any (V : World) (B : Nat) (bs : List Nat) (bm gI m M bM bn gM cM gF cF : Nat) (aF : Nat → Option Addr) (cR : Nat → Nat) (L : List En) (HF : NetFr V B bn gF M cF aF cR L) (hE : ∀ e ∈ L, e.f < M ∧ e.t < M) (hLl : L.length ≤ 1000) (cs : Array Value) (mk : Nat → Int) (HV : NetMk V B bn gM M cM mk) (hmk : ∀ i, i < M → -1 ≤ mk i) (hc0 : cs[0]? = some (.pointer (some ⟨bn, 0, none⟩))) (hM : M ≤ 100000) (hm : (M + 7) / 8 = m)
    (P : Nat → Bool) (l : List Nat) (vL vS vK : Value) (n : Nat) (SS : List (Nat → Bool)) (ms : List Int) (D : List ((Nat → Bool) × Nat)) (hk : SS.length ≤ 100000) (hn : n ≤ 100000) (hll : l.length ≤ 100000)
    (a : Option Addr) (q c : Nat) (st : List Nat) (hst : st.length = q) (hq : q ≤ 1000000) (hlt : ∀ x ∈ st, x < M) (hr : ∀ W, Kept [] bs V W → IAt W W.heap.size a st)
    (wr : World) (h : MkR V B bs bm gI m cs P l vL wr) (t : MkT V B bs bM cs vL SS.length SS.length n (SS.map (txt M)) ms (MQ M D) vS vK wr) (inv : Inv L M mk SS ms D) :
    Calls Try.prog 62 #[.pointer (some ⟨bm, 0, none⟩), .slice a q c] wr (ClPost V B bs bm gI m M bM cs L mk SS st n) := by
  have HH := Lib.hid (And.intro h (And.intro t inv))
  have HN := Lib.hid (And.intro HF (And.intro hE (And.intro HV (And.intro hmk (And.intro hc0 hm)))))
  have HG := Lib.hid (mgather_any wr B (bsOf bm gI vL) bm gI m M cs P l vL wr h.base hM hm (by omega) a q c st hst hq hlt (fun W hW => hr W (h.kback hW)))
  clear h t inv HF hE HV hmk hc0 hst hlt hr
  go_enter Try.func62, Try.ntmps62
  go_wp2_with fail
  refine HG.out.mono ?_
  rintro e w2 ⟨l2, vL2, rfl, h2, hl2⟩
  obtain ⟨f2, hf2⟩ : ∃ f2 : Nat → Bool, (fun x => decide (x ∈ l2)) = f2 := ⟨_, rfl⟩
  have h2d := h2.keep (Below.refl w2.heap.size w2).drew
  have t2d := MkT.over HH.out.1 HH.out.2.1 h2d.r
  have hf2M : ∀ x, f2 x = true → x < M := fun x hx => h2.lt x (by rw [← hf2] at hx; simpa using hx)
  have hcv : (convert 91 9 (.slice (some ⟨gI, 0, none⟩) m m)).run Try.prog w2.drew = .ok (.string (txt M f2)) w2.drew := by
    have := conv_any (l := rowL f2 m) (by have := h2d.r.inn; rw [hf2] at this; exact this) (by rw [rowL_length])
    rw [rowL_key f2 M m HN.out.2.2.2.2.2 hf2M] at this
    exact this
  have hkl : keyOf Try.prog 9 (.string (txt M f2)) = some _ := Go.WideMaps.keyOf_string_mk Try.underlying9 (by unfold txt; rw [strOf_size]; simp [keyL]; unfold maxLen; omega)
  have hFR : ∀ x, FR L (fun y => y < M ∧ f2 y = true) x ↔ FR L (fun y => y ∈ st) x := fun x => FR.congr (fun y => by
    rw [← hl2, ← hf2]
    exact ⟨fun h => by simpa using h.2, fun h => ⟨h2.lt y h, by simpa using h⟩⟩) x
  have c0 : w2.cell? ⟨bm, 260, none⟩ = some (.map (some bM)) := (h2.r.other 260 (by decide)).trans t2d.cM
  have c1 : w2.cell? ⟨bm, 261, none⟩ = some (.slice (some ⟨gI, 0, none⟩) m m) := h2.r.cells.1
  have H2 := Lib.hid (And.intro h2d (And.intro t2d (And.intro hl2 (And.intro hFR (And.intro hf2 hf2M)))))
  have hlook := t2d.map.look2 law_str9 Try.underlying90 (zero_int9 w2.drew) hkl
  clear h2 hl2 HG h2d t2d hFR hkl hf2M
  rcases hlook with ⟨hrun, hno⟩ | ⟨v, ⟨p, hp, hpe, rfl⟩, hrun⟩
  · have HNo := Lib.hid hno
    clear hno
    go_wp2_with fail
    go_region
    go_wp2_with fail
    refine (mfollow_any wr B (bsOf bm gI vL) bm gI m M bn gF cF cs aF cR L (HN.out.1.below HH.out.1.below) HN.out.2.2.2.2.1 HN.out.2.1 hM HN.out.2.2.2.2.2 hLl l2 vL2 w2.drew H2.out.1).mono ?_
    rintro e w4 ⟨l4, vL4, rfl, h4, hl4⟩
    obtain ⟨f4, hf4⟩ : ∃ f4 : Nat → Bool, (fun x => decide (x ∈ l4)) = f4 := ⟨_, rfl⟩
    have t4 := MkT.over HH.out.1 HH.out.2.1 h4.r
    have hf4M : ∀ x, f4 x = true → x < M := fun x hx => h4.lt x (by rw [← hf4] at hx; simpa using hx)
    have hf4l : ∀ x, f4 x = true ↔ x ∈ l4 := fun x => by rw [← hf4]; simp
    have hcv4 : (convert 91 9 (.slice (some ⟨gI, 0, none⟩) m m)).run Try.prog w4 = .ok (.string (txt M f4)) w4 := by
      have := conv_any (l := rowL f4 m) (by have := h4.r.inn; rw [hf4] at this; exact this) (by rw [rowL_length])
      rw [rowL_key f4 M m HN.out.2.2.2.2.2 hf4M] at this
      exact this
    have hkl4 : keyOf Try.prog 9 (.string (txt M f4)) = some _ := Go.WideMaps.keyOf_string_mk Try.underlying9 (by unfold txt; rw [strOf_size]; simp [keyL]; unfold maxLen; omega)
    have hsz4 : (txt M f4).size ≤ 100000 := by unfold txt; rw [strOf_size]; simp [keyL]; omega
    have hst4 : ∀ x, x ∈ l4 ↔ FR L (fun y => y ∈ st) x := fun x => by rw [hl4 x]; exact FR.congr (fun y => H2.out.2.2.1 y) x
    have hcl4 : ∀ x, FR L (fun y => y < M ∧ f4 y = true) x ↔ FR L (fun y => y ∈ st) x := fun x => by
      rw [show FR L (fun y => y < M ∧ f4 y = true) x ↔ FR L (FR L (fun y => y ∈ st)) x from FR.congr (fun y => ⟨fun h => (hst4 y).1 ((hf4l y).1 h.2), fun h => ⟨h4.lt y ((hst4 y).2 h), (hf4l y).2 ((hst4 y).2 h)⟩⟩) x]
      exact FR.idem x
    have d0 : w4.cell? ⟨bm, 260, none⟩ = some (.map (some bM)) := (h4.r.other 260 (by decide)).trans t4.cM
    have d1 : w4.cell? ⟨bm, 261, none⟩ = some (.slice (some ⟨gI, 0, none⟩) m m) := h4.r.cells.1
    have hA4 : MkA V B bs bm gI m M cs l4 vL4 w4 := ⟨HH.out.1.back h4.r, h4.nd, h4.lt⟩
    have H4 := Lib.hid (And.intro hA4 (And.intro t4 (And.intro hst4 (And.intro hcl4 hf4l))))
    have hlook := t4.map.look2 law_str9 Try.underlying90 (zero_int9 w4) hkl4
    clear h4 t4 hf4M hf4l hst4 hcl4 hA4 hl4 hf4 c0 c1 hcv hrun
    rcases hlook with ⟨hrun, hno⟩ | ⟨v, ⟨p, hp, hpe, rfl⟩, hrun⟩
    · obtain ⟨k, hkk⟩ : ∃ k, SS.length = k := ⟨_, rfl⟩
      have HK := Lib.hid hkk
      have hk2 : k ≤ 100000 := by omega
      have HAd := Lib.hid (madd_any V B bs bm gI m M bM bn gM cM cs mk HN.out.2.2.1 HN.out.2.2.2.1 HN.out.2.2.2.2.1 hM l4 vL4 vS vK SS.length n (SS.map (txt M)) ms (MQ M D) (MQ M (D ++ [(f4, SS.length)])) (txt M f4) hsz4 (by omega) (by omega) hno
        (fun x y ⟨p, hp, h1, h2⟩ => ⟨p, List.mem_append.2 (Or.inl hp), h1, h2⟩) ⟨(f4, SS.length), by simp, rfl, rfl⟩
        (fun x y ⟨p, hp, h1, h2⟩ hne => by
          rcases List.mem_append.1 hp with hp | hp
          · exact ⟨y, p, hp, h1, h2⟩
          · rw [List.mem_singleton.1 hp] at h1
            exact absurd h1 hne) w4 H4.out.1 H4.out.2.1)
      have HNo4 := Lib.hid hno
      rw [hkk] at HAd
      clear hno hkk
      go_wp2_with fail
      refine HAd.out.mono ?_
      rintro e w5 ⟨r, vS', vK', rfl, hr, hA5, hT5⟩
      have hkl2 : keyOf Try.prog 9 (.string (txt M f2)) = some _ := Go.WideMaps.keyOf_string_mk Try.underlying9 (by unfold txt; rw [strOf_size]; simp [keyL]; unfold maxLen; omega)
      obtain ⟨w6, hup, hM6, hg6⟩ : ∃ w6, (Instr.mapUpdate 90 (.map (some bM)) (.string (txt M f2)) (.int .i64 ((k : Nat) : Int))).run Try.prog w5 = .ok () w6 ∧ MapEx w6 9 bM (n + 2) (MQ M (D ++ [(f4, k)] ++ [(f2, k)])) ∧ w5.grownBy w6 (some bM) := by
        by_cases e : txt M f2 = txt M f4
        · obtain ⟨w6, h1, h2, h3⟩ := hT5.map.again law_str9 Try.underlying90 hkl2 (val := .int .i64 ((k : Nat) : Int)) ⟨(f4, k), by simp, by rw [e], rfl⟩
          refine ⟨w6, h1, ?_, h3⟩
          have e2 : MQ M (D ++ [(f4, k)] ++ [(f2, k)]) = MQ M (D ++ [(f4, k)]) := by
            funext x y
            refine propext ⟨fun ⟨p, hp, h1, h2⟩ => ?_, fun ⟨p, hp, h1, h2⟩ => ⟨p, List.mem_append.2 (Or.inl hp), h1, h2⟩⟩
            rcases List.mem_append.1 hp with hp | hp
            · exact ⟨p, hp, h1, h2⟩
            · rw [List.mem_singleton.1 hp] at h1 h2
              exact ⟨(f4, k), by simp, by rw [h1, ← e], h2⟩
          rw [e2]
          exact h2.more (by omega)
        · exact hT5.map.update law_str9 Try.underlying90 (by unfold maxLen; omega) hkl2 (Q' := MQ M (D ++ [(f4, k)] ++ [(f2, k)]))
            (fun y ⟨p, hp, h1, h2⟩ => by
              rcases List.mem_append.1 hp with hp | hp
              · exact HNo.out y ⟨p, hp, h1, h2⟩
              · rw [List.mem_singleton.1 hp] at h1
                injection h1 with h1
                exact e h1)
            (fun x y ⟨p, hp, h1, h2⟩ => ⟨p, List.mem_append.2 (Or.inl hp), h1, h2⟩) ⟨(f2, k), by simp, rfl, rfl⟩
            (fun x y ⟨p, hp, h1, h2⟩ hne => by
              rcases List.mem_append.1 hp with hp | hp
              · exact ⟨y, p, hp, h1, h2⟩
              · rw [List.mem_singleton.1 hp] at h1
                exact absurd h1 hne)
      have hfin := mk_map hA5 hT5 hM6 hg6
      have e0 : w5.cell? ⟨bm, 260, none⟩ = some (.map (some bM)) := (hA5.r.other 260 (by decide)).trans hT5.cM
      have HF : Hid (ClPost V B bs bm gI m M bM cs L mk SS st n (.returned (.int .i64 ((k : Nat) : Int))) w6) := by
        have hkk := HK.out
        subst hkk
        have inv := HH.out.2.2
        refine ⟨SS.length, SS ++ [f4], ms ++ [r], D ++ [(f4, SS.length)] ++ [(f2, SS.length)], vL4, vS', vK', _, l4, n + 2, rfl, hfin.1, ?_, ⟨fun j hj => ?_, fun p hp => ?_, by simp [inv.len], fun j hj hj2 => ?_⟩, (by simp; omega), fun i h1 h2 => ?_, ⟨by simp, fun x hx => ?_⟩, Or.inr ⟨f4, rfl, rfl, fun i hi => ?_⟩⟩
        · have := hfin.2
          simpa using this
        · by_cases e : j < SS.length
          · rw [List.getElem_append_left e]
            exact List.mem_append.2 (Or.inl (List.mem_append.2 (Or.inl (inv.own j e))))
          · have : j = SS.length := by simp at hj; omega
            subst this
            simp
        · rcases List.mem_append.1 hp with hp | hp
          · rcases List.mem_append.1 hp with hp | hp
            · obtain ⟨h1, h2⟩ := inv.ent p hp
              refine ⟨by simp; omega, fun x hx => ?_⟩
              rw [List.getElem_append_left h1]
              exact h2 x hx
            · rw [List.mem_singleton.1 hp]
              refine ⟨by simp, fun x hx => ?_⟩
              simp only [List.getElem_concat_length]
              rw [H4.out.2.2.2.2 x, H4.out.2.2.1 x, H4.out.2.2.2.1 x]
          · rw [List.mem_singleton.1 hp]
            refine ⟨by simp, fun x hx => ?_⟩
            simp only [List.getElem_concat_length]
            rw [H4.out.2.2.2.2 x, H4.out.2.2.1 x, H2.out.2.2.2.1 x]
        · by_cases e : j < SS.length
          · have e2 : j < ms.length := by rw [inv.len]; exact e
            have := inv.mks j e e2
            rw [List.getElem_append_left e2]
            simpa [List.getElem_append_left e] using this
          · have : j = SS.length := by simp at hj; omega
            subst this
            have e3 : (ms ++ [r])[SS.length] = r := by
              rw [List.getElem_append_right (by rw [inv.len]; exact Nat.le_refl _)]
              simp [inv.len]
            rw [e3]
            refine hr.congr (fun x => ?_)
            simp only [List.getElem_concat_length]
            rw [H4.out.2.2.2.2 x]
            exact ⟨fun h => ⟨H4.out.1.lt x h, h⟩, fun h => h.2⟩
        · rw [Array.getElem?_setIfInBounds_ne (fun e => h1 e.symm), Array.getElem?_setIfInBounds_ne (fun e => h2 e.symm)]
        · simp only [List.getElem_concat_length]
          rw [H4.out.2.2.2.2 x, H4.out.2.2.1 x]
        · refine Classical.byContradiction fun hall => ?_
          have h7 : ∀ x, x < M → SS[i] x = f4 x := fun x hx => Classical.byContradiction fun h => hall ⟨x, hx, h⟩
          exact HNo4.out (.int .i64 ((i : Nat) : Int)) ⟨(SS[i], i), inv.own i hi, by rw [(txt_eq M _ _).2 h7], rfl⟩
      clear hr hA5 hT5 hM6 hg6 hfin hkl2 hkl4
      go_wp2_with fail
      go_ret
      exact HF.out
    · have hpl := HH.out.2.2.ent p hp
      have HF : Hid (ClPost V B bs bm gI m M bM cs L mk SS st n (.returned (.int .i64 ((p.2 : Nat) : Int))) w4) := by
        refine ⟨p.2, SS, ms, D, vL4, vS, vK, cs, l4, n, rfl, H4.out.1, H4.out.2.1, HH.out.2.2, by omega, fun _ _ _ => rfl, ?_, Or.inl rfl⟩
        obtain ⟨h1, h3⟩ := hpl
        refine ⟨h1, fun x hx => ?_⟩
        rw [h3 x hx, ← H4.out.2.2.2.1 x]
        injection hpe with hpe
        have h5 := (txt_eq M _ _).1 hpe
        exact FR.congr (fun y => ⟨fun h => ⟨h.1, by rw [h5 y h.1]; exact h.2⟩, fun h => ⟨h.1, by rw [← h5 y h.1]; exact h.2⟩⟩) x
      clear hp hpe hpl
      go_wp2_with fail
      go_ret
      exact HF.out
  · have hpl := HH.out.2.2.ent p hp
    have HF : Hid (ClPost V B bs bm gI m M bM cs L mk SS st n (.returned (.int .i64 ((p.2 : Nat) : Int))) w2.drew) := by
      refine ⟨p.2, SS, ms, D, vL2, vS, vK, cs, l2, n, rfl, ⟨HH.out.1.back H2.out.1.r, H2.out.1.nd, H2.out.1.lt⟩, H2.out.2.1, HH.out.2.2, by omega, fun _ _ _ => rfl, ?_, Or.inl rfl⟩
      obtain ⟨h1, h3⟩ := hpl
      refine ⟨h1, fun x hx => ?_⟩
      rw [h3 x hx, ← H2.out.2.2.2.1 x]
      injection hpe with hpe
      have h5 := (txt_eq M _ _).1 hpe
      exact FR.congr (fun y => ⟨fun h => ⟨h.1, by rw [h5 y h.1]; exact h.2⟩, fun h => ⟨h.1, by rw [← h5 y h.1]; exact h.2⟩⟩) x
    clear hp hpe hpl
    go_wp2_with fail
    go_region
    go_wp2_with fail
    go_ret
    exact HF.out
end Go.Proofs.Ytlnndkilaklifaa
