import Derived.Test.YtkdhdlokilgccaaZDNew
namespace Go.Proofs.Ytkdhdlokilgccaa
open Go.RowKit Go.Maps Go.WideElems Go.ChangeMaps Go.MapKept
set_option linter.unusedVariables false

/-- 'm[k] = v', with who stands among the entries, both ways. -/
theorem map_store {w : World} {k t e : TypeId} {b : Nat} {es : Array MapEntry} {clock : Nat} (K : Keyed Try.prog k) (ht : Try.prog.underlying t = some (.map k e)) (hb : w.heap[b]? = some (.map es clock)) (F : Fit Try.prog k anyR es clock) (hroom : es.size < maxLen)
    {key : Value} {kl : Lit} (val : Value) (hkey : keyOf Try.prog k key = some kl) :
    ∃ es' clock', (Instr.mapUpdate t (.map (some b)) key val).run Try.prog w = .ok () (setBlock w b (.map es' clock')) ∧ Fit Try.prog k anyR es' clock' ∧ es'.size ≤ es.size + 1 ∧
      (∀ x' ∈ es'.toList, (x' ∈ es.toList ∧ x'.key ≠ key) ∨ (x'.key = key ∧ x'.val = val)) ∧ (∀ x ∈ es.toList, x.key ≠ key → x ∈ es'.toList) ∧ (∃ x ∈ es'.toList, x.key = key) ∧ ((∃ x ∈ es.toList, x.key = key) → es'.size = es.size) := by
  have hrd : ∀ born, WideElems.rd Try.prog k anyR ⟨key, val, born⟩ = some (kl, .held val) := fun born => by unfold WideElems.rd anyR; rw [hkey]; rfl
  rcases K.find w hkey es.toList F.keys with ⟨h1, h2⟩ | ⟨j, e0, h1, h2, h3⟩
  · obtain ⟨F1, _, _⟩ := F.stay (R' := anyR) (fun x hx z hz => hz)
    refine ⟨es.push ⟨key, val, clock⟩, clock + 1, ?_, ⟨by simp; omega, stamped_push F.stamped h2, ?_⟩, by simp, fun x hx => ?_, fun x hx _ => ?_, ⟨⟨key, val, clock⟩, ?_, rfl⟩, fun ⟨x, hx, e0⟩ => absurd e0 (h2 x hx)⟩
    · simp [Instr.mapUpdate, run_underlying ht, MapKept.run_getObj_map hb, K.check w false hkey, h1, MapKept.run_setObj_map _ hb, Result.andThen, setBlock]
    · intro x hx
      simp only [Array.toList_push, List.mem_append, List.mem_singleton] at hx
      rcases hx with hx | rfl
      · exact F1.reads x hx
      · exact ⟨_, hrd _⟩
    · simp only [Array.toList_push, List.mem_append, List.mem_singleton] at hx
      rcases hx with hx | rfl
      · exact Or.inl ⟨hx, h2 x hx⟩
      · exact Or.inr ⟨rfl, rfl⟩
    · rw [Array.toList_push]; exact List.mem_append_left _ hx
    · rw [Array.toList_push]; exact List.mem_append_right _ (List.mem_singleton.2 rfl)
  · have hj : es[j]? = some e0 := by simpa using h2
    have hjl : j < es.toList.length := (List.getElem?_eq_some_iff.1 h2).1
    have hkeyf : ∀ e', es[j]? = some e' → ({ e' with key := key, val := val } : MapEntry).key = e'.key := fun e' he' => by rw [hj] at he'; cases he'; exact h3.symm
    have hlist : (es.modify j (fun e' => { e' with key := key, val := val })).toList = es.toList.set j { e0 with key := key, val := val } := by rw [Array.toList_modify, modify_eq_set _ _ _ _ h2]
    have who : ∀ x ∈ es.toList.set j { e0 with key := key, val := val }, x = { e0 with key := key, val := val } ∨ (x ∈ es.toList ∧ x.key ≠ key) := by
      intro x hx
      obtain ⟨i, hi, ex⟩ := List.getElem_of_mem hx
      rw [List.getElem_set] at ex
      split at ex
      · exact Or.inl ex.symm
      · rename_i hne
        have hi' : i < es.toList.length := by simpa using hi
        refine Or.inr ⟨ex ▸ List.getElem_mem hi', ?_⟩
        rw [← h3]
        exact other_key F h2 (by rw [List.getElem?_eq_getElem hi', ex]) (fun e1 => hne e1.symm)
    refine ⟨es.modify j (fun e' => { e' with key := key, val := val }), clock, ?_, ⟨by simpa using F.size, stamped_modify F.stamped _ _ (fun _ _ => rfl) (fun e' _ he' => hkeyf e' he'), ?_⟩, by simp, fun x hx => ?_, fun x hx hne => ?_, ⟨{ e0 with key := key, val := val }, ?_, rfl⟩, fun _ => by simp⟩
    · simp [Instr.mapUpdate, run_underlying ht, MapKept.run_getObj_map hb, K.check w false hkey, h1, hj, h3, K.stays w hkey, MapKept.run_setObj_map _ hb, Result.andThen, setBlock]
    · intro x hx
      rw [hlist] at hx
      rcases who x hx with rfl | ⟨hx', hne⟩
      · exact ⟨_, hrd _⟩
      · exact F.reads x hx'
    · rw [hlist] at hx
      rcases who x hx with rfl | h
      · exact Or.inr ⟨rfl, rfl⟩
      · exact Or.inl h
    · rw [hlist]
      obtain ⟨i, hi, ex⟩ := List.getElem_of_mem hx
      have hij : i ≠ j := fun e => by
        subst e
        have h4 : e0 = x := by rw [List.getElem?_eq_getElem hi, ex] at h2; exact (Option.some.inj h2).symm
        exact hne (by rw [← h4]; exact h3)
      exact List.mem_iff_getElem.2 ⟨i, by simpa using hi, by rw [List.getElem_set_ne (Ne.symm hij)]; exact ex⟩
    · rw [hlist]
      exact List.mem_iff_getElem.2 ⟨j, by simpa using hjl, by simp⟩
/-- The map of a tree: for each planted tail those with one more expression ahead, in rows of their own. -/
def LgAt (w : World) (H bL n : Nat) (f : Nat → Option (List Nat)) : Prop :=
  ∃ es clock, w.heap[bL]? = some (.map es clock) ∧ Fit Try.prog 3 anyR es clock ∧ es.size ≤ n ∧
    (∀ e ∈ es.toList, ∃ (k : Nat) (l : List Nat), e.key = .int .i64 ((k : Nat) : Int) ∧ f k = some l ∧ w.ownsRow H 3 1 e.val l.length (nums64 l)) ∧
    (∀ (k : Nat) (l : List Nat), f k = some l → ∃ e ∈ es.toList, e.key = .int .i64 ((k : Nat) : Int)) ∧
    (∀ e ∈ es.toList, ∀ e' ∈ es.toList, e.key ≠ e'.key → ∀ g, e.val.ownBlock = some g → e'.val.ownBlock ≠ some g)
theorem LgAt.lt {w : World} {H bL n : Nat} {f : Nat → Option (List Nat)} (h : LgAt w H bL n f) : bL < w.heap.size := by
  obtain ⟨es, clock, hb, _⟩ := h
  exact (Array.getElem?_eq_some_iff.1 hb).1
theorem LgAt.kept {w w' : World} {H bL n : Nat} {f : Nat → Option (List Nat)} {bs : List Nat} (h : LgAt w H bL n f) (k : Kept [] bs w w') (hb : bL ∉ bs) (hi : ∀ g c fz, w.heap[g]? = some (.cells c 3 fz) → g ∉ bs) : LgAt w' H bL n f := by
  obtain ⟨es, clock, hbb, F, hs, hq, hall, hsep⟩ := h
  refine ⟨es, clock, k bL _ hbb (fun c e fz e0 => by cases e0) hb, F, hs, fun e he => ?_, hall, hsep⟩
  obtain ⟨n, l, h1, h2, h3⟩ := hq e he
  exact ⟨n, l, h1, h2, own_kept h3 k (by simp) (fun g e => by obtain ⟨c, fz, hc⟩ := own_kind h3 g e; exact hi g c fz hc)⟩
theorem LgAt.below {w w' : World} {H bL n : Nat} {f : Nat → Option (List Nat)} (h : LgAt w H bL n f) (k : Below w.heap.size w w') : LgAt w' H bL n f :=
  h.kept (bs := []) ((Kept.refl _ _ _).below k) (by simp) (by simp)
theorem int_key (k : Nat) (hk : k ≤ 9223372036854775807) : keyOf Try.prog 3 (.int .i64 ((k : Nat) : Int)) = some (.int .i64 ((k : Nat) : Int)) := by
  have hw : (Lit.int .i64 ((k : Nat) : Int)).wf = true := wf64 (by omega)
  unfold keyOf
  simp [Try.underlying3, mapKey, hw]
theorem key_inj {a b : Nat} (h : (Value.int .i64 ((a : Nat) : Int)) = .int .i64 ((b : Nat) : Int)) : a = b := by
  injection h with _ h
  exact Int.ofNat.inj h
def upd (f : Nat → Option (List Nat)) (k : Nat) (v : List Nat) : Nat → Option (List Nat) := fun j => if j = k then some v else f j
theorem upd_same (f : Nat → Option (List Nat)) (k : Nat) (v : List Nat) : upd f k v k = some v := if_pos rfl
theorem upd_ne (f : Nat → Option (List Nat)) {k j : Nat} (v : List Nat) (h : j ≠ k) : upd f k v j = f j := if_neg h
/-- A look-up; what the value is good for. -/
structure LgVal (w : World) (H bL n : Nat) (f : Nat → Option (List Nat)) (k : Nat) (l : List Nat) (v : Value) : Prop where
  row : w.ownsRow H 3 1 v l.length (nums64 l)
  run : ∀ (c : Bool) (W : World), W.heap[bL]? = w.heap[bL]? → (Instr.lookup 131 (.map (some bL)) (.int .i64 ((k : Nat) : Int)) c).run Try.prog W = .ok (if c then .tuple #[v, .bool true] else v) W
  back : ∀ (w1 : World) (l' : List Nat) (v' : Value) (g : Nat), w.grownBy w1 v.ownBlock → w1.ownsRow H 3 1 v' l'.length (nums64 l') → v'.ownBlock = some g → (v.ownBlock = some g ∨ w.heap.size ≤ g) →
    ∃ w9, (Instr.mapUpdate 131 (.map (some bL)) (.int .i64 ((k : Nat) : Int)) v').run Try.prog w1 = .ok () w9 ∧ LgAt w9 H bL n (upd f k l') ∧ w1.grownBy w9 (some bL)
theorem LgAt.look {w : World} {H bL n : Nat} {f : Nat → Option (List Nat)} (h : LgAt w H bL n f) (hn : n < maxLen) {k : Nat} {l : List Nat} (hk : k ≤ 9223372036854775807) (hf : f k = some l) : ∃ v, LgVal w H bL n f k l v := by
  obtain ⟨es, clock, hb, F, hs, hq, hall, hsep⟩ := h
  obtain ⟨e0, h0, hk0⟩ := hall k l hf
  obtain ⟨k', l', h1, h2, h3⟩ := hq e0 h0
  obtain rfl : k = k' := key_inj (hk0.symm.trans h1)
  obtain rfl : l = l' := Option.some.inj (hf.symm.trans h2)
  refine ⟨e0.val, h3, fun c W hW => ?_, fun w1 l' v' g hg hrow hg' hor => ?_⟩
  · rcases Maps.fit_look c law_int Try.underlying131 (zero_ints W) (hW.trans hb) F (int_key k hk) with ⟨_, hno, _⟩ | ⟨e1, _, hm1, hk1, hrun, _⟩
    · exact absurd hk0 (hno e0 h0)
    · rw [show e0 = e1 from one_key F.stamped.2.2 h0 hm1 (hk0.trans hk1.symm)]
      exact hrun
  · have hb1 : w1.heap[bL]? = some (.map es clock) := by
      rw [hg.block bL (Array.getElem?_eq_some_iff.1 hb).1 (fun e => ?_)]
      · exact hb
      · obtain ⟨c, fz, hc⟩ := own_kind h3 bL e.symm
        rw [hb] at hc
        cases hc
    obtain ⟨es', clock', hrun, F', _, hwho, hfwd, ⟨x0, hx0, hx0k⟩, hsz⟩ := map_store law_int Try.underlying131 hb1 F (by omega) v' (int_key k hk)
    have hoth : ∀ x ∈ es.toList, x.key ≠ .int .i64 ((k : Nat) : Int) → ∀ gg, x.val.ownBlock = some gg → gg ≠ g := fun x hx hne gg hgg e => by
      rcases hor with h | h
      · exact hsep x hx e0 h0 (by rw [hk0]; exact hne) gg hgg (by rw [h, e])
      · obtain ⟨k2, l2, _, _, h4⟩ := hq x hx
        have := own_lt h4 gg hgg
        omega
    have hrows : ∀ x ∈ es.toList, x.key ≠ .int .i64 ((k : Nat) : Int) → ∀ (l2 : List Nat), w.ownsRow H 3 1 x.val l2.length (nums64 l2) → w1.ownsRow H 3 1 x.val l2.length (nums64 l2) := fun x hx hne l2 h4 =>
      own_grown h4 hg (fun gg hgg e => hsep x hx e0 h0 (by rw [hk0]; exact hne) gg hgg e.symm)
    have hg9 : w1.grownBy (setBlock w1 bL (.map es' clock')) (some bL) := ⟨rfl, rfl, rfl, by simp [setBlock], fun i _ hi => heap_setBlock_other hb1 _ (fun e => hi (by rw [e]))⟩
    have hmap : ∀ (v2 : Value) (n2 : Nat) (xs : List Value), w1.ownsRow H 3 1 v2 n2 xs → (setBlock w1 bL (.map es' clock')).ownsRow H 3 1 v2 n2 xs := fun v2 n2 xs h4 => own_grown h4 hg9 (fun gg hgg e => by
      injection e with e
      subst e
      obtain ⟨c, fz, hc⟩ := own_kind h4 _ hgg
      rw [hb1] at hc
      cases hc)
    refine ⟨_, hrun, ⟨es', clock', heap_setBlock_same hb1 _, F', by rw [hsz ⟨e0, h0, hk0⟩]; exact hs, fun x hx => ?_, fun j l2 hj => ?_, fun x hx y hy hxy gg hgg => ?_⟩, hg9⟩
    · rcases hwho x hx with ⟨h4, h5⟩ | ⟨h4, h5⟩
      · obtain ⟨k2, l2, h6, h7, h8⟩ := hq x h4
        have hne : k2 ≠ k := fun e => h5 (by rw [h6, e])
        exact ⟨k2, l2, h6, by rw [upd_ne _ _ hne]; exact h7, hmap _ _ _ (hrows x h4 h5 l2 h8)⟩
      · exact ⟨k, l', h4, upd_same _ _ _, by rw [h5]; exact hmap _ _ _ hrow⟩
    · by_cases hjk : j = k
      · exact ⟨x0, hx0, by rw [hjk]; exact hx0k⟩
      · rw [upd_ne _ _ hjk] at hj
        obtain ⟨x, h4, h5⟩ := hall j l2 hj
        exact ⟨x, hfwd x h4 (by rw [h5]; exact fun e => hjk (key_inj e)), h5⟩
    · rcases hwho x hx with ⟨h4, h5⟩ | ⟨h4, h5⟩ <;> rcases hwho y hy with ⟨h6, h7⟩ | ⟨h6, h7⟩
      · exact hsep x h4 y h6 hxy gg hgg
      · rw [h7, hg']
        exact fun e => hoth x h4 h5 gg hgg (Option.some.inj e).symm
      · rw [h5, hg'] at hgg
        exact fun e => hoth y h6 h7 gg e (Option.some.inj hgg).symm
      · exact absurd (h4.trans h6.symm) hxy
/-- A look-up of what is not there, and the store of nil. -/
theorem LgAt.none_ {w : World} {H bL n : Nat} {f : Nat → Option (List Nat)} (h : LgAt w H bL n f) {k : Nat} (hk : k ≤ 9223372036854775807) (hf : f k = none) (W : World) (hW : W.heap[bL]? = w.heap[bL]?) : (Instr.lookup 131 (.map (some bL)) (.int .i64 ((k : Nat) : Int)) true).run Try.prog W = .ok (.tuple #[.slice none 0 0, .bool false]) W := by
  obtain ⟨es, clock, hb, F, hs, hq, hall, hsep⟩ := h
  rcases Maps.fit_look true law_int Try.underlying131 (zero_ints W) (hW.trans hb) F (int_key k hk) with ⟨hrun, _⟩ | ⟨e1, _, hm1, hk1, _⟩
  · simpa using hrun
  · obtain ⟨k', l', h1, h2, _⟩ := hq e1 hm1
    obtain rfl : k = k' := key_inj (hk1.symm.trans h1)
    rw [hf] at h2
    cases h2
theorem LgAt.insert {w : World} {H bL n : Nat} {f : Nat → Option (List Nat)} (h : LgAt w H bL n f) (hn : n < maxLen) {k : Nat} (hk : k ≤ 9223372036854775807) :
    ∃ w9, (Instr.mapUpdate 131 (.map (some bL)) (.int .i64 ((k : Nat) : Int)) (.slice none 0 0)).run Try.prog w = .ok () w9 ∧ LgAt w9 H bL (n + 1) (upd f k []) ∧ w.grownBy w9 (some bL) := by
  obtain ⟨es, clock, hb, F, hs, hq, hall, hsep⟩ := h
  obtain ⟨es', clock', hrun, F', hsz, hwho, hfwd, ⟨x0, hx0, hx0k⟩, _⟩ := map_store law_int Try.underlying131 hb F (by omega) (.slice none 0 0) (int_key k hk)
  have hg9 : w.grownBy (setBlock w bL (.map es' clock')) (some bL) := ⟨rfl, rfl, rfl, by simp [setBlock], fun i _ hi => heap_setBlock_other hb _ (fun e => hi (by rw [e]))⟩
  have hmap : ∀ (v2 : Value) (n2 : Nat) (xs : List Value), w.ownsRow H 3 1 v2 n2 xs → (setBlock w bL (.map es' clock')).ownsRow H 3 1 v2 n2 xs := fun v2 n2 xs h4 => own_grown h4 hg9 (fun gg hgg e => by
    injection e with e
    subst e
    obtain ⟨c, fz, hc⟩ := own_kind h4 _ hgg
    rw [hb] at hc
    cases hc)
  refine ⟨_, hrun, ⟨es', clock', heap_setBlock_same hb _, F', by omega, fun x hx => ?_, fun j l2 hj => ?_, fun x hx y hy hxy gg hgg => ?_⟩, hg9⟩
  · rcases hwho x hx with ⟨h4, h5⟩ | ⟨h4, h5⟩
    · obtain ⟨k2, l2, h6, h7, h8⟩ := hq x h4
      have hne : k2 ≠ k := fun e => h5 (by rw [h6, e])
      exact ⟨k2, l2, h6, by rw [upd_ne _ _ hne]; exact h7, hmap _ _ _ h8⟩
    · exact ⟨k, [], h4, upd_same _ _ _, by rw [h5]; exact World.ownsRow_nil _ _ _ _⟩
  · by_cases hjk : j = k
    · exact ⟨x0, hx0, by rw [hjk]; exact hx0k⟩
    · rw [upd_ne _ _ hjk] at hj
      obtain ⟨x, h4, h5⟩ := hall j l2 hj
      exact ⟨x, hfwd x h4 (by rw [h5]; exact fun e => hjk (key_inj e)), h5⟩
  · rcases hwho x hx with ⟨h4, h5⟩ | ⟨h4, h5⟩ <;> rcases hwho y hy with ⟨h6, h7⟩ | ⟨h6, h7⟩
    · exact hsep x h4 y h6 hxy gg hgg
    · rw [h7]; simp [Value.ownBlock]
    · rw [h5] at hgg; simp [Value.ownBlock] at hgg
    · exact absurd (h4.trans h6.symm) hxy
end Go.Proofs.Ytkdhdlokilgccaa

namespace Go.Proofs.Ytkdhdlokilgccaa
open Go.RowKit Go.Maps Go.WideElems Go.ChangeMaps Go.MapKept
set_option linter.unusedVariables false

/-- What is planted hangs together: L says which may have nothing ahead. -/
structure Good (T : List Tl) (f : Nat → Option (List Nat)) (L : Nat → Prop) : Prop where
  root : ∃ l, f 0 = some l
  up : ∀ n l, f n = some l → n ≠ 0 → ∃ (h r : Nat) (l' : List Nat), T[n]? = some ⟨(h : Int), (r : Int)⟩ ∧ r < n ∧ f r = some l' ∧ n ∈ l'
  down : ∀ r l, f r = some l → ∀ m, m ∈ l → (∃ h : Nat, T[m]? = some ⟨(h : Int), (r : Int)⟩) ∧ r < m ∧ ∃ l', f m = some l'
  nd : ∀ r l, f r = some l → l.Nodup
  leaf : ∀ n, f n = some [] → n ≠ 0 → L n
  lt : ∀ n l, f n = some l → n < T.length
theorem Good.len {T : List Tl} {f : Nat → Option (List Nat)} {L : Nat → Prop} (h : Good T f L) {r : Nat} {l : List Nat} (hr : f r = some l) : l.length ≤ T.length :=
  nodup_below (h.nd r l hr) (fun m hm => (List.getElem?_eq_some_iff.1 (h.down r l hr m hm).1.choose_spec).1)
theorem Good.add {T : List Tl} {f2 : Nat → Option (List Nat)} {L : Nat → Prop} {n h r : Nat} {l2 : List Nat} (hg : Good T f2 (fun m => L m ∨ m = r)) (hn : f2 n = none) (hT : T[n]? = some ⟨(h : Int), (r : Int)⟩) (hr : r < n) (hr2 : f2 r = some l2) :
    Good T (upd (upd f2 r (l2 ++ [n])) n []) (fun m => L m ∨ m = n) := by
  have hn0 : n ≠ 0 := by omega
  have hrn : r ≠ n := by omega
  have hval : ∀ m, m ≠ n → m ≠ r → upd (upd f2 r (l2 ++ [n])) n [] m = f2 m := fun m h1 h2 => by rw [upd_ne _ _ h1, upd_ne _ _ h2]
  have hvr : upd (upd f2 r (l2 ++ [n])) n [] r = some (l2 ++ [n]) := by rw [upd_ne _ _ hrn, upd_same]
  have hvn : upd (upd f2 r (l2 ++ [n])) n [] n = some [] := upd_same _ _ _
  have hsome : ∀ m l, f2 m = some l → ∃ l', upd (upd f2 r (l2 ++ [n])) n [] m = some l' := fun m l hm => by
    by_cases h1 : m = n
    · rw [h1]; exact ⟨_, hvn⟩
    · by_cases h2 : m = r
      · rw [h2]; exact ⟨_, hvr⟩
      · exact ⟨l, by rw [hval m h1 h2]; exact hm⟩
  have hback : ∀ m l, f2 m = some l → ∃ l', upd (upd f2 r (l2 ++ [n])) n [] m = some l' ∧ ∀ x, x ∈ l → x ∈ l' := fun m l hm => by
    have h1 : m ≠ n := fun e => by rw [e, hn] at hm; cases hm
    by_cases h2 : m = r
    · subst h2
      rw [hr2] at hm
      obtain rfl := Option.some.inj hm
      exact ⟨_, hvr, fun x hx => List.mem_append_left _ hx⟩
    · exact ⟨l, by rw [hval m h1 h2]; exact hm, fun x hx => hx⟩
  refine ⟨?_, fun m l hm hm0 => ?_, fun q l hq m hm => ?_, fun q l hq => ?_, fun m hm hm0 => ?_, fun m l hm => ?_⟩
  · obtain ⟨l, hl⟩ := hg.root
    exact hsome 0 l hl
  · by_cases h1 : m = n
    · subst h1
      exact ⟨h, r, _, hT, hr, hvr, by simp⟩
    · have hm2 : ∃ l', f2 m = some l' := by
        by_cases h2 : m = r
        · exact ⟨l2, by rw [h2]; exact hr2⟩
        · exact ⟨l, by rw [← hval m h1 h2]; exact hm⟩
      obtain ⟨l', hl'⟩ := hm2
      obtain ⟨h', r', l'', h3, h4, h5, h6⟩ := hg.up m l' hl' hm0
      obtain ⟨l3, h7, h8⟩ := hback r' l'' h5
      exact ⟨h', r', l3, h3, h4, h7, h8 m h6⟩
  · by_cases h1 : q = n
    · subst h1
      rw [hvn] at hq
      obtain rfl := Option.some.inj hq
      cases hm
    · by_cases h2 : q = r
      · subst h2
        rw [hvr] at hq
        obtain rfl := Option.some.inj hq
        rcases List.mem_append.1 hm with hm | hm
        · obtain ⟨h3, h4, l', h5⟩ := hg.down q l2 hr2 m hm
          exact ⟨h3, h4, hsome m l' h5⟩
        · rw [List.mem_singleton.1 hm]
          exact ⟨⟨h, hT⟩, hr, _, hvn⟩
      · rw [hval q h1 h2] at hq
        obtain ⟨h3, h4, l', h5⟩ := hg.down q l hq m hm
        exact ⟨h3, h4, hsome m l' h5⟩
  · by_cases h1 : q = n
    · subst h1
      rw [hvn] at hq
      obtain rfl := Option.some.inj hq
      exact List.nodup_nil
    · by_cases h2 : q = r
      · subst h2
        rw [hvr] at hq
        obtain rfl := Option.some.inj hq
        refine List.nodup_append.2 ⟨hg.nd q l2 hr2, by simp, fun a ha c hc e => ?_⟩
        rw [List.mem_singleton.1 hc] at e
        obtain ⟨_, _, l', h5⟩ := hg.down q l2 hr2 a ha
        rw [e, hn] at h5
        cases h5
      · rw [hval q h1 h2] at hq
        exact hg.nd q l hq
  · by_cases h1 : m = n
    · exact Or.inr h1
    · by_cases h2 : m = r
      · rw [h2, hvr] at hm
        simp at hm
      · rw [hval m h1 h2] at hm
        rcases hg.leaf m hm hm0 with h | h
        · exact Or.inl h
        · exact absurd h h2
  · by_cases h1 : m = n
    · rw [h1]; exact (List.getElem?_eq_some_iff.1 hT).1
    · by_cases h2 : m = r
      · rw [h2]; exact hg.lt r l2 hr2
      · rw [hval m h1 h2] at hm
        exact hg.lt m l hm
/-- Not more entries than tails. -/
theorem LgAt.tight {w : World} {H bL n M : Nat} {f : Nat → Option (List Nat)} (h : LgAt w H bL n f) (hM : ∀ k l, f k = some l → k < M) : LgAt w H bL M f := by
  obtain ⟨es, clock, hb, F, hs, hq, hall, hsep⟩ := h
  refine ⟨es, clock, hb, F, ?_, hq, hall, hsep⟩
  have h1 : (es.toList.map (·.key)).Nodup := F.stamped.2.2
  have h2 := h1.length_le_of_subset (l₂ := (List.range M).map fun k => Value.int .i64 ((k : Nat) : Int)) (fun x hx => by
    obtain ⟨e, he, rfl⟩ := List.mem_map.1 hx
    obtain ⟨k, l, h3, h4, _⟩ := hq e he
    exact List.mem_map.2 ⟨k, by simpa using hM k l h4, h3.symm⟩)
  simpa using h2
/-- A tree in memory: what was there before it stands. -/
structure TrAt (W0 w : World) (kr bl bt bL : Nat) (T : List Tl) (f : Nat → Option (List Nat)) (vR : Value) (lr : List Pc) : Prop where
  below : Below W0.heap.size W0 w
  st : St w 133 bt #[.pointer (some ⟨kr, 0, none⟩), .pointer (some ⟨bl, 0, none⟩), .map (some bL), vR]
  lg : LgAt w W0.heap.size bL T.length f
  row : w.ownsRow W0.heap.size 66 5 vR lr.length (pcs lr)
  ht : W0.heap.size ≤ bt
  hL : W0.heap.size ≤ bL
theorem TrAt.keep {W0 w w' : World} {kr bl bt bL : Nat} {T : List Tl} {f : Nat → Option (List Nat)} {vR : Value} {lr : List Pc} (h : TrAt W0 w kr bl bt bL T f vR lr) (k : Below w.heap.size w w') : TrAt W0 w' kr bl bt bL T f vR lr :=
  ⟨h.below.trans (k.mono h.below.size), h.st.keep k, h.lg.below k, ownsRow_keep h.row k, h.ht, h.hL⟩
theorem TrAt.ne {W0 w : World} {kr bl bt bL : Nat} {T : List Tl} {f : Nat → Option (List Nat)} {vR : Value} {lr : List Pc} (h : TrAt W0 w kr bl bt bL T f vR lr) : bt ≠ bL := by
  rintro rfl
  obtain ⟨es, clock, hb, _⟩ := h.lg
  have h1 : w.heap[bt]? = _ := h.st
  rw [h1] at hb
  cases hb
theorem row4t {w : World} {g : Nat} {c0 c1 c2 c3 : Value} {t : TypeId} (h : St w t g #[c0, c1, c2, c3]) : w.cell? ⟨g, 0, none⟩ = some c0 ∧ w.cell? ⟨g, 1, none⟩ = some c1 ∧ w.cell? ⟨g, 2, none⟩ = some c2 ∧ w.cell? ⟨g, 3, none⟩ = some c3 := ⟨h.cell 0, h.cell 1, h.cell 2, h.cell 3⟩
def PlantPost (W0 : World) (kr bl bt bL : Nat) (T : List Tl) (f : Nat → Option (List Nat)) (L : Nat → Prop) (vR : Value) (lr : List Pc) (n : Nat) (e : Ending) (w' : World) : Prop :=
  ∃ f', e = .returned (.tuple #[]) ∧ TrAt W0 w' kr bl bt bL T f' vR lr ∧ Good T f' (fun m => L m ∨ m = n) ∧ (∃ l, f' n = some l) ∧ (∀ m l, f' m = some l → (∃ l', f m = some l') ∨ m ≤ n) ∧ (∀ m l, f m = some l → ∃ l', f' m = some l')

set_option maxHeartbeats 2000000 in
set_option maxRecDepth 100000 in
theorem plant_any (W0 : World) (B kr : Nat) (cur : Array Value) (E : List Ex) (F : List Fa) (T : List Tl) (b1 b2 n0 : Nat) (S : List (List Rx)) (hR : RdAt W0 B kr cur E F T b1 b2 n0 S) (bl bt bL : Nat) (vR : Value) (lr : List Pc) :
    ∀ (n : Nat) (w : World) (f : Nat → Option (List Nat)) (L : Nat → Prop), n < T.length → TrAt W0 w kr bl bt bL T f vR lr → Good T f L →
      Calls Try.prog 61 #[.pointer (some ⟨bt, 0, none⟩), .int .i64 n] w (PlantPost W0 kr bl bt bL T f L vR lr n) := by
  intro n
  induction n using Nat.strongRecOn with
  | ind n ih =>
    intro w f L hn hTr hG
    have hTl := hR.si.tlen
    obtain ⟨t0, t1, t2, t3⟩ := row4t hTr.st
    cases hf : f n with
    | some l =>
      obtain ⟨v, hv⟩ := hTr.lg.look (by unfold maxLen; omega) (by omega) hf
      have hrun : (Instr.lookup 131 (.map (some bL)) (.int .i64 ((n : Nat) : Int)) true).run Try.prog w = .ok (.tuple #[v, .bool true]) w := by simpa using hv.run true w rfl
      have HT := Lib.hid (And.intro hTr (And.intro hG hf))
      clear hTr hG hf hv
      go_enter Try.func61, Try.ntmps61
      go_wp2_with fail
      refine bodyPost_ret (results_none rfl _ _ _) rfl ?_
      obtain ⟨hTr, hG, hf⟩ := HT.out
      exact ⟨f, rfl, hTr, ⟨hG.root, hG.up, hG.down, hG.nd, fun m h1 h2 => Or.inl (hG.leaf m h1 h2), hG.lt⟩, ⟨l, hf⟩, fun m l h => Or.inl ⟨l, h⟩, fun m l h => ⟨l, h⟩⟩
    | none =>
      have hn0 : 0 < n := by
        rcases Nat.eq_zero_or_pos n with e | e
        · obtain ⟨l, hl⟩ := hG.root
          rw [e, hl] at hf
          cases hf
        · exact e
      obtain ⟨τ, hτ, _⟩ := hR.si.td n hn
      obtain ⟨u, ρ, h', r, rfl, hTn, hrn, _, hdr⟩ := hτ.consE hn0
      have hRw := hR.below hTr.below
      obtain ⟨gT, cT, c3, hgT, hnT, hT4, hcT1, hcT2, hy⟩ := hRw.at_tail hTn
      have y1 := hy 1 (by decide)
      simp only [tlCells, List.getElem?_cons_zero, List.getElem?_cons_succ] at y1
      obtain ⟨nT, hnT'⟩ : ∃ nT, T.length = nT := ⟨_, rfl⟩
      rw [hnT'] at c3 hnT hT4 hcT1
      have hkb : kr < w.heap.size := hRw.book.num.st.lt
      have iT : (n : Int) < (nT : Int) := by omega
      unfold maxLen at hcT2
      have hrun : (Instr.lookup 131 (.map (some bL)) (.int .i64 ((n : Nat) : Int)) true).run Try.prog w = .ok (.tuple #[.slice none 0 0, .bool false]) w := hTr.lg.none_ (by omega) hf w rfl
      have HT := Lib.hid (And.intro hTr (And.intro hG (And.intro hf (And.intro hTn hnT'))))
      have HIH := Lib.hid (ih r hrn w f L (by omega) hTr hG)
      clear hTr hG hf hTn hnT' hRw hy ih hτ hdr
      go_enter Try.func61, Try.ntmps61
      go_wp2_with fail
      refine HIH.out.mono ?_
      rintro e w2 ⟨f2, rfl, hTr2, hG2, ⟨l2, hl2⟩, hsub2, hkeep2⟩
      have hf2n : f2 n = none := by
        cases h : f2 n with
        | none => rfl
        | some l =>
          rcases hsub2 n l h with ⟨l', h1⟩ | h1
          · rw [HT.out.2.2.1] at h1; cases h1
          · omega
      obtain ⟨s0, s1, s2, s3⟩ := row4t hTr2.st
      have hl2l := hG2.len hl2
      have hal : Below w2.heap.size w2 ((w2.alloc (.cells #[.int .i64 ((n : Nat) : Int)] 3)).drew) := ((Below.refl _ _).alloc (Nat.le_refl _) _).drew
      have hTrA := hTr2.keep hal
      obtain ⟨v, hv⟩ := hTrA.lg.look (by unfold maxLen; omega) (by omega) hl2
      have hbL2 := hTr2.lg.lt
      have hrunA : (Instr.lookup 131 (.map (some bL)) (.int .i64 ((r : Nat) : Int)) false).run Try.prog w2.drew = .ok v w2.drew := by
        have := hv.run false w2.drew (hal.block bL hbL2).symm
        simpa using this
      have hrunB : (Instr.lookup 131 (.map (some bL)) (.int .i64 ((r : Nat) : Int)) false).run Try.prog ((w2.alloc (.cells #[.int .i64 ((n : Nat) : Int)] 3)).drew) = .ok v ((w2.alloc (.cells #[.int .i64 ((n : Nat) : Int)] 3)).drew) := by simpa using hv.run false _ rfl
      obtain ⟨aV, cV, rfl⟩ := ownsRow_slice hv.row
      obtain ⟨p2, hp2⟩ : ∃ p2, l2.length = p2 := ⟨_, rfl⟩
      rw [hp2] at hrunA hrunB
      obtain ⟨i0, hi, hz0, hz1, hz2⟩ := info_parts Try.info_int
      have hrowA := hv.row
      rw [hp2] at hrowA hv
      have hbt2 := hTr2.st.lt
      have HV := Lib.hid (And.intro hv (And.intro hTr2 (And.intro hTrA (And.intro hG2 (And.intro hl2 (And.intro hf2n (And.intro hsub2 hkeep2)))))))
      have HP2 := Lib.hid hp2
      have hH2 : W0.heap.size ≤ ((w2.alloc (.cells #[.int .i64 ((n : Nat) : Int)] 3)).drew).heap.size := hTrA.below.size
      have hp2b : p2 ≤ 400000 := by omega
      clear hv hTr2 hTrA hG2 hl2 hf2n hsub2 hkeep2 hp2 hal hl2l t0 t1 t2 t3 c3 y1 hrun
      go_wp2_with fail
      go_region_law (
        refine step_append_lies _ (by rfl) _ _ _ (by rfl) W0.heap.size 3 i0 (.int .i64 0) 1 8 Try.underlying61 hi hz0 hz1 hz2 (by rfl) (by decide) _ p2 (nums64 l2) (by rfl) hrowA ⟨w2.heap.size, 0, none⟩ 1 1 [.int .i64 ((n : Nat) : Int)] (by rfl) (by rfl) (World.news_of_block (cs := #[.int .i64 ((n : Nat) : Int)]) (by first | exact heap_alloc_new _ _ | exact St.new _ _ _)) (by intro u hu; simp at hu; rcases hu with rfl; rfl) (by omega) (by unfold maxLen; omega) (by omega) hH2 _ (by rfl) ?_
        intro gg cap6 w6 hown6 hgrow6 hat6 hlt6
        obtain ⟨w9, hrun9, hlg9, hg9⟩ := HV.out.1.back w6 (l2 ++ [n]) (.slice (some ⟨gg, 0, none⟩) (p2 + 1) cap6) gg hgrow6 (by rw [show (l2 ++ [n]).length = p2 + 1 by rw [List.length_append, HP2.out]; rfl, show nums64 (l2 ++ [n]) = nums64 l2 ++ [.int .i64 ((n : Nat) : Int)] by simp [nums64]]; exact hown6) rfl (hat6.imp id (fun e => by rw [e]; exact Nat.le_refl _))
        have hS6 : St w6 133 bt #[.pointer (some ⟨kr, 0, none⟩), .pointer (some ⟨bl, 0, none⟩), .map (some bL), vR] := HV.out.2.2.1.st.grown_own hrowA (by decide) hgrow6
        have s26 := (row4t hS6).2.2.1)
      all_goals
        obtain ⟨hv, hTr2, hTrA, hG2, hl2, hf2n, hsub2, hkeep2⟩ := HV.out
        have hne : bt ≠ bL := hTrA.ne
        have hS9 := hS6.grown hg9 (fun e => hne (Option.some.inj e))
        obtain ⟨w10, hrun10, hlg10, hg10⟩ := hlg9.insert (by unfold maxLen; omega) (k := n) (by omega)
        have hS10 := hS9.grown hg10 (fun e => hne (Option.some.inj e))
        have hGd := hG2.add hf2n HT.out.2.2.2.1 hrn hl2
        have hvb : ∀ g, vR.ownBlock = some g → some g ≠ some bL := fun g e e2 => by
          obtain ⟨c', fz, hc⟩ := own_kind hTrA.row g e
          obtain ⟨es, clock, hb, _⟩ := hTrA.lg
          injection e2 with e2
          rw [e2, hb] at hc
          cases hc
        have hs6 := hgrow6.size
        have hs9 := hg9.size
        have hTr10 : TrAt W0 w10 kr bl bt bL T (upd (upd f2 r (l2 ++ [n])) n []) vR lr :=
          ⟨((below_grown_own hTrA.below hrowA hH2 hgrow6).grown hg9 (by omega) (fun g e => by injection e with e; rw [← e]; exact hTrA.hL)).grown hg10 (by omega) (fun g e => by injection e with e; rw [← e]; exact hTrA.hL), hS10, hlg10.tight hGd.lt, own_grown (own_grown (own_grown_own hTrA.row hrowA (by decide) hgrow6) hg9 hvb) hg10 hvb, hTrA.ht, hTrA.hL⟩
        obtain ⟨q0, q1, q2, q3⟩ := row4t hS9
        have HF := Lib.hid (And.intro hTr10 hGd)
        have hrn' : r ≤ n := by omega
        clear hv hTr2 hTrA hG2 hl2 hf2n hTr10 hGd hS10 hlg10 hg10 hlg9 hg9 hgrow6 hown6 hat6 hlt6 hrun9 hS6 s26 hvb hne hrunA hrunB hS9
        go_wp2_with fail
        go_end0
        refine ⟨upd (upd f2 r (l2 ++ [n])) n [], rfl, HF.out.1, HF.out.2, ⟨[], upd_same _ _ _⟩, fun m l hm => ?_, fun m l hm => ?_⟩
        · by_cases h1 : m = n
          · exact Or.inr (by omega)
          · by_cases h2 : m = r
            · exact Or.inr (by omega)
            · rw [upd_ne _ _ h1, upd_ne _ _ h2] at hm
              exact (hsub2 m l hm).imp id (fun h => by omega)
        · by_cases h1 : m = n
          · rw [h1]; exact ⟨_, upd_same _ _ _⟩
          · by_cases h2 : m = r
            · rw [h2]; exact ⟨l2 ++ [n], by rw [upd_ne _ _ (by omega), upd_same]⟩
            · obtain ⟨l', hl'⟩ := hkeep2 m l hm
              exact ⟨l', by rw [upd_ne _ _ h1, upd_ne _ _ h2]; exact hl'⟩
end Go.Proofs.Ytkdhdlokilgccaa
