import Derived.Test.YtlnndkilaklifaaZSNetAdd
import Derived.Deep.RegionWith
namespace Go.Proofs.Ytlnndkilaklifaa
open Go.RowKit Go.Maps Go.WideElems Go.ChangeMaps Go.MapKept
set_option linter.unusedVariables false
set_option linter.unusedSimpArgs false

theorem NtF.st {B bn t g : Nat} {P P' : Nat → Prop} {w w' : World} {cs : Array Value} (F : NtF B bn P P' w w') (h : St w t g cs) (hn : ¬ P g) : St w' t g cs := by
  obtain ⟨bs, k, h2⟩ := F.kept
  exact h.kept k (by simp) (fun hm => by rcases h2 g hm with h3 | h3; exact hn h3; have := h.lt; omega)
theorem NtF.map {B bn t b n : Nat} {P P' : Nat → Prop} {w w' : World} {Q : Value → Value → Prop} (F : NtF B bn P P' w w') (h : MapEx w t b n Q) (hn : ¬ P b) : MapEx w' t b n Q := by
  obtain ⟨bs, k, h2⟩ := F.kept
  exact h.kept k (fun hm => by rcases h2 b hm with h3 | h3; exact hn h3; have := h.lt; omega)
theorem NtF.own {B bn B' t s n : Nat} {P P' : Nat → Prop} {w w' : World} {v : Value} {xs : List Value} (F : NtF B bn P P' w w') (h : w.ownsRow B' t s v n xs) (hn : ∀ g, v.ownBlock = some g → ¬ P g) : w'.ownsRow B' t s v n xs := by
  obtain ⟨bs, k, h2⟩ := F.kept
  exact own_kept h k (by simp) (fun g e hm => by
    rcases h2 g hm with h3 | h3
    · exact hn g e h3
    · obtain ⟨c, fz, hc⟩ := own_kind h g e
      have := (Array.getElem?_eq_some_iff.1 hc).1; omega)
theorem NtF.ian {B bn : Nat} {P P' : Nat → Prop} {w w' : World} {a : Option Addr} {l : List Nat} (F : NtF B bn P P' w w') (h : 0 < l.length → ∃ g off, a = some ⟨g, off, none⟩ ∧ g < w.heap.size ∧ ¬ P g ∧ ∀ j (h : j < l.length), w.cell? ⟨g, off + j, none⟩ = some (.int .i64 ((l[j] : Nat) : Int))) :
    0 < l.length → ∃ g off, a = some ⟨g, off, none⟩ ∧ g < w'.heap.size ∧ ¬ P' g ∧ ∀ j (h : j < l.length), w'.cell? ⟨g, off + j, none⟩ = some (.int .i64 ((l[j] : Nat) : Int)) := by
  intro h0
  obtain ⟨g, off, e, hg, hn, hc⟩ := h h0
  obtain ⟨bs, k, h2⟩ := F.kept
  have hn2 : g ∉ bs := fun hm => by rcases h2 g hm with h | h; exact hn h; omega
  refine ⟨g, off, e, Nat.lt_of_lt_of_le hg F.below.size, fun hm => ?_, fun j hj => ?_⟩
  · rcases F.new g hm with h | h
    · exact hn h
    · omega
  · rw [k.cell9 hn2 hg]; exact hc j hj
theorem NtF.more {B bn : Nat} {P P' : Nat → Prop} {w w' : World} (F : NtF B bn P P' w w') (Z : Nat → Prop) : NtF B bn (fun x => Z x ∨ P x) (fun x => Z x ∨ P' x) w w' := by
  obtain ⟨bs, k, h2⟩ := F.kept
  exact ⟨⟨bs, k, fun x hx => (h2 x hx).elim (fun h => Or.inl (Or.inr h)) Or.inr⟩, fun x hx => hx.elim (fun h => Or.inl (Or.inl h)) (fun h => (F.new x h).elim (fun h => Or.inl (Or.inr h)) Or.inr), F.below⟩
theorem NtA.ne_st {w : World} {B bn Mm Mf Ms t g : Nat} {cs cs' : Array Value} {mks : List Int} {vM vF vS : Value} {fv sv : Nat → Value} {xs : Nat → List Value} {L : List En} (h : NtA B bn Mm Mf Ms cs mks vM vF vS fv sv xs L w) (hs : St w t g cs')
    (h1 : t ≠ 88) (h2 : t ≠ 3) (h3 : t ≠ 25) (h4 : t ≠ 105) (h5 : t ≠ 107) : ¬ bsN bn Mf Ms vM vF vS fv sv g := by
  rintro (e | e | e | e | ⟨i, hi, e⟩ | ⟨i, hi, e⟩)
  · exact hs.ne h.sn h1 e
  · exact own_ne h.om hs (fun e => h2 e.symm) g e rfl
  · exact own_ne h.fr.own hs (fun e => h3 e.symm) g e rfl
  · exact own_ne h.st.own hs (fun e => h4 e.symm) g e rfl
  · exact own_ne (h.fr.row i hi) hs (fun e => h2 e.symm) g e rfl
  · exact own_ne (h.st.row i hi) hs (fun e => h5 e.symm) g e rfl
theorem NtA.ne_map {w : World} {B bn Mm Mf Ms k b n : Nat} {cs : Array Value} {mks : List Int} {vM vF vS : Value} {fv sv : Nat → Value} {xs : Nat → List Value} {L : List En} {Q : Value → Value → Prop} (h : NtA B bn Mm Mf Ms cs mks vM vF vS fv sv xs L w) (hm : MapEx w k b n Q) : ¬ bsN bn Mf Ms vM vF vS fv sv b := by
  rintro (e | e | e | e | ⟨i, hi, e⟩ | ⟨i, hi, e⟩)
  · exact map_ne_st hm h.sn e.symm
  · exact map_ne_own hm h.om b e rfl
  · exact map_ne_own hm h.fr.own b e rfl
  · exact map_ne_own hm h.st.own b e rfl
  · exact map_ne_own hm (h.fr.row i hi) b e rfl
  · exact map_ne_own hm (h.st.row i hi) b e rfl
/-- Behind a store into a map. -/
theorem NtA.grown_map {w w1 : World} {B bn Mm Mf Ms k b n : Nat} {cs : Array Value} {mks : List Int} {vM vF vS : Value} {fv sv : Nat → Value} {xs : Nat → List Value} {L : List En} {Q : Value → Value → Prop} (h : NtA B bn Mm Mf Ms cs mks vM vF vS fv sv xs L w) (hm : MapEx w k b n Q) (hg : w.grownBy w1 (some b)) (hb : B ≤ b) :
    NtA B bn Mm Mf Ms cs mks vM vF vS fv sv xs L w1 ∧ NtF B bn (fun x => x = b ∨ bsN bn Mf Ms vM vF vS fv sv x) (fun x => x = b ∨ bsN bn Mf Ms vM vF vS fv sv x) w w1 := by
  have hk : Kept [] [b] w w1 := (Kept.refl _ _ _).grown hg (fun g e => by injection e with e; exact Or.inl (by simp [← e]))
  have hB : Below B w w1 := (Below.refl _ _).grown hg h.lo.2 (fun g e => by injection e with e; rw [← e]; exact hb)
  exact ⟨h.kept hk hB.size (fun x hx hx2 => h.ne_map hm (by rw [← List.mem_singleton.1 hx2]; exact hx)), ⟨⟨[b], hk, fun x hx => Or.inl (Or.inl (List.mem_singleton.1 hx))⟩, fun x hx => Or.inl hx, hB⟩⟩

/-- The net, its names, and the variables of the making. -/
structure NnA (V : World) (B bn b3 b5 b6 bM : Nat) (fn : Value) (mf : Nat → Int) (nm : List Nat) (cs : Array Value) (vM vF vS : Value) (fv sv : Nat → Value) (xs : Nat → List Value) (L : List En) (w : World) : Prop where
  n : NtA B bn nm.length nm.length nm.length cs (nm.map mf) vM vF vS fv sv xs L w
  sM : St w 101 b6 #[.map (some bM)]
  sT : St w 83 b5 #[.pointer (some ⟨bn, 0, none⟩)]
  sF : St w 64 b3 #[fn]
  map : MapEx w 3 bM nm.length (NmQ nm)
  nd : nm.Nodup
  le : ∀ x ∈ nm, x ≤ 9223372036854775807
  bM : B ≤ bM
  bel : Below B V w
/-- The blocks that numbering changes. -/
def bsM (bM bn M : Nat) (vM vF vS : Value) (fv sv : Nat → Value) (x : Nat) : Prop := x = bM ∨ bsN bn M M vM vF vS fv sv x
theorem NnA.keep {V w w' : World} {B bn b3 b5 b6 bM : Nat} {fn : Value} {mf : Nat → Int} {nm : List Nat} {cs : Array Value} {vM vF vS : Value} {fv sv : Nat → Value} {xs : Nat → List Value} {L : List En} (h : NnA V B bn b3 b5 b6 bM fn mf nm cs vM vF vS fv sv xs L w) (k : Below w.heap.size w w') : NnA V B bn b3 b5 b6 bM fn mf nm cs vM vF vS fv sv xs L w' :=
  ⟨h.n.keep k, h.sM.keep k, h.sT.keep k, h.sF.keep k, h.map.same (k.block _ h.map.lt), h.nd, h.le, h.bM, h.bel.trans (k.mono h.n.lo.2)⟩
def NNumP (V : World) (B bn b3 b5 b6 bM : Nat) (fn : Value) (mf : Nat → Int) (nm : List Nat) (cs : Array Value) (vM vF vS : Value) (fv sv : Nat → Value) (xs : Nat → List Value) (L : List En) (s : Nat) (w : World) (e : Ending) (w' : World) : Prop :=
  ∃ (k : Nat) (nm' : List Nat) (vM' vF' vS' : Value) (fv' sv' : Nat → Value), e = .returned (.int .i64 ((k : Nat) : Int)) ∧ NnA V B bn b3 b5 b6 bM fn mf nm' cs vM' vF' vS' fv' sv' xs L w' ∧ nm'[k]? = some s ∧ (nm' = nm ∨ nm' = nm ++ [s]) ∧
    NtF B bn (bsM bM bn nm.length vM vF vS fv sv) (bsM bM bn nm'.length vM' vF' vS' fv' sv') w w'

theorem call_mark9 : (∀ (args : Array Value) (W : World), (callFunc 35 args).run Try.prog W = .ok (.enter 35 args) W) ∧ ∀ (args : Array Value) (W : World), (callFunc 40 args).run Try.prog W = .ok (.enter 40 args) W := ⟨fun _ _ => by rfl, fun _ _ => by rfl⟩
set_option maxHeartbeats 1000000 in
set_option maxRecDepth 100000 in
theorem nnumber_any (V : World) (B bn b3 b5 b6 bM kf bV : Nat) (mf : Nat → Int) (nm : List Nat) (cs : Array Value) (vM vF vS : Value) (fv sv : Nat → Value) (xs : Nat → List Value) (L : List En) (w : World) (HC : ∀ (args : Array Value) (W : World), (callFunc kf args).run Try.prog W = .ok (.enter kf args) W)
    (HM : ∀ W, Below B V W → ∀ x, x ≤ 9223372036854775807 → Calls Try.prog kf #[.int .i64 ((x : Nat) : Int), .pointer (some ⟨bV, 0, none⟩)] W fun e w' => e = .returned (.int .i64 (mf x)) ∧ w' = W)
    (h : NnA V B bn b3 b5 b6 bM (.func (.func kf) #[] #[.pointer (some ⟨bV, 0, none⟩)]) mf nm cs vM vF vS fv sv xs L w) (hlen : nm.length ≤ 90000) (s : Nat) (hs : s ≤ 9223372036854775807) :
    Calls Try.prog 70 #[.int .i64 ((s : Nat) : Int), .pointer (some ⟨b6, 0, none⟩), .pointer (some ⟨b5, 0, none⟩), .pointer (some ⟨b3, 0, none⟩)] w (NNumP V B bn b3 b5 b6 bM (.func (.func kf) #[] #[.pointer (some ⟨bV, 0, none⟩)]) mf nm cs vM vF vS fv sv xs L s w) := by
  have m0 : w.cell? ⟨b6, 0, none⟩ = some (.map (some bM)) := h.sM.at_ 0
  have m1 : w.drew.cell? ⟨b5, 0, none⟩ = some (.pointer (some ⟨bn, 0, none⟩)) := h.sT.at_ 0
  have m2 : w.drew.cell? ⟨b3, 0, none⟩ = some (.func (.func kf) #[] #[.pointer (some ⟨bV, 0, none⟩)]) := h.sF.at_ 0
  have H := Lib.hid h
  rcases h.map.look2 law_int9 Try.underlying101 (zero_int9 w) (int_key9 s hs) with ⟨hrun, hno⟩ | ⟨v, ⟨k, s', h1, h2, rfl⟩, hrun⟩
  rotate_left
  · obtain rfl : s = s' := key_inj9 h2
    have HK := Lib.hid h1
    clear h h1 h2
    go_enter Try.func70, Try.ntmps70
    go_wp2_with fail
    go_ret
    exact ⟨k, nm, _, _, _, _, _, rfl, H.out, HK.out, Or.inl rfl, ⟨⟨[], Kept.refl _ _ _, by simp⟩, fun x h => Or.inl h, Below.refl _ _⟩⟩
  · have HNo := Lib.hid hno
    have hd : Below w.heap.size w w.drew := (Below.refl _ _).drew
    have Hd := Lib.hid (h.keep hd)
    have HMk := Lib.hid (HM w.drew Hd.out.bel s hs)
    have HAd := Lib.hid (nadd_any B bn nm.length cs (nm.map mf) vM vF vS fv sv xs L w.drew Hd.out.n (by omega) (mf s))
    clear h hno hd HM
    obtain ⟨r, hr⟩ : ∃ r, mf s = r := ⟨_, rfl⟩
    have HR := Lib.hid hr
    rw [hr] at HMk HAd
    clear hr
    go_enter Try.func70, Try.ntmps70
    go_wp2_with fail
    go_region_with (first
      | (with_reducible refine Calls.mono HMk.out ?_; rintro e w2 ⟨rfl, rfl⟩)
      | (go_at_call 71; refine HAd.out.mono ?_; rintro e w2 ⟨vM', vF', vS', rfl, hN2, hF2⟩; have HN2 := Lib.hid (And.intro hN2 hF2); clear hN2 hF2))
    all_goals
      have F2 := HN2.out.2
      have sM2 := F2.st Hd.out.sM (Hd.out.n.ne_st Hd.out.sM (by decide) (by decide) (by decide) (by decide) (by decide))
      have sT2 := F2.st Hd.out.sT (Hd.out.n.ne_st Hd.out.sT (by decide) (by decide) (by decide) (by decide) (by decide))
      have sF2 := F2.st Hd.out.sF (Hd.out.n.ne_st Hd.out.sF (by decide) (by decide) (by decide) (by decide) (by decide))
      have map2 := F2.map Hd.out.map (Hd.out.n.ne_map Hd.out.map)
      have hsn : s ∉ nm := fun hm => by
        obtain ⟨k, hk, e⟩ := List.getElem_of_mem hm
        exact HNo.out (.int .i64 ((k : Nat) : Int)) ⟨k, s, by rw [List.getElem?_eq_getElem hk, e], rfl, rfl⟩
      obtain ⟨w3, hup, hM3, hg3⟩ := map2.update (Q' := NmQ (nm ++ [s])) (val := .int .i64 ((nm.length : Nat) : Int)) law_int9 Try.underlying101 (by unfold maxLen; omega) (int_key9 s hs) HNo.out
        (fun x y ⟨k, t, h1, h2, h3⟩ => ⟨k, t, by rw [List.getElem?_append_left (List.getElem?_eq_some_iff.1 h1).1]; exact h1, h2, h3⟩) ⟨nm.length, s, by simp, rfl, rfl⟩
        (fun x y ⟨k, t, h1, h2, h3⟩ hne => by
          by_cases hk : k < nm.length
          · rw [List.getElem?_append_left hk] at h1
            exact ⟨_, k, t, h1, h2, rfl⟩
          · have hk2 : k = nm.length := by have := (List.getElem?_eq_some_iff.1 h1).1; simp at this; omega
            subst hk2
            simp at h1
            exact absurd (by rw [h2, h1]) hne)
      have m3 : w2.cell? ⟨b6, 0, none⟩ = some (.map (some bM)) := sM2.at_ 0
      obtain ⟨n3, F3⟩ := HN2.out.1.grown_map map2 hg3 Hd.out.bM
      have hnm : (nm ++ [s]).length = nm.length + 1 := by simp
      have HF : Hid (NNumP V B bn b3 b5 b6 bM (.func (.func kf) #[] #[.pointer (some ⟨bV, 0, none⟩)]) mf nm cs vM vF vS fv sv xs L s w (.returned (.int .i64 ((nm.length : Nat) : Int))) w3) := by
        refine ⟨nm.length, nm ++ [s], vM', vF', vS', (fun j => if j = nm.length then .slice none 0 0 else fv j), (fun j => if j = nm.length then .slice none 0 0 else sv j), rfl, ⟨?_, sM2.grown_map map2.of hg3, sT2.grown_map map2.of hg3, sF2.grown_map map2.of hg3, ?_, ?_, ?_, Hd.out.bM, (Hd.out.bel.trans F2.below).trans F3.below⟩, by simp, Or.inr rfl, ?_⟩
        · rw [hnm, List.map_append, List.map_singleton, HR.out]
          exact n3
        · rw [hnm]; exact hM3
        · refine List.nodup_append.2 ⟨H.out.nd, by simp, fun a ha b hb e => ?_⟩
          rw [List.mem_singleton.1 hb] at e
          exact hsn (e ▸ ha)
        · intro x hx
          rcases List.mem_append.1 hx with hx | hx
          · exact H.out.le x hx
          · rw [List.mem_singleton.1 hx]; exact hs
        · rw [hnm]
          exact ((NtF.keep (bn := bn) (P := bsM bM bn nm.length vM vF vS fv sv) (show Below w.heap.size w w.drew from (Below.refl _ _).drew) H.out.n.lo.2).trans (F2.more (fun x => x = bM))).trans F3
      clear F2 sM2 sT2 sF2 map2 hM3 hg3 n3 F3 hnm hsn
      go_wp2_with fail
      go_ret
      exact HF.out
end Go.Proofs.Ytlnndkilaklifaa
