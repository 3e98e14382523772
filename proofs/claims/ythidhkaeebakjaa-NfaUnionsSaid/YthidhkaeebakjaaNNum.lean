import Derived.Test.YthidhkaeebakjaaNRef
import Derived.Test.YthidhkaeebakjaaFrame
namespace Go.Proofs.Ythidhkaeebakjaa
open Go.RowKit Go.Maps Go.WideElems Go.ChangeMaps Go.MapKept
set_option linter.unusedVariables false

def nums64 (l : List Nat) : List Value := l.map fun n => .int .i64 ((n : Nat) : Int)
theorem nums64_snoc (l : List Nat) (n : Nat) : nums64 (l ++ [n]) = nums64 l ++ [.int .i64 ((n : Nat) : Int)] := by simp [nums64]
theorem nums64_len (l : List Nat) : (nums64 l).length = l.length := by simp [nums64]
theorem nums64_get (l : List Nat) (j : Nat) (h : j < l.length) : (nums64 l)[j]? = some (.int .i64 ((l[j] : Nat) : Int)) := by simp [nums64, List.getElem?_eq_getElem h]
theorem law_int9 : Keyed Try.prog 3 := int_keyed Try.underlying3
theorem zero_int9 (w : World) : (zeroValue 3).run Try.prog w = .ok (.int .i64 0) w := by kernel_rfl
theorem Try.info_int9 : (Try.prog.info? 3).map (fun i => (i.zero, i.size, i.bytes)) = some (some (.int .i64 0), 1, 8) := by kernel_rfl
theorem int_key9 (k : Nat) (hk : k ≤ 9223372036854775807) : keyOf Try.prog 3 (.int .i64 ((k : Nat) : Int)) = some (.int .i64 ((k : Nat) : Int)) := by
  have hw : (Lit.int .i64 ((k : Nat) : Int)).wf = true := wf64 (by omega)
  unfold keyOf
  simp [Try.underlying3, mapKey, hw]
theorem key_inj9 {a b : Nat} (h : (Value.int .i64 ((a : Nat) : Int)) = .int .i64 ((b : Nat) : Int)) : a = b := by
  injection h with _ h
  exact Int.ofNat.inj h
/-- A look-up, with what it says of the keys. -/
theorem MapEx.look2 {w : World} {k t e : TypeId} {b n : Nat} {Q : Value → Value → Prop} (h : MapEx w k b n Q) (K : Keyed Try.prog k) (ht : Try.prog.underlying t = some (.map k e)) {z : Value} (hz : (zeroValue e).run Try.prog w = .ok z w)
    {key : Value} {kl : Lit} (hkey : keyOf Try.prog k key = some kl) :
    ((Instr.lookup t (.map (some b)) key true).run Try.prog w = .ok (.tuple #[z, .bool false]) w ∧ ∀ y, ¬ Q key y) ∨ ∃ v, Q key v ∧ (Instr.lookup t (.map (some b)) key true).run Try.prog w = .ok (.tuple #[v, .bool true]) w := by
  obtain ⟨es, clock, hb, F, _, hq, hall⟩ := h
  rcases Maps.fit_look true K ht hz hb F hkey with ⟨hrun, hno, _⟩ | ⟨e0, y, hm, hk, hrun, _⟩
  · refine Or.inl ⟨by simpa using hrun, fun y hy => ?_⟩
    obtain ⟨e1, h1, h2⟩ := hall _ _ hy
    exact hno e1 h1 h2
  · exact Or.inr ⟨e0.val, by rw [← hk]; exact hq e0 hm, by simpa using hrun⟩

/-- Which number a name has. -/
def NmQ (nm : List Nat) (x y : Value) : Prop := ∃ k s : Nat, nm[k]? = some s ∧ x = .int .i64 ((s : Nat) : Int) ∧ y = .int .i64 ((k : Nat) : Int)
/-- Names and their numbers, in two variables. -/
structure NumAt (w : World) (B bMv bNv bM : Nat) (vN : Value) (nm : List Nat) : Prop where
  sM : St w 89 bMv #[.map (some bM)]
  sN : St w 43 bNv #[vN]
  own : w.ownsRow B 3 1 vN nm.length (nums64 nm)
  map : MapEx w 3 bM nm.length (NmQ nm)
  nd : nm.Nodup
  le : ∀ x ∈ nm, x ≤ 9223372036854775807
  bM : B ≤ bM
  bN : B ≤ bNv
theorem NumAt.keep {w w' : World} {B bMv bNv bM : Nat} {vN : Value} {nm : List Nat} (h : NumAt w B bMv bNv bM vN nm) (k : Below w.heap.size w w') : NumAt w' B bMv bNv bM vN nm :=
  ⟨h.sM.keep k, h.sN.keep k, ownsRow_keep h.own k, h.map.same (k.block _ h.map.lt), h.nd, h.le, h.bM, h.bN⟩
def NumPost (w : World) (B bMv bNv bM : Nat) (nm : List Nat) (s : Nat) (e : Ending) (w' : World) : Prop :=
  ∃ (k : Nat) (nm' : List Nat) (vN' : Value), e = .returned (.int .i64 ((k : Nat) : Int)) ∧ NumAt w' B bMv bNv bM vN' nm' ∧ nm'[k]? = some s ∧ (nm' = nm ∨ nm' = nm ++ [s]) ∧ Below B w w' ∧ Kept [3] [bM, bNv] w w'

set_option maxHeartbeats 1000000 in
set_option maxRecDepth 100000 in
theorem number_any (w : World) (B bMv bNv bM : Nat) (vN : Value) (nm : List Nat) (h : NumAt w B bMv bNv bM vN nm) (hB : B ≤ w.heap.size) (hlen : nm.length ≤ 1000000) (s : Nat) (hs : s ≤ 9223372036854775807) :
    Calls Try.prog 49 #[.int .i64 ((s : Nat) : Int), .pointer (some ⟨bMv, 0, none⟩), .pointer (some ⟨bNv, 0, none⟩)] w (NumPost w B bMv bNv bM nm s) := by
  have m0 : w.cell? ⟨bMv, 0, none⟩ = some (.map (some bM)) := h.sM.at_ 0
  have n0 : w.cell? ⟨bNv, 0, none⟩ = some vN := h.sN.at_ 0
  obtain ⟨aN, cN, rfl⟩ := ownsRow_slice h.own
  have H := Lib.hid h
  rcases h.map.look2 law_int9 Try.underlying89 (zero_int9 w) (int_key9 s hs) with ⟨hrun, hno⟩ | ⟨v, ⟨k, s', h1, h2, rfl⟩, hrun⟩
  rotate_left
  · obtain rfl : s = s' := key_inj9 h2
    have HK := Lib.hid h1
    clear h h1 h2
    go_enter Try.func49, Try.ntmps49
    go_wp2_with fail
    go_ret
    exact ⟨k, nm, _, rfl, H.out, HK.out, Or.inl rfl, Below.refl _ _, Kept.refl _ _ _⟩
  · have hsn : s ∉ nm := fun hm => by
      obtain ⟨k, hk, e⟩ := List.getElem_of_mem hm
      exact hno (.int .i64 ((k : Nat) : Int)) ⟨k, s, by rw [List.getElem?_eq_getElem hk, e], rfl, rfl⟩
    obtain ⟨w1, hup, hM1, hg1⟩ := h.map.update (Q' := NmQ (nm ++ [s])) (val := .int .i64 ((nm.length : Nat) : Int)) law_int9 Try.underlying89 (by unfold maxLen; omega) (int_key9 s hs) hno
      (fun x y ⟨k, t, h1, h2, h3⟩ => ⟨k, t, by rw [List.getElem?_append_left (List.getElem?_eq_some_iff.1 h1).1]; exact h1, h2, h3⟩) ⟨nm.length, s, by simp, rfl, rfl⟩
      (fun x y ⟨k, t, h1, h2, h3⟩ hne => by
        by_cases hk : k < nm.length
        · rw [List.getElem?_append_left hk] at h1
          exact ⟨_, k, t, h1, h2, rfl⟩
        · have hk2 : k = nm.length := by have := (List.getElem?_eq_some_iff.1 h1).1; simp at this; omega
          subst hk2
          simp at h1
          exact absurd (by rw [h2, h1]) hne)
    have hsM1 := h.sM.grown_map h.map.of hg1
    have hsN1 := h.sN.grown_map h.map.of hg1
    have hO1 := own_grown_map h.own h.map.of hg1
    have hB1 : Below B w w1 := (Below.refl _ _).grown hg1 hB (fun g e => by injection e with e; rw [← e]; exact h.bM)
    have hK1 : Kept [3] [bM, bNv] w w1 := (Kept.refl _ _ _).grown hg1 (fun g e => by injection e with e; exact Or.inl (by simp [← e]))
    have hb1 := hB1.size
    obtain ⟨n, hn⟩ : ∃ n, nm.length = n := ⟨_, rfl⟩
    rw [hn] at hup hO1 hM1 hlen n0
    obtain ⟨i0, hi, hz0, hz1, hz2⟩ := info_parts Try.info_int9
    have p0 : w1.cell? ⟨bNv, 0, none⟩ = some (.slice aN n cN) := by have := hsN1.at_ 0; rw [hn] at this; exact this
    have hbw : B ≤ w1.heap.size := by have := hg1.size; omega
    have H1 := Lib.hid (And.intro hsM1 (And.intro hsN1 (And.intro hM1 (And.intro hB1 (And.intro hK1 (And.intro hsn hn))))))
    clear h hno hsM1 hsN1 hM1 hB1 hK1 hsn hn hg1 hb1
    go_enter Try.func49, Try.ntmps49
    go_wp2_with (at_builtin; refine wpList_append_own _ rfl _ _ 43 rfl B 3 i0 (.int .i64 0) 1 8 Try.underlying43 hi hz0 hz1 hz2 rfl (by decide) _ _ _ rfl (hO1.alloc _) ⟨w1.heap.size, 0, none⟩ 1 1 [.int .i64 ((s : Nat) : Int)] rfl rfl (cell_one_new _ _ _) ?d2 ?d3 ?d4 ?d5 ?_)
    case d2 => intro u hu; simp at hu; subst hu; rfl
    case d3 => unfold maxLen; omega
    case d4 => omega
    case d5 => simp; omega
    intro v' w5 hown5 hgrow5 _
    obtain ⟨a5, c5, rfl⟩ := ownsRow_slice hown5
    obtain ⟨hsM1, hsN1, hM1, hB1, hK1, hsn, hn⟩ := H1.out
    have hal : Below w1.heap.size w1 (w1.alloc (.cells #[.int .i64 ((s : Nat) : Int)] 3)) := (Below.refl _ _).alloc (Nat.le_refl _) _
    have hsM5 := (hsM1.keep hal).grown_own (hO1.alloc _) (by decide) hgrow5
    have hsN5 := (hsN1.keep hal).grown_own (hO1.alloc _) (by decide) hgrow5
    have hM5 := (hM1.same (hal.block _ hM1.lt)).grown_own (hO1.alloc _) hgrow5
    have hB5 := below_grown_own (hB1.trans (hal.mono hbw)) (hO1.alloc _) (by simp; omega) hgrow5
    have hK5 := (hK1.below hal).grown_own (hO1.alloc _) (by simp) hgrow5
    have p1 := hsN5.thaw_ 0
    have p2 := hsN5.at_ 0
    simp only [List.getElem?_toArray, List.getElem?_cons_zero] at p2
    have hsM6 := hsM5.set_far hsN5 (by decide) 0 (.slice a5 (n + 1) c5)
    have hsN6 := hsN5.set 0 (.slice a5 (n + 1) c5)
    have hO6 := own_set hown5 hsN5 (by decide) 0 (.slice a5 (n + 1) c5)
    have hM6 := hM5.set (i := 0) (u := .slice a5 (n + 1) c5) hsN5
    have hB6 := hB5.setCell (p := ⟨bNv, 0, none⟩) H.out.bN (.slice a5 (n + 1) c5)
    have hK6 := hK5.setCell ⟨bNv, 0, none⟩ (.slice a5 (n + 1) c5) (Or.inl (by simp))
    have HF : Hid (NumPost w B bMv bNv bM nm s (.returned (.int .i64 ((n : Nat) : Int))) (w5.setCell ⟨bNv, 0, none⟩ (.slice a5 (n + 1) c5))) := by
      refine ⟨n, nm ++ [s], .slice a5 (n + 1) c5, rfl, ⟨hsM6, hsN6, ?_, ?_, ?_, ?_, H.out.bM, H.out.bN⟩, by rw [← hn]; simp, Or.inr rfl, hB6, hK6⟩
      · rw [nums64_snoc, List.length_append, hn]; exact hO6
      · rw [List.length_append, hn]; exact hM6
      · refine List.nodup_append.2 ⟨H.out.nd, by simp, fun a ha b hb e => ?_⟩
        rw [List.mem_singleton.1 hb] at e
        exact hsn (e ▸ ha)
      · intro x hx
        rcases List.mem_append.1 hx with hx | hx
        · exact H.out.le x hx
        · rw [List.mem_singleton.1 hx]; exact hs
    clear hsM1 hsN1 hM1 hB1 hK1 hsn hn hal hsM5 hsN5 hM5 hB5 hK5 hsM6 hsN6 hO6 hM6 hB6 hK6 hown5 hgrow5 hO1
    go_wp2_with fail
    go_ret
    exact HF.out
end Go.Proofs.Ythidhkaeebakjaa
