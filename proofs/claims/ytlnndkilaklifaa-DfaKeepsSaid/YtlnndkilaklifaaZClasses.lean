import Derived.Test.YtlnndkilaklifaaZClassMath
import Derived.Laws.Tables
namespace Go.Proofs.Ytlnndkilaklifaa
open Go.RowKit Go.Maps

/-- 256 zero bytes. -/
def zeros : Array Value := Array.replicate 256 (.int .u8 0)
theorem zeros_size : zeros.size = 256 := by simp [zeros]
theorem zero_cls (w : World) : (zeroValue 27).run Try.prog w = .ok (.agg zeros) w := by kernel_rfl
theorem zero_u8 (w : World) : (zeroValue 5).run Try.prog w = .ok (.int .u8 0) w := by kernel_rfl
theorem keyLaw : Keyed Try.prog 9 := string_keyed Try.underlying9

/-- Block g is 256 bytes, given by v. -/
def Bytes (w : World) (g : Nat) (v : Nat → Nat) : Prop := ∃ cs, St w 27 g cs ∧ cs.size = 256 ∧ ∀ j, j < 256 → cs[j]? = some (.int .u8 ((v j : Nat) : Int))
theorem Bytes.lt {w : World} {g : Nat} {v : Nat → Nat} (h : Bytes w g v) : g < w.heap.size := by obtain ⟨cs, h, _⟩ := h; exact h.lt
theorem Bytes.cell {w : World} {g : Nat} {v : Nat → Nat} (h : Bytes w g v) (j : Nat) (hj : j < 256) : w.cell? ⟨g, j, none⟩ = some (.int .u8 ((v j : Nat) : Int)) ∧ w.frozen? ⟨g, j, none⟩ = false := by
  obtain ⟨cs, h, _, hc⟩ := h
  have h' : w.heap[g]? = some (.cells cs 27 (0, 0)) := h
  exact ⟨by rw [cell_of_row w g j _ _ _ h', hc j hj], frozen_of_row w g j _ _ h'⟩
theorem Bytes.keep {w w' : World} {g : Nat} {v : Nat → Nat} (h : Bytes w g v) (k : Below w.heap.size w w') : Bytes w' g v := by obtain ⟨cs, h, r⟩ := h; exact ⟨cs, h.keep k, r⟩
theorem Bytes.far {w : World} {g : Nat} {v : Nat → Nat} (h : Bytes w g v) {a : Addr} (hp : g ≠ a.block) (u : Value) : Bytes (w.setCell a u) g v := by obtain ⟨cs, h, r⟩ := h; exact ⟨cs, h.far hp u, r⟩
/-- Numbers, but x at place k. -/
def upd (v : Nat → Nat) (k x : Nat) : Nat → Nat := fun j => if j = k then x else v j
theorem Bytes.set {w : World} {g : Nat} {v : Nat → Nat} (h : Bytes w g v) (k x : Nat) (hk : k < 256) : Bytes (w.setCell ⟨g, k, none⟩ (.int .u8 ((x : Nat) : Int))) g (upd v k x) := by
  obtain ⟨cs, h, hs, hc⟩ := h
  refine ⟨_, h.set k _, by simpa using hs, fun j hj => ?_⟩
  rw [Array.getElem?_setIfInBounds]
  by_cases e : k = j
  · subst e; rw [if_pos rfl, if_pos (by omega)]; simp [upd]
  · rw [if_neg e, hc j hj]
    show some (Value.int .u8 ((v j : Nat) : Int)) = some (.int .u8 (((if j = k then x else v j) : Nat) : Int))
    rw [if_neg (fun h => e h.symm)]
theorem bytes_new (w : World) : Bytes (w.alloc (.cells zeros 27)) w.heap.size (fun _ => 0) := ⟨_, St.new w _ _, zeros_size, fun j hj => by simp [zeros, hj]⟩
theorem Bytes.alloc {w : World} {g : Nat} {v : Nat → Nat} (h : Bytes w g v) (o : Obj) : Bytes (w.alloc o) g v := by obtain ⟨cs, h, r⟩ := h; exact ⟨cs, h.alloc o, r⟩
theorem Bytes.below {w w' : World} {g B : Nat} {v : Nat → Nat} (h : Bytes w g v) (k : Below B w w') (hg : g < B) : Bytes w' g v := by obtain ⟨cs, h, r⟩ := h; exact ⟨cs, h.below k hg, r⟩
theorem grown_below {w w' : World} {b : Nat} (h : w.grownBy w' (some b)) (hb : b ≤ w.heap.size) : Below b w w' :=
  ⟨h.os, h.tape, h.output, h.size, fun k hk => h.block k (by omega) (by simp; omega)⟩
theorem ownsMap_keep {H : Type} {w w' : World} {k : TypeId} {R : Value → Option (DataW H × List MemPlace)} {b n : Nat} {D : DataW H} (h : w.ownsMap Try.prog k R b n D) (kb : Below w.heap.size w w') : w'.ownsMap Try.prog k R b n D := by
  obtain ⟨es, clock, hb, r⟩ := h
  exact ⟨es, clock, (kb.block b (Array.getElem?_eq_some_iff.1 hb).1).trans hb, r⟩

theorem ownsMap_more {H : Type} {w : World} {k : TypeId} {R : Value → Option (DataW H × List MemPlace)} {b n : Nat} {D : DataW H} (h : w.ownsMap Try.prog k R b n D) : w.ownsMap Try.prog k R b (n + 1) D := by
  obtain ⟨es, clock, hb, hf, hs, e⟩ := h
  exact ⟨es, clock, hb, hf, by omega, e⟩

/-- The classes below k. -/
noncomputable def clsUp (K : Nat → Lit) (k : Nat) : Nat → Nat := fun j => if j < k then cls K j else 0
theorem clsUp_next (K : Nat → Lit) (k : Nat) : upd (clsUp K k) k (cls K k) = clsUp K (k + 1) := by
  funext j
  simp only [upd, clsUp]
  by_cases e : j = k
  · subst e; rw [if_pos rfl, if_pos (by omega)]
  · rw [if_neg e]
    by_cases h : j < k
    · rw [if_pos h, if_pos (by omega)]
    · rw [if_neg h, if_neg (by omega)]

structure ClsAt {H : Type} (w : World) (K : Nat → Lit) (k : Nat) (D : DataW H) (wr : World) : Prop where
  s0 : Bytes wr w.heap.size (fun _ => 0)
  s1 : Bytes wr (w.heap.size + 1) (clsUp K k)
  own : wr.ownsMap Try.prog 9 (plainElem Try.prog 5) (w.heap.size + 1 + 1) k D
  good : Good K k D
  below : Below w.heap.size w wr
/-- The array of the classes. -/
def ClsPost (K : Nat → Lit) (w : World) (e : Ending) (w' : World) : Prop := ∃ cs : Array Value, e = .returned (.agg cs) ∧ cs.size = 256 ∧ (∀ j, j < 256 → cs[j]? = some (.int .u8 ((cls K j : Nat) : Int))) ∧ Below w.heap.size w w'

set_option maxHeartbeats 2000000 in
set_option maxRecDepth 100000 in
theorem classes_any (a : Option Addr) (n cap : Nat) (s : Nat → Nat → Bool) (hn : n ≤ 1000) (w : World) (hS : SetsAt w a n s) :
    Calls Try.prog 68 #[.slice a n cap] w (ClsPost (keyLit s n) w) := by
  obtain ⟨K, hK⟩ : ∃ K, keyLit s n = K := ⟨_, rfl⟩
  rw [hK]
  have HK := Lib.hid hK
  clear hK
  have hz := zero_cls
  have hmm := @run_makeMap Try.prog
  go_enter Try.func68, Try.ntmps68
  go_wp2_with fail
  go_loopw [10] (fun i wr => ∃ (k : Nat) (D : DataW Unit), i = .int .i64 k ∧ k ≤ 256 ∧ ClsAt w K k D wr) (fun i _ => 256 - (intOf i).toNat)
  case atStart =>
    refine ⟨0, .map [], rfl, Nat.zero_le _, ⟨((bytes_new w).alloc _).alloc _, ?_, ?_, Good.start K, (((Below.refl _ _).alloc (Nat.le_refl _) _).alloc (by simp) _).alloc (by simp; omega) _⟩⟩
    · have := (bytes_new (w.alloc (.cells zeros 27))).alloc (.map #[] 0)
      simp only [World.size_alloc] at this
      exact this
    · have := World.ownsMap_made (H := Unit) ((w.alloc (.cells zeros 27)).alloc (.cells zeros 27)) Try.prog 9 (plainElem Try.prog 5)
      simp only [World.size_alloc] at this
      exact this
  case round =>
    obtain ⟨k, D, rfl, hk, R⟩ := hrel
    have hsz := R.below.size
    have hl1 := R.s1.lt
    by_cases hlt : k < 256
    · go_wp2_with fail
      refine (holders_any a n cap k s hn hlt _ (hS.keep R.below)).mono ?_
      rintro e w3 ⟨rfl, b3⟩
      have hs0 := R.s0.keep b3
      have hs1 := R.s1.keep b3
      have hown := ownsMap_keep R.own b3
      have hb3 := R.below.trans (b3.mono hsz)
      have hgood := R.good
      have hs3 := b3.size
      clear R b3
      obtain ⟨kl, hkl⟩ : ∃ kl, K k = kl := ⟨_, rfl⟩
      have hkey : keyOf Try.prog 9 (.string (strOf (keyL (fun i => s i k) n))) = some kl := by
        rw [Go.WideMaps.keyOf_string_mk Try.underlying9 (by rw [strOf_size]; simp [keyL]; unfold maxLen; omega), strOf_list, ← hkl, ← HK.out]
        rfl
      generalize strOf (keyL (fun i => s i k) n) = ks at hkey
      obtain ⟨hc1, hc2⟩ := hs1.cell k hlt
      have hszD := hown.size_le
      have hin : ∀ b, WideAt.IsKeyLit (K b) := fun b => by rw [← HK.out]; exact keyLit_is s n b
      rcases hh : Maps.has D kl with _ | _
      · obtain ⟨hnew, hcl⟩ := hgood.new hin (by rw [hkl]; exact hh)
        have hcn := hgood.size
        rw [hkl, ← hcn] at hnew
        rw [← hcn] at hcl
        have HG := Lib.hid (And.intro hnew hcl)
        clear hnew hcl hcn hkl hin hgood
        go_wp2_with (first
          | (at_lookup; refine wpList_lookup_own_ok_int _ rfl _ _ 112 rfl 9 5 .u8 keyLaw Try.underlying112 Try.underlying5 (zero_u8 _) (w.heap.size + 1 + 1) k _ rfl hown _ _ rfl hkey ?_; intro c hat hwc)
          | (at_len; refine wpList_len_own _ rfl _ 112 rfl 9 5 Try.underlying112 _ (w.heap.size + 1 + 1) k _ rfl hown ?_)
          | (at_mapUpdate; refine wpList_mapUpdate_own _ rfl _ _ _ 112 rfl 9 5 keyLaw Try.underlying112 _ (w.heap.size + 1 + 1) k _ rfl hown (by unfold maxLen; omega) _ _ _ rfl rfl hkey _ [] (plainElem_int Try.underlying5 (WalkArith.wf_u8 (by omega))) ?_; intro w4 hown4 hgrow4; have hB4 : Below (w.heap.size + 1 + 1) w3 w4 := grown_below hgrow4 (by omega); obtain ⟨hc41, hc42⟩ := (hs1.below hB4 (by omega)).cell k hlt))
        have hs04 := hs0.below hB4 (by omega)
        have hs14 := (hs1.below hB4 (by omega)).set k (size D) hlt
        have e14 : upd (clsUp K k) k (size D) = clsUp K (k + 1) := by rw [← HG.out.2]; exact clsUp_next K k
        rw [e14] at hs14
        have R4 : ClsAt w K (k + 1) (D.put kl (.lit (.int .u8 ((size D : Nat) : Int)))) (w4.setCell ⟨w.heap.size + 1, k, none⟩ (.int .u8 ((size D : Nat) : Int))) :=
          ⟨hs04.far (by simp) _, hs14, hown4.setCell (by simp) _, HG.out.1, (hb3.trans (hB4.mono (by omega))).setCell (by simp) _⟩
        go_roundw
        case rel => exact ⟨k + 1, _, by go_num, by omega, R4⟩
        case measure => simp [intOf]; omega
      · obtain ⟨hold, hat0⟩ := hgood.old (by rw [hkl]; exact hh)
        rw [hkl] at hat0
        have HG := Lib.hid (And.intro hold hat0)
        clear hold hat0 hkl hin hgood
        go_wp2_with (at_lookup; refine wpList_lookup_own_ok_int _ rfl _ _ 112 rfl 9 5 .u8 keyLaw Try.underlying112 Try.underlying5 (zero_u8 _) (w.heap.size + 1 + 1) k _ rfl hown _ _ rfl hkey ?_; intro c hat hwc)
        have hc : c = ((cls K k : Nat) : Int) := by
          have := hat.symm.trans HG.out.2
          simpa using this
        subst hc
        have hs13 := hs1.set k (cls K k) hlt
        rw [clsUp_next] at hs13
        have R4 : ClsAt w K (k + 1) D (w3.setCell ⟨w.heap.size + 1, k, none⟩ (.int .u8 ((cls K k : Nat) : Int))) :=
          ⟨hs0.far (by simp) _, hs13, ownsMap_more (hown.setCell (by simp) _), HG.out.1, hb3.setCell (by simp) _⟩
        go_roundw
        case rel => exact ⟨k + 1, _, by go_num, by omega, R4⟩
        case measure => simp [intOf]; omega
    · obtain rfl : k = 256 := by omega
      have hbel := R.below
      obtain ⟨cs, h1, h2, h3⟩ := R.s1
      obtain ⟨c0, g1, g2, _⟩ := R.s0
      have h1' : wr.heap[w.heap.size + 1]? = some (.cells cs 27 (0, 0)) := h1
      have g1' : wr.heap[w.heap.size]? = some (.cells c0 27 (0, 0)) := g1
      have hinfo : (Try.prog.info? 27).map (·.size) = some cs.size := by rw [h2]; kernel_rfl
      have hall : cs.all (·.oneCell') = true := by
        rw [Array.all_eq_true]
        intro j hj
        have := h3 j (by omega)
        rw [Array.getElem?_eq_getElem hj] at this
        injection this with this
        rw [this]; rfl
      have hcs : ∀ j, j < 256 → cs[j]? = some (.int .u8 ((cls K j : Nat) : Int)) := fun j hj => by rw [h3 j hj]; simp [clsUp, hj]
      clear R h1 g1 h3
      go_wp2_with (first
        | (refine wpList_load_row rfl 27 _ rfl (w.heap.size + 1) rfl _ cs (0, 0) (.array 256 5) h1' Try.underlying27 rfl hinfo ?_)
        | (refine wpList_store_row rfl 27 _ _ rfl w.heap.size cs rfl rfl _ c0 g1' hinfo (by rw [h2, g2]) hall ?_))
      refine bodyPost_ret (v := .agg cs) (results_cell_row (by rfl) _ _ w.heap.size _ cs (0, 0) (.array 256 5) rfl (setRow_heap _ _ _ _ _ _ g1') Try.underlying27 rfl hinfo) rfl ⟨cs, rfl, h2, hcs, ?_⟩
      exact hbel.trans ⟨rfl, rfl, rfl, by simp, fun k hk => setRow_other _ _ _ _ (by omega)⟩
end Go.Proofs.Ytlnndkilaklifaa
