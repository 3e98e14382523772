import Derived.Test.YtgmcfgkjhobiaaaZDBase
import Derived.Test.YtgmcfgkjhobiaaaZNNew
import Derived.Maps.AppendAt
import Derived.BigQuiet
import Derived.Deep.QuietTactic
import Derived.Laws.BytesArg
import Derived.OwnWalk
import Derived.RegionTactic
import Derived.BigRegion
import Derived.Maps.Own
import Derived.Maps.OwnOps
import Derived.Maps.OwnSet
import Derived.Maps.Views
import Derived.StringKeys
import Derived.Laws.Tables
namespace Go.Proofs.Ytgmcfgkjhobiaaa
open Go.RowKit Go.Maps Go.WideElems Go.ChangeMaps Go.MapKept
set_option linter.unusedVariables false
set_option linter.unusedSimpArgs false

theorem own_kinds {w : World} {B B' t t' s s' n n' : Nat} {v v' : Value} {xs xs' : List Value} (h : w.ownsRow B t s v n xs) (h' : w.ownsRow B' t' s' v' n' xs') (ht : t ≠ t') : ∀ g, v.ownBlock = some g → v'.ownBlock ≠ some g := by
  intro g e1 e2
  obtain ⟨c, fz, hc⟩ := own_kind h g e1
  obtain ⟨c', fz', hc'⟩ := own_kind h' g e2
  rw [hc] at hc'
  injection hc' with hc'
  injection hc' with _ hc'
  exact ht hc'

end Go.Proofs.Ytgmcfgkjhobiaaa

namespace Go.Proofs.Ytgmcfgkjhobiaaa
open Go.RowKit Go.Maps Go.WideElems Go.ChangeMaps Go.MapKept
set_option linter.unusedVariables false
set_option linter.unusedSimpArgs false

/-- All states before number i are done with. -/
def Clo (L : List En) (l : List Nat) (i : Nat) : Prop := ∀ j (h : j < l.length), j < i → ∀ e ∈ L, e.b = true → e.f = l[j] → e.t ∈ l
theorem Clo.pre {L : List En} {l l' : List Nat} {i : Nat} (h : Clo L l i) (hi : i ≤ l.length) (k : l <+: l') : Clo L l' i := by
  intro j hj hji e he hb hf
  have h1 : l[j]'(by omega) = l'[j] := k.getElem (by omega)
  exact k.subset (h j (by omega) hji e he hb (by rw [h1]; exact hf))

end Go.Proofs.Ytgmcfgkjhobiaaa

namespace Go.Proofs.Ytgmcfgkjhobiaaa
open Go.RowKit

/-- Eight truths as a byte: the first n of those that begin at place 8 j. -/
def byUp (f : Nat → Bool) (j : Nat) : Nat → Nat
  | 0 => 0
  | n + 1 => byUp f j n + if f (8 * j + n) then 2 ^ n else 0
def by8 (f : Nat → Bool) (j : Nat) : Nat := byUp f j 8
theorem byUp_lt (f : Nat → Bool) (j n : Nat) : byUp f j n < 2 ^ n := by
  induction n with
  | zero => simp [byUp]
  | succ n ih => unfold byUp; rw [Nat.pow_succ]; split <;> omega
theorem by8_lt (f : Nat → Bool) (j : Nat) : by8 f j < 256 := byUp_lt f j 8
theorem byUp_bit (f : Nat → Bool) (j n k : Nat) : (byUp f j n).testBit k = (decide (k < n) && f (8 * j + k)) := by
  induction n with
  | zero => simp [byUp]
  | succ n ih =>
    unfold byUp
    have hl := byUp_lt f j n
    rcases Nat.lt_trichotomy k n with h | h | h
    · have h1 : k < n + 1 := by omega
      split
      · rw [Nat.add_comm, Nat.testBit_two_pow_add_gt h, ih]; simp [h, h1]
      · rw [Nat.add_zero, ih]; simp [h, h1]
    · subst h
      split
      · rename_i hp
        rw [Nat.add_comm, Nat.testBit_two_pow_add_eq, ih]; simp [hp]
      · rename_i hp
        rw [Nat.add_zero, ih]; simp [hp]
    · have h1 : ¬ k < n + 1 := by omega
      have hb : byUp f j (n + 1) < 2 ^ k := Nat.lt_of_lt_of_le (byUp_lt f j (n + 1)) (Nat.pow_le_pow_right (by decide) (by omega))
      unfold byUp at hb
      rw [Nat.testBit_lt_two_pow hb]; simp [h1]
theorem by8_bit (f : Nat → Bool) (j k : Nat) : (by8 f j).testBit k = (decide (k < 8) && f (8 * j + k)) := byUp_bit f j 8 k
theorem by8_congr {f g : Nat → Bool} {j : Nat} (h : ∀ k, k < 8 → f (8 * j + k) = g (8 * j + k)) : by8 f j = by8 g j := by
  refine Nat.eq_of_testBit_eq fun k => ?_
  rw [by8_bit, by8_bit]
  by_cases hk : k < 8
  · rw [h k hk]
  · simp [hk]
theorem by8_eq {f g : Nat → Bool} {j : Nat} (h : by8 f j = by8 g j) (k : Nat) (hk : k < 8) : f (8 * j + k) = g (8 * j + k) := by
  have h1 := congrArg (fun x => Nat.testBit x k) h
  simpa [by8_bit, hk] using h1

/-- The bytes that tell n truths. -/
def keyL (f : Nat → Bool) (n : Nat) : List Nat := (List.range ((n + 7) / 8)).map (by8 (upTo f n))
theorem keyL_eq (f g : Nat → Bool) (n : Nat) : keyL f n = keyL g n ↔ ∀ i, i < n → f i = g i := by
  constructor
  · intro h i hi
    have h1 : ∀ j, j < (n + 7) / 8 → by8 (upTo f n) j = by8 (upTo g n) j := by
      intro j hj
      have h2 := congrArg (fun l => l[j]?) h
      simpa [keyL, hj] using h2
    have h3 := by8_eq (h1 (i / 8) (by omega)) (i % 8) (Nat.mod_lt _ (by decide))
    rw [show 8 * (i / 8) + i % 8 = i by omega] at h3
    simpa [upTo, hi] using h3
  · intro h
    unfold keyL
    refine List.map_congr_left fun j _ => by8_congr fun k _ => ?_
    by_cases hi : 8 * j + k < n
    · simp [upTo, hi, h _ hi]
    · simp [upTo, hi]
end Go.Proofs.Ytgmcfgkjhobiaaa

namespace Go.Proofs.Ytgmcfgkjhobiaaa
open Go.RowKit

/-- A list of bytes as a string. -/
def strOf (l : List Nat) : ByteArray := strOfNums (l.map fun n => ((n : Nat) : Int))
theorem strOf_list (l : List Nat) : (strOf l).data.toList = l.map UInt8.ofNat := by simp [strOf, strOfNums_data]
theorem strOf_size (l : List Nat) : (strOf l).size = l.length := by simp [strOf, strOfNums_size]
end Go.Proofs.Ytgmcfgkjhobiaaa

namespace Go.Proofs.Ytgmcfgkjhobiaaa
open Go.RowKit

theorem conv_any {W : World} {base : Nat} {a : Option Addr} {n cap : Nat} {l : List Nat} (h : W.ownsRow base 5 1 (.slice a n cap) n (u8s l)) (hn : n = l.length) :
    (convert 87 9 (.slice a n cap)).run Try.prog W = .ok (.string (strOf l)) W := by
  rcases Nat.eq_zero_or_pos n with h0 | h0
  · subst h0
    have hl : l = [] := List.length_eq_zero_iff.1 hn.symm
    subst hl
    rcases a with _ | a
    · exact run_convert_bytes_nil W 87 5 Try.underlying87 Try.underlying5 0 cap 9 Try.underlying9
    · have e := h.2
      rcases e with ⟨e, _⟩ | ⟨g, cap', cur, e, _⟩
      · simp at e
      · simp at e
        obtain ⟨rfl, rfl⟩ := e
        exact run_convert_bytes_arg W 87 5 Try.underlying87 Try.underlying5 g 0 0 cap [] rfl (fun i hi => absurd hi (by omega)) 9 Try.underlying9
  · obtain ⟨g, rfl, _, _, hc⟩ := ownsRow_read h h0
    refine run_convert_bytes_arg W 87 5 Try.underlying87 Try.underlying5 g 0 n cap (l.map fun n => ((n : Nat) : Int)) (by simp [hn]) (fun i hi => ?_) 9 Try.underlying9
    rw [Nat.zero_add, (hc i (by omega)).1, u8s_get l i (by omega)]
    simp [List.getElem?_eq_getElem (by omega : i < l.length)]
theorem bytes_inj {l l' : List Nat} (h : ∀ n ∈ l, n < 256) (h' : ∀ n ∈ l', n < 256) (e : l.map UInt8.ofNat = l'.map UInt8.ofNat) : l = l' := by
  have h1 := congrArg (List.map UInt8.toNat) e
  simp only [List.map_map] at h1
  have k : ∀ l : List Nat, (∀ n ∈ l, n < 256) → l.map (UInt8.toNat ∘ UInt8.ofNat) = l := by
    intro l hl
    induction l with
    | nil => rfl
    | cons n l ih =>
      simp only [List.map_cons, Function.comp]
      rw [show (UInt8.ofNat n).toNat = n by simp [Nat.mod_eq_of_lt (hl n (by simp))]]
      congr 1
      exact ih fun m hm => hl m (by simp [hm])
  rwa [k l h, k l' h'] at h1
end Go.Proofs.Ytgmcfgkjhobiaaa

namespace Go.Proofs.Ytgmcfgkjhobiaaa
open Go.RowKit

/-- What is known of a slice of sets that came in. -/
def SetsAt (w : World) (a : Option Addr) (n : Nat) (s : Nat → Nat → Bool) : Prop :=
  0 < n → ∃ b off, a = some ⟨b, off, none⟩ ∧ b < w.heap.size ∧ ∀ i, i < n → w.cell? ⟨b, off + i * 4, none⟩ = some (.int .u64 ((wd (s i) 0 : Nat) : Int)) ∧ w.cell? ⟨b, off + i * 4 + 1, none⟩ = some (.int .u64 ((wd (s i) 1 : Nat) : Int)) ∧
    w.cell? ⟨b, off + i * 4 + 2, none⟩ = some (.int .u64 ((wd (s i) 2 : Nat) : Int)) ∧ w.cell? ⟨b, off + i * 4 + 3, none⟩ = some (.int .u64 ((wd (s i) 3 : Nat) : Int))
theorem SetsAt.keep {w w' : World} {a : Option Addr} {n : Nat} {s : Nat → Nat → Bool} (h : SetsAt w a n s) (k : Below w.heap.size w w') : SetsAt w' a n s := by
  intro h0
  obtain ⟨b, off, e, hb, hc⟩ := h h0
  refine ⟨b, off, e, Nat.lt_of_lt_of_le hb k.size, fun i hi => ?_⟩
  obtain ⟨h0, h1, h2, h3⟩ := hc i hi
  exact ⟨(k.cell (p := ⟨b, _, none⟩) hb).trans h0, (k.cell (p := ⟨b, _, none⟩) hb).trans h1, (k.cell (p := ⟨b, _, none⟩) hb).trans h2, (k.cell (p := ⟨b, _, none⟩) hb).trans h3⟩


/-- The row while k sets are done. -/
def rowL (f : Nat → Bool) (m : Nat) : List Nat := (List.range m).map (by8 f)

/-- After k rounds. -/
structure HoldAt (w : World) (B g m : Nat) (f : Nat → Bool) (wr : World) : Prop where
  own : wr.ownsRow B 5 1 (.slice (some ⟨g, 0, none⟩) m m) m (u8s (rowL f m))
  below : Below w.heap.size w wr
theorem HoldAt.drew {w wr : World} {B g m : Nat} {f : Nat → Bool} (h : HoldAt w B g m f wr) : HoldAt w B g m f wr.drew := ⟨h.own, h.below.drew⟩

end Go.Proofs.Ytgmcfgkjhobiaaa

namespace Go.Proofs.Ytgmcfgkjhobiaaa
open Go.RowKit Go.Maps Go.WideElems Go.ChangeMaps Go.MapKept
set_option linter.unusedVariables false
set_option linter.unusedSimpArgs false


end Go.Proofs.Ytgmcfgkjhobiaaa

namespace Go.Proofs.Ytgmcfgkjhobiaaa
open Go.RowKit Go.Maps Go.WideElems Go.ChangeMaps Go.MapKept
set_option linter.unusedVariables false
set_option linter.unusedSimpArgs false

/-- Numbers in memory, in a block under B. -/
def IAt (w : World) (B : Nat) (a : Option Addr) (l : List Nat) : Prop := 0 < l.length → ∃ g off, a = some ⟨g, off, none⟩ ∧ g < B ∧ ∀ j (h : j < l.length), w.cell? ⟨g, off + j, none⟩ = some (.int .i64 ((l[j] : Nat) : Int))
theorem IAt.below {w w' : World} {B : Nat} {a : Option Addr} {l : List Nat} (h : IAt w B a l) (k : Below B w w') : IAt w' B a l := by
  intro h0
  obtain ⟨g, off, e, hg, hc⟩ := h h0
  exact ⟨g, off, e, hg, fun j hj => (k.cell (p := ⟨g, off + j, none⟩) hg).trans (hc j hj)⟩
/-- A net's free edges, by the states. -/
structure NetFr (w : World) (B bn gF M cF : Nat) (aF : Nat → Option Addr) (cR : Nat → Nat) (L : List En) : Prop where
  blk : bn < B ∧ gF < B
  fld : w.cell? ⟨bn, 258, none⟩ = some (.slice (some ⟨gF, 0, none⟩) M cF)
  row : ∀ i, i < M → w.cell? ⟨gF, i, none⟩ = some (.slice (aF i) (rowF L i).length (cR i))
  at_ : ∀ i, i < M → IAt w B (aF i) (rowF L i)
theorem NetFr.below {w w' : World} {B bn gF M cF : Nat} {aF : Nat → Option Addr} {cR : Nat → Nat} {L : List En} (h : NetFr w B bn gF M cF aF cR L) (k : Below B w w') : NetFr w' B bn gF M cF aF cR L :=
  ⟨h.blk, (k.cell (p := ⟨bn, 258, none⟩) h.blk.1).trans h.fld, fun i hi => (k.cell (p := ⟨gF, i, none⟩) h.blk.2).trans (h.row i hi), fun i hi => (h.at_ i hi).below k⟩


end Go.Proofs.Ytgmcfgkjhobiaaa

namespace Go.Proofs.Ytgmcfgkjhobiaaa
open Go.RowKit Go.Maps Go.WideElems Go.ChangeMaps Go.MapKept
set_option linter.unusedVariables false
set_option linter.unusedSimpArgs false

theorem own_zero {w : World} {B e n c : Nat} {a : Option Addr} {xs : List Value} (h : w.ownsRow B e 1 (.slice a n c) n xs) : w.ownsRow B e 1 (.slice a 0 c) 0 [] := by
  refine ⟨rfl, ?_⟩
  rcases h.2 with ⟨h1, h2⟩ | ⟨g, cap, cur, h1, h2, h3, h4, h5, h6, h7⟩
  · injection h1 with e1 e2 e3
    subst e1 e3
    exact Or.inl ⟨rfl, rfl⟩
  · injection h1 with e1 e2 e3
    subst e1 e3
    exact Or.inr ⟨g, c, cur, rfl, h2, h3, Nat.zero_le _, h5, h6, rfl⟩

end Go.Proofs.Ytgmcfgkjhobiaaa

namespace Go.Proofs.Ytgmcfgkjhobiaaa
open Go.RowKit Go.Maps
open Classical

/-- The least number whose key is that of b. -/
noncomputable def fst (K : Nat → Lit) (b : Nat) : Nat := ((List.range b).filter fun c => decide (K c = K b)).headD b
theorem fst_spec (K : Nat → Lit) (b : Nat) : fst K b ≤ b ∧ K (fst K b) = K b ∧ ∀ c, c < fst K b → K c ≠ K b := by
  have e : fst K b = ((List.range b).filter fun c => decide (K c = K b)).headD b := rfl
  rw [e]
  have hp : ((List.range b).filter fun c => decide (K c = K b)).Pairwise (· < ·) := List.Pairwise.filter _ List.pairwise_lt_range
  have hm : ∀ x, x ∈ ((List.range b).filter fun c => decide (K c = K b)) ↔ x < b ∧ K x = K b := fun x => by simp
  generalize ((List.range b).filter fun c => decide (K c = K b)) = l at hp hm
  match l with
  | [] =>
    refine ⟨Nat.le_refl _, rfl, fun c hc hk => ?_⟩
    have := (hm c).2 ⟨hc, hk⟩
    simp at this
  | x :: r =>
    have h1 := (hm x).1 (by simp)
    refine ⟨Nat.le_of_lt h1.1, h1.2, fun c hc hk => ?_⟩
    have hc' : c < x := hc
    have h2 := (hm c).2 ⟨by omega, hk⟩
    rw [List.pairwise_cons] at hp
    rcases List.mem_cons.1 h2 with h3 | h3
    · omega
    · have := hp.1 c h3; omega
theorem fst_eq (K : Nat → Lit) (b c : Nat) (h2 : K c = K b) (h3 : ∀ d, d < c → K d ≠ K b) : fst K b = c := by
  obtain ⟨_, a2, a3⟩ := fst_spec K b
  rcases Nat.lt_trichotomy (fst K b) c with h | h | h
  · exact absurd a2 (h3 _ h)
  · exact h
  · exact absurd h2 (a3 _ h)
theorem fst_same (K : Nat → Lit) (b c : Nat) (h : K c = K b) : fst K b = fst K c := by
  obtain ⟨_, a2, a3⟩ := fst_spec K c
  exact fst_eq K b (fst K c) (a2.trans h) (fun d hd => by rw [← h]; exact a3 d hd)
theorem fst_fst (K : Nat → Lit) (b : Nat) : fst K (fst K b) = fst K b := by
  obtain ⟨_, a2, _⟩ := fst_spec K b
  exact (fst_same K b (fst K b) a2).symm

/-- How many numbers below k are the first of their class. -/
noncomputable def nrep (K : Nat → Lit) : Nat → Nat
  | 0 => 0
  | k + 1 => nrep K k + if fst K k = k then 1 else 0
theorem nrep_mono (K : Nat → Lit) {a b : Nat} (h : a ≤ b) : nrep K a ≤ nrep K b := by
  induction b with
  | zero => have : a = 0 := by omega
            subst this; exact Nat.le_refl _
  | succ b ih =>
    by_cases e : a = b + 1
    · subst e; exact Nat.le_refl _
    · have := ih (by omega)
      simp only [nrep]; split <;> omega
/-- The class of a number. -/
noncomputable def cls (K : Nat → Lit) (b : Nat) : Nat := nrep K (fst K b)
theorem cls_lt (K : Nat → Lit) (b k : Nat) (h : b < k) : cls K b + 1 ≤ nrep K k := by
  have h1 := (fst_spec K b).1
  have h2 : nrep K (fst K b + 1) = nrep K (fst K b) + 1 := by simp only [nrep]; rw [if_pos (fst_fst K b)]
  have h3 := nrep_mono K (show fst K b + 1 ≤ k by omega)
  unfold cls; omega

/-- The map of the classes after k numbers. -/
structure Good {H : Type} (K : Nat → Lit) (k : Nat) (D : DataW H) : Prop where
  tidy : Tidy D
  size : size D = nrep K k
  has : ∀ b, b < k → has D (K b) = true
  only : ∀ kl, Maps.has D kl = true → ∃ b, b < k ∧ K b = kl
  at_ : ∀ b, b < k → ∀ z, D.atKey (K b) z = .lit (.int .u8 ((cls K b : Nat) : Int))
theorem Good.start {H : Type} (K : Nat → Lit) : Good (H := H) K 0 (.map []) :=
  ⟨tidy_empty, rfl, fun b hb => absurd hb (by omega), (fun kl h => by cases h), fun b hb => absurd hb (by omega)⟩
theorem Good.old {H : Type} {K : Nat → Lit} {k : Nat} {D : DataW H} (h : Good K k D) (hh : Maps.has D (K k) = true) : Good K (k + 1) D ∧ D.atKey (K k) (.lit (.int .u8 0)) = .lit (.int .u8 ((cls K k : Nat) : Int)) := by
  obtain ⟨c, hc, hk⟩ := h.only _ hh
  have hf := fst_same K k c hk
  have hn : fst K k ≠ k := by have := (fst_spec K c).1; omega
  have hcl : cls K k = cls K c := by unfold cls; rw [hf]
  have hat : ∀ z, D.atKey (K k) z = .lit (.int .u8 ((cls K k : Nat) : Int)) := fun z => by rw [hcl, ← hk]; exact h.at_ c hc z
  refine ⟨⟨h.tidy, ?_, fun b hb => ?_, fun kl hkl => ?_, fun b hb z => ?_⟩, hat _⟩
  · rw [h.size]; simp only [nrep, hn, if_false]; rfl
  · by_cases e : b = k
    · subst e; exact hh
    · exact h.has b (by omega)
  · obtain ⟨b, hb, e⟩ := h.only kl hkl
    exact ⟨b, by omega, e⟩
  · by_cases e : b = k
    · subst e; exact hat z
    · exact h.at_ b (by omega) z
theorem Good.new {H : Type} {K : Nat → Lit} {k : Nat} {D : DataW H} (h : Good K k D) (hK : ∀ b, WideAt.IsKeyLit (K b)) (hh : Maps.has D (K k) = false) :
    Good K (k + 1) (D.put (K k) (.lit (.int .u8 ((nrep K k : Nat) : Int)))) ∧ cls K k = nrep K k := by
  have hne : ∀ b, b < k → K b ≠ K k := fun b hb e => by
    have := h.has b hb
    rw [e, hh] at this; simp at this
  have hf : fst K k = k := fst_eq K k k rfl hne
  have hcl : cls K k = nrep K k := by unfold cls; rw [hf]
  refine ⟨⟨h.tidy.put (hK k) _, ?_, fun b hb => ?_, fun kl hkl => ?_, fun b hb z => ?_⟩, hcl⟩
  · rw [size_put h.tidy, hh, h.size]; simp [nrep, hf]
  · by_cases e : b = k
    · subst e; exact has_put_same h.tidy.isMap (hK b) _
    · rw [has_put_other (hne b (by omega))]; exact h.has b (by omega)
  · by_cases e : kl = K k
    · exact ⟨k, by omega, e.symm⟩
    · rw [has_put_other e] at hkl
      obtain ⟨b, hb, e⟩ := h.only kl hkl
      exact ⟨b, by omega, e⟩
  · by_cases e : b = k
    · subst e; rw [atKey_put_same h.tidy.isMap (hK b), hcl]
    · rw [atKey_put_other (hne b (by omega))]; exact h.at_ b (by omega) z

/-- The key of a number among n sets. -/
def keyLit (s : Nat → Nat → Bool) (n b : Nat) : Lit := .string ((keyL (fun i => s i b) n).map UInt8.ofNat)
theorem keyL_small (f : Nat → Bool) (n : Nat) : ∀ m ∈ keyL f n, m < 256 := by
  intro m hm
  simp only [keyL, List.mem_map] at hm
  obtain ⟨j, _, rfl⟩ := hm
  exact by8_lt _ _
theorem keyLit_eq (s : Nat → Nat → Bool) (n b c : Nat) : keyLit s n b = keyLit s n c ↔ ∀ i, i < n → s i b = s i c := by
  unfold keyLit
  constructor
  · intro h
    injection h with h
    exact (keyL_eq _ _ n).1 (bytes_inj (keyL_small _ _) (keyL_small _ _) h)
  · intro h
    rw [(keyL_eq (fun i => s i b) (fun i => s i c) n).2 h]
end Go.Proofs.Ytgmcfgkjhobiaaa

namespace Go.Proofs.Ytgmcfgkjhobiaaa
open Go.RowKit Go.Maps


/-- Block g is 256 bytes, given by v. -/
def Bytes (w : World) (g : Nat) (v : Nat → Nat) : Prop := ∃ cs, St w 22 g cs ∧ cs.size = 256 ∧ ∀ j, j < 256 → cs[j]? = some (.int .u8 ((v j : Nat) : Int))
theorem Bytes.lt {w : World} {g : Nat} {v : Nat → Nat} (h : Bytes w g v) : g < w.heap.size := by obtain ⟨cs, h, _⟩ := h; exact h.lt
theorem Bytes.cell {w : World} {g : Nat} {v : Nat → Nat} (h : Bytes w g v) (j : Nat) (hj : j < 256) : w.cell? ⟨g, j, none⟩ = some (.int .u8 ((v j : Nat) : Int)) ∧ w.frozen? ⟨g, j, none⟩ = false := by
  obtain ⟨cs, h, _, hc⟩ := h
  have h' : w.heap[g]? = some (.cells cs 22 (0, 0)) := h
  exact ⟨by rw [cell_of_row w g j _ _ _ h', hc j hj], frozen_of_row w g j _ _ h'⟩
theorem Bytes.keep {w w' : World} {g : Nat} {v : Nat → Nat} (h : Bytes w g v) (k : Below w.heap.size w w') : Bytes w' g v := by obtain ⟨cs, h, r⟩ := h; exact ⟨cs, h.keep k, r⟩
theorem Bytes.far {w : World} {g : Nat} {v : Nat → Nat} (h : Bytes w g v) {a : Addr} (hp : g ≠ a.block) (u : Value) : Bytes (w.setCell a u) g v := by obtain ⟨cs, h, r⟩ := h; exact ⟨cs, h.far hp u, r⟩
/-- Numbers, but x at place k. -/
def upd (v : Nat → Nat) (k x : Nat) : Nat → Nat := fun j => if j = k then x else v j
theorem Bytes.set {w : World} {g : Nat} {v : Nat → Nat} (h : Bytes w g v) (k x : Nat) (hk : k < 256) : Bytes (w.setCell ⟨g, k, none⟩ (.int .u8 ((x : Nat) : Int))) g (upd v k x) := by
  obtain ⟨cs, h, hs, hc⟩ := h
  refine ⟨_, h.set k _, by simpa using hs, fun j hj => ?_⟩
  rw [Array.getElem?_setIfInBounds]
  by_cases e : k = j
  · subst e; rw [if_pos rfl, if_pos (by omega)]; simp [upd]
  · rw [if_neg e, hc j hj]
    show some (Value.int .u8 ((v j : Nat) : Int)) = some (.int .u8 (((if j = k then x else v j) : Nat) : Int))
    rw [if_neg (fun h => e h.symm)]
theorem Bytes.alloc {w : World} {g : Nat} {v : Nat → Nat} (h : Bytes w g v) (o : Obj) : Bytes (w.alloc o) g v := by obtain ⟨cs, h, r⟩ := h; exact ⟨cs, h.alloc o, r⟩
theorem Bytes.below {w w' : World} {g B : Nat} {v : Nat → Nat} (h : Bytes w g v) (k : Below B w w') (hg : g < B) : Bytes w' g v := by obtain ⟨cs, h, r⟩ := h; exact ⟨cs, h.below k hg, r⟩




end Go.Proofs.Ytgmcfgkjhobiaaa
