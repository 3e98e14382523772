import Derived.Test.YtlnndkilaklifaaZOwn
import Derived.Laws.BytesArg
namespace Go.Proofs.Ytlnndkilaklifaa
open Go.RowKit

/-- Eight truths as a byte: the first n of those that begin at place 8 j. -/
def byUp (f : Nat → Bool) (j : Nat) : Nat → Nat
  | 0 => 0
  | n + 1 => byUp f j n + if f (8 * j + n) then 2 ^ n else 0
def by8 (f : Nat → Bool) (j : Nat) : Nat := byUp f j 8
theorem byUp_lt (f : Nat → Bool) (j n : Nat) : byUp f j n < 2 ^ n := by
  induction n with
  | zero => simp [byUp]
  | succ n ih => unfold byUp; rw [Nat.pow_succ]; split <;> omega
theorem by8_lt (f : Nat → Bool) (j : Nat) : by8 f j < 256 := byUp_lt f j 8
theorem byUp_bit (f : Nat → Bool) (j n k : Nat) : (byUp f j n).testBit k = (decide (k < n) && f (8 * j + k)) := by
  induction n with
  | zero => simp [byUp]
  | succ n ih =>
    unfold byUp
    have hl := byUp_lt f j n
    rcases Nat.lt_trichotomy k n with h | h | h
    · have h1 : k < n + 1 := by omega
      split
      · rw [Nat.add_comm, Nat.testBit_two_pow_add_gt h, ih]; simp [h, h1]
      · rw [Nat.add_zero, ih]; simp [h, h1]
    · subst h
      split
      · rename_i hp
        rw [Nat.add_comm, Nat.testBit_two_pow_add_eq, ih]; simp [hp]
      · rename_i hp
        rw [Nat.add_zero, ih]; simp [hp]
    · have h1 : ¬ k < n + 1 := by omega
      have hb : byUp f j (n + 1) < 2 ^ k := Nat.lt_of_lt_of_le (byUp_lt f j (n + 1)) (Nat.pow_le_pow_right (by decide) (by omega))
      unfold byUp at hb
      rw [Nat.testBit_lt_two_pow hb]; simp [h1]
theorem by8_bit (f : Nat → Bool) (j k : Nat) : (by8 f j).testBit k = (decide (k < 8) && f (8 * j + k)) := byUp_bit f j 8 k
theorem by8_congr {f g : Nat → Bool} {j : Nat} (h : ∀ k, k < 8 → f (8 * j + k) = g (8 * j + k)) : by8 f j = by8 g j := by
  refine Nat.eq_of_testBit_eq fun k => ?_
  rw [by8_bit, by8_bit]
  by_cases hk : k < 8
  · rw [h k hk]
  · simp [hk]
theorem by8_eq {f g : Nat → Bool} {j : Nat} (h : by8 f j = by8 g j) (k : Nat) (hk : k < 8) : f (8 * j + k) = g (8 * j + k) := by
  have h1 := congrArg (fun x => Nat.testBit x k) h
  simpa [by8_bit, hk] using h1
theorem by8_none (j : Nat) : by8 (fun _ => false) j = 0 := by
  refine Nat.eq_of_testBit_eq fun k => ?_
  rw [by8_bit]; simp
theorem by8_one (f : Nat → Bool) (i j : Nat) (h : i / 8 = j) : by8 f j ||| 2 ^ (i % 8) = by8 (ins f i) j := by
  refine Nat.eq_of_testBit_eq fun k => ?_
  rw [Nat.testBit_or, by8_bit, by8_bit, Nat.testBit_two_pow]
  have hr : i % 8 < 8 := Nat.mod_lt _ (by decide)
  by_cases e : i % 8 = k
  · have e2 : 8 * j + k = i := by omega
    simp [e, ins, e2, (by omega : k < 8)]
  · by_cases hk : k < 8
    · have e2 : (8 * j + k == i) = false := by simp; omega
      simp [e, ins, e2]
    · simp [e, hk]
theorem by8_far (f : Nat → Bool) (i j : Nat) (h : i / 8 ≠ j) : by8 (ins f i) j = by8 f j := by
  refine by8_congr fun k hk => ?_
  have h2 : (8 * j + k == i) = false := by simp; omega
  simp [ins, h2]

/-- The bytes that tell n truths. -/
def keyL (f : Nat → Bool) (n : Nat) : List Nat := (List.range ((n + 7) / 8)).map (by8 (upTo f n))
theorem keyL_eq (f g : Nat → Bool) (n : Nat) : keyL f n = keyL g n ↔ ∀ i, i < n → f i = g i := by
  constructor
  · intro h i hi
    have h1 : ∀ j, j < (n + 7) / 8 → by8 (upTo f n) j = by8 (upTo g n) j := by
      intro j hj
      have h2 := congrArg (fun l => l[j]?) h
      simpa [keyL, hj] using h2
    have h3 := by8_eq (h1 (i / 8) (by omega)) (i % 8) (Nat.mod_lt _ (by decide))
    rw [show 8 * (i / 8) + i % 8 = i by omega] at h3
    simpa [upTo, hi] using h3
  · intro h
    unfold keyL
    refine List.map_congr_left fun j _ => by8_congr fun k _ => ?_
    by_cases hi : 8 * j + k < n
    · simp [upTo, hi, h _ hi]
    · simp [upTo, hi]
end Go.Proofs.Ytlnndkilaklifaa

namespace Go.Proofs.Ytlnndkilaklifaa
open Go.RowKit

/-- A list of bytes as a string. -/
def strOf (l : List Nat) : ByteArray := strOfNums (l.map fun n => ((n : Nat) : Int))
theorem strOf_list (l : List Nat) : (strOf l).data.toList = l.map UInt8.ofNat := by simp [strOf, strOfNums_data]
theorem strOf_size (l : List Nat) : (strOf l).size = l.length := by simp [strOf, strOfNums_size]
theorem bytes_ext {a b : ByteArray} (h : a.data.toList = b.data.toList) : a = b := by
  obtain ⟨⟨x⟩⟩ := a
  obtain ⟨⟨y⟩⟩ := b
  simp at h
  rw [h]
theorem strOf_append (a b : List Nat) : strOf a ++ strOf b = strOf (a ++ b) := bytes_ext (by rw [ByteArray.data_append, Array.toList_append, strOf_list, strOf_list, strOf_list, List.map_append])
/-- A string as a list of numbers. -/
def numsOf (s : ByteArray) : List Nat := s.data.toList.map UInt8.toNat
theorem strOf_nums (s : ByteArray) : strOf (numsOf s) = s := bytes_ext (by
  rw [strOf_list, numsOf, List.map_map]
  have : (UInt8.ofNat ∘ UInt8.toNat) = id := by funext x; simp
  rw [this, List.map_id])
theorem numsOf_lt (s : ByteArray) : ∀ n ∈ numsOf s, n < 256 := by
  intro n hn
  simp only [numsOf, List.mem_map] at hn
  obtain ⟨x, _, rfl⟩ := hn
  exact UInt8.toNat_lt x
theorem ne_empty (s : ByteArray) (h : 0 < s.size) : s.toList.isEmpty = false := by
  rw [ByteArray.toList_eq]
  have : 0 < s.data.size := h
  simp
  intro e
  rw [e] at this; simp at this
/-- The text of one byte, made through a slice. -/
theorem conv_one (w : World) (g : Nat) (c : Nat) (h : w.cell? ⟨g, 0, none⟩ = some (.int .u8 ((c : Nat) : Int))) :
    (convert 91 9 (.slice (some ⟨g, 0, none⟩) 1 1)).run Try.prog w = .ok (.string (strOf [c])) w :=
  run_convert_bytes_arg w 91 5 Try.underlying91 Try.underlying5 g 0 1 1 [((c : Nat) : Int)] rfl (fun i hi => by
    obtain rfl : i = 0 := by omega
    simpa using h) 9 Try.underlying9
end Go.Proofs.Ytlnndkilaklifaa

namespace Go.Proofs.Ytlnndkilaklifaa
open Go.RowKit

theorem conv_any {W : World} {base : Nat} {a : Option Addr} {n cap : Nat} {l : List Nat} (h : W.ownsRow base 5 1 (.slice a n cap) n (u8s l)) (hn : n = l.length) :
    (convert 91 9 (.slice a n cap)).run Try.prog W = .ok (.string (strOf l)) W := by
  rcases Nat.eq_zero_or_pos n with h0 | h0
  · subst h0
    have hl : l = [] := List.length_eq_zero_iff.1 hn.symm
    subst hl
    rcases a with _ | a
    · exact run_convert_bytes_nil W 91 5 Try.underlying91 Try.underlying5 0 cap 9 Try.underlying9
    · have e := h.2
      rcases e with ⟨e, _⟩ | ⟨g, cap', cur, e, _⟩
      · simp at e
      · simp at e
        obtain ⟨rfl, rfl⟩ := e
        exact run_convert_bytes_arg W 91 5 Try.underlying91 Try.underlying5 g 0 0 cap [] rfl (fun i hi => absurd hi (by omega)) 9 Try.underlying9
  · obtain ⟨g, rfl, _, _, hc⟩ := ownsRow_read h h0
    refine run_convert_bytes_arg W 91 5 Try.underlying91 Try.underlying5 g 0 n cap (l.map fun n => ((n : Nat) : Int)) (by simp [hn]) (fun i hi => ?_) 9 Try.underlying9
    rw [Nat.zero_add, (hc i (by omega)).1, u8s_get l i (by omega)]
    simp [List.getElem?_eq_getElem (by omega : i < l.length)]
theorem bytes_inj {l l' : List Nat} (h : ∀ n ∈ l, n < 256) (h' : ∀ n ∈ l', n < 256) (e : l.map UInt8.ofNat = l'.map UInt8.ofNat) : l = l' := by
  have h1 := congrArg (List.map UInt8.toNat) e
  simp only [List.map_map] at h1
  have k : ∀ l : List Nat, (∀ n ∈ l, n < 256) → l.map (UInt8.toNat ∘ UInt8.ofNat) = l := by
    intro l hl
    induction l with
    | nil => rfl
    | cons n l ih =>
      simp only [List.map_cons, Function.comp]
      rw [show (UInt8.ofNat n).toNat = n by simp [Nat.mod_eq_of_lt (hl n (by simp))]]
      congr 1
      exact ih fun m hm => hl m (by simp [hm])
  rwa [k l h, k l' h'] at h1
end Go.Proofs.Ytlnndkilaklifaa
