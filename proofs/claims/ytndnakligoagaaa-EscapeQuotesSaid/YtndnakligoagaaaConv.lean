import Derived.Test.YtndnakligoagaaaMem
import Derived.Test.YtndnakligoagaaaStr
import Derived.Laws.BytesArg
namespace Go.Proofs.Ytndnakligoagaaa
open Go.RowKit

theorem conv_any {W : World} {base : Nat} {a : Option Addr} {n cap : Nat} {l : List Nat} (h : W.ownsRow base 5 1 (.slice a n cap) n (u8s l)) (hn : n = l.length) :
    (convert 39 9 (.slice a n cap)).run Try.prog W = .ok (.string (strOf l)) W := by
  rcases Nat.eq_zero_or_pos n with h0 | h0
  · subst h0
    have hl : l = [] := List.length_eq_zero_iff.1 hn.symm
    subst hl
    rcases a with _ | a
    · exact run_convert_bytes_nil W 39 5 Try.underlying39 Try.underlying5 0 cap 9 Try.underlying9
    · have e := h.2
      rcases e with ⟨e, _⟩ | ⟨g, cap', cur, e, _⟩
      · simp at e
      · simp at e
        obtain ⟨rfl, rfl⟩ := e
        exact run_convert_bytes_arg W 39 5 Try.underlying39 Try.underlying5 g 0 0 cap [] rfl (fun i hi => absurd hi (by omega)) 9 Try.underlying9
  · obtain ⟨g, rfl, _, _, hc⟩ := ownsRow_read h h0
    refine run_convert_bytes_arg W 39 5 Try.underlying39 Try.underlying5 g 0 n cap (l.map fun n => ((n : Nat) : Int)) (by simp [hn]) (fun i hi => ?_) 9 Try.underlying9
    rw [Nat.zero_add, (hc i (by omega)).1, u8s_get l i (by omega)]
    simp [List.getElem?_eq_getElem (by omega : i < l.length)]
theorem bytes_inj {l l' : List Nat} (h : ∀ n ∈ l, n < 256) (h' : ∀ n ∈ l', n < 256) (e : l.map UInt8.ofNat = l'.map UInt8.ofNat) : l = l' := by
  have h1 := congrArg (List.map UInt8.toNat) e
  simp only [List.map_map] at h1
  have k : ∀ l : List Nat, (∀ n ∈ l, n < 256) → l.map (UInt8.toNat ∘ UInt8.ofNat) = l := by
    intro l hl
    induction l with
    | nil => rfl
    | cons n l ih =>
      simp only [List.map_cons, Function.comp]
      rw [show (UInt8.ofNat n).toNat = n by simp [Nat.mod_eq_of_lt (hl n (by simp))]]
      congr 1
      exact ih fun m hm => hl m (by simp [hm])
  rwa [k l h, k l' h'] at h1
end Go.Proofs.Ytndnakligoagaaa
