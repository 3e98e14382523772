import Derived.Test.YtcohjopbhopcgaaMem
import Derived.Laws.BytesArg
namespace Go.Proofs.Ytcohjopbhopcgaa
open Go.RowKit

/-- A list of bytes as a string. -/
def strOf (l : List Nat) : ByteArray := strOfNums (l.map fun n => ((n : Nat) : Int))
theorem strOf_list (l : List Nat) : (strOf l).data.toList = l.map UInt8.ofNat := by simp [strOf, strOfNums_data]
theorem strOf_size (l : List Nat) : (strOf l).size = l.length := by simp [strOf, strOfNums_size]
theorem bytes_ext {a b : ByteArray} (h : a.data.toList = b.data.toList) : a = b := by
  obtain ⟨⟨x⟩⟩ := a
  obtain ⟨⟨y⟩⟩ := b
  simp at h
  rw [h]
theorem strOf_append (a b : List Nat) : strOf a ++ strOf b = strOf (a ++ b) := bytes_ext (by rw [ByteArray.data_append, Array.toList_append, strOf_list, strOf_list, strOf_list, List.map_append])
/-- A string as a list of numbers. -/
def numsOf (s : ByteArray) : List Nat := s.data.toList.map UInt8.toNat
theorem strOf_nums (s : ByteArray) : strOf (numsOf s) = s := bytes_ext (by
  rw [strOf_list, numsOf, List.map_map]
  have : (UInt8.ofNat ∘ UInt8.toNat) = id := by funext x; simp
  rw [this, List.map_id])
theorem numsOf_lt (s : ByteArray) : ∀ n ∈ numsOf s, n < 256 := by
  intro n hn
  simp only [numsOf, List.mem_map] at hn
  obtain ⟨x, _, rfl⟩ := hn
  exact UInt8.toNat_lt x
theorem ne_empty (s : ByteArray) (h : 0 < s.size) : s.toList.isEmpty = false := by
  rw [ByteArray.toList_eq]
  have : 0 < s.data.size := h
  simp
  intro e
  rw [e] at this; simp at this
/-- The text of one byte, made through a slice. -/
theorem conv_one (w : World) (g : Nat) (c : Nat) (h : w.cell? ⟨g, 0, none⟩ = some (.int .u8 ((c : Nat) : Int))) :
    (convert 48 9 (.slice (some ⟨g, 0, none⟩) 1 1)).run Try.prog w = .ok (.string (strOf [c])) w :=
  run_convert_bytes_arg w 48 5 Try.underlying48 Try.underlying5 g 0 1 1 [((c : Nat) : Int)] rfl (fun i hi => by
    obtain rfl : i = 0 := by omega
    simpa using h) 9 Try.underlying9
end Go.Proofs.Ytcohjopbhopcgaa
