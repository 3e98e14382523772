import Derived.Test.YtjhfgiflcenjpaaDoorZBld
import Derived.Test.YtjhfgiflcenjpaaDoorZEscByte
import Derived.Lib.IndexAny
import Derived.RegionTactic
namespace Go.Proofs.YtjhfgiflcenjpaaDoor
open Go.RowKit

/-- Is a byte printable? -/
def isPrint (c : Nat) : Bool := decide (32 ≤ c) && decide (c ≤ 126)
theorem print_any (c : Nat) (w : World) :
    Calls Tryd.prog 57 #[.int .u8 c] w fun e w' => e = .returned (.bool (isPrint c)) ∧ w = w' := by
  have HP : Hid (isPrint c = (decide (32 ≤ c) && decide (c ≤ 126))) := rfl
  rcases (by omega : c < 32 ∨ (32 ≤ c ∧ c ≤ 126) ∨ (32 ≤ c ∧ 126 < c)) with h | ⟨h, h'⟩ | ⟨h, h'⟩
  all_goals
    go_enter Tryd.func57, Tryd.ntmps57
    go_wp2_with fail
    go_ret
    exact ⟨congrArg (fun b => Ending.returned (.bool b)) (by rw [HP.out, Bool.eq_iff_iff]; simp <;> omega), rfl⟩

/-- Where a byte is in a text; below 0: nowhere. -/
def whereB (s : ByteArray) (c : Nat) : Int := Lib.indexByte s.data.toList c.toUInt8
theorem whereB_ge (s : ByteArray) (c : Nat) : -1 ≤ whereB s c := Lib.indexByte_ge _ _
theorem whereB_in (s : ByteArray) (c : Nat) (hc : c < 256) : decide (0 ≤ whereB s c) = inB s c := by
  unfold whereB
  rw [← Lib.contains_iff_indexByte, Bool.eq_iff_iff]
  unfold inB
  rw [List.contains_iff_mem, List.any_eq_true]
  constructor
  · intro h
    exact ⟨_, h, by simp [Nat.mod_eq_of_lt hc]⟩
  · rintro ⟨x, hx, e⟩
    have e := eq_of_beq e
    rw [show c.toUInt8 = x by rw [← e]; simp]
    exact hx
theorem where_any (s : ByteArray) (c : Nat) (w : World) :
    Calls Tryd.prog 55 #[.string s, .int .u8 c] w fun e w' => e = .returned (.int .i64 (whereB s c)) ∧ w = w' := by
  refine (Tryd.strings_IndexByte s c w).mono ?_
  rintro e w' ⟨rfl, rfl⟩
  exact ⟨rfl, rfl⟩

theorem conv_four (w : World) (g : Nat) (c d : Nat) (h0 : w.cell? ⟨g, 0, none⟩ = some (.int .u8 92)) (h1 : w.cell? ⟨g, 1, none⟩ = some (.int .u8 120)) (h2 : w.cell? ⟨g, 2, none⟩ = some (.int .u8 ((c : Nat) : Int))) (h3 : w.cell? ⟨g, 3, none⟩ = some (.int .u8 ((d : Nat) : Int))) :
    (convert 49 9 (.slice (some ⟨g, 0, none⟩) 4 4)).run Tryd.prog w = .ok (.string (strOf [92, 120, c, d])) w :=
  run_convert_bytes_arg w 49 5 Tryd.underlying49 Tryd.underlying5 g 0 4 4 [92, 120, ((c : Nat) : Int), ((d : Nat) : Int)] rfl (fun i hi => by
    match i, hi with
    | 0, _ => simpa using h0
    | 1, _ => simpa using h1
    | 2, _ => simpa using h2
    | 3, _ => simpa using h3) 9 Tryd.underlying9
theorem hex_at : ∀ k (h : k < 16), hexS[k].toNat = hexd k := by decide +kernel
theorem conv_two (w : World) (g : Nat) (b : Nat) (h0 : w.cell? ⟨g, 0, none⟩ = some (.int .u8 92)) (h1 : w.cell? ⟨g, 1, none⟩ = some (.int .u8 ((b : Nat) : Int))) :
    (convert 49 9 (.slice (some ⟨g, 0, none⟩) 2 2)).run Tryd.prog w = .ok (.string (strOf [92, b])) w :=
  run_convert_bytes_arg w 49 5 Tryd.underlying49 Tryd.underlying5 g 0 2 2 [92, ((b : Nat) : Int)] rfl (fun i hi => by
    match i, hi with
    | 0, _ => simpa using h0
    | 1, _ => simpa using h1) 9 Tryd.underlying9

set_option maxHeartbeats 1000000 in
set_option maxRecDepth 100000 in
theorem byte_any (c : Nat) (hc : c < 256) (o : ByteArray) (w : World) :
    Calls Tryd.prog 49 #[.int .u8 c, .string o] w fun e w' => e = .returned (.string (strOf (byteT c (inB o c)))) ∧ Below w.heap.size w w' := by
  rcases (by omega : c = 10 ∨ c = 9 ∨ c = 13 ∨ (c ≠ 10 ∧ c ≠ 9 ∧ c ≠ 13 ∧ (c < 32 ∨ 126 < c)) ∨ c = 92 ∨ (c ≠ 92 ∧ 32 ≤ c ∧ c ≤ 126)) with h | h | h | ⟨h1, h2, h3, h4⟩ | h | ⟨h1, h2, h3⟩
  · subst h
    go_enter Tryd.func49, Tryd.ntmps49
    go_wp2_with fail
    go_ret
    exact ⟨rfl, Below.refl _ _⟩
  · subst h
    go_enter Tryd.func49, Tryd.ntmps49
    go_wp2_with fail
    go_ret
    exact ⟨rfl, Below.refl _ _⟩
  · subst h
    go_enter Tryd.func49, Tryd.ntmps49
    go_wp2_with fail
    go_ret
    exact ⟨rfl, Below.refl _ _⟩
  · have e1 : ((c : Int) == 10) = false := by simp; omega
    have e2 : ((c : Int) == 9) = false := by simp; omega
    have e3 : ((c : Int) == 13) = false := by simp; omega
    have HB := Lib.hid (byteT_hex c (inB o c) h1 h2 h3 h4)
    have HP : Hid (isPrint c = false) := by show _ = _; unfold isPrint; simp; omega
    have hcv := fun W g => conv_four W g (hexd (c / 16)) (hexd (c % 16))
    have hx1 := hex_at (c / 16) (by omega)
    have hx2 := hex_at (c % 16) (by omega)
    unfold hexS at hx1 hx2
    have q1 : (0 : Int) ≤ (c : Int) / 16 := by omega
    have q2 : (c : Int) / 16 < 16 := by omega
    have q3 : (0 : Int) ≤ (c : Int) % 16 := by omega
    have q4 : (c : Int) % 16 < 16 := by omega
    clear h1 h2 h3
    go_enter Tryd.func49, Tryd.ntmps49
    go_wp2_with fail
    refine (print_any c _).mono ?_
    rintro e w1 ⟨rfl, rfl⟩
    rw [HP.out]
    go_wp2_with fail
    go_region
    all_goals
      go_wp2_with fail
      go_ret
      exact ⟨by rw [HB.out]; rfl, by first | exact (Below.refl _ w).drew.alloc (Nat.le_refl _) _ | exact ((Below.refl _ w).alloc (Nat.le_refl _) _).drew⟩
  · subst h
    have HB := Lib.hid (byteT_back 92 (inB o 92) (by decide) (by decide) (Or.inl rfl))
    have HP : Hid (isPrint 92 = true) := rfl
    have hcv := fun W g => conv_two W g 92
    go_enter Tryd.func49, Tryd.ntmps49
    go_wp2_with fail
    refine (print_any 92 _).mono ?_
    rintro e w1 ⟨rfl, rfl⟩
    rw [HP.out]
    go_wp2_with fail
    go_ret
    exact ⟨by rw [HB.out]; rfl, (Below.refl _ _).alloc (Nat.le_refl _) _⟩
  · have e1 : ((c : Int) == 10) = false := by simp; omega
    have e2 : ((c : Int) == 9) = false := by simp; omega
    have e3 : ((c : Int) == 13) = false := by simp; omega
    have e4 : ((c : Int) == 92) = false := by simp; omega
    have HB := Lib.hid (byteT_back c true h2 h3 (Or.inr rfl))
    have HS := Lib.hid (byteT_self c h2 h3 h1)
    have HP : Hid (isPrint c = true) := by show _ = _; unfold isPrint; simp; omega
    have HW := Lib.hid (whereB_in o c hc)
    have hcv := fun W g => conv_one W g c
    have hcw := fun W g => conv_two W g c
    clear h1
    go_enter Tryd.func49, Tryd.ntmps49
    go_wp2_with fail
    refine (print_any c _).mono ?_
    rintro e w1 ⟨rfl, rfl⟩
    rw [HP.out]
    go_wp2_with fail
    refine (where_any o c _).mono ?_
    rintro e w1 ⟨rfl, rfl⟩
    rcases hi : inB o c with _ | _
    · have hw : whereB o c < 0 := by have h := HW.out; rw [hi] at h; simpa using h
      have HI := Lib.hid hi
      clear hi
      generalize whereB o c = q at hw ⊢
      have hw2 : decide (0 ≤ q) = false := by simp; omega
      go_wp2_with fail
      go_ret
      exact ⟨by rw [HI.out, HS.out]; rfl, (Below.refl _ _).alloc (Nat.le_refl _) _⟩
    · have hw : 0 ≤ whereB o c := by have h := HW.out; rw [hi] at h; simpa using h
      have HI := Lib.hid hi
      clear hi
      generalize whereB o c = q at hw ⊢
      go_wp2_with fail
      go_ret
      exact ⟨by rw [HI.out, HB.out]; rfl, (Below.refl _ _).alloc (Nat.le_refl _) _⟩
end Go.Proofs.YtjhfgiflcenjpaaDoor
