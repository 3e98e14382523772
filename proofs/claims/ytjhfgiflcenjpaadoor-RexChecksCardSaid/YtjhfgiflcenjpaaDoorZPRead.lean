import Derived.Test.YtjhfgiflcenjpaaDoorZPClass
import Derived.Test.YtjhfgiflcenjpaaDoorZPrBack
import Derived.BigQuiet
import Derived.Deep.QuietTactic
namespace Go.Proofs.YtjhfgiflcenjpaaDoor
open Go.RowKit

theorem classT_word : ∀ c, c < 256 → (isWord c = (classT c == 2 || (classT c == 3 && c != 95))) := by decide +kernel
set_option maxHeartbeats 1000000 in
theorem alnum_any (c : Nat) (hc : c < 256) (w : World) :
    Calls Tryd.prog 74 #[.int .u8 c] w fun e w' => e = .returned (.bool (isWord c)) ∧ w = w' := by
  have HW := Lib.hid (classT_word c hc)
  rcases (by omega : c = 95 ∨ c ≠ 95) with h | h
  · subst h
    go_enter Tryd.func74, Tryd.ntmps74
    go_wp2_with fail
    refine (class_any 95 (by decide) _).mono ?_
    rintro e w1 ⟨rfl, rfl⟩
    have h3 : classT 95 = 3 := rfl
    rw [h3]
    clear h3
    go_wp2_with fail
    go_ret
    exact ⟨rfl, rfl⟩
  · have e1 : ((c : Int) != 95) = true := by simp; omega
    have e2 : (c != 95) = true := by simpa using h
    have H2 := Lib.hid e2
    clear h e2
    go_enter Tryd.func74, Tryd.ntmps74
    go_wp2_with fail
    refine (class_any c hc _).mono ?_
    rintro e w1 ⟨rfl, rfl⟩
    generalize classT c = q at HW ⊢
    rcases (by omega : q = 2 ∨ q = 3 ∨ (q ≠ 2 ∧ q ≠ 3)) with h | h | ⟨h, h'⟩
    · subst h
      go_wp2_with fail
      go_ret
      exact ⟨by rw [HW.out]; rfl, rfl⟩
    · subst h
      go_wp2_with fail
      go_ret
      exact ⟨by rw [HW.out, H2.out]; rfl, rfl⟩
    · have HK : Hid (isWord c = false) := by show _ = _; rw [HW.out]; simp [h, h']
      have e2 : ((q : Int) == 2) = false := by simp; omega
      have e3 : ((q : Int) == 3) = false := by simp; omega
      clear h h' HW
      go_wp2_with fail
      go_ret
      exact ⟨by rw [HK.out]; rfl, rfl⟩

/-- Where a byte is among the digits. -/
def hxI (c : Nat) : Int := if hv c < 16 then ((hv c : Nat) : Int) else -1
theorem hxI_lit : ∀ c, c < 256 → Lib.indexByte (⟨#[48, 49, 50, 51, 52, 53, 54, 55, 56, 57, 97, 98, 99, 100, 101, 102]⟩ : ByteArray).data.toList c.toUInt8 = hxI c := by decide +kernel
theorem hex_where (c : Nat) (hc : c < 256) (w : World) :
    Calls Tryd.prog 55 #[.string ⟨#[48, 49, 50, 51, 52, 53, 54, 55, 56, 57, 97, 98, 99, 100, 101, 102]⟩, .int .u8 c] w fun e w' => e = .returned (.int .i64 (hxI c)) ∧ w' = w := by
  refine (Tryd.strings_IndexByte _ c w).mono ?_
  rintro e w' ⟨rfl, rfl⟩
  exact ⟨by rw [← hxI_lit c hc]; rfl, rfl⟩
theorem hex_byte (b : UInt8) (w : World) :
    Calls Tryd.prog 55 #[.string ⟨#[48, 49, 50, 51, 52, 53, 54, 55, 56, 57, 97, 98, 99, 100, 101, 102]⟩, .int .u8 b.toNat] w fun e w' => e = .returned (.int .i64 (hxI b.toNat)) ∧ w' = w := hex_where b.toNat (UInt8.toNat_lt b) w
theorem hxI_yes (c : Nat) (h : hv c < 16) : hxI c = ((hv c : Nat) : Int) := by unfold hxI; rw [if_pos h]
theorem hxI_no (c : Nat) (h : ¬ hv c < 16) : hxI c = -1 := by unfold hxI; rw [if_neg h]

theorem rdV_no : rdV rdNo = .tuple #[.int .u8 0, .int .i64 0, .bool false] := rfl
theorem rdX_short (l : List Nat) (h : l.length < 2) : rdX l = rdNo := by
  match l, h with
  | [], _ => rfl
  | [_], _ => rfl
theorem nums_two (s : ByteArray) (h : 4 ≤ s.size) : (numsOf s).drop 2 = s[2].toNat :: s[3].toNat :: (numsOf s).drop 4 := by
  rw [nums_at s 2 (by omega), nums_at s 3 (by omega)]
theorem hex_or : ∀ a : Nat, a < 16 → ∀ b : Nat, b < 16 → bits .or .i64 ((a : Int) * 16) (b : Int) = ((16 * a + b : Nat) : Int) := by decide +kernel

theorem drewN_below (w : World) (n : Nat) : Below w.heap.size w (w.drewN n) := ⟨rfl, rfl, rfl, Nat.le_refl _, fun _ _ => rfl⟩
set_option maxHeartbeats 1000000 in
set_option maxRecDepth 100000 in
theorem hex_any (s : ByteArray) (hs : s.size ≤ maxLen) (w : World) :
    Calls Tryd.prog 73 #[.string s] w fun e w' => e = .returned (rdV (rdX ((numsOf s).drop 2))) ∧ Below w.heap.size w w' := by
  unfold maxLen at hs
  by_cases h4 : 4 ≤ s.size
  · have HN := Lib.hid (nums_two s h4)
    have g2 : (2 : Int) < (s.size : Int) := by omega
    have g3 : (3 : Int) < (s.size : Int) := by omega
    go_enter Tryd.func73, Tryd.ntmps73
    go_wp2_with fail
    go_quiet ((go_at_call 55; exact Calls.quiet_of_same (hex_byte _ _)))
    have HR : Hid (rdX (s[2].toNat :: s[3].toNat :: (numsOf s).drop 4) = if hv s[2].toNat < 16 ∧ hv s[3].toNat < 16 then (16 * hv s[2].toNat + hv s[3].toNat, 4, true) else rdNo) := rfl
    have Y2 := hxI_yes s[2].toNat
    have Y3 := hxI_yes s[3].toNat
    have N2 := hxI_no s[2].toNat
    have N3 := hxI_no s[3].toNat
    generalize hv s[2].toNat = x at HR Y2 N2
    generalize hv s[3].toNat = y at HR Y3 N3
    generalize hxI s[2].toNat = p at Y2 N2 ⊢
    generalize hxI s[3].toNat = q at Y3 N3 ⊢
    by_cases hx : x < 16
    · by_cases hy : y < 16
      · obtain rfl := Y2 hx
        obtain rfl := Y3 hy
        have HZ : Hid (rdV (rdX ((numsOf s).drop 2)) = .tuple #[.int .u8 ((16 * x + y : Nat) : Int), .int .i64 4, .bool true]) := by
          show _ = _
          rw [HN.out, HR.out, if_pos ⟨hx, hy⟩]; rfl
        have HO := hex_or x hx y hy
        clear Y2 Y3 N2 N3 HR
        go_wp2_with fail
        go_ret3
        exact ⟨by rw [HZ.out]; rfl, drewN_below _ _⟩
      · obtain rfl := Y2 hx
        obtain rfl := N3 hy
        have HZ : Hid (rdV (rdX ((numsOf s).drop 2)) = .tuple #[.int .u8 0, .int .i64 0, .bool false]) := by
          show _ = _
          rw [HN.out, HR.out, if_neg (fun h => hy h.2)]; rfl
        clear Y2 Y3 N2 N3 HR
        go_wp2_with fail
        go_ret3
        exact ⟨by rw [HZ.out]; rfl, drewN_below _ _⟩
    · obtain rfl := N2 hx
      have HZ : Hid (rdV (rdX ((numsOf s).drop 2)) = .tuple #[.int .u8 0, .int .i64 0, .bool false]) := by
        show _ = _
        rw [HN.out, HR.out, if_neg (fun h => hx h.1)]; rfl
      clear Y2 Y3 N2 N3 HR
      go_wp2_with fail
      go_ret3
      exact ⟨by rw [HZ.out]; rfl, drewN_below _ _⟩
  · have HX : Hid (rdV (rdX ((numsOf s).drop 2)) = .tuple #[.int .u8 0, .int .i64 0, .bool false]) := by
      show _ = _
      rw [rdX_short _ (by rw [List.length_drop, nums_size]; omega)]; rfl
    go_enter Tryd.func73, Tryd.ntmps73
    go_wp2_with fail
    go_ret3
    exact ⟨by rw [HX.out]; rfl, Below.refl _ _⟩

theorem nums_zero (s : ByteArray) (h : s.size = 0) : numsOf s = [] := List.eq_nil_of_length_eq_zero (by rw [nums_size]; exact h)
theorem nums_head (s : ByteArray) (h : 0 < s.size) : numsOf s = s[0].toNat :: (numsOf s).drop 1 := nums_at s 0 h
theorem rd_cons (c : Nat) (t : List Nat) : rd (c :: t) = if c = 92 then rdB t else (c, 1, true) := rfl
theorem rd_plain (s : ByteArray) (h : 0 < s.size) (h0 : s[0].toNat ≠ 92) : rd (numsOf s) = (s[0].toNat, 1, true) :=
  (congrArg rd (nums_head s h)).trans ((rd_cons _ _).trans (if_neg h0))
theorem rd_back (s : ByteArray) (h : 0 < s.size) (h0 : s[0].toNat = 92) : rd (numsOf s) = rdB ((numsOf s).drop 1) :=
  (congrArg rd (nums_head s h)).trans ((rd_cons _ _).trans (if_pos h0))
theorem rd_two (s : ByteArray) (h : 1 < s.size) : rdB ((numsOf s).drop 1) = if s[1].toNat = 110 then (10, 2, true) else if s[1].toNat = 116 then (9, 2, true) else if s[1].toNat = 114 then (13, 2, true) else if s[1].toNat = 120 then rdX ((numsOf s).drop 2)
      else if isPrint s[1].toNat && !isWord s[1].toNat then (s[1].toNat, 2, true) else rdNo := by
  rw [nums_at s 1 h]; rfl

set_option maxHeartbeats 2000000 in
set_option maxRecDepth 100000 in
theorem read_any (s : ByteArray) (hs : s.size ≤ maxLen) (w : World) :
    Calls Tryd.prog 68 #[.string s] w fun e w' => e = .returned (rdV (rd (numsOf s))) ∧ Below w.heap.size w w' := by
  have HS := Lib.hid hs
  unfold maxLen at hs
  rcases Nat.eq_zero_or_pos s.size with hz | hp
  · have hl : s.toList = [] := by rw [ByteArray.toList_eq]; exact List.eq_nil_of_length_eq_zero (by simpa using hz)
    have hl2 : (!s.toList.isEmpty) = false := by rw [hl]; rfl
    have HZ : Hid (rdV (rd (numsOf s)) = .tuple #[.int .u8 0, .int .i64 0, .bool false]) := by show _ = _; rw [nums_zero s hz]; rfl
    clear hz
    go_enter Tryd.func68, Tryd.ntmps68
    go_wp2_with fail
    go_ret3
    exact ⟨by rw [HZ.out]; rfl, Below.refl _ _⟩
  · have hl : s.toList.isEmpty = false := ne_empty s hp
    have hl2 : (!s.toList.isEmpty) = true := by rw [hl]; rfl
    by_cases h0 : s[0].toNat = 92
    · have e0 : ((s[0].toNat : Int) != 92) = false := by simp; omega
      have HB := Lib.hid (rd_back s hp h0)
      clear h0
      by_cases h1 : s.size = 1
      · have e1 : ((s.size : Int) == 1) = true := by simp; omega
        have HZ : Hid (rdV (rd (numsOf s)) = .tuple #[.int .u8 0, .int .i64 0, .bool false]) := by
          show _ = _
          rw [HB.out, nums_end s 1 (by omega)]; rfl
        clear h1
        go_enter Tryd.func68, Tryd.ntmps68
        go_wp2_with fail
        go_ret3
        exact ⟨by rw [HZ.out]; rfl, Below.refl _ _⟩
      · have e1 : ((s.size : Int) == 1) = false := by simp; omega
        have g1 : 1 < s.size := by omega
        have HT := Lib.hid (rd_two s g1)
        have hc := UInt8.toNat_lt s[1]
        clear h1
        rcases (by omega : s[1].toNat = 110 ∨ s[1].toNat = 116 ∨ s[1].toNat = 114 ∨ s[1].toNat = 120 ∨ (s[1].toNat ≠ 110 ∧ s[1].toNat ≠ 116 ∧ s[1].toNat ≠ 114 ∧ s[1].toNat ≠ 120)) with h | h | h | h | ⟨h, h', h'', h3⟩
        · have HZ : Hid (rdV (rd (numsOf s)) = .tuple #[.int .u8 10, .int .i64 2, .bool true]) := by
            show _ = _
            rw [HB.out, HT.out, h]; rfl
          have f110 : ((s[1].toNat : Int) == 110) = true := by simp; omega
          clear h
          go_enter Tryd.func68, Tryd.ntmps68
          go_wp2_with fail
          go_ret3
          exact ⟨by rw [HZ.out]; rfl, Below.refl _ _⟩
        · have HZ : Hid (rdV (rd (numsOf s)) = .tuple #[.int .u8 9, .int .i64 2, .bool true]) := by
            show _ = _
            rw [HB.out, HT.out, h]; rfl
          have f110 : ((s[1].toNat : Int) == 110) = false := by simp; omega
          have f116 : ((s[1].toNat : Int) == 116) = true := by simp; omega
          clear h
          go_enter Tryd.func68, Tryd.ntmps68
          go_wp2_with fail
          go_ret3
          exact ⟨by rw [HZ.out]; rfl, Below.refl _ _⟩
        · have HZ : Hid (rdV (rd (numsOf s)) = .tuple #[.int .u8 13, .int .i64 2, .bool true]) := by
            show _ = _
            rw [HB.out, HT.out, h]; rfl
          have f110 : ((s[1].toNat : Int) == 110) = false := by simp; omega
          have f116 : ((s[1].toNat : Int) == 116) = false := by simp; omega
          have f114 : ((s[1].toNat : Int) == 114) = true := by simp; omega
          clear h
          go_enter Tryd.func68, Tryd.ntmps68
          go_wp2_with fail
          go_ret3
          exact ⟨by rw [HZ.out]; rfl, Below.refl _ _⟩
        · have HZ : Hid (rdV (rd (numsOf s)) = rdV (rdX ((numsOf s).drop 2))) := by
            show _ = _
            rw [HB.out, HT.out, h]; rfl
          have f110 : ((s[1].toNat : Int) == 110) = false := by simp; omega
          have f116 : ((s[1].toNat : Int) == 116) = false := by simp; omega
          have f114 : ((s[1].toNat : Int) == 114) = false := by simp; omega
          have f120 : ((s[1].toNat : Int) == 120) = true := by simp; omega
          have HV : Hid (∀ r, rdV r = .tuple #[.int .u8 ((r.1 : Nat) : Int), .int .i64 ((r.2.1 : Nat) : Int), .bool r.2.2]) := fun _ => rfl
          clear h
          go_enter Tryd.func68, Tryd.ntmps68
          go_wp2_with fail
          refine (hex_any s HS.out _).mono ?_
          rintro e w1 ⟨rfl, b1⟩
          rw [HV.out]
          go_wp2_with fail
          go_ret3
          exact ⟨by rw [HZ.out, HV.out]; rfl, b1⟩
        · have HR : Hid (rd (numsOf s) = if isPrint s[1].toNat && !isWord s[1].toNat then (s[1].toNat, 2, true) else rdNo) := by
            show _ = _
            rw [HB.out, HT.out, if_neg h, if_neg h', if_neg h'', if_neg h3]
          have f110 : ((s[1].toNat : Int) == 110) = false := by simp; omega
          have f116 : ((s[1].toNat : Int) == 116) = false := by simp; omega
          have f114 : ((s[1].toNat : Int) == 114) = false := by simp; omega
          have f120 : ((s[1].toNat : Int) == 120) = false := by simp; omega
          clear h h' h'' h3
          rcases hp : isPrint s[1].toNat with _ | _
          · have HP := Lib.hid hp
            have HZ : Hid (rdV (rd (numsOf s)) = .tuple #[.int .u8 0, .int .i64 0, .bool false]) := by show _ = _; rw [HR.out, hp]; rfl
            clear hp
            go_enter Tryd.func68, Tryd.ntmps68
            go_wp2_with fail
            refine (print_any s[1].toNat _).mono ?_
            rintro e w1 ⟨rfl, rfl⟩
            rw [HP.out]
            go_wp2_with fail
            go_ret3
            exact ⟨by rw [HZ.out]; rfl, Below.refl _ _⟩
          · rcases hw : isWord s[1].toNat with _ | _
            · have HP := Lib.hid hp
              have HW := Lib.hid hw
              have HZ : Hid (rdV (rd (numsOf s)) = .tuple #[.int .u8 ((s[1].toNat : Nat) : Int), .int .i64 2, .bool true]) := by show _ = _; rw [HR.out, hp, hw]; rfl
              clear hp hw
              go_enter Tryd.func68, Tryd.ntmps68
              go_wp2_with fail
              refine (print_any s[1].toNat _).mono ?_
              rintro e w1 ⟨rfl, rfl⟩
              rw [HP.out]
              go_wp2_with fail
              refine (alnum_any s[1].toNat hc _).mono ?_
              rintro e w1 ⟨rfl, rfl⟩
              rw [HW.out]
              go_wp2_with fail
              go_ret3
              exact ⟨by rw [HZ.out]; rfl, Below.refl _ _⟩
            · have HP := Lib.hid hp
              have HW := Lib.hid hw
              have HZ : Hid (rdV (rd (numsOf s)) = .tuple #[.int .u8 0, .int .i64 0, .bool false]) := by show _ = _; rw [HR.out, hp, hw]; rfl
              clear hp hw
              go_enter Tryd.func68, Tryd.ntmps68
              go_wp2_with fail
              refine (print_any s[1].toNat _).mono ?_
              rintro e w1 ⟨rfl, rfl⟩
              rw [HP.out]
              go_wp2_with fail
              refine (alnum_any s[1].toNat hc _).mono ?_
              rintro e w1 ⟨rfl, rfl⟩
              rw [HW.out]
              go_wp2_with fail
              go_ret3
              exact ⟨by rw [HZ.out]; rfl, Below.refl _ _⟩
    · have e0 : ((s[0].toNat : Int) != 92) = true := by simp; omega
      have HZ : Hid (rdV (rd (numsOf s)) = .tuple #[.int .u8 ((s[0].toNat : Nat) : Int), .int .i64 1, .bool true]) := by show _ = _; rw [rd_plain s hp h0]; rfl
      clear h0
      go_enter Tryd.func68, Tryd.ntmps68
      go_wp2_with fail
      go_ret3
      exact ⟨by rw [HZ.out]; rfl, Below.refl _ _⟩
end Go.Proofs.YtjhfgiflcenjpaaDoor
