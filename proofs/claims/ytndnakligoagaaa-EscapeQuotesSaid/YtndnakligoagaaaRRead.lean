import Derived.Test.YtndnakligoagaaaEscRead
import Derived.Test.YtndnakligoagaaaPRead
namespace Go.Proofs.Ytndnakligoagaaa
open Go.RowKit

theorem nums_inj {a b : ByteArray} (h : numsOf a = numsOf b) : a = b := by rw [← strOf_nums a, ← strOf_nums b, h]
theorem list_eq (a b : ByteArray) : (a.toList == b.toList) = decide (numsOf a = numsOf b) := by
  rw [ByteArray.toList_eq, ByteArray.toList_eq, Bool.eq_iff_iff, beq_iff_eq, decide_eq_true_iff]
  constructor
  · intro e; unfold numsOf; rw [e]
  · intro e; rw [nums_inj e]
theorem nums_to (s : ByteArray) (b : Nat) : numsOf (s.extract 0 b) = (numsOf s).take b := by
  unfold numsOf
  rw [Lib.extract_data, List.map_take]
  simp
theorem nums_str (l : List Nat) (hl : ∀ n ∈ l, n < 256) : numsOf (strOf l) = l := by
  unfold numsOf
  rw [strOf_list, List.map_map]
  conv => rhs; rw [← List.map_id l]
  refine List.map_congr_left fun n hn => ?_
  simp [Nat.mod_eq_of_lt (hl n hn)]
theorem hexd_lt (d : Nat) (h : d < 16) : hexd d < 256 := by unfold hexd; split <;> omega
theorem byteF_lt (c : Nat) (o : Bool) (hc : c < 256) : ∀ n ∈ byteT c o, n < 256 := by
  unfold byteT hexd
  intro n hn
  repeat' split at hn
  all_goals
    simp at hn
    omega

/-- No byte's form below k is at the head. -/
def missA (l : List Nat) (c : Nat) : Prop := c = 10 ∨ c = 9 ∨ c = 13 → l.take 2 ≠ byteT c false
def missB (l : List Nat) (c : Nat) : Prop := l.take 4 ≠ [92, 120, hexd (c / 16), hexd (c % 16)]
def missed (l : List Nat) (k : Nat) : Prop := ∀ c, c < k → missA l c ∧ missB l c
theorem miss_one {l : List Nat} {k : Nat} (h : missed l k) (ha : missA l k) (hb : missB l k) : Hid (missed l (k + 1)) := by
  intro c hc
  by_cases e : c = k
  · subst e; exact ⟨ha, hb⟩
  · exact h c (by omega)
theorem size_two (k : Nat) (h : k = 10 ∨ k = 9 ∨ k = 13) : ∃ x, byteT k false = [92, x] ∧ x ≠ 92 := by
  rcases h with h | h | h <;> subst h
  · exact ⟨110, rfl, by decide⟩
  · exact ⟨116, rfl, by decide⟩
  · exact ⟨114, rfl, by decide⟩
theorem missA_size (l : List Nat) (k : Nat) (T : ByteArray) (hT : T = strOf (byteT k false)) (hz : ¬ T.size = 2) : Hid (missA l k) := by
  intro h
  obtain ⟨x, hx, _⟩ := size_two k h
  rw [hT, strOf_size, hx] at hz
  exact absurd rfl hz
theorem missA_sign (l : List Nat) (k : Nat) (T : ByteArray) (hT : T = strOf (byteT k false)) (h1 : 1 < T.size) (hn : ((T[1].toNat : Int) != 92) = false) : Hid (missA l k) := by
  intro h
  exfalso
  subst hT
  rcases h with h | h | h <;> subst h
  · have e : (strOf (byteT 10 false))[1].toNat = 110 := rfl
    rw [e] at hn; exact absurd hn (by decide)
  · have e : (strOf (byteT 9 false))[1].toNat = 116 := rfl
    rw [e] at hn; exact absurd hn (by decide)
  · have e : (strOf (byteT 13 false))[1].toNat = 114 := rfl
    rw [e] at hn; exact absurd hn (by decide)
theorem missA_short (s : ByteArray) (k : Nat) (h1 : ¬ 1 < s.size) : Hid (missA (numsOf s) k) := by
  intro h e
  obtain ⟨x, hx, _⟩ := size_two k h
  rw [hx] at e
  have := congrArg List.length e
  rw [List.length_take, nums_size] at this
  simp at this
  omega
theorem missA_part (s : ByteArray) (k : Nat) (hk : k < 256) (T : ByteArray) (hT : T = strOf (byteT k false)) (hE : ((s.extract 0 2).toList == T.toList) = false) : Hid (missA (numsOf s) k) := by
  intro h e
  rw [list_eq, nums_to, hT, nums_str _ (byteF_lt k false hk)] at hE
  simp [e] at hE
theorem miss_four (s : ByteArray) (k : Nat) (h : ByteArray) (hh : h = strOf [92, 120, hexd (k / 16), hexd (k % 16)]) (hE : ((s.extract 0 4).toList == h.toList) = false) : missB (numsOf s) k := by
  intro e
  by_cases hk : k / 16 < 16
  · rw [list_eq, nums_to, hh, nums_str _ (by
      intro n hn
      have h1 := hexd_lt (k / 16) hk
      have h2 := hexd_lt (k % 16) (by omega)
      simp at hn
      omega)] at hE
    simp [e] at hE
  · have hs : ∀ n ∈ numsOf s, n < 256 := numsOf_lt s
    have := congrArg (fun l => numsOf (strOf l)) e
    have hE' := hE
    rw [list_eq, nums_to, hh, e] at hE'
    simp only [decide_eq_false_iff_not] at hE'
    exact hE' (by
      rw [nums_str]
      intro n hn
      exact hs n (List.mem_of_mem_take (e ▸ hn)))
theorem miss_short (s : ByteArray) (k : Nat) (h3 : ¬ 3 < s.size) : missB (numsOf s) k := by
  intro e
  have := congrArg List.length e
  rw [List.length_take, nums_size] at this
  simp at this
  omega
theorem hit_two (s : ByteArray) (k : Nat) (hk : k < 256) (T : ByteArray) (hT : T = strOf (byteT k false)) (hz : T.size = 2) (hE : ((s.extract 0 2).toList == T.toList) = true) : rd (numsOf s) = (k, 2, true) := by
  rw [list_eq, nums_to, hT, nums_str _ (byteF_lt k false hk), decide_eq_true_iff] at hE
  rw [← List.take_append_drop 2 (numsOf s), hE, rd_byteT k hk false (by simp)]
  rw [hT, strOf_size] at hz
  rw [hz]
theorem hit_four (s : ByteArray) (k : Nat) (hk : k < 256) (h : ByteArray) (hh : h = strOf [92, 120, hexd (k / 16), hexd (k % 16)]) (_ : 3 < s.size) (hE : ((s.extract 0 4).toList == h.toList) = true) : rd (numsOf s) = (k, 4, true) := by
  have e1 := hv_hexd (k / 16) (by omega)
  have e2 := hv_hexd (k % 16) (by omega)
  have hm : k / 16 < 16 ∧ k % 16 < 16 := ⟨by omega, by omega⟩
  rw [list_eq, nums_to, hh, nums_str _ (by
      intro n hn
      have h1 := hexd_lt (k / 16) hm.1
      have h2 := hexd_lt (k % 16) hm.2
      simp at hn
      omega), decide_eq_true_iff] at hE
  rw [← List.take_append_drop 4 (numsOf s), hE]
  simp [rd, rdB, rdX, e1, e2, hm]
  omega
/-- What is read where no byte's form is at the head. -/
def rdM : List Nat → Nat × Nat × Bool
  | [] => rdNo
  | d :: _ => if isPrint d && !isWord d then (d, 2, true) else rdNo
theorem rdM_cons (d : Nat) (t : List Nat) : rdM (d :: t) = if isPrint d && !isWord d then (d, 2, true) else rdNo := rfl
theorem rd_missed (l : List Nat) (h : missed (92 :: l) 256) : rdB l = rdM l := by
  match l, h with
  | [], _ => rfl
  | d :: u, h =>
    have a10 : d ≠ 110 := fun e => (h 10 (by decide)).1 (Or.inl rfl) (by rw [e]; rfl)
    have a9 : d ≠ 116 := fun e => (h 9 (by decide)).1 (Or.inr (Or.inl rfl)) (by rw [e]; rfl)
    have a13 : d ≠ 114 := fun e => (h 13 (by decide)).1 (Or.inr (Or.inr rfl)) (by rw [e]; rfl)
    show (if d = 110 then _ else if d = 116 then _ else if d = 114 then _ else if d = 120 then rdX u else if isPrint d && !isWord d then (d, 2, true) else rdNo) = rdM (d :: u)
    rw [if_neg a10, if_neg a9, if_neg a13]
    by_cases hd : d = 120
    · subst hd
      have hx : rdX u = rdNo := by
        match u, h with
        | [], _ => rfl
        | [_], _ => rfl
        | x :: y :: v, h =>
          by_cases hh : hv x < 16 ∧ hv y < 16
          · exfalso
            refine (h (16 * hv x + hv y) (by omega)).2 ?_
            have e1 : (16 * hv x + hv y) / 16 = hv x := by omega
            have e2 : (16 * hv x + hv y) % 16 = hv y := by omega
            rw [e1, e2, hexd_hv x hh.1, hexd_hv y hh.2]
            rfl
          · show (if hv x < 16 ∧ hv y < 16 then _ else _) = _
            rw [if_neg hh]
      rw [if_pos rfl, hx]
      rfl
    · rw [if_neg hd]; rfl
theorem rd_after (s : ByteArray) (h : 0 < s.size) (h0 : s[0].toNat = 92) (hm : missed (numsOf s) 256) : rd (numsOf s) = rdM ((numsOf s).drop 1) := by
  have e := nums_head s h
  rw [h0] at e
  rw [rd_back s h h0]
  refine rd_missed _ ?_
  rw [← e]
  exact hm

set_option maxHeartbeats 4000000 in
set_option maxRecDepth 100000 in
theorem rread_back (s : ByteArray) (h : 0 < s.size) (hs : s.size ≤ maxLen) (h0 : s[0].toNat = 92) (w : World) :
    Calls Try.prog 9 #[.string s] w fun e w' => e = .returned (rdV (rd (numsOf s))) ∧ Below w.heap.size w w' := by
  unfold maxLen at hs
  have hne : s.toList.isEmpty = false := ne_empty s h
  have hne2 : (!s.toList.isEmpty) = true := by rw [hne]; rfl
  have e1 : ((s[0].toNat : Int) != 92) = false := by simp; omega
  have H0 := Lib.hid h0
  clear h0
  go_enter Try.func9, Try.ntmps9
  go_wp2_with fail
  go_loopw [5] (fun i wr => ∃ k : Nat, i = .int .i64 k ∧ k ≤ 256 ∧ Hid (missed (numsOf s) k) ∧ Below w.heap.size w wr) (fun i _ => 256 - (intOf i).toNat)
  case atStart => exact ⟨0, rfl, Nat.zero_le _, fun c hc => absurd hc (by omega), Below.refl _ _⟩
  case round =>
    obtain ⟨k, rfl, hk, HM, hbel⟩ := hrel
    by_cases hlt : k < 256
    · have HE : Hid (inB ⟨#[]⟩ k = false) := rfl
      have hx := hex_text k hlt
      unfold hexS at hx
      have HX := Lib.hid hx
      clear hx
      go_wp2_with fail
      refine (rbyte_any k hlt ⟨#[]⟩ (by decide) _).mono ?_
      rintro e w3 ⟨rfl, b3⟩
      rw [HE.out]
      have hb3 := hbel.trans (b3.mono hbel.size)
      clear b3 hbel
      obtain ⟨T, hT⟩ : ∃ T, T = strOf (byteT k false) := ⟨_, rfl⟩
      rw [← hT]
      have HT := Lib.hid hT
      clear hT
      by_cases hz : T.size = 2
      · have hz1 : ((T.size : Int) == 2) = true := by simp; omega
        have hz2 : 1 < T.size := by omega
        have HZ2 := Lib.hid hz
        clear hz
        rcases hn : ((T[1].toNat : Int) != 92) with _ | _
        · have MA := missA_sign (numsOf s) k T HT.out hz2 hn
          go_wp2_with fail
          go_quiet (fail)
          generalize (⟨#[92, 120]⟩ : ByteArray) ++ (⟨#[48, 49, 50, 51, 52, 53, 54, 55, 56, 57, 97, 98, 99, 100, 101, 102]⟩ : ByteArray).extract (k / 16) (k / 16 + 1) ++ (⟨#[48, 49, 50, 51, 52, 53, 54, 55, 56, 57, 97, 98, 99, 100, 101, 102]⟩ : ByteArray).extract (k % 16) (k % 16 + 1) = h at HX ⊢
          by_cases h3 : 3 < s.size
          · rcases hE4 : ((s.extract 0 4).toList == h.toList) with _ | _
            · have HN := miss_one HM.out MA.out (miss_four s k h HX.out hE4)
              have HE4 := Lib.hid hE4
              clear HX HM
              go_wp2_with fail
              go_roundw
              case rel => exact ⟨k + 1, by go_num, by omega, HN, hb3.trans ((drewN_below _ _).mono hb3.size)⟩
              case measure => simp [intOf]; omega
            · have HR : Hid (rd (numsOf s) = (k, 4, true)) := hit_four s k hlt h HX.out h3 hE4
              clear HX HM
              go_wp2_with fail
              go_ret3
              exact ⟨by rw [HR.out]; rfl, hb3.trans ((drewN_below _ _).mono hb3.size)⟩
          · have HN := miss_one HM.out MA.out (miss_short s k h3)
            clear HX HM
            go_wp2_with fail
            go_roundw
            case rel => exact ⟨k + 1, by go_num, by omega, HN, hb3.trans ((drewN_below _ _).mono hb3.size)⟩
            case measure => simp [intOf]; omega
        · by_cases h1 : 1 < s.size
          · rcases hE : ((s.extract 0 2).toList == T.toList) with _ | _
            · have MA := missA_part s k hlt T HT.out hE
              go_wp2_with fail
              go_quiet (fail)
              generalize (⟨#[92, 120]⟩ : ByteArray) ++ (⟨#[48, 49, 50, 51, 52, 53, 54, 55, 56, 57, 97, 98, 99, 100, 101, 102]⟩ : ByteArray).extract (k / 16) (k / 16 + 1) ++ (⟨#[48, 49, 50, 51, 52, 53, 54, 55, 56, 57, 97, 98, 99, 100, 101, 102]⟩ : ByteArray).extract (k % 16) (k % 16 + 1) = h at HX ⊢
              by_cases h3 : 3 < s.size
              · rcases hE4 : ((s.extract 0 4).toList == h.toList) with _ | _
                · have HN := miss_one HM.out MA.out (miss_four s k h HX.out hE4)
                  have HE4 := Lib.hid hE4
                  clear HX HM
                  go_wp2_with fail
                  go_roundw
                  case rel => exact ⟨k + 1, by go_num, by omega, HN, hb3.trans ((drewN_below _ _).mono hb3.size)⟩
                  case measure => simp [intOf]; omega
                · have HR : Hid (rd (numsOf s) = (k, 4, true)) := hit_four s k hlt h HX.out h3 hE4
                  clear HX HM
                  go_wp2_with fail
                  go_ret3
                  exact ⟨by rw [HR.out]; rfl, hb3.trans ((drewN_below _ _).mono hb3.size)⟩
              · have HN := miss_one HM.out MA.out (miss_short s k h3)
                clear HX HM
                go_wp2_with fail
                go_roundw
                case rel => exact ⟨k + 1, by go_num, by omega, HN, hb3.trans ((drewN_below _ _).mono hb3.size)⟩
                case measure => simp [intOf]; omega
            · have HR : Hid (rd (numsOf s) = (k, 2, true)) := hit_two s k hlt T HT.out HZ2.out hE
              clear HX HM
              go_wp2_with fail
              go_ret3
              exact ⟨by rw [HR.out]; rfl, hb3⟩
          · have MA := missA_short s k h1
            go_wp2_with fail
            go_quiet (fail)
            generalize (⟨#[92, 120]⟩ : ByteArray) ++ (⟨#[48, 49, 50, 51, 52, 53, 54, 55, 56, 57, 97, 98, 99, 100, 101, 102]⟩ : ByteArray).extract (k / 16) (k / 16 + 1) ++ (⟨#[48, 49, 50, 51, 52, 53, 54, 55, 56, 57, 97, 98, 99, 100, 101, 102]⟩ : ByteArray).extract (k % 16) (k % 16 + 1) = h at HX ⊢
            by_cases h3 : 3 < s.size
            · exact absurd h3 (by omega)
            · have HN := miss_one HM.out MA.out (miss_short s k h3)
              clear HX HM
              go_wp2_with fail
              go_roundw
              case rel => exact ⟨k + 1, by go_num, by omega, HN, hb3.trans ((drewN_below _ _).mono hb3.size)⟩
              case measure => simp [intOf]; omega
      · have hz1 : ((T.size : Int) == 2) = false := by simp; omega
        have MA := missA_size (numsOf s) k T HT.out hz
        clear hz
        go_wp2_with fail
        go_quiet (fail)
        generalize (⟨#[92, 120]⟩ : ByteArray) ++ (⟨#[48, 49, 50, 51, 52, 53, 54, 55, 56, 57, 97, 98, 99, 100, 101, 102]⟩ : ByteArray).extract (k / 16) (k / 16 + 1) ++ (⟨#[48, 49, 50, 51, 52, 53, 54, 55, 56, 57, 97, 98, 99, 100, 101, 102]⟩ : ByteArray).extract (k % 16) (k % 16 + 1) = h at HX ⊢
        by_cases h3 : 3 < s.size
        · rcases hE4 : ((s.extract 0 4).toList == h.toList) with _ | _
          · have HN := miss_one HM.out MA.out (miss_four s k h HX.out hE4)
            have HE4 := Lib.hid hE4
            clear HX HM
            go_wp2_with fail
            go_roundw
            case rel => exact ⟨k + 1, by go_num, by omega, HN, hb3.trans ((drewN_below _ _).mono hb3.size)⟩
            case measure => simp [intOf]; omega
          · have HR : Hid (rd (numsOf s) = (k, 4, true)) := hit_four s k hlt h HX.out h3 hE4
            clear HX HM
            go_wp2_with fail
            go_ret3
            exact ⟨by rw [HR.out]; rfl, hb3.trans ((drewN_below _ _).mono hb3.size)⟩
        · have HN := miss_one HM.out MA.out (miss_short s k h3)
          clear HX HM
          go_wp2_with fail
          go_roundw
          case rel => exact ⟨k + 1, by go_num, by omega, HN, hb3.trans ((drewN_below _ _).mono hb3.size)⟩
          case measure => simp [intOf]; omega
    · obtain rfl : k = 256 := by omega
      have HF := Lib.hid (rd_after s h H0.out HM.out)
      clear HM
      by_cases h1 : 1 < s.size
      · have HD := Lib.hid (nums_at s 1 h1)
        have hc := UInt8.toNat_lt s[1]
        rcases (by omega : s[1].toNat < 32 ∨ (32 ≤ s[1].toNat ∧ s[1].toNat ≤ 126) ∨ 126 < s[1].toNat) with h2 | ⟨h2, h3⟩ | h2
        · have HZ : Hid (rdV (rd (numsOf s)) = .tuple #[.int .u8 0, .int .i64 0, .bool false]) := by
            show _ = _
            rw [HF.out, HD.out, rdM_cons, show isPrint s[1].toNat = false by unfold isPrint; simp; omega]; rfl
          go_wp2_with fail
          go_ret3
          exact ⟨by rw [HZ.out]; rfl, hbel⟩
        · rcases hw : isWord s[1].toNat with _ | _
          · have HW := Lib.hid hw
            have HZ : Hid (rdV (rd (numsOf s)) = .tuple #[.int .u8 ((s[1].toNat : Nat) : Int), .int .i64 2, .bool true]) := by
              show _ = _
              rw [HF.out, HD.out, rdM_cons, show isPrint s[1].toNat = true by unfold isPrint; simp; omega, hw]; rfl
            clear hw
            go_wp2_with fail
            refine (word_any s[1].toNat hc _).mono ?_
            rintro e w3 ⟨rfl, rfl⟩
            rw [HW.out]
            go_wp2_with fail
            go_ret3
            exact ⟨by rw [HZ.out]; rfl, hbel⟩
          · have HW := Lib.hid hw
            have HZ : Hid (rdV (rd (numsOf s)) = .tuple #[.int .u8 0, .int .i64 0, .bool false]) := by
              show _ = _
              rw [HF.out, HD.out, rdM_cons, hw]; simp; rfl
            clear hw
            go_wp2_with fail
            refine (word_any s[1].toNat hc _).mono ?_
            rintro e w3 ⟨rfl, rfl⟩
            rw [HW.out]
            go_wp2_with fail
            go_ret3
            exact ⟨by rw [HZ.out]; rfl, hbel⟩
        · have HZ : Hid (rdV (rd (numsOf s)) = .tuple #[.int .u8 0, .int .i64 0, .bool false]) := by
            show _ = _
            rw [HF.out, HD.out, rdM_cons, show isPrint s[1].toNat = false by unfold isPrint; simp; omega]; rfl
          go_wp2_with fail
          go_ret3
          exact ⟨by rw [HZ.out]; rfl, hbel⟩
      · have HZ : Hid (rdV (rd (numsOf s)) = .tuple #[.int .u8 0, .int .i64 0, .bool false]) := by
          show _ = _
          rw [HF.out, nums_end s 1 (by omega)]; rfl
        go_wp2_with fail
        go_ret3
        exact ⟨by rw [HZ.out]; rfl, hbel⟩

theorem rread_any (s : ByteArray) (hs : s.size ≤ maxLen) (w : World) :
    Calls Try.prog 9 #[.string s] w fun e w' => e = .returned (rdV (rd (numsOf s))) ∧ Below w.heap.size w w' := by
  rcases Nat.eq_zero_or_pos s.size with hz | hp
  · have he : s = ⟨#[]⟩ := bytes_ext (List.eq_nil_of_length_eq_zero (by simpa using hz))
    subst he
    refine (rread_none w).mono ?_
    rintro e w' ⟨rfl, rfl⟩
    exact ⟨rfl, Below.refl _ _⟩
  · by_cases h0 : s[0].toNat = 92
    · exact rread_back s hp hs h0 w
    · refine (rread_plain s hp h0 w).mono ?_
      rintro e w' ⟨rfl, rfl⟩
      exact ⟨by rw [rd_plain s hp h0]; rfl, Below.refl _ _⟩
end Go.Proofs.Ytndnakligoagaaa
