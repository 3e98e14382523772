import Derived.Test.YtnkaenfmmlahlaaOpsB
namespace Go.Proofs.Ytnkaenfmmlahlaa
open Go.Conc Go.RowKit

/-- How many numbers a feed has room for. -/
def roomOf (cap : Nat) (l : List Int) (sh : Bool) : Nat := if sh then 0 else cap - l.length
/-- How many numbers are moved. -/
def cnt (most : Int) (la : List Int) (r : Nat) : Nat := min (min most.toNat la.length) r

/-- Four blocks of two feeds, all different. -/
structure Apart (ba ca bb cb : Nat) : Prop where
  h1 : ba ≠ bb
  h2 : ba ≠ cb
  h3 : ca ≠ bb
  h4 : ca ≠ cb

def MovePost (ba ca bb cb capa capb : Nat) (la lb : List Int) (sha shb : Bool) (losta lostb n : Nat) (w : World) (e : Ending) (w' : World) : Prop :=
  e = .returned (.int .i64 n) ∧ FeedAt w' ba ca capa (la.drop n) sha losta ∧ FeedAt w' bb cb capb (lb ++ la.take n) shb lostb ∧ Kept [ba, ca, bb, cb] w w'

/-- After k rounds of a move. -/
structure MoveAt (ba ca bb cb capa capb : Nat) (la lb : List Int) (sha shb : Bool) (losta lostb : Nat) (w : World) (k : Nat) (wr : World) : Prop where
  fa : FeedAt wr ba ca capa (la.drop k) sha losta
  fb : FeedAt wr bb cb capb (lb ++ la.take k) shb lostb
  kept : Kept [ba, ca, bb, cb] w wr

set_option maxHeartbeats 1600000 in
theorem move_any {w : World} {ba ca bb cb capa capb : Nat} {la lb : List Int} {sha shb : Bool} {losta lostb : Nat} (ha : FeedAt w ba ca capa la sha losta) (hb : FeedAt w bb cb capb lb shb lostb) (hap : Apart ba ca bb cb)
    (hca : capa ≤ 1024) (hcb : capb ≤ 1024) (most : Int) :
    Calls Try.prog 8 #[.pointer (some ⟨ba, 0, none⟩), .pointer (some ⟨bb, 0, none⟩), .int .i64 most] w (MovePost ba ca bb cb capa capb la lb sha shb losta lostb (cnt most la (roomOf capb lb shb)) w) := by
  have hfa := ha.fits
  have hfb := hb.fits
  have HA := Lib.hid hap
  clear hap
  have hr : roomOf capb lb shb ≤ 1024 ∧ lb.length + roomOf capb lb shb ≤ capb := by unfold roomOf; split <;> omega
  obtain ⟨r, hrr⟩ : ∃ r, roomOf capb lb shb = r := ⟨_, rfl⟩
  have hroom := (room_any hb hcb)
  rw [show (if shb = true then 0 else capb - lb.length) = r from hrr] at hroom
  rw [hrr] at hr ⊢
  clear hrr
  obtain ⟨hr1, hr2⟩ := hr
  obtain ⟨N, hN⟩ : ∃ N, cnt most la r = N := ⟨_, rfl⟩
  have hN1 : N ≤ la.length ∧ N ≤ r := by unfold cnt at hN; omega
  rw [hN]
  obtain ⟨hNl, hNr⟩ := hN1
  have M0 : MoveAt ba ca bb cb capa capb la lb sha shb losta lostb w 0 w := ⟨by simpa using ha, by simpa using hb, Kept.refl _ _⟩
  rcases (by unfold cnt at hN; omega : (most ≤ 0 ∧ 0 ≤ r ∧ 0 ≤ r ∧ 0 = N) ∨ (0 < most ∧ la.length ≤ 0 ∧ 0 ≤ r ∧ 0 = N) ∨ (0 < la.length ∧ la.length < most ∧ r ≤ 0 ∧ 0 = N) ∨ (0 < most ∧ most ≤ la.length ∧ r ≤ 0 ∧ 0 = N) ∨ (0 < most ∧ most ≤ la.length ∧ most ≤ r ∧ most = N) ∨ (0 < la.length ∧ la.length < most ∧ la.length ≤ r ∧ la.length = N) ∨ (0 < r ∧ r < most ∧ most ≤ la.length ∧ r = N) ∨ (0 < r ∧ r < la.length ∧ la.length < most ∧ r = N)) with ⟨h1, h2, h3, h4⟩ | ⟨h1, h2, h3, h4⟩ | ⟨h1, h2, h3, h4⟩ | ⟨h1, h2, h3, h4⟩ | ⟨h1, h2, h3, h4⟩ | ⟨h1, h2, h3, h4⟩ | ⟨h1, h2, h3, h4⟩ | ⟨h1, h2, h3, h4⟩
  case' inr.inr.inr.inr.inl => subst h4; have HN := Lib.hid (show N = N from rfl)
  case' inl => have HN := Lib.hid h4; clear h4
  case' inr.inl => have HN := Lib.hid h4; clear h4
  case' inr.inr.inl => have HN := Lib.hid h4; clear h4
  case' inr.inr.inr.inl => have HN := Lib.hid h4; clear h4
  case' inr.inr.inr.inr.inr.inl => have HN := Lib.hid h4; clear h4
  case' inr.inr.inr.inr.inr.inr.inl => have HN := Lib.hid h4; clear h4
  case' inr.inr.inr.inr.inr.inr.inr => have HN := Lib.hid h4; clear h4
  all_goals
    clear hN
    go_enter Try.func8, Try.ntmps8
    go_wp2_with fail
    refine (len_any ha).mono ?_
    rintro e w1 ⟨rfl, rfl⟩
    go_wp2_with fail
    refine hroom.mono ?_
    rintro e w1 ⟨rfl, rfl⟩
    go_wp2_with fail
    clear h1 h2 h3
    go_loopw [18] (fun i wr => ∃ k : Nat, i = .int .i64 k ∧ Hid (k ≤ N) ∧ MoveAt ba ca bb cb capa capb la lb sha shb losta lostb w k wr) (fun i _ => N - (intOf i).toNat)
    case atStart => exact ⟨0, rfl, Nat.zero_le _, M0⟩
    case round =>
      obtain ⟨k, rfl, hkN, R⟩ := hrel
      have hka := R.fa
      have hkb := R.fb
      have hfits := R.fb.fits
      clear M0 ha hb hroom
      by_cases hlt : k < N
      · first
        | (exfalso; have := HN.out; omega)
        | (skip
           have hlt' := hlt
           try rw [← HN.out] at hlt'
           have hkl : k < la.length := by omega
           have hroomk : (lb ++ la.take k).length < capb := by simp; omega
           rw [List.drop_eq_getElem_cons hkl] at hka
           go_wp2_with fail
           refine (Take_some hka).mono ?_
           rintro e w3 ⟨rfl, h3, k3⟩
           have hkb3 := hkb.kept k3 (by have := HA.out.h1; have := HA.out.h3; simp; omega) (by have := HA.out.h2; have := HA.out.h4; simp; omega)
           go_wp2_with fail
           refine (Send_room hkb3 _ hroomk).mono ?_
           rintro e w4 ⟨rfl, h4, k4⟩
           have h34 := h3.kept k4 (by have := HA.out.h1; have := HA.out.h2; simp; omega) (by have := HA.out.h3; have := HA.out.h4; simp; omega)
           have R4 : MoveAt ba ca bb cb capa capb la lb sha shb losta lostb w (k + 1) w4 := ⟨h34, by rw [List.take_succ_eq_append_getElem hkl, ← List.append_assoc]; exact h4, R.kept.trans ((k3.mono (by simp <;> omega)).trans (k4.mono (by simp <;> omega)))⟩
           clear h34 h4 k4 k3 hkb3 h3 hka hkb hfits R hroomk
           go_wp2_with fail
           go_roundw
           case rel => exact ⟨k + 1, by go_num, hlt, R4⟩
           case measure => simp [intOf]; omega)
      · have hke : k = N := by have := hkN.out; omega
        have hlt' : ¬ k < N := hlt
        try rw [← HN.out] at hlt'
        have RN := R
        rw [hke] at RN
        clear R hka hkb hfits
        have HK := Lib.hid hke
        clear hke
        have HF : MovePost ba ca bb cb capa capb la lb sha shb losta lostb N w (.returned (.int .i64 N)) _ := ⟨rfl, RN.fa, RN.fb, RN.kept⟩
        go_wp2_with fail
        go_ret
        first | exact HF | (have e := HN.out; subst e; exact HF)
end Go.Proofs.Ytnkaenfmmlahlaa
