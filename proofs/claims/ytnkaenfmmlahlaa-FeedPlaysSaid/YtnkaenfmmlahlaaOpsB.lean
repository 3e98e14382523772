import Derived.Test.YtnkaenfmmlahlaaOps
import Derived.Deep.LoopGhost
namespace Go.Proofs.Ytnkaenfmmlahlaa
open Go.Conc Go.RowKit

/-- What Drain leaves. -/
def DrainPost (b c cap : Nat) (l : List Int) (sh : Bool) (lost : Nat) (w : World) (e : Ending) (w' : World) : Prop :=
  ∃ a ca, e = .returned (.slice a l.length ca) ∧ Own w' w.heap.size a ca l ∧ FeedAt w' b c cap [] sh lost ∧ Kept [b, c] w w'

/-- After k rounds of Drain's loop. -/
structure DrainAt (b c cap : Nat) (l : List Int) (sh : Bool) (lost : Nat) (w : World) (k : Nat) (v : Value) (wr : World) : Prop where
  hk : k ≤ l.length
  own : wr.ownsRow w.heap.size 3 1 v k ((l.take k).map (Value.int .i64))
  feed : FeedAt wr b c cap (l.drop k) sh lost
  kept : Kept [b, c] w wr

set_option maxHeartbeats 400000 in
theorem drain_any {w : World} {b c cap : Nat} {l : List Int} {sh : Bool} {lost : Nat} (h : FeedAt w b c cap l sh lost) (hcap : cap ≤ 1024) :
    Calls Try.prog 14 #[.pointer (some ⟨b, 0, none⟩)] w (DrainPost b c cap l sh lost w) := by
  obtain ⟨i0, hi, hz0, hz1, hz2⟩ := info_parts Try.info3
  have hf := h.fits
  have hb := h.lt
  go_enter Try.func14, Try.ntmps14
  go_wp2_with fail
  go_loopg [3] l.length (fun r v wr => ∃ k : Nat, r = l.length - k ∧ DrainAt b c cap l sh lost w k v wr)
  case atStart => exact ⟨0, by omega, ⟨by omega, by simpa using World.ownsRow_nil _ _ _ _, by simpa using h, Kept.refl _ _⟩⟩
  case round =>
    obtain ⟨k, rfl, R⟩ := hrel
    have hk := R.hk
    have hfeed := R.feed
    have hsz := R.kept.size
    clear h
    by_cases hlt : k < l.length
    · rw [List.drop_eq_getElem_cons hlt] at hfeed
      go_wp2_with fail
      refine (Take_some hfeed).mono ?_
      rintro e w3 ⟨rfl, h3, k3⟩
      have hown3 := ownsRow_kept R.own k3 (by simp; omega)
      have hk3 := R.kept.trans k3
      have hsz3 := k3.size
      clear hfeed k3 R
      go_wp2_with (at_builtin; refine wpList_append_own _ rfl _ _ 29 rfl w.heap.size 3 i0 (.int .i64 0) 1 8 Try.underlying29 hi hz0 hz1 hz2 rfl (by decide) _ _ _ rfl (hown3.alloc _) ⟨w3.heap.size, 0, none⟩ 1 1 [.int .i64 l[k]] rfl rfl ?c1 ?c2 ?c3 ?c4 ?c5 ?_)
      case c1 =>
        intro j u hj
        match j, hj with
        | 0, hj => simp at hj; subst hj; simp [Addr.add]
      case c2 => intro u hu; simp at hu; subst hu; rfl
      case c3 => unfold maxLen; omega
      case c4 => omega
      case c5 => simp; omega
      intro v' w5 hown5 hgrow5 _
      have hB5 : Below w.heap.size w3 w5 := ((Below.refl w.heap.size w3).alloc (by omega) _).trans (grown_kept hgrow5 (hown3.alloc _) (by simp; omega))
      have R5 : DrainAt b c cap l sh lost w (k + 1) v' w5 := by
        refine ⟨by omega, ?_, h3.below hB5 hb.1 hb.2, ?_⟩
        · rw [List.take_succ_eq_append_getElem hlt, List.map_append]
          simpa using hown5
        · exact ⟨hB5.os.trans hk3.os, hB5.tape.trans hk3.tape, hB5.output.trans hk3.output, Nat.le_trans hk3.size hB5.size, fun i hi hn => (hB5.block i hi).trans (hk3.block i hi hn)⟩
      clear hown5 hgrow5 hown3 h3 hB5 hk3
      go_wp2_with fail
      go_roundg (l.length - (k + 1))
      case rel => exact ⟨k + 1, rfl, R5⟩
      case measure => omega
    · obtain rfl : k = l.length := by omega
      obtain ⟨a, ca, rfl⟩ := ownsRow_slice R.own
      rw [List.drop_length] at hfeed
      go_wp2_with fail
      refine (Take_none hfeed).mono ?_
      rintro e w3 ⟨rfl, rfl⟩
      go_wp2_with fail
      go_ret
      exact ⟨a, ca, rfl, by simpa [Own] using R.own, hfeed, R.kept⟩
end Go.Proofs.Ytnkaenfmmlahlaa
