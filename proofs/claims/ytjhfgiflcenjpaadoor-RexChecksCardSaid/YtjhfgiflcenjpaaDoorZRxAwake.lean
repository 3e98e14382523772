import Derived.Test.YtjhfgiflcenjpaaDoorZPParse
import Derived.Test.YtjhfgiflcenjpaaDoorZPShow2
import Derived.Test.YtjhfgiflcenjpaaDoorZPrBack
import Derived.Test.YtjhfgiflcenjpaaDoorZRxSame
namespace Go.Proofs.YtjhfgiflcenjpaaDoor
open Go.RowKit
set_option linter.unusedVariables false

/-- The example, as an expression. -/
def exA : Nat → Bool := fun x => decide (97 ≤ x) && decide (x ≤ 99)
def exX : Nat → Bool := fun x => x == 120
def exT : Rx := .bin ⟨2, emp⟩ (.un ⟨4, emp⟩ (.leaf ⟨1, exA⟩)) (.leaf ⟨1, exX⟩)
set_option maxRecDepth 100000 in
theorem ex_wf : exT.wf := by
  refine ⟨rfl, by decide +kernel, ⟨rfl, by decide +kernel, rfl, by decide +kernel⟩, rfl, by decide +kernel⟩
set_option maxRecDepth 100000 in
theorem ex_text : showT exT = [91, 97, 45, 99, 93, 42, 120] := by decide +kernel
set_option maxRecDepth 100000 in
theorem ex_chk : chkT exT.flat = 0 := by decide +kernel
/-- A list read as pieces of the same cells. -/
theorem RxAt.congr {w : World} {a : Option Addr} {l m : List Pc} (h : RxAt w a l) (e : pcs l = pcs m) (hn : l.length = m.length) : RxAt w a m := by
  intro h0
  obtain ⟨g, off, ha, hg, hc⟩ := h (by omega)
  exact ⟨g, off, ha, hg, fun j hj => by rw [hc j (by omega), e]⟩
theorem pcs_len {l m : List Pc} (h : pcs l = pcs m) : l.length = m.length := by
  have h1 := congrArg List.length h
  rw [pcs_length, pcs_length] at h1
  omega
/-- What a call owns as pieces. -/
theorem own_at {w : World} {base : Nat} {a : Option Addr} {n cap : Nat} {l : List Pc} (h : w.ownsRow base 35 5 (.slice a n cap) n (pcs l)) (hn : l.length = n) : RxAt w a l := by
  intro h0
  obtain ⟨g, ha, _, hg, hc⟩ := ownsRow_read h (by omega)
  exact ⟨g, 0, ha, hg, fun j hj => by rw [Nat.zero_add, (hc j (by omega)).1]⟩

set_option maxHeartbeats 2000000 in
set_option maxRecDepth 100000 in
theorem awake_any (w : World) (hT : TabAt w) (hg : 0 < w.heap.size) : Calls Tryd.prog 5 #[] w fun e w' => e = .returned (.bool true) ∧ Below w.heap.size w w' := by
  obtain ⟨l, hl, ha⟩ := show_back exT ex_wf (by decide)
  have hlen : l.length = 4 := by rw [pcs_len hl]; rfl
  have hn : numsOf ⟨#[91, 97, 45, 99, 93, 42, 120]⟩ = showT exT := by rw [ex_text]; decide
  have HP := Lib.hid (fun W => parse_yes ⟨#[91, 97, 45, 99, 93, 42, 120]⟩ W (by decide) l (by rw [hn]; exact ha) (by omega))
  rw [hlen] at HP
  have HL := Lib.hid hl
  have HN := Lib.hid hlen
  have HX : Hid (strOf (showT exT) = ⟨#[91, 97, 45, 99, 93, 42, 120]⟩) := by show _ = _; rw [ex_text]; decide
  clear hl ha hn hlen
  go_enter Tryd.func5, Tryd.ntmps5
  go_wp2_with fail
  refine (HP.out _).mono ?_
  rintro e w1 ⟨a, cap, rfl, hown, b1⟩
  have hat0 : RxAt w1 a l := own_at (by rw [HN.out]; exact hown) rfl
  have hat := hat0.congr HL.out (pcs_len HL.out)
  obtain ⟨g, off, rfl, hgl, d0, -⟩ := hat.get 1 (by decide)
  obtain ⟨g', off', e', _, d3, -⟩ := hat.get 3 (by decide)
  simp at e'
  obtain ⟨rfl, rfl⟩ := e'
  have t0 : w1.cell? ⟨g, off + 5, none⟩ = some (.int .i64 4) := d0
  have t3 : w1.cell? ⟨g, off + 15, none⟩ = some (.int .i64 2) := d3
  have hT1 := hT.keep b1
  have hsz := b1.size
  have HAT := Lib.hid hat
  clear d0 d3 hat hat0 hown HP
  go_wp2_with fail
  refine (show_any exT ex_wf _ 4 cap _ HAT.out rfl (by decide) hT1 (by omega) ex_chk).mono ?_
  rintro e w2 ⟨rfl, b2⟩
  rw [HX.out]
  go_wp2_with fail
  go_ret
  exact ⟨rfl, b1.trans (b2.mono hsz)⟩
end Go.Proofs.YtjhfgiflcenjpaaDoor
