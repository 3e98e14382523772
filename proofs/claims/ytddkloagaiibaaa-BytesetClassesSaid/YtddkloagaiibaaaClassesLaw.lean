import Derived.Test.YtddkloagaiibaaaCount
import Derived.Test.YtddkloagaiibaaaRefClass
import Derived.Test.YtddkloagaiibaaaAwake
namespace Go.Proofs.Ytddkloagaiibaaa
open Go.RowKit Go.Maps

theorem classes_long (a : Option Addr) (n cap : Nat) (w : World) (hn : 12 < n) :
    Calls Try.prog 5 #[.slice a n cap] w fun e w' => e = .returned (.bool true) ∧ Below w.heap.size w w' := by
  go_enter Try.func5, Try.ntmps5
  go_wp2_with fail
  refine (awake_any _).mono ?_
  rintro e w1 ⟨rfl, b1⟩
  go_wp2_with fail
  go_ret
  exact ⟨rfl, b1⟩

structure LawC (w : World) (g : Nat) (cs : Array Value) (wr : World) : Prop where
  st : St wr 39 g cs
  below : Below w.heap.size w wr
theorem LawC.drew {w wr : World} {g : Nat} {cs : Array Value} (h : LawC w g cs wr) : LawC w g cs wr.drew := ⟨h.st, h.below.drew⟩
theorem LawC.drewN {w wr : World} {g n : Nat} {cs : Array Value} (h : LawC w g cs wr) : LawC w g cs (wr.drewN n) := ⟨h.st, ⟨h.below.os, h.below.tape, h.below.output, h.below.size, h.below.block⟩⟩

set_option maxHeartbeats 2000000 in
set_option maxRecDepth 100000 in
theorem classesLaw (a : Option Addr) (n cap : Nat) (s : Nat → Nat → Bool) (hn : n ≤ 12) (w : World) (hS : SetsAt w a n s) :
    Calls Try.prog 5 #[.slice a n cap] w fun e w' => e = .returned (.bool true) ∧ Below w.heap.size w w' := by
  obtain ⟨K, hK⟩ : ∃ K, keyLit s n = K := ⟨_, rfl⟩
  have HK := Lib.hid hK
  clear hK
  have hz := zero_cls
  go_enter Try.func5, Try.ntmps5
  go_wp2_with fail
  refine (awake_any _).mono ?_
  rintro e w1 ⟨rfl, b1⟩
  have hS1 := hS.keep b1
  have hs1 := b1.size
  go_wp2_with fail
  refine (classes_any a n cap s hn _ hS1).mono ?_
  rintro e w2 ⟨cs, rfl, hcs, hcv, b2⟩
  rw [HK.out] at hcv
  have hb2 := b1.trans (b2.mono hs1)
  clear b1 b2 hS1
  have hinfo : (Try.prog.info? 39).map (·.size) = some cs.size := by rw [hcs]; kernel_rfl
  have hall : cs.all (·.oneCell') = true := by
    rw [Array.all_eq_true]
    intro j hj
    have := hcv j (by omega)
    rw [Array.getElem?_eq_getElem hj] at this
    injection this with this
    rw [this]; rfl
  have HV := Lib.hid hcv
  clear hcv
  have g1 : (w2.alloc (.cells zeros 39)).heap[w2.heap.size]? = some (.cells zeros 39 (0, 0)) := heap_alloc_new w2 _
  go_wp2_with (refine wpList_store_row rfl 39 _ _ rfl w2.heap.size cs rfl rfl _ zeros g1 hinfo (by rw [hcs, zeros_size]) hall ?_)
  have R0 : LawC w w2.heap.size cs ((w2.alloc (.cells zeros 39)).setRow w2.heap.size cs) :=
    ⟨setRow_heap _ _ _ _ _ _ g1, (hb2.alloc hb2.size _).trans ⟨rfl, rfl, rfl, by simp, fun k hk => setRow_other _ _ _ _ (by have := hb2.size; omega)⟩⟩
  obtain ⟨g, hg, hg2⟩ : ∃ g, w2.heap.size = g ∧ w.heap.size ≤ g := ⟨_, rfl, hb2.size⟩
  rw [hg] at R0 ⊢
  clear g1 hb2 hg hs1
  go_loopw [4, 5] (fun v i wr => ∃ k : Nat, i = .int .i64 k ∧ k ≤ 256 ∧ v = .int .i64 ((nrep K k : Nat) : Int) ∧ LawC w g cs wr) (fun _ i _ => 256 - (intOf i).toNat)
  case atStart => exact ⟨0, rfl, Nat.zero_le _, rfl, R0⟩
  case round =>
    clear R0
    obtain ⟨k, rfl, hk, rfl, R⟩ := hrel
    have hm := nrep_le K k
    by_cases hlt : k < 256
    · obtain ⟨hf1, hf2, hf3⟩ := fst_spec K k
      have hcl : cls K (fst K k) = cls K k := by unfold cls; rw [fst_fst]
      have hle := cls_le K k
      have hsz := R.st.lt
      by_cases e : fst K k = k
      · have HN : Hid (nrep K (k + 1) = nrep K k + 1) := by show _ = _; simp only [nrep, e, if_true]
        have hck : cls K k = nrep K k := by unfold cls; rw [e]
        have hv := HV.out k hlt
        rw [hck] at hv
        have HE := Lib.hid e
        clear hf1 hf2 hf3 hcl hle e hck
        generalize nrep K k = m at hv hm HN ⊢
        go_wp2_with fail
        refine (rclass_any a n cap k s hn hlt _ (hS.keep R.below)).mono ?_
        rintro e w3 ⟨rfl, b3⟩
        rw [HK.out, HE.out]
        have R3 : LawC w g cs w3 := ⟨R.st.keep b3, R.below.trans (b3.mono R.below.size)⟩
        have st3 : w3.heap[g]? = some (.cells cs 39 (0, 0)) := R3.st
        have hc1 : w3.cell? ⟨g, k, none⟩ = some (.int .u8 ((m : Nat) : Int)) := by rw [cell_of_row w3 g k _ _ _ st3, hv]
        clear R b3 st3 hv
        go_wp2_with fail
        go_quiet (fail)
        go_wp2_with fail
        go_roundw
        case rel => exact ⟨k + 1, by go_num, by omega, by rw [HN.out]; go_num, R3.drewN⟩
        case measure => simp [intOf]; omega
      · have HN : Hid (nrep K (k + 1) = nrep K k) := by show _ = _; simp only [nrep, e, if_false]; rfl
        have hv := HV.out k hlt
        have hv2 := HV.out (fst K k) (by omega)
        rw [hcl] at hv2
        obtain ⟨c, hc⟩ : ∃ c, fst K k = c := ⟨_, rfl⟩
        rw [hc] at hf1 hv2 e
        have HE := Lib.hid hc
        have hck : c < k := by omega
        clear hf2 hf3 hcl hc e hf1
        generalize nrep K k = m at hm HN ⊢
        generalize cls K k = x at hv hv2 hle
        go_wp2_with fail
        refine (rclass_any a n cap k s hn hlt _ (hS.keep R.below)).mono ?_
        rintro e w3 ⟨rfl, b3⟩
        rw [HK.out, HE.out]
        have R3 : LawC w g cs w3 := ⟨R.st.keep b3, R.below.trans (b3.mono R.below.size)⟩
        have st3 : w3.heap[g]? = some (.cells cs 39 (0, 0)) := R3.st
        have hc1 : w3.cell? ⟨g, k, none⟩ = some (.int .u8 ((x : Nat) : Int)) := by rw [cell_of_row w3 g k _ _ _ st3, hv]
        have hc2 : w3.cell? ⟨g, c, none⟩ = some (.int .u8 ((x : Nat) : Int)) := by rw [cell_of_row w3 g c _ _ _ st3, hv2]
        clear R b3 st3 hv hv2
        go_wp2_with fail
        go_quiet (fail)
        go_wp2_with fail
        go_roundw
        case rel => exact ⟨k + 1, by go_num, by omega, by rw [HN.out], R3.drewN⟩
        case measure => simp [intOf]; omega
    · obtain rfl : k = 256 := by omega
      have st : wr.heap[g]? = some (.cells cs 39 (0, 0)) := R.st
      have htop := Lib.hid (top_cls K)
      go_wp2_with (refine wpList_load_row rfl 39 _ rfl g rfl _ cs (0, 0) (.array 256 5) st Try.underlying39 rfl hinfo ?_)
      refine (count_any cs (cls K) _ (fun j hj => Nat.le_trans (cls_le K j) (by omega)) HV.out).mono ?_
      rintro e w3 ⟨rfl, b3⟩
      have hb := R.below.trans (b3.mono R.below.size)
      rw [htop.out]
      go_wp2_with fail
      go_ret
      exact ⟨rfl, hb⟩
end Go.Proofs.Ytddkloagaiibaaa
