import Derived.Test.YtlnndkilaklifaaZSDet
import Derived.Test.YtlnndkilaklifaaZSMarkFn
namespace Go.Proofs.Ytlnndkilaklifaa
open Go.RowKit Go.Maps Go.WideElems Go.ChangeMaps Go.MapKept
set_option linter.unusedVariables false
set_option linter.unusedSimpArgs false

def BadP (w : World) (e : Ending) (w' : World) : Prop := e = .returned (.tuple #[.agg (zC 30), .int .i64 1]) ∧ Below w.heap.size w w'
set_option maxHeartbeats 1000000 in
set_option maxRecDepth 100000 in
theorem det_bad (kf bV : Nat) (S0 F T : Int) (L : List Eg) (a : Option Addr) (n c : Nat) (w : World) (hL : EdAt w a L) (hn : L.length = n) (hmax : n ≤ 30) (hr : riB S0 L F T = false) :
    Calls Try.prog 34 #[.agg #[.int .i64 S0, .slice a n c, .int .i64 F, .int .i64 T], .func (.func kf) #[] #[.pointer (some ⟨bV, 0, none⟩)]] w (BadP w) := by
  have HRi : Hid (∀ (W : World), Below w.heap.size w W → Calls Try.prog 59 #[.agg #[.int .i64 S0, .slice a n c, .int .i64 F, .int .i64 T]] W fun e w' => e = .returned (.bool false) ∧ Below W.heap.size W w') := fun W hb => by
    have := right_any S0 F T a n c L W (hL.below hb) hn (by unfold maxLen; omega)
    rwa [hr] at this
  clear hL hn hr
  go_enter Try.func34, Try.ntmps34
  go_wp2_with (refine wpList_alloc9 rfl 30 rfl (zC 30) (zero_run9 _) ?_)
  go_upto_region 1 with fail
  have h2 : St ((w.alloc (.cells #[.int .i64 S0, .slice a n c, .int .i64 F, .int .i64 T] 24)).alloc (.cells (zC 30) 30)) 24 w.heap.size #[.int .i64 S0, .slice a n c, .int .i64 F, .int .i64 T] := (St.new w _ _).alloc _
  have h4 : St ((w.alloc (.cells #[.int .i64 S0, .slice a n c, .int .i64 F, .int .i64 T] 24)).alloc (.cells (zC 30) 30)) 30 (w.heap.size + 1) (zC 30) := by
    have := St.new (w.alloc (.cells #[.int .i64 S0, .slice a n c, .int .i64 F, .int .i64 T] 24)) 30 (zC 30)
    simpa using this
  have hB0 : Below w.heap.size w ((w.alloc (.cells #[.int .i64 S0, .slice a n c, .int .i64 F, .int .i64 T] 24)).alloc (.cells (zC 30) 30)) := (al w _).trans ((al _ _).mono (by simp))
  generalize (w.alloc (.cells #[.int .i64 S0, .slice a n c, .int .i64 F, .int .i64 T] 24)).alloc (.cells (zC 30) 30) = W0 at h2 h4 hB0 ⊢
  obtain ⟨b4, hb4⟩ : ∃ b4, w.heap.size + 1 = b4 := ⟨_, rfl⟩
  rw [hb4] at h4
  rw [hb4]
  obtain ⟨r0, r1, r2, r3⟩ := h2.cells4
  have H0 := Lib.hid (And.intro h2 (And.intro h4 (And.intro hB0 hb4)))
  have HR0 := Lib.hid (HRi.out W0 hB0)
  clear h2 h4 hB0 hb4
  go_wp2_with fail
  refine HR0.out.mono ?_
  rintro e w1 ⟨rfl, hB1⟩
  have HSt := Lib.hid (H0.out.2.1.keep hB1)
  have HF : Hid (BadP w (.returned (.tuple #[.agg (zC 30), .int .i64 1])) (w1.setRow b4 (zC 30))) := ⟨rfl, below_setRow9 (H0.out.2.2.1.trans (hB1.mono H0.out.2.2.1.size)) (by have := H0.out.2.2.2; omega) _⟩
  clear hB1 HR0 HRi r0 r1 r2 r3
  go_wp2_with (first | (refine wpList_build9 rfl 30 _ rfl #[] ?hp (.agg (zC 30)) ?hb ?_) | (refine wpList_store_var9 rfl 30 _ _ rfl b4 30 (zC 30) (zC 30) rfl rfl HSt.out rfl (by rw [info_dfa9, zDfa_size]) zDfa_one ?_))
  case hb => exact zero_built9 _
  refine bodyPost_ret (results_cell9 rfl _ _ b4 (zC 30) _ rfl HSt.out.setRow.part Try.underlying30 rfl (by rw [info_dfa9, zDfa_size])) rfl ?_
  exact HF.out
/-- The answer, put into another variable. -/
theorem DetP.put {L : List En} {F : Nat} {mf : Nat → Int} {w W0 w' : World} {cD : Array Value} {er : Int} {nm : List Nat} {L' : List En} {f0 k : Nat} {s0 : Nat → Bool} {R : List (List Int)} {SS : List (Nat → Bool)} {b4 : Nat}
    (hB : Below w.heap.size w W0) (h1 : Below W0.heap.size W0 w') (h2 : Made L F nm L' f0 s0 k R SS) (h3 : cD.size = 258) (h4 : ∀ v ∈ cD.toList, v.oneCell' = true)
    (h5 : (er = 6 ∧ 2000 < SS.length ∧ cD = zC 30) ∨ (er = 0 ∧ SS.length = k ∧ k ≤ 2000 ∧ ∃ ms, DfaAt w' cD (KOf L) R ms (rl (KOf L) 256).length ∧ ms.length = k ∧ ∀ j (h : j < SS.length) (h2 : j < ms.length), Least (fun i => mf (nm.getD i 0)) (fun x => x < nm.length ∧ SS[j] x = true) ms[j]))
    (hst : St w' 30 b4 (zC 30)) (hb4 : w.heap.size ≤ b4) : DetP L F mf w (.returned (.tuple #[.agg cD, .int .i64 er])) (w'.setRow b4 cD) := by
  refine ⟨cD, er, nm, L', f0, s0, k, R, SS, rfl, below_setRow9 (hB.trans (h1.mono hB.size)) hb4 _, h2, h3, h4, ?_⟩
  rcases h5 with h | ⟨e1, e2, e3, ms, h6, h7, h8⟩
  · exact Or.inl h
  · exact Or.inr ⟨e1, e2, e3, ms, h6.setRow hst, h7, h8⟩

set_option maxHeartbeats 1000000 in
set_option maxRecDepth 100000 in
theorem of_any (S0 T : Int) (F : Nat) (L : List En) (a : Option Addr) (n c : Nat) (am : Option Addr) (nM cM : Nat) (z : Nat → Int) (w : World) (hz : ZAt w am nM z) (hnM : nM ≤ 9223372036854775807)
    (hL : EdAt w a (L.map En.z)) (hn : L.length = n) (hmax : n ≤ 30) (hF : F ≤ 9223372036854775807) (hE : ∀ e ∈ L, e.f ≤ 9223372036854775807 ∧ e.t ≤ 9223372036854775807) (hr : riB S0 (L.map En.z) ((F : Nat) : Int) T = true) :
    Calls Try.prog 9 #[.agg #[.int .i64 S0, .slice a n c, .int .i64 ((F : Nat) : Int), .int .i64 T], .slice am nM cM] w (DetP L F (mkOf nM z) w) := by
  have hmk : ∀ (fn : Fn) (first cap : Array Value) (w : World), (Instr.makeFunc fn first cap).run Try.prog w = .ok (.func fn first cap) w := fun _ _ _ _ => rfl
  have HD := Lib.hid (fun (W : World) (hb : Below w.heap.size w W) (bV : Nat) (hS : St W 25 bV #[.slice am nM cM]) => det_any 35 bV (mkOf nM z) S0 T F L a n c W call_mark9.1 (fun W' hb' x hx => ofMark_any bV am nM cM z hnM W' (hS.keep hb') (hz.below (hb.trans (hb'.mono hb.size))) x hx) (fun x => by unfold mkOf; split <;> (try split) <;> omega) (hL.below hb) hn hmax hF hE hr)
  clear hL hn hE hr hz
  go_enter Try.func9, Try.ntmps9
  go_wp2_with (refine wpList_alloc9 rfl 30 rfl (zC 30) (zero_run9 _) ?_)
  go_upto_region 1 with fail
  obtain ⟨W0, hW0⟩ : ∃ W0, ((w.alloc (.cells #[.int .i64 S0, .slice a n c, .int .i64 ((F : Nat) : Int), .int .i64 T] 24)).alloc (.cells #[.slice am nM cM] 25)).alloc (.cells (zC 30) 30) = W0 := ⟨_, rfl⟩
  have k1 := al w (.cells #[.int .i64 S0, .slice a n c, .int .i64 ((F : Nat) : Int), .int .i64 T] 24)
  have k2 := al (w.alloc (.cells #[.int .i64 S0, .slice a n c, .int .i64 ((F : Nat) : Int), .int .i64 T] 24)) (.cells #[.slice am nM cM] 25)
  have k3 := al ((w.alloc (.cells #[.int .i64 S0, .slice a n c, .int .i64 ((F : Nat) : Int), .int .i64 T] 24)).alloc (.cells #[.slice am nM cM] 25)) (.cells (zC 30) 30)
  have h2 : St W0 24 w.heap.size #[.int .i64 S0, .slice a n c, .int .i64 ((F : Nat) : Int), .int .i64 T] := by rw [← hW0]; exact ((St.new w _ _).keep k2).keep k3
  have h3 : St W0 25 (w.heap.size + 1) #[.slice am nM cM] := by
    rw [← hW0]
    have := (St.new (w.alloc (.cells #[.int .i64 S0, .slice a n c, .int .i64 ((F : Nat) : Int), .int .i64 T] 24)) 25 #[.slice am nM cM]).keep k3
    simpa using this
  have h4 : St W0 30 (w.heap.size + 1 + 1) (zC 30) := by
    rw [← hW0]
    have := St.new ((w.alloc (.cells #[.int .i64 S0, .slice a n c, .int .i64 ((F : Nat) : Int), .int .i64 T] 24)).alloc (.cells #[.slice am nM cM] 25)) 30 (zC 30)
    simpa using this
  have hB0 : Below w.heap.size w W0 := by rw [← hW0]; exact (k1.trans (k2.mono (by simp))).trans (k3.mono (by simp; omega))
  try rw [hW0]
  obtain ⟨b4, hb4⟩ : ∃ b4, w.heap.size + 1 + 1 = b4 := ⟨_, rfl⟩
  obtain ⟨b3, hb3⟩ : ∃ b3, w.heap.size + 1 = b3 := ⟨_, rfl⟩
  rw [hb4] at h4
  rw [hb3] at h3
  rw [hb4, hb3]
  obtain ⟨r0, r1, r2, r3⟩ := h2.cells4
  have H0 := Lib.hid (And.intro h4 (And.intro hB0 hb4))
  have HD0 := Lib.hid (HD.out W0 hB0 b3 h3)
  clear h2 h3 h4 hB0 hb4 hb3 hW0 k1 k2 k3
  go_wp2_with fail
  refine HD0.out.mono ?_
  rintro e w1 ⟨cD, er, nm, L', f0, s0, k, R, SS, rfl, h1, h2, h3, h4, h5⟩
  have hst := H0.out.1.keep h1
  have HF := Lib.hid (DetP.put H0.out.2.1 h1 h2 h3 h4 h5 hst (by have := H0.out.2.2; omega))
  have HSt := Lib.hid hst
  have HX := Lib.hid (And.intro h3 h4)
  clear h1 h2 h3 h4 h5 hst HD HD0 r0 r1 r2 r3
  go_wp2_with (refine wpList_store_var9 rfl 30 _ _ rfl b4 30 (zC 30) cD rfl rfl HSt.out (by rw [zDfa_size, HX.out.1]) (by rw [info_dfa9, HX.out.1]) HX.out.2 ?_)
  refine bodyPost_ret (results_cell9 rfl _ _ b4 cD _ rfl HSt.out.setRow.part Try.underlying30 rfl (by rw [info_dfa9, HX.out.1])) rfl ?_
  exact HF.out
set_option maxHeartbeats 1000000 in
set_option maxRecDepth 100000 in
theorem of_bad (S0 F T : Int) (L : List Eg) (a : Option Addr) (n c : Nat) (am : Option Addr) (nM cM : Nat) (w : World) (hL : EdAt w a L) (hn : L.length = n) (hmax : n ≤ 30) (hr : riB S0 L F T = false) :
    Calls Try.prog 9 #[.agg #[.int .i64 S0, .slice a n c, .int .i64 F, .int .i64 T], .slice am nM cM] w (BadP w) := by
  have hmk : ∀ (fn : Fn) (first cap : Array Value) (w : World), (Instr.makeFunc fn first cap).run Try.prog w = .ok (.func fn first cap) w := fun _ _ _ _ => rfl
  have HD := Lib.hid (fun (W : World) (hb : Below w.heap.size w W) (bV : Nat) => det_bad 35 bV S0 F T L a n c W (hL.below hb) hn hmax hr)
  clear hL hn hr
  go_enter Try.func9, Try.ntmps9
  go_wp2_with (refine wpList_alloc9 rfl 30 rfl (zC 30) (zero_run9 _) ?_)
  go_upto_region 1 with fail
  obtain ⟨W0, hW0⟩ : ∃ W0, ((w.alloc (.cells #[.int .i64 S0, .slice a n c, .int .i64 F, .int .i64 T] 24)).alloc (.cells #[.slice am nM cM] 25)).alloc (.cells (zC 30) 30) = W0 := ⟨_, rfl⟩
  have k1 := al w (.cells #[.int .i64 S0, .slice a n c, .int .i64 F, .int .i64 T] 24)
  have k2 := al (w.alloc (.cells #[.int .i64 S0, .slice a n c, .int .i64 F, .int .i64 T] 24)) (.cells #[.slice am nM cM] 25)
  have k3 := al ((w.alloc (.cells #[.int .i64 S0, .slice a n c, .int .i64 F, .int .i64 T] 24)).alloc (.cells #[.slice am nM cM] 25)) (.cells (zC 30) 30)
  have h2 : St W0 24 w.heap.size #[.int .i64 S0, .slice a n c, .int .i64 F, .int .i64 T] := by rw [← hW0]; exact ((St.new w _ _).keep k2).keep k3
  have h4 : St W0 30 (w.heap.size + 1 + 1) (zC 30) := by
    rw [← hW0]
    have := St.new ((w.alloc (.cells #[.int .i64 S0, .slice a n c, .int .i64 F, .int .i64 T] 24)).alloc (.cells #[.slice am nM cM] 25)) 30 (zC 30)
    simpa using this
  have hB0 : Below w.heap.size w W0 := by rw [← hW0]; exact (k1.trans (k2.mono (by simp))).trans (k3.mono (by simp; omega))
  try rw [hW0]
  obtain ⟨b4, hb4⟩ : ∃ b4, w.heap.size + 1 + 1 = b4 := ⟨_, rfl⟩
  rw [hb4] at h4
  rw [hb4]
  obtain ⟨r0, r1, r2, r3⟩ := h2.cells4
  have H0 := Lib.hid (And.intro h4 (And.intro hB0 hb4))
  have HD0 := Lib.hid (HD.out W0 hB0 (w.heap.size + 1))
  clear h2 h4 hB0 hb4 hW0 k1 k2 k3
  go_wp2_with fail
  refine HD0.out.mono ?_
  rintro e w1 ⟨rfl, h1⟩
  have HSt := Lib.hid (H0.out.1.keep h1)
  have HF : Hid (BadP w (.returned (.tuple #[.agg (zC 30), .int .i64 1])) (w1.setRow b4 (zC 30))) := ⟨rfl, below_setRow9 (H0.out.2.1.trans (h1.mono H0.out.2.1.size)) (by have := H0.out.2.2; omega) _⟩
  clear h1 HD HD0 r0 r1 r2 r3
  go_wp2_with (refine wpList_store_var9 rfl 30 _ _ rfl b4 30 (zC 30) (zC 30) rfl rfl HSt.out rfl (by rw [info_dfa9, zDfa_size]) zDfa_one ?_)
  refine bodyPost_ret (results_cell9 rfl _ _ b4 (zC 30) _ rfl HSt.out.setRow.part Try.underlying30 rfl (by rw [info_dfa9, zDfa_size])) rfl ?_
  exact HF.out
set_option maxHeartbeats 1000000 in
set_option maxRecDepth 100000 in
theorem one_any (S0 : Int) (F T : Nat) (L : List En) (a : Option Addr) (n c : Nat) (w : World)
    (hL : EdAt w a (L.map En.z)) (hn : L.length = n) (hmax : n ≤ 30) (hF : F ≤ 9223372036854775807) (hT : T ≤ 9223372036854775807) (hE : ∀ e ∈ L, e.f ≤ 9223372036854775807 ∧ e.t ≤ 9223372036854775807) (hr : riB S0 (L.map En.z) ((F : Nat) : Int) ((T : Nat) : Int) = true) :
    Calls Try.prog 18 #[.agg #[.int .i64 S0, .slice a n c, .int .i64 ((F : Nat) : Int), .int .i64 ((T : Nat) : Int)]] w (DetP L F (fun x => if x = T then 0 else -1) w) := by
  have hmk : ∀ (fn : Fn) (first cap : Array Value) (w : World), (Instr.makeFunc fn first cap).run Try.prog w = .ok (.func fn first cap) w := fun _ _ _ _ => rfl
  have HD := Lib.hid (fun (W : World) (hb : Below w.heap.size w W) (bV : Nat) (hS : St W 24 bV #[.int .i64 S0, .slice a n c, .int .i64 ((F : Nat) : Int), .int .i64 ((T : Nat) : Int)]) => det_any 40 bV (fun x => if x = T then 0 else -1) S0 ((T : Nat) : Int) F L a n c W call_mark9.2 (fun W' hb' x hx => oneMark_any bV S0 ((F : Nat) : Int) T a n c W' (hS.keep hb') x hx hT) (fun x => by split <;> omega) (hL.below hb) hn hmax hF hE hr)
  clear hL hn hE hr
  go_enter Try.func18, Try.ntmps18
  go_wp2_with (refine wpList_alloc9 rfl 30 rfl (zC 30) (zero_run9 _) ?_)
  go_upto_region 1 with fail
  have h2 : St ((w.alloc (.cells #[.int .i64 S0, .slice a n c, .int .i64 ((F : Nat) : Int), .int .i64 ((T : Nat) : Int)] 24)).alloc (.cells (zC 30) 30)) 24 w.heap.size #[.int .i64 S0, .slice a n c, .int .i64 ((F : Nat) : Int), .int .i64 ((T : Nat) : Int)] := (St.new w _ _).alloc _
  have h4 : St ((w.alloc (.cells #[.int .i64 S0, .slice a n c, .int .i64 ((F : Nat) : Int), .int .i64 ((T : Nat) : Int)] 24)).alloc (.cells (zC 30) 30)) 30 (w.heap.size + 1) (zC 30) := by
    have := St.new (w.alloc (.cells #[.int .i64 S0, .slice a n c, .int .i64 ((F : Nat) : Int), .int .i64 ((T : Nat) : Int)] 24)) 30 (zC 30)
    simpa using this
  have hB0 : Below w.heap.size w ((w.alloc (.cells #[.int .i64 S0, .slice a n c, .int .i64 ((F : Nat) : Int), .int .i64 ((T : Nat) : Int)] 24)).alloc (.cells (zC 30) 30)) := (al w _).trans ((al _ _).mono (by simp))
  generalize (w.alloc (.cells #[.int .i64 S0, .slice a n c, .int .i64 ((F : Nat) : Int), .int .i64 ((T : Nat) : Int)] 24)).alloc (.cells (zC 30) 30) = W0 at h2 h4 hB0 ⊢
  obtain ⟨b4, hb4⟩ : ∃ b4, w.heap.size + 1 = b4 := ⟨_, rfl⟩
  rw [hb4] at h4
  rw [hb4]
  obtain ⟨r0, r1, r2, r3⟩ := h2.cells4
  have H0 := Lib.hid (And.intro h4 (And.intro hB0 hb4))
  have HD0 := Lib.hid (HD.out W0 hB0 w.heap.size h2)
  clear h2 h4 hB0 hb4
  go_wp2_with fail
  refine HD0.out.mono ?_
  rintro e w1 ⟨cD, er, nm, L', f0, s0, k, R, SS, rfl, h1, h2, h3, h4, h5⟩
  have hst := H0.out.1.keep h1
  have HF := Lib.hid (DetP.put (mf := fun x => if x = T then 0 else -1) H0.out.2.1 h1 h2 h3 h4 h5 hst (by have := H0.out.2.2; omega))
  have HSt := Lib.hid hst
  have HX := Lib.hid (And.intro h3 h4)
  clear h1 h2 h3 h4 h5 hst HD HD0 r0 r1 r2 r3
  go_wp2_with (refine wpList_store_var9 rfl 30 _ _ rfl b4 30 (zC 30) cD rfl rfl HSt.out (by rw [zDfa_size, HX.out.1]) (by rw [info_dfa9, HX.out.1]) HX.out.2 ?_)
  refine bodyPost_ret (results_cell9 rfl _ _ b4 cD _ rfl HSt.out.setRow.part Try.underlying30 rfl (by rw [info_dfa9, HX.out.1])) rfl ?_
  exact HF.out
set_option maxHeartbeats 1000000 in
set_option maxRecDepth 100000 in
theorem one_bad (S0 F T : Int) (L : List Eg) (a : Option Addr) (n c : Nat) (w : World) (hL : EdAt w a L) (hn : L.length = n) (hmax : n ≤ 30) (hr : riB S0 L F T = false) :
    Calls Try.prog 18 #[.agg #[.int .i64 S0, .slice a n c, .int .i64 F, .int .i64 T]] w (BadP w) := by
  have hmk : ∀ (fn : Fn) (first cap : Array Value) (w : World), (Instr.makeFunc fn first cap).run Try.prog w = .ok (.func fn first cap) w := fun _ _ _ _ => rfl
  have HD := Lib.hid (fun (W : World) (hb : Below w.heap.size w W) (bV : Nat) => det_bad 40 bV S0 F T L a n c W (hL.below hb) hn hmax hr)
  clear hL hn hr
  go_enter Try.func18, Try.ntmps18
  go_wp2_with (refine wpList_alloc9 rfl 30 rfl (zC 30) (zero_run9 _) ?_)
  go_upto_region 1 with fail
  have h2 : St ((w.alloc (.cells #[.int .i64 S0, .slice a n c, .int .i64 F, .int .i64 T] 24)).alloc (.cells (zC 30) 30)) 24 w.heap.size #[.int .i64 S0, .slice a n c, .int .i64 F, .int .i64 T] := (St.new w _ _).alloc _
  have h4 : St ((w.alloc (.cells #[.int .i64 S0, .slice a n c, .int .i64 F, .int .i64 T] 24)).alloc (.cells (zC 30) 30)) 30 (w.heap.size + 1) (zC 30) := by
    have := St.new (w.alloc (.cells #[.int .i64 S0, .slice a n c, .int .i64 F, .int .i64 T] 24)) 30 (zC 30)
    simpa using this
  have hB0 : Below w.heap.size w ((w.alloc (.cells #[.int .i64 S0, .slice a n c, .int .i64 F, .int .i64 T] 24)).alloc (.cells (zC 30) 30)) := (al w _).trans ((al _ _).mono (by simp))
  generalize (w.alloc (.cells #[.int .i64 S0, .slice a n c, .int .i64 F, .int .i64 T] 24)).alloc (.cells (zC 30) 30) = W0 at h2 h4 hB0 ⊢
  obtain ⟨b4, hb4⟩ : ∃ b4, w.heap.size + 1 = b4 := ⟨_, rfl⟩
  rw [hb4] at h4
  rw [hb4]
  obtain ⟨r0, r1, r2, r3⟩ := h2.cells4
  have H0 := Lib.hid (And.intro h4 (And.intro hB0 hb4))
  have HD0 := Lib.hid (HD.out W0 hB0 w.heap.size)
  clear h2 h4 hB0 hb4
  go_wp2_with fail
  refine HD0.out.mono ?_
  rintro e w1 ⟨rfl, h1⟩
  have HSt := Lib.hid (H0.out.1.keep h1)
  have HF : Hid (BadP w (.returned (.tuple #[.agg (zC 30), .int .i64 1])) (w1.setRow b4 (zC 30))) := ⟨rfl, below_setRow9 (H0.out.2.1.trans (h1.mono H0.out.2.1.size)) (by have := H0.out.2.2; omega) _⟩
  clear h1 HD HD0 r0 r1 r2 r3
  go_wp2_with (refine wpList_store_var9 rfl 30 _ _ rfl b4 30 (zC 30) (zC 30) rfl rfl HSt.out rfl (by rw [info_dfa9, zDfa_size]) zDfa_one ?_)
  refine bodyPost_ret (results_cell9 rfl _ _ b4 (zC 30) _ rfl HSt.out.setRow.part Try.underlying30 rfl (by rw [info_dfa9, zDfa_size])) rfl ?_
  exact HF.out
end Go.Proofs.Ytlnndkilaklifaa

namespace Go.Proofs.Ytlnndkilaklifaa
open Go.RowKit Go.Maps Go.WideElems Go.ChangeMaps Go.MapKept
set_option linter.unusedVariables false
set_option linter.unusedSimpArgs false

def exA9 : Nat → Bool := fun x => x == 97
def exE9 : En := ⟨0, 1, exA9, false⟩
theorem exA9_words : wd exA9 0 = 0 ∧ wd exA9 1 = 8589934592 ∧ wd exA9 2 = 0 ∧ wd exA9 3 = 0 := by
  have h0 : ∀ j, j ≠ 1 → wd exA9 j = 0 := fun j hj => by
    rw [← wd_none j]
    exact wd_congr (fun k hk => by simp [exA9]; omega)
  exact ⟨h0 0 (by decide), (wd_one 1 33 (by decide) 97 (by decide)).symm, h0 2 (by decide), h0 3 (by decide)⟩
theorem exE9_right : riB ((2 : Nat) : Int) ([exE9].map En.z) ((0 : Nat) : Int) ((1 : Nat) : Int) = true := by
  simp [riB, edB, stB, En.z, exE9]
/-- The example's automaton. -/
theorem awk_math {nm : List Nat} {L' : List En} {f0 k : Nat} {s0 : Nat → Bool} {R : List (List Int)} {SS : List (Nat → Bool)} (h : Made [exE9] 0 nm L' f0 s0 k R SS) :
    SS.length ≤ 2 ∧ (SS.length = k → SS.length = 2 ∧ ∀ ms : List Int, (∀ j (h : j < SS.length) (h2 : j < ms.length), Least (fun i => if nm.getD i 0 = 1 then 0 else -1) (fun x => x < nm.length ∧ SS[j] x = true) ms[j]) → ms.length = 2 → ms.getD 0 0 = -1 ∧ ms.getD 1 0 = 0) := by
  obtain ⟨e', he⟩ : ∃ e', L' = [e'] := by
    have := congrArg List.length h.ren
    rw [List.length_map] at this
    exact List.length_eq_one_iff.1 this.symm
  have hren := h.ren
  rw [he] at hren
  simp only [List.map_cons, List.map_nil, List.cons.injEq, and_true] at hren
  obtain ⟨hf, ht, hp, hb⟩ : nm.getD e'.f 0 = 0 ∧ nm.getD e'.t 0 = 1 ∧ e'.p = exA9 ∧ e'.b = false := by
    have h1 : exE9 = En.ren nm e' := hren
    unfold exE9 En.ren at h1
    injection h1 with a b c d
    exact ⟨a.symm, b.symm, c.symm, d.symm⟩
  have hbd := h.bd e' (by rw [he]; simp)
  have hf0 : f0 < nm.length := (List.getElem?_eq_some_iff.1 h.hf).1
  have hf0v : nm.getD f0 0 = 0 := by simp [List.getD_eq_getElem?_getD, h.hf]
  have hef : e'.f = f0 := nd_inj h.nd hbd.1 hf0 (by rw [hf, hf0v])
  have htf : e'.t ≠ f0 := fun e => by rw [e, hf0v] at ht; cases ht
  have hFR : ∀ (A : Nat → Prop) x, FR L' A x ↔ A x := fun A x => ⟨fun k => FR.within (C := A) (fun x hx => hx) (fun e hm h2 => by rw [he] at hm; rw [List.mem_singleton.1 hm, hb] at h2; cases h2) k, .base⟩
  have hT : ∀ f c x, TTo L' nm.length (rpO (KOf [exE9])) f c x → x = e'.t := fun f c x hx => by
    obtain ⟨e, hm, _, _, _, h5⟩ := (hFR _ x).1 hx
    rw [he] at hm
    rw [List.mem_singleton.1 hm] at h5
    exact h5.symm
  have hpre := h.run.pre
  have h0l : 0 < SS.length := Nat.lt_of_lt_of_le (by simp) hpre.length_le
  have hS0 : ∀ x, x < nm.length → (SS[0] x = true ↔ x = f0) := fun x hx => by
    have e1 : s0 = SS[0] := by simpa using hpre.getElem (i := 0) (by simp)
    rw [← e1, h.st x hx, hFR]
  have hSi : ∀ i (hi : i < SS.length), 1 ≤ i → ∀ x, x < nm.length → (SS[i] x = true ↔ x = e'.t) := fun i hi h1 x hx => by
    obtain ⟨i', hi', d, _, _, ⟨y, hy, hTy⟩, h3⟩ := h.run.src i hi (by simpa using h1)
    rw [h3 x hx]
    exact ⟨hT _ _ _, fun e => by rw [e, ← hT _ _ _ hTy]; exact hTy⟩
  have hdist := h.run.dist (fun i j hi hj _ => by simp at hi hj; omega)
  refine ⟨?_, fun hk => ?_⟩
  · refine Classical.byContradiction fun hn => ?_
    have := hdist 1 2 (by omega) (by omega) (fun x hx => by
      rw [Bool.eq_iff_iff, hSi 1 (by omega) (by omega) x hx, hSi 2 (by omega) (by omega) x hx])
    omega
  · have hr1 : RunP L' f0 (fun _ => 97) 1 e'.t := .base ⟨e', by rw [he]; simp, hb, by rw [hp]; rfl, .base hef, rfl⟩
    obtain ⟨hj, hc, hsay⟩ := h.step hk (fun _ => 97) 0 0 (by decide) (h.start _)
    have hlen : SS.length = 2 := by
      rcases hsay with ⟨_, h2⟩ | ⟨j2, hj2, _, h2⟩
      · exact absurd hr1 (h2 _)
      · have h3 := (h2 e'.t hbd.2).2 hr1
        have : j2 ≠ 0 := fun e => by
          subst e
          exact htf ((hS0 _ hbd.2).1 h3)
        have hle : ¬ 2 < SS.length := fun hn => by
          have := hdist 1 2 (by omega) (by omega) (fun x hx => by
            rw [Bool.eq_iff_iff, hSi 1 (by omega) (by omega) x hx, hSi 2 (by omega) (by omega) x hx])
          omega
        omega
    refine ⟨hlen, fun ms hms hml => ?_⟩
    match ms, hml with
    | [m0, m1], _ =>
      have h0 := hms 0 h0l (by simp)
      have h1 := hms 1 (by omega) (by simp)
      simp only [List.getElem_cons_zero, List.getElem_cons_succ] at h0 h1
      refine ⟨?_, ?_⟩
      · rcases h0 with ⟨h2, _⟩ | ⟨h2, ⟨x, hx, h3⟩, _⟩
        · simpa using h2
        · have e := (hS0 x hx.1).1 hx.2
          dsimp only at h3
          rw [e, hf0v] at h3
          simp at h3
          omega
      · rcases h1 with ⟨_, h3⟩ | ⟨h2, ⟨x, hx, h3⟩, _⟩
        · have := h3 e'.t ⟨hbd.2, (hSi 1 (by omega) (Nat.le_refl _) _ hbd.2).2 rfl⟩
          dsimp only at this
          rw [ht] at this
          simp at this
        · have e := (hSi 1 (by omega) (Nat.le_refl _) x hx.1).1 hx.2
          dsimp only at h3
          rw [e, ht] at h3
          simp at h3
          simpa using h3.symm

set_option maxHeartbeats 1000000 in
set_option maxRecDepth 100000 in
theorem awake07_any (w : World) : Calls Try.prog 8 #[] w fun e w' => e = .returned (.bool true) ∧ Below w.heap.size w w' := by
  have hA : EdAt (w.alloc (.cells #[.int .i64 0, .int .i64 1, .int .u64 0, .int .u64 8589934592, .int .u64 0, .int .u64 0, .bool false] 43)) (some ⟨w.heap.size, 0, none⟩) ([exE9].map En.z) := fun h0 => by
    have hs := St.new w 43 #[.int .i64 0, .int .i64 1, .int .u64 0, .int .u64 8589934592, .int .u64 0, .int .u64 0, .bool false]
    obtain ⟨x0, x1, x2, x3⟩ := exA9_words
    refine ⟨w.heap.size, 0, rfl, by simp, fun j hj => ?_⟩
    have e : egs ([exE9].map En.z) = [.int .i64 0, .int .i64 1, .int .u64 0, .int .u64 8589934592, .int .u64 0, .int .u64 0, .bool false] := by
      simp [egs, egCells, En.z, exE9, x0, x1, x2, x3]
    rw [e, Nat.zero_add, hs.at_]
    simp
  have HOne := Lib.hid (one_any 2 0 1 [exE9] (some ⟨w.heap.size, 0, none⟩) 1 1 (w.alloc (.cells #[.int .i64 0, .int .i64 1, .int .u64 0, .int .u64 8589934592, .int .u64 0, .int .u64 0, .bool false] 43)) hA rfl (by omega) (by omega) (by omega) (fun e he => by rw [List.mem_singleton.1 he]; decide) exE9_right)
  have HB := Lib.hid (al w (.cells #[.int .i64 0, .int .i64 1, .int .u64 0, .int .u64 8589934592, .int .u64 0, .int .u64 0, .bool false] 43))
  clear hA
  go_enter Try.func8, Try.ntmps8
  go_wp2_with fail
  refine HOne.out.mono ?_
  rintro e w1 ⟨cD, er, nm, L', f0, s0, k, R, SS, rfl, h1, h2, h3, h4, h5⟩
  obtain ⟨m1, m2⟩ := awk_math h2
  have hBw := HB.out.trans (h1.mono HB.out.size)
  rcases h5 with ⟨_, hbig, _⟩ | ⟨rfl, hk, _, ms, hD, hml, hms⟩
  · omega
  · obtain ⟨hk2, hmm⟩ := m2 hk
    obtain ⟨v0, v1⟩ := hmm ms hms (by omega)
    have hRl := h2.run.len
    obtain ⟨aN, cN, A, hN, _⟩ := hD.rows
    obtain ⟨aK, cK, hK, hzK⟩ := hD.marks
    rw [show R.length = 2 by omega] at hN
    rw [show ms.length = 2 by omega] at hK hzK
    obtain ⟨gK, oK, rfl, hgK, hcK⟩ := hzK (by omega)
    have HX := Lib.hid (And.intro h3 (And.intro h4 (And.intro hN (And.intro hK hBw))))
    have z0 := hcK 0 (by omega)
    have z1 := hcK 1 (by omega)
    dsimp only at z0 z1
    rw [v0] at z0
    rw [v1] at z1
    have HZ := Lib.hid (And.intro z0 (And.intro z1 hgK))
    clear h1 h2 h3 h4 hD hms hk m2 hmm hN hK hcK z0 z1 hk2 hml hRl hzK hBw m1 v0 v1
    have k1 := al w1 (.cells (zC 30) 30)
    have hst : St (w1.alloc (.cells (zC 30) 30)) 30 w1.heap.size (zC 30) := St.new _ _ _
    have HSt := Lib.hid hst
    have HW2 : Hid (St ((w1.alloc (.cells (zC 30) 30)).setRow w1.heap.size cD) 30 w1.heap.size cD ∧ Below w.heap.size w ((w1.alloc (.cells (zC 30) 30)).setRow w1.heap.size cD) ∧
        ((w1.alloc (.cells (zC 30) 30)).setRow w1.heap.size cD).cell? ⟨gK, oK, none⟩ = some (.int .i64 (-1)) ∧ ((w1.alloc (.cells (zC 30) 30)).setRow w1.heap.size cD).cell? ⟨gK, oK + 1, none⟩ = some (.int .i64 0)) := by
      have hne : gK ≠ w1.heap.size := Nat.ne_of_lt HZ.out.2.2
      refine ⟨hst.setRow, below_setRow9 (HX.out.2.2.2.2.trans (k1.mono HX.out.2.2.2.2.size)) HX.out.2.2.2.2.size _, ?_, ?_⟩
      · rw [cell_setRow_other _ _ _ _ hne]
        exact (k1.cell (p := ⟨gK, oK, none⟩) HZ.out.2.2).trans HZ.out.1
      · rw [cell_setRow_other _ _ _ _ hne]
        exact (k1.cell (p := ⟨gK, oK + 1, none⟩) HZ.out.2.2).trans HZ.out.2.1
    clear k1 hst
    go_upto_region 2 with (first | (refine wpList_alloc9 rfl 30 rfl (zC 30) (zero_run9 _) ?_) | (refine wpList_store_var9 rfl 30 _ _ rfl w1.heap.size 30 (zC 30) cD rfl rfl HSt.out (by rw [zDfa_size, HX.out.1]) (by rw [info_dfa9, HX.out.1]) HX.out.2.1 ?_))
    generalize (w1.alloc (.cells (zC 30) 30)).setRow w1.heap.size cD = W2 at HW2 ⊢
    obtain ⟨b, hb⟩ : ∃ b, w1.heap.size = b := ⟨_, rfl⟩
    rw [hb] at HW2
    rw [hb]
    have q1 : W2.cell? ⟨b, 256, none⟩ = some (.slice aN 2 cN) := by rw [HW2.out.1.at_, HX.out.2.2.1]
    have q2 : W2.cell? ⟨b, 257, none⟩ = some (.slice (some ⟨gK, oK, none⟩) 2 cK) := by rw [HW2.out.1.at_, HX.out.2.2.2.1]
    have q3 := HW2.out.2.2.1
    have q4 := HW2.out.2.2.2
    clear hb
    go_wp2_with fail
    go_ret
    exact ⟨rfl, HW2.out.2.1⟩
end Go.Proofs.Ytlnndkilaklifaa
