import Derived.Test.YtjehgdjlncofeaaGreatZChk
import Derived.Test.YtjehgdjlncofeaaGreatZOr
import Derived.Test.YtjehgdjlncofeaaGreatZPRead
import Derived.Test.YtjehgdjlncofeaaGreatZPrMath
import Derived.Deep.RegionLaw
set_option linter.unusedVariables false
set_option linter.unusedSimpArgs false
set_option maxHeartbeats 1000000
set_option maxRecDepth 100000
open Go.Lib (hid)
namespace Go.Proofs.YtjehgdjlncofeaaGreat
open Go.RowKit
theorem St.others {w w':World}{t g e b:Nat}{cs:Array Value}(h:St w t g cs) (k:Lib.OthersKept e (some b) w w') (hb:g≠b) (ht:t≠e):St w' t g cs:=
 k g _ h (by simpa using hb) (by intro c fz h;simp at h;exact ht h.2.1)
theorem zft {e:TypeId}{b:Option Nat}{a w w':World}(h:Lib.OthersKept e b a w) (k:Below w.heap.size w w'):Lib.OthersKept e b a w':=by
 intro i o hi hb ho
 have h1:=h i o hi hb ho
 exact (k.block i (Array.getElem?_eq_some_iff.1 h1).1).trans h1
theorem Tryz.info_piece:(Tryz.prog.info? 104).map (fun i=>(i.zero,i.size,i.bytes))=some (some (.agg #[.int .i64 0,.int .u64 0,.int .u64 0,.int .u64 0,.int .u64 0]),5,40):=by kernel_rfl
def Prs (base b:Nat) (acc:List Pc) (s:ByteArray) (d:Nat) (w:World):Prop:=
 base<=b/\∃v,w.heap[b]?=some (.cells #[.string s,v,.int .i64 (d:Int)] 143 (0,0))/\w.ownsRow base 104 5 v acc.length (pcs acc)/\v.ownBlock≠some b
theorem Prs.lt {base b:Nat}{acc:List Pc}{s:ByteArray}{d:Nat}{w:World}(h:Prs base b acc s d w):b<w.heap.size:=by
 obtain⟨_,v,hb,_⟩:=h
 exact (Array.getElem?_eq_some_iff.1 hb).1
theorem Prs.low {base b:Nat}{acc:List Pc}{s:ByteArray}{d:Nat}{w:World}(h:Prs base b acc s d w):base<=w.heap.size:=Nat.le_trans h.1 (Nat.le_of_lt h.lt)
theorem Prs.keep {base b:Nat}{acc:List Pc}{s:ByteArray}{d:Nat}{w w':World}(h:Prs base b acc s d w) (k:Below w.heap.size w w'):Prs base b acc s d w':=by
 have hl:=h.lt
 obtain⟨h1,v,h2,h3,h4⟩:=h
 exact⟨h1,v,(k.block b hl).trans h2,zab h3 k,h4⟩
theorem Prs.rest {base b:Nat}{acc:List Pc}{s:ByteArray}{d:Nat}{w:World}(h:Prs base b acc s d w):w.cell? ⟨b,0,none⟩=some (.string s)/\w.frozen? ⟨b,0,none⟩=false:=by
 obtain⟨_,v,hb,_⟩:=h
 exact⟨by rw[Lib.cell_of_heap hb];rfl,Lib.frozen_of_heap hb 0⟩
theorem Prs.depth {base b:Nat}{acc:List Pc}{s:ByteArray}{d:Nat}{w:World}(h:Prs base b acc s d w):w.cell? ⟨b,2,none⟩=some (.int .i64 (d:Int))/\w.frozen? ⟨b,2,none⟩=false:=by
 obtain⟨_,v,hb,_⟩:=h
 exact⟨by rw[Lib.cell_of_heap hb];rfl,Lib.frozen_of_heap hb 2⟩
theorem Prs.setRest {base b:Nat}{acc:List Pc}{s:ByteArray}{d:Nat}{w:World}(h:Prs base b acc s d w) (s':ByteArray):Prs base b acc s' d (w.setCell ⟨b,0,none⟩ (.string s')):=by
 obtain⟨hB,v,hb,hown,hne⟩:=h
 refine⟨hB,v,?_,?_,hne⟩
 ·simp[World.setCell,Array.getElem?_modify,hb]
 ·exact hown.kept (row:=some b) ⟨rfl,rfl,rfl,by simp[World.setCell],fun k _ hk=>Below.heap_setCell _ _ _ _ (fun e=>hk (by simp[e]))⟩ (Or.inr hne)
theorem Prs.setDepth {base b:Nat}{acc:List Pc}{s:ByteArray}{d:Nat}{w:World}(h:Prs base b acc s d w) (d':Nat):Prs base b acc s d' (w.setCell ⟨b,2,none⟩ (.int .i64 (d':Int))):=by
 obtain⟨hB,v,hb,hown,hne⟩:=h
 refine⟨hB,v,?_,?_,hne⟩
 ·simp[World.setCell,Array.getElem?_modify,hb]
 ·exact hown.kept (row:=some b) ⟨rfl,rfl,rfl,by simp[World.setCell],fun k _ hk=>Below.heap_setCell _ _ _ _ (fun e=>hk (by simp[e]))⟩ (Or.inr hne)
def KeptP (base b:Nat) (w w':World):Prop:=Below base w w'/\Lib.OthersKept 104 (some b) w w'
theorem KeptP.refl (base b:Nat) (w:World):KeptP base b w w:=⟨Below.refl _ _,Lib.OthersKept.refl _ _ _⟩
theorem KeptP.trans {base b:Nat}{a w w':World}(h:KeptP base b a w) (k:KeptP base b w w'):KeptP base b a w':=⟨h.1.trans k.1,h.2.trans k.2⟩
theorem KeptP.below {base b:Nat}{a w w':World}(h:KeptP base b a w) (hb:base<=w.heap.size) (k:Below w.heap.size w w'):KeptP base b a w':=⟨h.1.trans (k.mono hb),zft h.2 k⟩
theorem KeptP.set {base b:Nat}{a w:World}(h:KeptP base b a w) (hB:base<=b) (j:Nat) (v:Value):KeptP base b a (w.setCell ⟨b,j,none⟩ v):=⟨h.1.setCell (p:=⟨b,j,none⟩) hB v,h.2.setCell ⟨b,j,none⟩ rfl v⟩
theorem KeptP.size {base b:Nat}{w w':World}(h:KeptP base b w w'):w.heap.size<=w'.heap.size:=h.1.size
theorem St.keptP {base b:Nat}{w w':World}{t g:Nat}{cs:Array Value}(h:St w t g cs) (k:KeptP base b w w') (hb:g≠b) (ht:t≠104):St w' t g cs:=h.others k.2 hb ht
theorem zcP (base b:Nat) (acc:List Pc) (s:ByteArray) (d:Nat) (k:Int) (p:Nat->Bool) (w:World) (h:Prs base b acc s d w) (hl:acc.length<=10000):
  Calls Tryz.prog 132 #[.pointer (some ⟨b,0,none⟩),.int .i64 k,(.agg #[.int .u64 ((wd p 0:Nat):Int),.int .u64 ((wd p 1:Nat):Int),.int .u64 ((wd p 2:Nat):Int),.int .u64 ((wd p 3:Nat):Int)])] w fun e w'=>e=.returned (.tuple #[])/\Prs base b (acc++[⟨k,p⟩]) s d w'/\KeptP base b w w':=by
 obtain⟨i0,hi,hz0,hz1,hz2⟩:=info_parts Tryz.info_piece
 have H2:=hid (h.keep ((Below.refl _ w).alloc (Nat.le_refl _) (.cells #[.int .u64 ((wd p 0:Nat):Int),.int .u64 ((wd p 1:Nat):Int),.int .u64 ((wd p 2:Nat):Int),.int .u64 ((wd p 3:Nat):Int)] 57)))
 have HK:=hid ((KeptP.refl base b w).below h.low ((Below.refl _ w).alloc (Nat.le_refl _) (.cells #[.int .u64 ((wd p 0:Nat):Int),.int .u64 ((wd p 1:Nat):Int),.int .u64 ((wd p 2:Nat):Int),.int .u64 ((wd p 3:Nat):Int)] 57)))
 have HS:=hid (St.new w 57 #[.int .u64 ((wd p 0:Nat):Int),.int .u64 ((wd p 1:Nat):Int),.int .u64 ((wd p 2:Nat):Int),.int .u64 ((wd p 3:Nat):Int)])
 have HPC:Hid (pcs (acc++[⟨k,p⟩])=pcs acc++[.int .i64 k,.int .u64 ((wd p 0:Nat):Int),.int .u64 ((wd p 1:Nat):Int),.int .u64 ((wd p 2:Nat):Int),.int .u64 ((wd p 3:Nat):Int)]):=by
  show _=_;rw[zhZ];rfl
 have HLN:Hid ((acc++[(⟨k,p⟩:Pc)]).length=acc.length+1):=by show _=_;simp
 have hbl:=h.lt
 have hpl:(pcs acc).length=acc.length*5:=zhY acc
 clear h
 go_enter Tryz.func132,Tryz.ntmps132
 go_wp2_with fail
 generalize w.alloc (.cells #[.int .u64 ((wd p 0:Nat):Int),.int .u64 ((wd p 1:Nat):Int),.int .u64 ((wd p 2:Nat):Int),.int .u64 ((wd p 3:Nat):Int)] 57)=W2 at H2 HK HS⊢
 obtain⟨c0,c1,c2,c3,-⟩:=row4 HS.out
 have hlow:=H2.out.low
 have hlt2:=H2.out.lt
 obtain⟨hB,v,hbk,hown,hne⟩:=H2.out
 have d1:W2.cell? ⟨b,1,none⟩=some v:=by rw[Lib.cell_of_heap hbk];rfl
 obtain⟨ao,cap0,rfl⟩:=zaa hown
 clear HS H2
 go_region_law (
  refine step_append_lies _ (by rfl) _ _ _ (by rfl) base 104 i0 (.agg #[.int .i64 0,.int .u64 0,.int .u64 0,.int .u64 0,.int .u64 0]) 5 40 Tryz.underlying47 hi hz0 hz1 hz2 (by rfl) (by decide) _ acc.length (pcs acc) (by rfl) (by first|exact hown.drew.alloc _|exact (hown.alloc _).drew) ⟨W2.heap.size,0,none⟩ 1 1 [.int .i64 k,.int .u64 ((wd p 0:Nat):Int),.int .u64 ((wd p 1:Nat):Int),.int .u64 ((wd p 2:Nat):Int),.int .u64 ((wd p 3:Nat):Int)] (by rfl) (by rfl) (World.news_of_block (cs:=#[.int .i64 k,.int .u64 ((wd p 0:Nat):Int),.int .u64 ((wd p 1:Nat):Int),.int .u64 ((wd p 2:Nat):Int),.int .u64 ((wd p 3:Nat):Int)]) (by first|exact heap_alloc_new _ _|exact St.new _ _ _)) (by intro u hu;simp at hu;rcases hu with rfl|rfl|rfl|rfl|rfl <;> rfl) (by omega) (by unfold maxLen;omega) (by omega) (by simp;omega) _ (by rfl) ?_
  intro g cap w1 hown1 hgrow hat hlt1
  have hb2:w1.heap[b]?=some (.cells #[.string s,.slice ao acc.length cap0,.int .i64 (d:Int)] 143 (0,0)):=(hgrow.block b (by simp;omega) (fun e=>hne e.symm)).trans ((Lib.alloc_old _ _ b (by first|exact hlt2|(simp;omega))).trans hbk)
  have e1:w1.cell? ⟨b,1,none⟩=some (.slice ao acc.length cap0):=by (rw[Lib.cell_of_heap hb2];rfl)
  have f1:w1.frozen? ⟨b,1,none⟩=false:=Lib.frozen_of_heap hb2 1)
 all_goals
  go_wp2_with fail
  go_end0
  have hne1:(Value.slice (some ⟨g,0,none⟩) (acc.length+1) cap).ownBlock≠some b:=by
   intro e
   simp[Value.ownBlock] at e
   rcases hat with hat|hat
   ·exact hne (hat.trans (by rw[e]))
   ·simp at hat;omega
  refine⟨rfl,⟨hB,_,?_,?_,hne1⟩,?_⟩
  ·simp[World.setCell,Array.getElem?_modify,hb2]
  ·rw[HPC.out,HLN.out]
   exact hown1.kept (row:=some b) ⟨rfl,rfl,rfl,by simp[World.setCell],fun k _ hk=>Below.heap_setCell _ _ _ _ (fun e=>hk (by simp[e]))⟩ (Or.inr hne1)
  ·refine (HK.out.trans ?_).set hB 1 _
   refine⟨?_,?_⟩
   ·refine Below.grown ?_ hgrow (by simp;omega) (fun k hk=>(hown.lt k hk).1)
    first|exact (Below.refl _ _).drew.alloc hlow _|exact ((Below.refl _ _).alloc hlow _).drew
   ·refine Lib.OthersKept.grown ?_ hgrow (Lib.ownsRow_kind (by first|exact hown.drew.alloc _|exact (hown.alloc _).drew))
    first|exact (Lib.OthersKept.refl _ _ _).drew.alloc _|exact ((Lib.OthersKept.refl _ _ _).alloc _).drew
end Go.Proofs.YtjehgdjlncofeaaGreat
