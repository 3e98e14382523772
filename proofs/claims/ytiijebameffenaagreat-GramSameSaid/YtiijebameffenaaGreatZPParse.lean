import Derived.Test.YtiijebameffenaaGreatZChk
import Derived.Test.YtiijebameffenaaGreatZOr
import Derived.Test.YtiijebameffenaaGreatZPRead
import Derived.Deep.RegionLaw
set_option linter.all false
set_option maxHeartbeats 4000000
set_option maxRecDepth 100000
open Go.Lib (hid)
namespace Go.Proofs.YtiijebameffenaaGreat
open Go.RowKit Go.Proofs.Tryz
open Lib (OthersKept cell_of_heap)
open Nat (eq_zero_or_pos le_refl le_trans lt_succ_self)
open Below (heap_setCell)
open Or (inl inr)
variable {a w w':World}{acc:List Pc}{cs:Array Value}{d g t:Nat}
theorem St.others{e b:Nat}(h:St w t g cs)(k:OthersKept e (some b) w w')(hb:g≠b)(ht:t≠e):St w' t g cs:=
 k g _ h (by simpa using hb) (by intro c fz h;simp at h;exact ht h.2.1)
theorem zft{e:TypeId}{b:Option Nat}(h:OthersKept e b a w)(k:Below w.heap.size w w'):OthersKept e b a w':=by
 intro i o hi hb ho;have h1:=h i o hi hb ho;exact (k.block i (Array.getElem?_eq_some_iff.1 h1).1).trans h1
theorem sc:(prog.info? 148).map (fun i=>(i.zero,i.size,i.bytes))=some (some (.agg #[.int .i64 0,.int .u64 0,.int .u64 0,.int .u64 0,.int .u64 0]),5,40):=by kernel_rfl
def ee(base b:Nat)(acc:List Pc)(s:ByteArray)(d:Nat)(w:World):Prop:=
 base<=b/\∃v,w.heap[b]?=some (.cells #[.string s,v,.int .i64 (d:Int)] 154 (0,0))/\w.ownsRow base 148 5 v acc.length (mx acc)/\v.ownBlock≠some b
theorem ee.lt{base b:Nat}{s:ByteArray}(h:ee base b acc s d w):b<w.heap.size:=by
 obtain⟨_,v,hb,_⟩:=h;exact (Array.getElem?_eq_some_iff.1 hb).1
theorem ee.low{base b:Nat}{s:ByteArray}(h:ee base b acc s d w):base<=w.heap.size:=le_trans h.1 (Nat.le_of_lt h.lt)
theorem ee.aa{base b:Nat}{s:ByteArray}(h:ee base b acc s d w)(k:Below w.heap.size w w'):ee base b acc s d w':=by
 have hl:=h.lt;obtain⟨h1,v,h2,h3,h4⟩:=h;exact⟨h1,v,(k.block b hl).trans h2,dr h3 k,h4⟩
theorem ee.rest{base b:Nat}{s:ByteArray}(h:ee base b acc s d w):w.cell? ⟨b,0,none⟩=some (.string s)/\w.frozen? ⟨b,0,none⟩=false:=by
 obtain⟨_,v,hb,_⟩:=h;exact⟨by rw[cell_of_heap hb];rfl,Lib.frozen_of_heap hb 0⟩
theorem ee.depth{base b:Nat}{s:ByteArray}(h:ee base b acc s d w):w.cell? ⟨b,2,none⟩=some (.int .i64 (d:Int))/\w.frozen? ⟨b,2,none⟩=false:=by
 obtain⟨_,v,hb,_⟩:=h;exact⟨by rw[cell_of_heap hb];rfl,Lib.frozen_of_heap hb 2⟩
theorem ee.kg{base b:Nat}{s:ByteArray}(h:ee base b acc s d w)(s':ByteArray):ee base b acc s' d (w.setCell ⟨b,0,none⟩ (.string s')):=by
 obtain⟨hB,v,hb,aQ,hne⟩:=h;refine⟨hB,v,?_,?_,hne⟩
 ·simp[World.setCell,Array.getElem?_modify,hb]
 exact aQ.kept (row:=some b) ⟨rfl,rfl,rfl,by simp[World.setCell],fun k _ hk=>heap_setCell _ _ _ _ (fun e=>hk (by simp[e]))⟩ (inr hne)
theorem ee.qN{base b:Nat}{s:ByteArray}(h:ee base b acc s d w)(d':Nat):ee base b acc s d' (w.setCell ⟨b,2,none⟩ (.int .i64 (d':Int))):=by
 obtain⟨hB,v,hb,aQ,hne⟩:=h;refine⟨hB,v,?_,?_,hne⟩
 ·simp[World.setCell,Array.getElem?_modify,hb]
 exact aQ.kept (row:=some b) ⟨rfl,rfl,rfl,by simp[World.setCell],fun k _ hk=>heap_setCell _ _ _ _ (fun e=>hk (by simp[e]))⟩ (inr hne)
def aH(base b:Nat)(w w':World):Prop:=Below base w w'/\OthersKept 148 (some b) w w'
theorem aH.refl(base b:Nat)(w:World):aH base b w w:=⟨Below.refl _ _,Lib.OthersKept.refl _ _ _⟩
theorem aH.trans{base b:Nat}(h:aH base b a w)(k:aH base b w w'):aH base b a w':=⟨h.1.trans k.1,h.2.trans k.2⟩
theorem aH.below{base b:Nat}(h:aH base b a w)(hb:base<=w.heap.size)(k:Below w.heap.size w w'):aH base b a w':=⟨h.1.trans (k.mono hb),zft h.2 k⟩
theorem aH.set{base b:Nat}(h:aH base b a w)(hB:base<=b)(j:Nat)(v:Value):aH base b a (w.setCell ⟨b,j,none⟩ v):=⟨h.1.setCell (p:=⟨b,j,none⟩) hB v,h.2.setCell ⟨b,j,none⟩ rfl v⟩
theorem aH.size{base b:Nat}(h:aH base b w w'):w.heap.size<=w'.heap.size:=h.1.size
theorem St.fJ{base b:Nat}(h:St w t g cs)(k:aH base b w w')(hb:g≠b)(ht:t≠148):St w' t g cs:=h.others k.2 hb ht
theorem DU(base b:Nat)(acc:List Pc)(s:ByteArray)(d:Nat)(k:Int)(p:Nat->Bool)(w:World)(h:ee base b acc s d w)(hl:acc.length<=10000):
  Calls prog 140 #[.pointer (some ⟨b,0,none⟩),.int .i64 k,(.agg #[.int .u64 ((wd p 0:Nat):Int),.int .u64 ((wd p 1:Nat):Int),.int .u64 ((wd p 2:Nat):Int),.int .u64 ((wd p 3:Nat):Int)])] w fun e w'=>e=.returned (.tuple #[])/\ee base b (acc++[⟨k,p⟩]) s d w'/\aH base b w w':=by
 obtain⟨i0,hi,dF,cY,cO⟩:=info_parts sc;have H2:=hid (h.aa ((Below.refl _ w).alloc (le_refl _) (.cells #[.int .u64 ((wd p 0:Nat):Int),.int .u64 ((wd p 1:Nat):Int),.int .u64 ((wd p 2:Nat):Int),.int .u64 ((wd p 3:Nat):Int)] 146)));have HK:=hid ((aH.refl base b w).below h.low ((Below.refl _ w).alloc (le_refl _) (.cells #[.int .u64 ((wd p 0:Nat):Int),.int .u64 ((wd p 1:Nat):Int),.int .u64 ((wd p 2:Nat):Int),.int .u64 ((wd p 3:Nat):Int)] 146)));have HS:=hid (St.new w 146 #[.int .u64 ((wd p 0:Nat):Int),.int .u64 ((wd p 1:Nat):Int),.int .u64 ((wd p 2:Nat):Int),.int .u64 ((wd p 3:Nat):Int)]);have xC:Hid (mx (acc++[⟨k,p⟩])=mx acc++[.int .i64 k,.int .u64 ((wd p 0:Nat):Int),.int .u64 ((wd p 1:Nat):Int),.int .u64 ((wd p 2:Nat):Int),.int .u64 ((wd p 3:Nat):Int)]):=by
  show _=_;rw[zhU];rfl
 have Du:Hid ((acc++[(⟨k,p⟩:Pc)]).length=acc.length+1):=by show _=_;simp
 have eB:=h.lt;have ub:(mx acc).length=acc.length*5:=zhT acc;clear h;go_enter func140,ntmps140;go_wp2_with fail;generalize w.alloc (.cells #[.int .u64 ((wd p 0:Nat):Int),.int .u64 ((wd p 1:Nat):Int),.int .u64 ((wd p 2:Nat):Int),.int .u64 ((wd p 3:Nat):Int)] 146)=W2 at H2 HK HS⊢;obtain⟨c0,c1,c2,c3,-⟩:=cW HS.out;have df:=H2.out.low;have mg:=H2.out.lt;obtain⟨hB,v,nU,aQ,hne⟩:=H2.out;have d1:W2.cell? ⟨b,1,none⟩=some v:=by rw[cell_of_heap nU];rfl
 obtain⟨ao,Fo,rfl⟩:=bE aQ;clear HS H2
 go_region_law (
  refine step_append_lies _ (by rfl) _ _ _ (by rfl) base 148 i0 (.agg #[.int .i64 0,.int .u64 0,.int .u64 0,.int .u64 0,.int .u64 0]) 5 40 underlying110 hi dF cY cO (by rfl) (by decide) _ acc.length (mx acc) (by rfl) (by first|exact aQ.drew.alloc _|exact (aQ.alloc _).drew) ⟨W2.heap.size,0,none⟩ 1 1 [.int .i64 k,.int .u64 ((wd p 0:Nat):Int),.int .u64 ((wd p 1:Nat):Int),.int .u64 ((wd p 2:Nat):Int),.int .u64 ((wd p 3:Nat):Int)] (by rfl) (by rfl) (World.news_of_block (cs:=#[.int .i64 k,.int .u64 ((wd p 0:Nat):Int),.int .u64 ((wd p 1:Nat):Int),.int .u64 ((wd p 2:Nat):Int),.int .u64 ((wd p 3:Nat):Int)]) (by first|exact heap_alloc_new _ _|exact St.new _ _ _)) (by intro u hu;simp at hu;rcases hu with rfl|rfl|rfl|rfl|rfl <;> rfl) (by omega) (by unfold maxLen;omega) (by omega) (by simp;omega) _ (by rfl) ?_
  intro g cap w1 GF da eu Cu
  have bZ:w1.heap[b]?=some (.cells #[.string s,.slice ao acc.length Fo,.int .i64 (d:Int)] 154 (0,0)):=(da.block b (by simp;omega) (fun e=>hne e.symm)).trans ((Lib.alloc_old _ _ b (by first|exact mg|(simp;omega))).trans nU)
  have e1:w1.cell? ⟨b,1,none⟩=some (.slice ao acc.length Fo):=by (rw[cell_of_heap bZ];rfl)
  have f1:w1.frozen? ⟨b,1,none⟩=false:=Lib.frozen_of_heap bZ 1)
 all_goals
  go_wp2_with fail
  go_end0
  have pZ:(Value.slice (some ⟨g,0,none⟩) (acc.length+1) cap).ownBlock≠some b:=by
   intro e;simp[Value.ownBlock] at e;rcases eu with eu|eu
   ·exact hne (eu.trans (by rw[e]))
   simp at eu;omega
  refine⟨rfl,⟨hB,_,?_,?_,pZ⟩,?_⟩
  ·simp[World.setCell,Array.getElem?_modify,bZ]
  ·rw[xC.out,Du.out];exact GF.kept (row:=some b) ⟨rfl,rfl,rfl,by simp[World.setCell],fun k _ hk=>heap_setCell _ _ _ _ (fun e=>hk (by simp[e]))⟩ (inr pZ)
  ·refine (HK.out.trans ?_).set hB 1 _;refine⟨?_,?_⟩
   ·refine Below.grown ?_ da (by simp;omega) (fun k hk=>(aQ.lt k hk).1)
    first|exact (Below.refl _ _).drew.alloc df _|exact ((Below.refl _ _).alloc df _).drew
   refine Lib.OthersKept.grown ?_ da (Lib.ownsRow_kind (by first|exact aQ.drew.alloc _|exact (aQ.alloc _).drew))
   first|exact (Lib.OthersKept.refl _ _ _).drew.alloc _|exact ((Lib.OthersKept.refl _ _ _).alloc _).drew
theorem Hv(s:ByteArray)(h:0<s.size):ae s=s[0].toNat :: (ae s).drop 1:=by
 have:=IP s 0 h;simpa using this
theorem LA(s:ByteArray)(h:s.size=0):ae s=[]:=by
 have:=oE s;exact List.length_eq_zero_iff.1 (by omega)
theorem GA(s:ByteArray)(h:s.size=0):s.toList=[]:=by rw[ByteArray.toList_eq];exact List.eq_nil_of_length_eq_zero (by simpa using h)
theorem mY(base b:Nat)(acc:List Pc)(s:ByteArray)(d c:Nat)(w:World)(h:ee base b acc s d w)(hc:aG c (ae s)=none):
  Calls prog 139 #[.pointer (some ⟨b,0,none⟩),.int .u8 c] w fun e w'=>e=.returned (.bool false)/\w=w':=by
 obtain⟨c0,-⟩:=h.rest;clear h;rcases eq_zero_or_pos s.size with hz|hp
 ·have hl:s.toList=[]:=GA s hz;have iz:s.toList.isEmpty=true:=by rw[hl];rfl
  clear hc hz;go_enter func139,ntmps139;go_wp2;go_ret;exact⟨rfl,rfl⟩
 have hl:s.toList.isEmpty=false:=yC s hp;have iz:(!s.toList.isEmpty)=true:=by rw[hl];rfl
 have hne:s[0].toNat≠c:=by
  intro e;rw[Hv s hp] at hc;simp[aG,e] at hc
 have e0:((s[0].toNat:Int) != (c:Int))=true:=by simp;omega
 clear hc hne;go_enter func139,ntmps139;go_wp2;go_ret;exact⟨rfl,rfl⟩
theorem tz(base b:Nat)(acc:List Pc)(s:ByteArray)(d c:Nat)(r:List Nat)(w:World)(h:ee base b acc s d w)(hc:aG c (ae s)=some r)(hs:s.size<=10000):
  Calls prog 139 #[.pointer (some ⟨b,0,none⟩),.int .u8 c] w fun e w'=>e=.returned (.bool true)/\aH base b w w'/\∃s',ae s'=r/\s'.size+1=s.size/\ee base b acc s' d w':=by
 obtain⟨c0,f0⟩:=h.rest;have HP:=hid h;clear h;have e:=uI hc;have dp:=oE s;rw[e] at dp;simp at dp;have hp:0<s.size:=by omega
 have hl:s.toList.isEmpty=false:=yC s hp;have iz:(!s.toList.isEmpty)=true:=by rw[hl];rfl
 have h2:=Hv s hp;rw[e] at h2;simp at h2;have e0:((s[0].toNat:Int) != (c:Int))=false:=by simp;omega
 have HR:Hid (ae (s.extract 1 s.size)=r):=by show _=_;rw[Qt,e];rfl
 have HZ:Hid ((s.extract 1 s.size).size+1=s.size):=by show _=_;rw[ByteArray.size_extract];omega
 clear hc e dp h2;go_enter func139,ntmps139;go_wp2;go_ret;exact⟨rfl,(aH.refl base b w).set HP.out.1 0 _,_,HR.out,HZ.out,HP.out.kg _⟩
theorem Ql(base b:Nat)(acc:List Pc)(s sp:ByteArray)(d:Nat)(w:World)(h:ee base b acc s d w)(hs:s.size<=10000)(hc:bu sp (ae s)=none):
  Calls prog 197 #[.pointer (some ⟨b,0,none⟩),.string sp] w fun e w'=>e=.returned (.tuple #[.int .u8 0,.bool false])/\Below w.heap.size w w':=by
 obtain⟨c0,f0⟩:=h.rest;clear h;unfold bu at hc;have av:=No (ae s) (Gm s);rcases hr:rd (ae s) with ⟨a,n,o⟩;rw[hr] at hc av;simp only at hc av;have HR:=hid hr;have HM:Hid (s.size<=maxLen):=by show _<=_;unfold maxLen;omega
 clear hr;rcases o with _|_
 ·clear hc;go_enter func197,ntmps197;go_wp2_with fail;refine (FA s HM.out _).mono ?_;rintro e w1 ⟨rfl,b1⟩;rw[HR.out,Hw];go_wp2;go_ret2;exact⟨rfl,b1⟩
 have iQ:n=1/\zZ sp a=true:=by simpa using hc
 obtain⟨rfl,h2⟩:=iQ;have h3:=Nq sp a av.1;rw[h2] at h3;have h4:0<=gD sp a:=by simpa using h3
 clear hc h2 h3 av;go_enter func197,ntmps197;go_wp2_with fail;refine (FA s HM.out _).mono ?_;rintro e w1 ⟨rfl,b1⟩;rw[HR.out,Hw];go_wp2_with fail;refine (JR sp a _).mono ?_;rintro e w2 ⟨rfl,rfl⟩;go_wp2;go_ret2;exact⟨rfl,b1⟩
theorem Br(base b:Nat)(acc:List Pc)(s sp:ByteArray)(d c:Nat)(r:List Nat)(w:World)(h:ee base b acc s d w)(hs:s.size<=10000)(hc:bu sp (ae s)=some (c,r)):
  Calls prog 197 #[.pointer (some ⟨b,0,none⟩),.string sp] w fun e w'=>e=.returned (.tuple #[.int .u8 c,.bool true])/\c<256/\aH base b w w'/\∃s',ae s'=r/\s'.size<s.size/\ee base b acc s' d w':=by
 obtain⟨c0,f0⟩:=h.rest;have HP:=hid h;have df:=h.low;have eB:=h.lt;have hlen:=Km hc;clear h;unfold bu at hc;have av:=No (ae s) (Gm s);rcases hr:rd (ae s) with ⟨a,n,o⟩;rw[hr] at hc av;simp only at hc av;have HR:=hid hr;have HM:Hid (s.size<=maxLen):=by show _<=_;unfold maxLen;omega
 clear hr;split at hc
 ·rename_i Kj;obtain⟨rfl,Kj⟩:=Kj;simp only[Option.some.injEq,Prod.mk.injEq] at hc;obtain⟨rfl,hc⟩:=hc;have hn:=av.2 rfl;rw[oE] at hn;have ha:=av.1;have Ds:Hid (ae (s.extract n s.size)=r):=by show _=_;rw[Qt,hc]
  have HZ:Hid ((s.extract n s.size).size<s.size):=by show _<_;rw[ByteArray.size_extract];omega
  have h3:=Nq sp a ha;have h4:n≠1\/gD sp a<0:=by
   by_cases h1:n=1
   ·right;have:zZ sp a=false:=by
     rcases h5:zZ sp a with _|_
     ·rfl
     exact absurd ⟨h1,h5⟩ Kj
    rw[this] at h3;simpa using h3
   left;exact h1
  clear hc av Kj hlen h3;rcases h4 with h4|h4
  ·have e1:((n:Int) == 1)=false:=(by simp;omega);go_enter func197,ntmps197;go_wp2_with fail;refine (FA s HM.out _).mono ?_;rintro e w1 ⟨rfl,b1⟩;rw[HR.out,Hw];have gf:=hid (HP.out.aa b1);obtain⟨d0,g0⟩:=gf.out.rest;have HK:=hid ((aH.refl base b w).below df b1);go_wp2;go_ret2;exact⟨rfl,ha,HK.out.set HP.out.1 0 _,_,Ds.out,HZ.out,gf.out.kg _⟩
  by_cases h5:n=1
  ·subst h5;go_enter func197,ntmps197;go_wp2_with fail;refine (FA s HM.out _).mono ?_;rintro e w1 ⟨rfl,b1⟩;rw[HR.out,Hw];have gf:=hid (HP.out.aa b1);obtain⟨d0,g0⟩:=gf.out.rest;have HK:=hid ((aH.refl base b w).below df b1);go_wp2_with fail;refine (JR sp a _).mono ?_;rintro e w2 ⟨rfl,rfl⟩;go_wp2;go_ret2;exact⟨rfl,ha,HK.out.set HP.out.1 0 _,_,Ds.out,HZ.out,gf.out.kg _⟩
  have e1:((n:Int) == 1)=false:=by simp;omega
  go_enter func197,ntmps197;go_wp2_with fail;refine (FA s HM.out _).mono ?_;rintro e w1 ⟨rfl,b1⟩;rw[HR.out,Hw];have gf:=hid (HP.out.aa b1);obtain⟨d0,g0⟩:=gf.out.rest;have HK:=hid ((aH.refl base b w).below df b1);go_wp2;go_ret2;exact⟨rfl,ha,HK.out.set HP.out.1 0 _,_,Ds.out,HZ.out,gf.out.kg _⟩
 simp at hc
theorem aH.gk{base b:Nat}{w0:World}(h:aH base b w0 w)(hg:base<=g)(hs:∃cs fz,w.heap[g]?=some (.cells cs 146 fz))(hgn:w0.heap.size<=g)(d0 d1 d2 d3:Value):
  aH base b w0 ((((w.setCell ⟨g,0,none⟩ d0).setCell ⟨g,1,none⟩ d1).setCell ⟨g,2,none⟩ d2).setCell ⟨g,3,none⟩ d3):=by
 refine⟨uF h.1 hg _ _ _ _,?_⟩;intro k o hk hb ho;have av:=(Array.getElem?_eq_some_iff.1 hk).1;have h1:=h.2 k o hk hb ho;rw[heap_setCell _ _ _ _ (by show k≠g;omega),heap_setCell _ _ _ _ (by show k≠g;omega),heap_setCell _ _ _ _ (by show k≠g;omega),heap_setCell _ _ _ _ (by show k≠g;omega)];exact h1
theorem ee.gk{base b:Nat}{s:ByteArray}(h:ee base b acc s d w)(hg:g≠b)(hs:∃cs fz,w.heap[g]?=some (.cells cs 146 fz))(d0 d1 d2 d3:Value):
  ee base b acc s d ((((w.setCell ⟨g,0,none⟩ d0).setCell ⟨g,1,none⟩ d1).setCell ⟨g,2,none⟩ d2).setCell ⟨g,3,none⟩ d3):=by
 obtain⟨h1,v,h2,h3,h4⟩:=h;have hv:v.ownBlock≠some g:=by
  intro e;obtain⟨c,fz,hc⟩:=Lib.ownsRow_kind h3 g e;obtain⟨cs,Tm,hs⟩:=hs;rw[hs] at hc;simp at hc
 refine⟨h1,v,?_,?_,h4⟩
 ·rw[heap_setCell _ _ _ _ (by show b≠g;omega),heap_setCell _ _ _ _ (by show b≠g;omega),heap_setCell _ _ _ _ (by show b≠g;omega),heap_setCell _ _ _ _ (by show b≠g;omega)];exact h2
 have step:∀(W:World) (j:Nat) (u:Value),W.ownsRow base 148 5 v acc.length (mx acc)->(W.setCell ⟨g,j,none⟩ u).ownsRow base 148 5 v acc.length (mx acc):=fun W j u ho=>ho.kept (row:=some g) ⟨rfl,rfl,rfl,by simp[World.setCell],fun k _ hk=>heap_setCell _ _ _ _ (fun e=>hk (by simp[e]))⟩ (inr hv)
 exact step _ _ _ (step _ _ _ (step _ _ _ (step _ _ _ h3)))
theorem St.is(h:St w t g cs):∃cs fz,w.heap[g]?=some (.cells cs t fz):=⟨cs,(0,0),h⟩
theorem zlP(base b:Nat)(acc:List Pc)(s:ByteArray)(d:Nat)(w:World)(h:ee base b acc s d w)(hs:s.size<=10000)(h1:bu eW (ae s)=none):
  Calls prog 206 #[.pointer (some ⟨b,0,none⟩)] w fun e w'=>(∃q:Nat->Bool,e=.returned (.tuple #[(.agg #[.int .u64 ((wd q 0:Nat):Int),.int .u64 ((wd q 1:Nat):Int),.int .u64 ((wd q 2:Nat):Int),.int .u64 ((wd q 3:Nat):Int)]),.bool false]))/\aH base b w w':=by
 have eB:=h.lt;have df:=h.low;have HB:=h.1;have dC:=hid (St.new w 146 #[.int .u64 0,.int .u64 0,.int .u64 0,.int .u64 0]);have k0:aH base b w (w.alloc (.cells #[.int .u64 0,.int .u64 0,.int .u64 0,.int .u64 0] 146)):=(aH.refl base b w).below df ((Below.refl _ w).alloc (le_refl _) _);have rU:=hid (h.aa ((Below.refl _ w).alloc (le_refl _) (.cells #[.int .u64 0,.int .u64 0,.int .u64 0,.int .u64 0] 146)));have pr:=hid k0;clear h k0;go_enter func206,ntmps206;go_wp2_with fail;refine (Ql base b acc s eW d _ rU.out hs h1).mono ?_;rintro e w1 ⟨rfl,b1⟩;have nc:=hid (pr.out.below rU.out.low b1);have nN:=hid (dC.out.aa b1);clear b1 rU pr dC;go_wp2_with fail;refine (Hj 0 0 (by decide) (by decide) _).mono ?_;rintro e w9 ⟨rfl,b9⟩;have jJ:=hid (nc.out.below (le_trans df nc.out.size) b9);obtain⟨q0,q1,q2,q3,q4,q5,q6,q7⟩:=cW (nN.out.aa b9);have yG:=jJ.out.size;have pj:=hid (nN.out.aa b9);clear b9;go_wp2_with fail;exact bodyPost_ret (v:=.tuple #[(.agg #[.int .u64 ((wd (ay 0 (0+1-0)) 0:Nat):Int),.int .u64 ((wd (ay 0 (0+1-0)) 1:Nat):Int),.int .u64 ((wd (ay 0 (0+1-0)) 2:Nat):Int),.int .u64 ((wd (ay 0 (0+1-0)) 3:Nat):Int)]),.bool false]) (by first|(simp[results,results206,go_sem,q0,q1,q2,q3];done)|(simp[results,results206,go_sem,q0,q1,q2,q3];omega)) rfl ⟨⟨_,rfl⟩,(jJ.out.gk df (pj.out.is) (le_refl _) _ _ _ _)⟩
theorem zlQ(base b:Nat)(acc:List Pc)(s:ByteArray)(d:Nat)(a:Nat)(r r1:List Nat)(w:World)(h:ee base b acc s d w)(hs:s.size<=10000)(h1:bu eW (ae s)=some (a,r))(h2:aG 45 r=some r1)(h3:bu eW r1=none):
  Calls prog 206 #[.pointer (some ⟨b,0,none⟩)] w fun e w'=>(∃q:Nat->Bool,e=.returned (.tuple #[(.agg #[.int .u64 ((wd q 0:Nat):Int),.int .u64 ((wd q 1:Nat):Int),.int .u64 ((wd q 2:Nat):Int),.int .u64 ((wd q 3:Nat):Int)]),.bool false]))/\aH base b w w':=by
 have eB:=h.lt;have df:=h.low;have HB:=h.1;have dC:=hid (St.new w 146 #[.int .u64 0,.int .u64 0,.int .u64 0,.int .u64 0]);have k0:aH base b w (w.alloc (.cells #[.int .u64 0,.int .u64 0,.int .u64 0,.int .u64 0] 146)):=(aH.refl base b w).below df ((Below.refl _ w).alloc (le_refl _) _);have rU:=hid (h.aa ((Below.refl _ w).alloc (le_refl _) (.cells #[.int .u64 0,.int .u64 0,.int .u64 0,.int .u64 0] 146)));have pr:=hid k0;clear h k0;go_enter func206,ntmps206;go_wp2_with fail;refine (Br base b acc s eW d a r _ rU.out hs h1).mono ?_;rintro e w1 ⟨rfl,pt,k1,s1,fx,cY,fH⟩;have nc:=hid (pr.out.trans k1);have nN:=hid (dC.out.fJ k1 (by omega) (by decide));have gf:=hid fH;have rA:=hid fx;clear k1 fH fx rU pr dC;go_wp2_with fail;refine (tz base b acc s1 d 45 r1 _ gf.out (by rw[rA.out];exact h2) (by omega)).mono ?_;rintro e w2 ⟨rfl,k2,s2,dk,cO,fp⟩;have vX:=hid (nc.out.trans k2);have gq:=hid (nN.out.fJ k2 (by omega) (by decide));have jW:=hid fp;have nC:=hid dk;clear k2 fp dk gf nc nN;go_wp2_with fail;refine (Ql base b acc s2 eW d _ jW.out (by omega) (by rw[nC.out];exact h3)).mono ?_;rintro e w3 ⟨rfl,b3⟩;have uK:=hid (vX.out.below jW.out.low b3);have rj:=hid (gq.out.aa b3);clear b3 jW vX gq;go_wp2_with fail;refine (Hj a 0 pt (by decide) _).mono ?_;rintro e w9 ⟨rfl,b9⟩;have jJ:=hid (uK.out.below (le_trans df uK.out.size) b9);obtain⟨q0,q1,q2,q3,q4,q5,q6,q7⟩:=cW (rj.out.aa b9);have yG:=jJ.out.size;have pj:=hid (rj.out.aa b9);clear b9;go_wp2_with fail;exact bodyPost_ret (v:=.tuple #[(.agg #[.int .u64 ((wd (ay a (0+1-a)) 0:Nat):Int),.int .u64 ((wd (ay a (0+1-a)) 1:Nat):Int),.int .u64 ((wd (ay a (0+1-a)) 2:Nat):Int),.int .u64 ((wd (ay a (0+1-a)) 3:Nat):Int)]),.bool false]) (by first|(simp[results,results206,go_sem,q0,q1,q2,q3];done)|(simp[results,results206,go_sem,q0,q1,q2,q3];omega)) rfl ⟨⟨_,rfl⟩,(jJ.out.gk df (pj.out.is) (le_refl _) _ _ _ _)⟩
theorem zlR(base b:Nat)(acc:List Pc)(s:ByteArray)(d:Nat)(a c:Nat)(r r1 r2:List Nat)(w:World)(h:ee base b acc s d w)(hs:s.size<=10000)(h1:bu eW (ae s)=some (a,r))(h2:aG 45 r=some r1)(h3:bu eW r1=some (c,r2))(h4:c<a):
  Calls prog 206 #[.pointer (some ⟨b,0,none⟩)] w fun e w'=>(∃q:Nat->Bool,e=.returned (.tuple #[(.agg #[.int .u64 ((wd q 0:Nat):Int),.int .u64 ((wd q 1:Nat):Int),.int .u64 ((wd q 2:Nat):Int),.int .u64 ((wd q 3:Nat):Int)]),.bool false]))/\aH base b w w':=by
 have eB:=h.lt;have df:=h.low;have HB:=h.1;have dC:=hid (St.new w 146 #[.int .u64 0,.int .u64 0,.int .u64 0,.int .u64 0]);have k0:aH base b w (w.alloc (.cells #[.int .u64 0,.int .u64 0,.int .u64 0,.int .u64 0] 146)):=(aH.refl base b w).below df ((Below.refl _ w).alloc (le_refl _) _);have rU:=hid (h.aa ((Below.refl _ w).alloc (le_refl _) (.cells #[.int .u64 0,.int .u64 0,.int .u64 0,.int .u64 0] 146)));have pr:=hid k0;clear h k0;go_enter func206,ntmps206;go_wp2_with fail;refine (Br base b acc s eW d a r _ rU.out hs h1).mono ?_;rintro e w1 ⟨rfl,pt,k1,s1,fx,cY,fH⟩;have nc:=hid (pr.out.trans k1);have nN:=hid (dC.out.fJ k1 (by omega) (by decide));have gf:=hid fH;have rA:=hid fx;clear k1 fH fx rU pr dC;go_wp2_with fail;refine (tz base b acc s1 d 45 r1 _ gf.out (by rw[rA.out];exact h2) (by omega)).mono ?_;rintro e w2 ⟨rfl,k2,s2,dk,cO,fp⟩;have vX:=hid (nc.out.trans k2);have gq:=hid (nN.out.fJ k2 (by omega) (by decide));have jW:=hid fp;have nC:=hid dk;clear k2 fp dk gf nc nN;go_wp2_with fail;refine (Br base b acc s2 eW d c r2 _ jW.out (by omega) (by rw[nC.out];exact h3)).mono ?_;rintro e w3 ⟨rfl,sI,k3,s3,mA,Gy,gQ⟩;have uK:=hid (vX.out.trans k3);have rj:=hid (gq.out.fJ k3 (by omega) (by decide));have Ai:=hid gQ;have uW:=hid mA;clear k3 gQ mA jW vX gq;go_wp2_with fail;refine (Hj a c pt sI _).mono ?_;rintro e w9 ⟨rfl,b9⟩;have jJ:=hid (uK.out.below Ai.out.low b9);have Cr:=hid (Ai.out.aa b9);obtain⟨q0,q1,q2,q3,q4,q5,q6,q7⟩:=cW (rj.out.aa b9);have yG:=jJ.out.size;have pj:=hid (rj.out.aa b9);clear b9;go_wp2_with fail;exact bodyPost_ret (v:=.tuple #[(.agg #[.int .u64 ((wd (ay a (c+1-a)) 0:Nat):Int),.int .u64 ((wd (ay a (c+1-a)) 1:Nat):Int),.int .u64 ((wd (ay a (c+1-a)) 2:Nat):Int),.int .u64 ((wd (ay a (c+1-a)) 3:Nat):Int)]),.bool false]) (by first|(simp[results,results206,go_sem,q0,q1,q2,q3];done)|(simp[results,results206,go_sem,q0,q1,q2,q3];omega)) rfl ⟨⟨_,rfl⟩,(jJ.out.gk df (pj.out.is) (le_refl _) _ _ _ _)⟩
theorem zjY(base b:Nat)(acc:List Pc)(s:ByteArray)(d:Nat)(a:Nat)(r:List Nat)(w:World)(h:ee base b acc s d w)(hs:s.size<=10000)(h1:bu eW (ae s)=some (a,r))(h2:aG 45 r=none):
  Calls prog 206 #[.pointer (some ⟨b,0,none⟩)] w fun e w'=>e=.returned (.tuple #[(.agg #[.int .u64 ((wd (ay a (a+1-a)) 0:Nat):Int),.int .u64 ((wd (ay a (a+1-a)) 1:Nat):Int),.int .u64 ((wd (ay a (a+1-a)) 2:Nat):Int),.int .u64 ((wd (ay a (a+1-a)) 3:Nat):Int)]),.bool true])/\aH base b w w'/\∃s',ae s'=r/\s'.size<s.size/\ee base b acc s' d w':=by
 have eB:=h.lt;have df:=h.low;have HB:=h.1;have dC:=hid (St.new w 146 #[.int .u64 0,.int .u64 0,.int .u64 0,.int .u64 0]);have k0:aH base b w (w.alloc (.cells #[.int .u64 0,.int .u64 0,.int .u64 0,.int .u64 0] 146)):=(aH.refl base b w).below df ((Below.refl _ w).alloc (le_refl _) _);have rU:=hid (h.aa ((Below.refl _ w).alloc (le_refl _) (.cells #[.int .u64 0,.int .u64 0,.int .u64 0,.int .u64 0] 146)));have pr:=hid k0;clear h k0;go_enter func206,ntmps206;go_wp2_with fail;refine (Br base b acc s eW d a r _ rU.out hs h1).mono ?_;rintro e w1 ⟨rfl,pt,k1,s1,fx,cY,fH⟩;have nc:=hid (pr.out.trans k1);have nN:=hid (dC.out.fJ k1 (by omega) (by decide));have gf:=hid fH;have rA:=hid fx;clear k1 fH fx rU pr dC;go_wp2_with fail;refine (mY base b acc s1 d 45 _ gf.out (by rw[rA.out];exact h2)).mono ?_;rintro e w2 ⟨rfl,rfl⟩;go_wp2_with fail;refine (Hj a a pt pt _).mono ?_;rintro e w9 ⟨rfl,b9⟩;have jJ:=hid (nc.out.below gf.out.low b9);have Cr:=hid (gf.out.aa b9);obtain⟨q0,q1,q2,q3,q4,q5,q6,q7⟩:=cW (nN.out.aa b9);have yG:=jJ.out.size;have pj:=hid (nN.out.aa b9);clear b9;go_wp2_with fail;exact bodyPost_ret (v:=.tuple #[(.agg #[.int .u64 ((wd (ay a (a+1-a)) 0:Nat):Int),.int .u64 ((wd (ay a (a+1-a)) 1:Nat):Int),.int .u64 ((wd (ay a (a+1-a)) 2:Nat):Int),.int .u64 ((wd (ay a (a+1-a)) 3:Nat):Int)]),.bool true]) (by first|(simp[results,results206,go_sem,q0,q1,q2,q3];done)|(simp[results,results206,go_sem,q0,q1,q2,q3];omega)) rfl ⟨rfl,(jJ.out.gk df (pj.out.is) (le_refl _) _ _ _ _),s1,rA.out,cY,Cr.out.gk (by omega) (pj.out.is) _ _ _ _⟩
theorem Yo(base b:Nat)(acc:List Pc)(s:ByteArray)(d:Nat)(a c:Nat)(r r1 r2:List Nat)(w:World)(h:ee base b acc s d w)(hs:s.size<=10000)(h1:bu eW (ae s)=some (a,r))(h2:aG 45 r=some r1)(h3:bu eW r1=some (c,r2))(h4:a<=c):
  Calls prog 206 #[.pointer (some ⟨b,0,none⟩)] w fun e w'=>e=.returned (.tuple #[(.agg #[.int .u64 ((wd (ay a (c+1-a)) 0:Nat):Int),.int .u64 ((wd (ay a (c+1-a)) 1:Nat):Int),.int .u64 ((wd (ay a (c+1-a)) 2:Nat):Int),.int .u64 ((wd (ay a (c+1-a)) 3:Nat):Int)]),.bool true])/\aH base b w w'/\∃s',ae s'=r2/\s'.size<s.size/\ee base b acc s' d w':=by
 have eB:=h.lt;have df:=h.low;have HB:=h.1;have dC:=hid (St.new w 146 #[.int .u64 0,.int .u64 0,.int .u64 0,.int .u64 0]);have k0:aH base b w (w.alloc (.cells #[.int .u64 0,.int .u64 0,.int .u64 0,.int .u64 0] 146)):=(aH.refl base b w).below df ((Below.refl _ w).alloc (le_refl _) _);have rU:=hid (h.aa ((Below.refl _ w).alloc (le_refl _) (.cells #[.int .u64 0,.int .u64 0,.int .u64 0,.int .u64 0] 146)));have pr:=hid k0;clear h k0;go_enter func206,ntmps206;go_wp2_with fail;refine (Br base b acc s eW d a r _ rU.out hs h1).mono ?_;rintro e w1 ⟨rfl,pt,k1,s1,fx,cY,fH⟩;have nc:=hid (pr.out.trans k1);have nN:=hid (dC.out.fJ k1 (by omega) (by decide));have gf:=hid fH;have rA:=hid fx;clear k1 fH fx rU pr dC;go_wp2_with fail;refine (tz base b acc s1 d 45 r1 _ gf.out (by rw[rA.out];exact h2) (by omega)).mono ?_;rintro e w2 ⟨rfl,k2,s2,dk,cO,fp⟩;have vX:=hid (nc.out.trans k2);have gq:=hid (nN.out.fJ k2 (by omega) (by decide));have jW:=hid fp;have nC:=hid dk;clear k2 fp dk gf nc nN;go_wp2_with fail;refine (Br base b acc s2 eW d c r2 _ jW.out (by omega) (by rw[nC.out];exact h3)).mono ?_;rintro e w3 ⟨rfl,sI,k3,s3,mA,Gy,gQ⟩;have uK:=hid (vX.out.trans k3);have rj:=hid (gq.out.fJ k3 (by omega) (by decide));have Ai:=hid gQ;have uW:=hid mA;clear k3 gQ mA jW vX gq;go_wp2_with fail;refine (Hj a c pt sI _).mono ?_;rintro e w9 ⟨rfl,b9⟩;have jJ:=hid (uK.out.below Ai.out.low b9);have Cr:=hid (Ai.out.aa b9);obtain⟨q0,q1,q2,q3,q4,q5,q6,q7⟩:=cW (rj.out.aa b9);have yG:=jJ.out.size;have pj:=hid (rj.out.aa b9);clear b9;go_wp2_with fail;exact bodyPost_ret (v:=.tuple #[(.agg #[.int .u64 ((wd (ay a (c+1-a)) 0:Nat):Int),.int .u64 ((wd (ay a (c+1-a)) 1:Nat):Int),.int .u64 ((wd (ay a (c+1-a)) 2:Nat):Int),.int .u64 ((wd (ay a (c+1-a)) 3:Nat):Int)]),.bool true]) (by first|(simp[results,results206,go_sem,q0,q1,q2,q3];done)|(simp[results,results206,go_sem,q0,q1,q2,q3];omega)) rfl ⟨rfl,(jJ.out.gk df (pj.out.is) (le_refl _) _ _ _ _),s3,uW.out,by omega,Cr.out.gk (by omega) (pj.out.is) _ _ _ _⟩
theorem UD(base b:Nat)(acc:List Pc)(s:ByteArray)(d:Nat)(w:World)(h:ee base b acc s d w)(hs:s.size<=10000)(hc:dN (ae s)=none):
  Calls prog 206 #[.pointer (some ⟨b,0,none⟩)] w fun e w'=>(∃q:Nat->Bool,e=.returned (.tuple #[(.agg #[.int .u64 ((wd q 0:Nat):Int),.int .u64 ((wd q 1:Nat):Int),.int .u64 ((wd q 2:Nat):Int),.int .u64 ((wd q 3:Nat):Int)]),.bool false]))/\aH base b w w':=by
 unfold dN at hc;rcases h1:bu eW (ae s) with _|⟨a,r⟩
 ·exact zlP base b acc s d w h hs h1
 rw[h1] at hc;simp only at hc;rcases h2:aG 45 r with _|r1
 ·simp[h2] at hc
 rw[h2] at hc;simp only at hc;rcases h3:bu eW r1 with _|⟨c,r2⟩
 ·exact zlQ base b acc s d a r r1 w h hs h1 h2 h3
 rw[h3] at hc;simp only at hc;exact zlR base b acc s d a c r r1 r2 w h hs h1 h2 h3 (by
  rcases Nat.lt_or_ge c a with h|h
  ·exact h
  ·simp[h] at hc)
theorem Sg(base b:Nat)(acc:List Pc)(s:ByteArray)(d a c:Nat)(r:List Nat)(w:World)(h:ee base b acc s d w)(hs:s.size<=10000)(hc:dN (ae s)=some (a,c,r)):
  Calls prog 206 #[.pointer (some ⟨b,0,none⟩)] w fun e w'=>e=.returned (.tuple #[(.agg #[.int .u64 ((wd (ay a (c+1-a)) 0:Nat):Int),.int .u64 ((wd (ay a (c+1-a)) 1:Nat):Int),.int .u64 ((wd (ay a (c+1-a)) 2:Nat):Int),.int .u64 ((wd (ay a (c+1-a)) 3:Nat):Int)]),.bool true])/\aH base b w w'/\∃s',ae s'=r/\s'.size<s.size/\ee base b acc s' d w':=by
 unfold dN at hc;rcases h1:bu eW (ae s) with _|⟨a1,r1⟩
 ·simp[h1] at hc
 rw[h1] at hc;simp only at hc;rcases h2:aG 45 r1 with _|r2
 ·simp[h2] at hc;obtain⟨rfl,rfl,rfl⟩:=hc;exact zjY base b acc s d a1 r1 w h hs h1 h2
 rw[h2] at hc;simp only at hc;rcases h3:bu eW r2 with _|⟨c1,r3⟩
 ·simp[h3] at hc
 rw[h3] at hc;simp only at hc;split at hc
 ·rename_i hle;simp at hc;obtain⟨rfl,rfl,rfl⟩:=hc;exact Yo base b acc s d a1 c1 r1 r2 r3 w h hs h1 h2 h3 hle
 simp at hc
def eE(w:World)(a:Addr):Nat:=match w.cell? a with
 | some (.string s)=>s.size
 | _=>0
theorem ee.eE{base b:Nat}{s:ByteArray}(h:ee base b acc s d w):eE w ⟨b,0,none⟩=s.size:=by
 unfold Go.Proofs.YtiijebameffenaaGreat.eE;rw[h.rest.1]
theorem VI(f:Nat)(q:Nat->Bool)(s:List Nat)(a c:Nat)(r:List Nat)(hf:s.length<f)(h1:aG 93 s=none)(h2:dN s=some (a,c,r)):
  ∃g,r.length<g/\aO f q s=aO g (fun x=>q x || ay a (c+1-a) x) r:=by
 match f,hf with
 | f+1,hf=>
  have:=(Xv h2).1;exact⟨f,by omega,by simp only[aO,h1,h2]⟩
theorem UX(f:Nat)(q:Nat->Bool)(s r:List Nat)(hf:s.length<f)(h1:aG 93 s=some r):aO f q s=some (q,r):=by
 match f,hf with
 | f+1,hf=>simp only[aO,h1]
theorem Sh(f:Nat)(q:Nat->Bool)(s:List Nat)(hf:s.length<f)(h1:aG 93 s=none)(h2:dN s=none):aO f q s=none:=by
 match f,hf with
 | f+1,hf=>simp only[aO,h1,h2]
theorem Ih(t:Nat):(#[.int .u64 0,.int .u64 0,.int .u64 0,.int .u64 0]:Array Value)=#[.int .u64 ((wd bB 0:Nat):Int),.int .u64 ((wd bB 1:Nat):Int),.int .u64 ((wd bB 2:Nat):Int),.int .u64 ((wd bB 3:Nat):Int)]:=by
 have e:∀j,((wd bB j:Nat):Int)=0:=fun j=>by unfold bB;rw[zg];rfl
 simp only[e]
def E4(base b:Nat)(acc:List Pc)(d:Nat)(o:Option ((Nat->Bool) × List Nat))(w:World)(e:Ending)(w':World):Prop:=
 aH base b w w'/\(o=none->e=.returned (.bool false))/\∀q r,o=some (q,r)->e=.returned (.bool true)/\∃s',ae s'=r/\ee base b (acc++[⟨1,q⟩]) s' d w'
theorem YC(base b:Nat)(acc:List Pc)(s:ByteArray)(d:Nat)(h0:aG 94 (ae s)=none)(w:World)(h:ee base b acc s d w)(hs:s.size<=10000)(tp:acc.length<=10000):
  Calls prog 196 #[.pointer (some ⟨b,0,none⟩)] w (E4 base b acc d (eV (ae s)) w):=by
 have HX:Hid (eV (ae s)=match aO ((ae s).length+1) bB (ae s) with
  | none=>none
  | some (q,r1)=>if ef q=true then none else some (q,r1)):=by
  show _=_
  simp only[eV,h0]
  rfl
 generalize eV (ae s)=O at HX⊢;have eB:=h.lt;have df:=h.low;have hB:=h.1;unfold E4;go_enter func196,ntmps196;go_wp2_with fail;refine (mY base b acc s d 94 _ h h0).mono ?_;rintro e w1 ⟨rfl,rfl⟩;obtain⟨s1,fx,cY,fH⟩:∃s1,ae s1=ae s/\s1.size<=s.size/\ee base b acc s1 d w:=⟨s,rfl,le_refl _,h⟩
 have k1:aH base b w w:=aH.refl _ _ _;obtain⟨R,hR⟩:∃R,aO ((ae s).length+1) bB (ae s)=R:=⟨_,rfl⟩
 rw[hR] at HX;have ri:=hid hR;have K1:=hid (k1.below (le_trans df k1.size) ((Below.refl _ w).alloc (le_refl _) (.cells #[.int .u64 0,.int .u64 0,.int .u64 0,.int .u64 0] 146)));have P1:=hid (fH.aa ((Below.refl _ w).alloc (le_refl _) (.cells #[.int .u64 0,.int .u64 0,.int .u64 0,.int .u64 0] 146)));have S1:Hid (St (w.alloc (.cells #[.int .u64 0,.int .u64 0,.int .u64 0,.int .u64 0] 146)) 146 w.heap.size #[.int .u64 ((wd bB 0:Nat):Int),.int .u64 ((wd bB 1:Nat):Int),.int .u64 ((wd bB 2:Nat):Int),.int .u64 ((wd bB 3:Nat):Int)]):=by
  have:=St.new w 146 #[.int .u64 0,.int .u64 0,.int .u64 0,.int .u64 0];rw[Ih 146] at this;rw[Ih 146];exact this
 have N5:=fH.lt;have BB:=k1.size;have rA:=hid fx;have Bi:w.heap.size≠b:=by omega
 clear hR h k1 fH fx h0;go_wp2;go_loopw [9] (fun _ wr=>∃(f:Nat) (q:Nat->Bool) (s':ByteArray),(ae s').length<f/\Hid (aO f q (ae s')=R)/\s'.size<=s.size/\Hid (ee base b acc s' d wr)/\Hid (St wr 146 w.heap.size #[.int .u64 ((wd q 0:Nat):Int),.int .u64 ((wd q 1:Nat):Int),.int .u64 ((wd q 2:Nat):Int),.int .u64 ((wd q 3:Nat):Int)])/\Hid (aH base b w wr)/\w.heap.size<wr.heap.size) (fun _ wr=>eE wr ⟨b,0,none⟩)
 ·exact⟨_,bB,s1,lt_succ_self _,by show aO _ _ _=_;rw[rA.out];exact ri.out,by omega,P1,S1,K1,by simp⟩
 clear P1 S1 K1 ri;obtain⟨f,q,s',hf,HQ,dp,P2,S2,K2,yI⟩:=hrel;rcases h1:aG 93 (ae s') with _|r
 ·have HK:=hid h1;rcases h2:dN (ae s') with _|⟨a,c,r⟩
  ·have HZ:Hid (O=none):=by
    have:=HQ.out;rw[Sh f q _ hf h1 h2] at this;show _=_;rw[HX.out,<-this]
   have H2:=hid h2;clear h1 h2 HX HQ;go_wp2_with fail;refine (mY base b acc s' d 93 _ P2.out HK.out).mono ?_;rintro e w2 ⟨rfl,rfl⟩;go_wp2_with fail;refine (UD base b acc s' d _ P2.out (by omega) H2.out).mono ?_;rintro e w3 ⟨⟨q3,rfl⟩,k3⟩;have K3:=K2.out.trans k3;have oW:=K3.size;clear k3;go_wp2;go_ret;exact⟨K3.below (le_trans df oW) ((Below.refl _ w3).alloc (le_refl _) _),fun _=>rfl,fun q r e=>by rw[HZ.out] at e;simp at e⟩
  obtain⟨f2,mW,jk⟩:=VI f q _ a c r hf h1 h2;have tY:Hid (aO f2 (fun x=>q x || ay a (c+1-a) x) r=R):=by show _=_;rw[<-jk];exact HQ.out
  have H2:=hid h2;have kc:=P2.out.eE;clear h1 h2 HQ jk;go_wp2_with fail;refine (mY base b acc s' d 93 _ P2.out HK.out).mono ?_;rintro e w2 ⟨rfl,rfl⟩;go_wp2_with fail;refine (Sg base b acc s' d a c r _ P2.out (by omega) H2.out).mono ?_;rintro e w3 ⟨rfl,k3,s3,mA,Gy,gQ⟩;have IW:=S2.out.fJ k3 Bi (by decide);have oW:=k3.size;have K3:=hid ((K2.out.trans k3).below (le_trans df (K2.out.trans k3).size) ((Below.refl _ w3).alloc (le_refl _) (.cells #[.int .u64 ((wd (ay a (c+1-a)) 0:Nat):Int),.int .u64 ((wd (ay a (c+1-a)) 1:Nat):Int),.int .u64 ((wd (ay a (c+1-a)) 2:Nat):Int),.int .u64 ((wd (ay a (c+1-a)) 3:Nat):Int)] 146)));have P3:=hid (gQ.aa ((Below.refl _ w3).alloc (le_refl _) (.cells #[.int .u64 ((wd (ay a (c+1-a)) 0:Nat):Int),.int .u64 ((wd (ay a (c+1-a)) 1:Nat):Int),.int .u64 ((wd (ay a (c+1-a)) 2:Nat):Int),.int .u64 ((wd (ay a (c+1-a)) 3:Nat):Int)] 146)));have S3:=hid (IW.alloc (.cells #[.int .u64 ((wd (ay a (c+1-a)) 0:Nat):Int),.int .u64 ((wd (ay a (c+1-a)) 1:Nat):Int),.int .u64 ((wd (ay a (c+1-a)) 2:Nat):Int),.int .u64 ((wd (ay a (c+1-a)) 3:Nat):Int)] 146));have T3:=hid (St.new w3 146 #[.int .u64 ((wd (ay a (c+1-a)) 0:Nat):Int),.int .u64 ((wd (ay a (c+1-a)) 1:Nat):Int),.int .u64 ((wd (ay a (c+1-a)) 2:Nat):Int),.int .u64 ((wd (ay a (c+1-a)) 3:Nat):Int)]);obtain⟨c0,c1,c2,c3,-⟩:=cW S3.out;obtain⟨d0,d1,d2,d3,-⟩:=cW T3.out;have uW:=hid mA;clear k3 gQ mA IW P2 S2 K2;go_wp2_with fail;refine (RL q (ay a (c+1-a)) _).mono ?_;rintro e w5 ⟨rfl,b5⟩;have s5:=S3.out.aa b5;have ll:=b5.size;simp at ll;obtain⟨r0,RS,Uc,Sq,RJ,Wo,SI,Rm⟩:=cW s5;have KK:=hid ((K3.out.below (le_trans df K3.out.size) b5).gk (g:=w.heap.size) (by omega) (s5.is) (by omega) (.int .u64 ((wd (fun x=>q x || ay a (c+1-a) x) 0:Nat):Int)) (.int .u64 ((wd (fun x=>q x || ay a (c+1-a) x) 1:Nat):Int)) (.int .u64 ((wd (fun x=>q x || ay a (c+1-a) x) 2:Nat):Int)) (.int .u64 ((wd (fun x=>q x || ay a (c+1-a) x) 3:Nat):Int)));have PP:=hid ((P3.out.aa b5).gk (g:=w.heap.size) (by omega) (s5.is) (.int .u64 ((wd (fun x=>q x || ay a (c+1-a) x) 0:Nat):Int)) (.int .u64 ((wd (fun x=>q x || ay a (c+1-a) x) 1:Nat):Int)) (.int .u64 ((wd (fun x=>q x || ay a (c+1-a) x) 2:Nat):Int)) (.int .u64 ((wd (fun x=>q x || ay a (c+1-a) x) 3:Nat):Int)));have SS:=hid (s5.qH (.int .u64 ((wd (fun x=>q x || ay a (c+1-a) x) 0:Nat):Int)) (.int .u64 ((wd (fun x=>q x || ay a (c+1-a) x) 1:Nat):Int)) (.int .u64 ((wd (fun x=>q x || ay a (c+1-a) x) 2:Nat):Int)) (.int .u64 ((wd (fun x=>q x || ay a (c+1-a) x) 3:Nat):Int)));have gn:=PP.out.eE;clear b5 s5 S3 T3 K3 P3 c0 c1 c2 c3 d0 d1 d2 d3;go_wp2;go_roundw
  ·exact⟨f2,fun x=>q x || ay a (c+1-a) x,s3,by rw[uW.out];exact mW,by show aO _ _ _=_;rw[uW.out];exact tY.out,by omega,PP,SS,KK,by rw[TE];omega⟩
  first|(simp only[kc,gn];omega)|(rw[kc,gn];omega)
 have HY:Hid (O=if ef q=true then none else some (q,r)):=by
  have:=HQ.out;rw[UX f q _ r hf h1] at this;show _=_;rw[HX.out,<-this]
 have HK:=hid h1;clear h1 HX HQ;go_wp2_with fail;refine (tz base b acc s' d 93 r _ P2.out HK.out (by omega)).mono ?_;rintro e w2 ⟨rfl,k2,s2,dk,cO,fp⟩;have S3:=hid (S2.out.fJ k2 Bi (by decide));have K3:=hid (K2.out.trans k2);have P3:=hid fp;have nC:=hid dk;obtain⟨c0,c1,c2,c3,-⟩:=cW S3.out;have Mz:=k2.size;clear k2 fp dk S2 K2 P2;go_wp2_with fail;have KK:=K3;have PP:=P3;have SS:=S3;clear K3 P3 S3;obtain⟨c0,c1,c2,c3,-⟩:=cW SS.out;go_wp2_with fail;refine (DU base b acc s2 d 1 q _ PP.out tp).mono ?_;rintro e w7 ⟨rfl,GK,k7⟩;have s7:=SS.out.fJ k7 Bi (by decide);have K7:=hid (KK.out.trans k7);have P7:=hid GK;clear c0 c1 c2 c3 k7 GK KK PP SS;obtain⟨c0,c1,c2,c3,-⟩:=cW s7;obtain⟨o,ho⟩:∃o,ef q=o:=⟨_,rfl⟩
 have HO:=hid ho;clear ho;go_wp2_with fail;refine (PM q o HO.out _).mono ?_;rintro e w8 ⟨rfl,b8⟩;have K8:=K7.out.below (le_trans df K7.out.size) b8;have P8:=P7.out.aa b8;rcases o with _|_
 ·have HZ:Hid (O=some (q,r)):=by show _=_;rw[HY.out,HO.out];rfl
  go_wp2;go_ret;refine⟨K8,fun e=>by rw[HZ.out] at e;simp at e,fun q' r' e=>?_⟩;rw[HZ.out] at e;simp only[Option.some.injEq,Prod.mk.injEq] at e;obtain⟨rfl,rfl⟩:=e;exact⟨rfl,s2,nC.out,P8⟩
 have HZ:Hid (O=none):=by show _=_;rw[HY.out,HO.out];rfl
 go_wp2;go_ret;exact⟨K8,fun _=>rfl,fun q' r' e=>by rw[HZ.out] at e;simp at e⟩
theorem znS(base b:Nat)(acc:List Pc)(s:ByteArray)(d:Nat)(rr:List Nat)(h0:aG 94 (ae s)=some rr)(w:World)(h:ee base b acc s d w)(hs:s.size<=10000)(tp:acc.length<=10000):
  Calls prog 196 #[.pointer (some ⟨b,0,none⟩)] w (E4 base b acc d (eV (ae s)) w):=by
 have HX:Hid (eV (ae s)=match aO (rr.length+1) bB rr with
  | none=>none
  | some (q,r1)=>if ef (fun x=>!q x)=true then none else some ((fun x=>!q x),r1)):=by
  show _=_
  simp only[eV,h0]
  rfl
 generalize eV (ae s)=O at HX⊢;have eB:=h.lt;have df:=h.low;have hB:=h.1;unfold E4;go_enter func196,ntmps196;go_wp2_with fail;refine (tz base b acc s d 94 rr _ h h0 hs).mono ?_;rintro e w1 ⟨rfl,k1,s1,fx,cY,fH⟩;obtain⟨R,hR⟩:∃R,aO (rr.length+1) bB rr=R:=⟨_,rfl⟩
 rw[hR] at HX;have ri:=hid hR;have K1:=hid (k1.below (le_trans df k1.size) ((Below.refl _ w1).alloc (le_refl _) (.cells #[.int .u64 0,.int .u64 0,.int .u64 0,.int .u64 0] 146)));have P1:=hid (fH.aa ((Below.refl _ w1).alloc (le_refl _) (.cells #[.int .u64 0,.int .u64 0,.int .u64 0,.int .u64 0] 146)));have S1:Hid (St (w1.alloc (.cells #[.int .u64 0,.int .u64 0,.int .u64 0,.int .u64 0] 146)) 146 w1.heap.size #[.int .u64 ((wd bB 0:Nat):Int),.int .u64 ((wd bB 1:Nat):Int),.int .u64 ((wd bB 2:Nat):Int),.int .u64 ((wd bB 3:Nat):Int)]):=by
  have:=St.new w1 146 #[.int .u64 0,.int .u64 0,.int .u64 0,.int .u64 0];rw[Ih 146] at this;rw[Ih 146];exact this
 have N5:=fH.lt;have BB:=k1.size;have rA:=hid fx;have Bi:w1.heap.size≠b:=by omega
 clear hR h k1 fH fx h0;go_wp2;go_loopw [9] (fun _ wr=>∃(f:Nat) (q:Nat->Bool) (s':ByteArray),(ae s').length<f/\Hid (aO f q (ae s')=R)/\s'.size<=s.size/\Hid (ee base b acc s' d wr)/\Hid (St wr 146 w1.heap.size #[.int .u64 ((wd q 0:Nat):Int),.int .u64 ((wd q 1:Nat):Int),.int .u64 ((wd q 2:Nat):Int),.int .u64 ((wd q 3:Nat):Int)])/\Hid (aH base b w wr)/\w1.heap.size<wr.heap.size) (fun _ wr=>eE wr ⟨b,0,none⟩)
 ·exact⟨_,bB,s1,lt_succ_self _,by show aO _ _ _=_;rw[rA.out];exact ri.out,by omega,P1,S1,K1,by simp⟩
 clear P1 S1 K1 ri;obtain⟨f,q,s',hf,HQ,dp,P2,S2,K2,yI⟩:=hrel;rcases h1:aG 93 (ae s') with _|r
 ·have HK:=hid h1;rcases h2:dN (ae s') with _|⟨a,c,r⟩
  ·have HZ:Hid (O=none):=by
    have:=HQ.out;rw[Sh f q _ hf h1 h2] at this;show _=_;rw[HX.out,<-this]
   have H2:=hid h2;clear h1 h2 HX HQ;go_wp2_with fail;refine (mY base b acc s' d 93 _ P2.out HK.out).mono ?_;rintro e w2 ⟨rfl,rfl⟩;go_wp2_with fail;refine (UD base b acc s' d _ P2.out (by omega) H2.out).mono ?_;rintro e w3 ⟨⟨q3,rfl⟩,k3⟩;have K3:=K2.out.trans k3;have oW:=K3.size;clear k3;go_wp2;go_ret;exact⟨K3.below (le_trans df oW) ((Below.refl _ w3).alloc (le_refl _) _),fun _=>rfl,fun q r e=>by rw[HZ.out] at e;simp at e⟩
  obtain⟨f2,mW,jk⟩:=VI f q _ a c r hf h1 h2;have tY:Hid (aO f2 (fun x=>q x || ay a (c+1-a) x) r=R):=by show _=_;rw[<-jk];exact HQ.out
  have H2:=hid h2;have kc:=P2.out.eE;clear h1 h2 HQ jk;go_wp2_with fail;refine (mY base b acc s' d 93 _ P2.out HK.out).mono ?_;rintro e w2 ⟨rfl,rfl⟩;go_wp2_with fail;refine (Sg base b acc s' d a c r _ P2.out (by omega) H2.out).mono ?_;rintro e w3 ⟨rfl,k3,s3,mA,Gy,gQ⟩;have IW:=S2.out.fJ k3 Bi (by decide);have oW:=k3.size;have K3:=hid ((K2.out.trans k3).below (le_trans df (K2.out.trans k3).size) ((Below.refl _ w3).alloc (le_refl _) (.cells #[.int .u64 ((wd (ay a (c+1-a)) 0:Nat):Int),.int .u64 ((wd (ay a (c+1-a)) 1:Nat):Int),.int .u64 ((wd (ay a (c+1-a)) 2:Nat):Int),.int .u64 ((wd (ay a (c+1-a)) 3:Nat):Int)] 146)));have P3:=hid (gQ.aa ((Below.refl _ w3).alloc (le_refl _) (.cells #[.int .u64 ((wd (ay a (c+1-a)) 0:Nat):Int),.int .u64 ((wd (ay a (c+1-a)) 1:Nat):Int),.int .u64 ((wd (ay a (c+1-a)) 2:Nat):Int),.int .u64 ((wd (ay a (c+1-a)) 3:Nat):Int)] 146)));have S3:=hid (IW.alloc (.cells #[.int .u64 ((wd (ay a (c+1-a)) 0:Nat):Int),.int .u64 ((wd (ay a (c+1-a)) 1:Nat):Int),.int .u64 ((wd (ay a (c+1-a)) 2:Nat):Int),.int .u64 ((wd (ay a (c+1-a)) 3:Nat):Int)] 146));have T3:=hid (St.new w3 146 #[.int .u64 ((wd (ay a (c+1-a)) 0:Nat):Int),.int .u64 ((wd (ay a (c+1-a)) 1:Nat):Int),.int .u64 ((wd (ay a (c+1-a)) 2:Nat):Int),.int .u64 ((wd (ay a (c+1-a)) 3:Nat):Int)]);obtain⟨c0,c1,c2,c3,-⟩:=cW S3.out;obtain⟨d0,d1,d2,d3,-⟩:=cW T3.out;have uW:=hid mA;clear k3 gQ mA IW P2 S2 K2;go_wp2_with fail;refine (RL q (ay a (c+1-a)) _).mono ?_;rintro e w5 ⟨rfl,b5⟩;have s5:=S3.out.aa b5;have ll:=b5.size;simp at ll;obtain⟨r0,RS,Uc,Sq,RJ,Wo,SI,Rm⟩:=cW s5;have KK:=hid ((K3.out.below (le_trans df K3.out.size) b5).gk (g:=w1.heap.size) (by omega) (s5.is) (by omega) (.int .u64 ((wd (fun x=>q x || ay a (c+1-a) x) 0:Nat):Int)) (.int .u64 ((wd (fun x=>q x || ay a (c+1-a) x) 1:Nat):Int)) (.int .u64 ((wd (fun x=>q x || ay a (c+1-a) x) 2:Nat):Int)) (.int .u64 ((wd (fun x=>q x || ay a (c+1-a) x) 3:Nat):Int)));have PP:=hid ((P3.out.aa b5).gk (g:=w1.heap.size) (by omega) (s5.is) (.int .u64 ((wd (fun x=>q x || ay a (c+1-a) x) 0:Nat):Int)) (.int .u64 ((wd (fun x=>q x || ay a (c+1-a) x) 1:Nat):Int)) (.int .u64 ((wd (fun x=>q x || ay a (c+1-a) x) 2:Nat):Int)) (.int .u64 ((wd (fun x=>q x || ay a (c+1-a) x) 3:Nat):Int)));have SS:=hid (s5.qH (.int .u64 ((wd (fun x=>q x || ay a (c+1-a) x) 0:Nat):Int)) (.int .u64 ((wd (fun x=>q x || ay a (c+1-a) x) 1:Nat):Int)) (.int .u64 ((wd (fun x=>q x || ay a (c+1-a) x) 2:Nat):Int)) (.int .u64 ((wd (fun x=>q x || ay a (c+1-a) x) 3:Nat):Int)));have gn:=PP.out.eE;clear b5 s5 S3 T3 K3 P3 c0 c1 c2 c3 d0 d1 d2 d3;go_wp2;go_roundw
  ·exact⟨f2,fun x=>q x || ay a (c+1-a) x,s3,by rw[uW.out];exact mW,by show aO _ _ _=_;rw[uW.out];exact tY.out,by omega,PP,SS,KK,by rw[TE];omega⟩
  first|(simp only[kc,gn];omega)|(rw[kc,gn];omega)
 have HY:Hid (O=if ef (fun x=>!q x)=true then none else some ((fun x=>!q x),r)):=by
  have:=HQ.out;rw[UX f q _ r hf h1] at this;show _=_;rw[HX.out,<-this]
 have HK:=hid h1;clear h1 HX HQ;go_wp2_with fail;refine (tz base b acc s' d 93 r _ P2.out HK.out (by omega)).mono ?_;rintro e w2 ⟨rfl,k2,s2,dk,cO,fp⟩;have S3:=hid (S2.out.fJ k2 Bi (by decide));have K3:=hid (K2.out.trans k2);have P3:=hid fp;have nC:=hid dk;obtain⟨c0,c1,c2,c3,-⟩:=cW S3.out;have Mz:=k2.size;clear k2 fp dk S2 K2 P2;go_wp2_with fail;refine (UQ q _).mono ?_;rintro e w5 ⟨rfl,b5⟩;have s5:=S3.out.aa b5;obtain⟨r0,RS,Uc,Sq,RJ,Wo,SI,Rm⟩:=cW s5;have KK:=hid ((K3.out.below (le_trans df K3.out.size) b5).gk (g:=w1.heap.size) (by omega) (s5.is) (by omega) (.int .u64 ((wd (fun x=>!q x) 0:Nat):Int)) (.int .u64 ((wd (fun x=>!q x) 1:Nat):Int)) (.int .u64 ((wd (fun x=>!q x) 2:Nat):Int)) (.int .u64 ((wd (fun x=>!q x) 3:Nat):Int)));have PP:=hid ((P3.out.aa b5).gk (g:=w1.heap.size) (by omega) (s5.is) (.int .u64 ((wd (fun x=>!q x) 0:Nat):Int)) (.int .u64 ((wd (fun x=>!q x) 1:Nat):Int)) (.int .u64 ((wd (fun x=>!q x) 2:Nat):Int)) (.int .u64 ((wd (fun x=>!q x) 3:Nat):Int)));have SS:=hid (s5.qH (.int .u64 ((wd (fun x=>!q x) 0:Nat):Int)) (.int .u64 ((wd (fun x=>!q x) 1:Nat):Int)) (.int .u64 ((wd (fun x=>!q x) 2:Nat):Int)) (.int .u64 ((wd (fun x=>!q x) 3:Nat):Int)));clear b5 s5 S3 K3 P3 c0 c1 c2 c3;go_wp2_with fail;generalize ((((w5.setCell _ _).setCell _ _).setCell _ _).setCell _ _)=w6 at KK PP SS⊢;obtain⟨c0,c1,c2,c3,-⟩:=cW SS.out;go_wp2_with fail;refine (DU base b acc s2 d 1 (fun x=>!q x) _ PP.out tp).mono ?_;rintro e w7 ⟨rfl,GK,k7⟩;have s7:=SS.out.fJ k7 Bi (by decide);have K7:=hid (KK.out.trans k7);have P7:=hid GK;clear c0 c1 c2 c3 k7 GK KK PP SS;obtain⟨c0,c1,c2,c3,-⟩:=cW s7;obtain⟨o,ho⟩:∃o,ef (fun x=>!q x)=o:=⟨_,rfl⟩
 have HO:=hid ho;clear ho;go_wp2_with fail;refine (PM (fun x=>!q x) o HO.out _).mono ?_;rintro e w8 ⟨rfl,b8⟩;have K8:=K7.out.below (le_trans df K7.out.size) b8;have P8:=P7.out.aa b8;rcases o with _|_
 ·have HZ:Hid (O=some ((fun x=>!q x),r)):=by show _=_;rw[HY.out,HO.out];rfl
  go_wp2;go_ret;refine⟨K8,fun e=>by rw[HZ.out] at e;simp at e,fun q' r' e=>?_⟩;rw[HZ.out] at e;simp only[Option.some.injEq,Prod.mk.injEq] at e;obtain⟨rfl,rfl⟩:=e;exact⟨rfl,s2,nC.out,P8⟩
 have HZ:Hid (O=none):=by show _=_;rw[HY.out,HO.out];rfl
 go_wp2;go_ret;exact⟨K8,fun _=>rfl,fun q' r' e=>by rw[HZ.out] at e;simp at e⟩
theorem znT(base b:Nat)(acc:List Pc)(s:ByteArray)(d:Nat)(w:World)(h:ee base b acc s d w)(hs:s.size<=10000)(tp:acc.length<=10000):
  Calls prog 196 #[.pointer (some ⟨b,0,none⟩)] w (E4 base b acc d (eV (ae s)) w):=by
 rcases h0:aG 94 (ae s) with _|rr
 ·exact YC base b acc s d h0 w h hs tp
 exact znS base b acc s d rr h0 w h hs tp
def aW(base b d:Nat)(o:Option bJ)(w:World)(e:Ending)(w':World):Prop:=
 aH base b w w'/\(o=none->e=.returned (.bool false))/\∀x,o=some x->e=.returned (.bool true)/\∃s',ae s'=x.2/\ee base b x.1 s' d w'
def tL(f:Nat)(g:bJ->Option bJ)(d:Nat):Prop:=∀(base b:Nat) (acc:List Pc) (s:ByteArray) (w:World),ee base b acc s d w->s.size<=2000->acc.length+2*s.size<=9000->
 Calls prog f #[.pointer (some ⟨b,0,none⟩)] w (aW base b d (g (acc,ae s)) w)
theorem aW.no{base b:Nat}{o:Option bJ}(k:aH base b w w')(h:o=none):aW base b d o w (.returned (.bool false)) w':=⟨k,fun _=>rfl,fun x e=>by rw[h] at e;simp at e⟩
theorem aW.yes{base b:Nat}{o:Option bJ}{x:bJ}{s':ByteArray}(k:aH base b w w')(h:o=some x)(hn:ae s'=x.2)(hp:ee base b x.1 s' d w'):aW base b d o w (.returned (.bool true)) w':=
 ⟨k,fun e=>by rw[h] at e;simp at e,fun y e=>by rw[h] at e;simp at e;subst e;exact⟨rfl,s',hn,hp⟩⟩
theorem znU:(Value.agg #[.int .u64 0,.int .u64 0,.int .u64 0,.int .u64 0])=(.agg #[.int .u64 ((wd bB 0:Nat):Int),.int .u64 ((wd bB 1:Nat):Int),.int .u64 ((wd bB 2:Nat):Int),.int .u64 ((wd bB 3:Nat):Int)]):=by rw[Ih 146]
theorem KN(base b:Nat)(acc:List Pc)(s:ByteArray)(d:Nat)(k:Int)(w:World)(h:ee base b acc s d w)(hl:acc.length<=10000):
  Calls prog 140 #[.pointer (some ⟨b,0,none⟩),.int .i64 k,.agg #[.int .u64 0,.int .u64 0,.int .u64 0,.int .u64 0]] w fun e w'=>e=.returned (.tuple #[])/\ee base b (acc++[⟨k,bB⟩]) s d w'/\aH base b w w':=by
 rw[znU];exact DU base b acc s d k bB w h hl
theorem Fe(c:Nat)(hc:c<256):(c=42/\gD ⟨#[42,43,63]⟩ c=0/\ia c=some 4)\/(c=43/\gD ⟨#[42,43,63]⟩ c=1/\ia c=some 5)\/(c=63/\gD ⟨#[42,43,63]⟩ c=2/\ia c=some 6)\/(gD ⟨#[42,43,63]⟩ c<0/\ia c=none):=by
 by_cases h1:c=42
 ·subst h1;exact inl ⟨rfl,by decide,by decide⟩
 by_cases h2:c=43
 ·subst h2;exact inr (inl ⟨rfl,by decide,by decide⟩)
 by_cases h3:c=63
 ·subst h3;exact inr (inr (inl ⟨rfl,by decide,by decide⟩))
 refine inr (inr (inr ⟨?_,by simp[ia,h1,h2,h3]⟩));have:=Nq ⟨#[42,43,63]⟩ c hc;have e:zZ ⟨#[42,43,63]⟩ c=false:=by
  unfold zZ;simp;omega
 rw[e] at this;simpa using this
theorem zfy(c:Nat)(r:List Nat)(acc:List Pc)(k:Int)(h:ia c=some k):cJ (c :: r) acc=cJ r (acc++[⟨k,bB⟩]):=by simp only[cJ,h]
theorem zgx(c:Nat)(r:List Nat)(acc:List Pc)(h:ia c=none):cJ (c :: r) acc=(acc,c :: r):=by simp only[cJ,h]
theorem UP(atom:bJ->Option bJ)(d:Nat)(hd:py atom)(ha:tL 187 atom d):tL 166 (dV atom) d:=by
 intro base b acc s w h hs hl;have HX:Hid (dV atom (acc,ae s)=match atom (acc,ae s) with
  | none=>none
  | some x=>some (cJ x.2 x.1)):=by show _=_;unfold dV;rfl
 have HD:=hid (fun x=>hd (acc,ae s) x);generalize dV atom (acc,ae s)=O at HX⊢;have hA:=ha base b acc s w h hs hl;have HS:=hid (oE s);have hB:=h.1;clear ha hd;generalize atom (acc,ae s)=A at HX HD hA;have HA:=hid hA;clear hA h;go_enter func166,ntmps166;go_wp2_with fail;refine HA.out.mono ?_;rintro e w1 ⟨k1,h1,h2⟩;rcases A with _|⟨jz,r1⟩
 ·obtain rfl:=h1 rfl;have HZ:=HX.out;go_wp2;go_ret;exact aW.no k1 HZ
 obtain⟨rfl,s1,fx,fH⟩:=h2 _ rfl;have su:=HD.out _ rfl;simp only[HS.out] at su;simp only at fx fH;have lp:s1.size=r1.length:=by rw[<-oE,fx]
 have HZ:Hid (O=some (cJ (ae s1) jz)):=by show _=_;rw[HX.out,fx]
 obtain⟨R,hR⟩:∃R,cJ (ae s1) jz=R:=⟨_,rfl⟩
 rw[hR] at HZ;have HR:=hid hR;have P1:=hid fH;have K1:=hid k1;have nA:s1.size+1<=s.size:=by omega
 have pA:jz.length+2*s1.size<=9000:=by omega
 clear hR fH k1 HX HD h1 h2 su fx lp;go_wp2;go_loopw [3] (fun _ wr=>∃(dX:List Pc) (s':ByteArray),Hid (cJ (ae s') dX=R)/\s'.size<=s1.size/\dX.length+2*s'.size<=9000/\Hid (ee base b dX s' d wr)/\Hid (aH base b w wr)) (fun _ wr=>eE wr ⟨b,0,none⟩)
 ·exact⟨jz,s1,HR,le_refl _,pA,P1,K1⟩
 clear P1 K1 HR;obtain⟨dX,s',HQ,dp,oy,P2,K2⟩:=hrel;obtain⟨c0,f0⟩:=P2.out.rest;rcases eq_zero_or_pos s'.size with hz|hp
 ·have kD:s'.toList=[]:=GA s' hz;have iz:(!s'.toList.isEmpty)=false:=by rw[kD];rfl
  have HF:Hid (O=some (dX,[])):=by
   show _=_;have:=HQ.out;rw[LA s' hz] at this;rw[HZ,<-this];rfl
  have HN:Hid (ae s'=[]):=LA s' hz;clear hz kD HQ;go_wp2;go_ret;exact aW.yes K2.out HF.out HN.out P2.out
 have kD:s'.toList.isEmpty=false:=yC s' hp;have iz:(!s'.toList.isEmpty)=true:=by rw[kD];rfl
 have hc:=UInt8.toNat_lt s'[0];have Be:=Hv s' hp;have HE:Hid (ae (s'.extract 1 s'.size)=(ae s').drop 1):=by show _=_;rw[Qt]
 have hez:(s'.extract 1 s'.size).size+1=s'.size:=by rw[ByteArray.size_extract];omega
 have kc:=P2.out.eE;have P3:=hid (P2.out.kg (s'.extract 1 s'.size));have K3:=hid (K2.out.set hB 0 (.string (s'.extract 1 s'.size)));rcases Fe s'[0].toNat hc with ⟨e,hw,hk⟩|⟨e,hw,hk⟩|⟨e,hw,hk⟩|⟨hw,hk⟩
 all_goals
  have HW:=hid hw
  have HK:=hid hk
  have HC:=hid Be
  first|clear e|skip
  clear hw hk Be
 rotate_right
 ·have HF:Hid (O=some (dX,ae s')):=by
   show _=_;have:=HQ.out;rw[HC.out,zgx _ _ _ HK.out] at this;rw[HZ,<-this,<-HC.out]
  obtain⟨x,hx⟩:∃x,gD ⟨#[42,43,63]⟩ s'[0].toNat=x:=⟨_,rfl⟩
  have U2:x<0:=by rw[<-hx];exact HW.out
  have HXX:=hid hx;clear hx HQ;go_wp2_with fail;refine (JR _ _ _).mono ?_;rintro e w2 ⟨rfl,rfl⟩;rw[HXX.out];go_wp2;go_ret;exact aW.yes K2.out HF.out rfl P2.out
 all_goals
  go_wp2_with fail
  refine (JR _ _ _).mono ?_
  rintro e w2 ⟨rfl,rfl⟩
  rw[HW.out]
  go_wp2_with fail
  refine (KN base b dX (s'.extract 1 s'.size) d _ _ P3.out (by omega)).mono ?_
  rintro e w3 ⟨rfl,gQ,k3⟩
  have P4:=hid gQ
  have K4:=hid (K3.out.trans k3)
  have gn:=gQ.eE
  clear gQ k3
  go_wp2
  go_roundw
  case rel=>exact⟨_,s'.extract 1 s'.size,by show cJ _ _=_;rw[HE.out,<-zfy _ _ _ _ HK.out,<-HC.out];exact HQ.out,by omega,by simp;omega,P4,K4⟩
  case measure=>first|(simp only[kc,gn];omega)|(rw[kc,gn];omega)
theorem zgy(atom:bJ->Option bJ)(f:Nat)(s:bJ)(hf:s.2.length<f)(h:gw s.2=true):bP atom f s=some s:=by
 match f,hf with
 | f+1,hf=>unfold bP;rw[if_pos h]
theorem zin(atom:bJ->Option bJ)(f:Nat)(s:bJ)(hf:s.2.length<f)(h:gw s.2=false)(h1:dV atom s=none):bP atom f s=none:=by
 match f,hf with
 | f+1,hf=>simp[bP,h,h1]
theorem zfz(atom:bJ->Option bJ)(f:Nat)(s x:bJ)(hd:py atom)(hf:s.2.length<f)(h:gw s.2=false)(h1:dV atom s=some x):∃g,x.2.length<g/\bP atom f s=bP atom g (x.1++[⟨2,bB⟩],x.2):=by
 match f,hf with
 | f+1,hf=>
  have:=(JI hd s x h1).1;exact⟨f,by omega,by simp[bP,h,h1]⟩
theorem VQ(atom:bJ->Option bJ)(d:Nat)(hd:py atom)(ha:tL 166 (dV atom) d):tL 138 (dU atom) d:=by
 intro base b acc s w h hs hl;have HX:Hid (dU atom (acc,ae s)=match dV atom (acc,ae s) with
  | none=>none
  | some x=>bP atom (x.2.length+1) x):=by show _=_;unfold dU;rfl
 have HD:=hid (fun s x=>JI hd s x);have OP:=hid hd;generalize dU atom (acc,ae s)=O at HX⊢;have hA:=ha base b acc s w h hs hl;have HS:=hid (oE s);have hB:=h.1;have tv:=hid ha;have CQ:=hid (fun x=>HD.out (acc,ae s) x);clear ha hd;generalize dV atom (acc,ae s)=A at HX CQ hA;have HA:=hid hA;clear hA h;go_enter func138,ntmps138;go_wp2_with fail;refine HA.out.mono ?_;rintro e w1 ⟨k1,h1,h2⟩;rcases A with _|⟨jz,r1⟩
 ·obtain rfl:=h1 rfl;have HZ:=HX.out;go_wp2;go_ret;exact aW.no k1 HZ
 obtain⟨rfl,s1,fx,fH⟩:=h2 _ rfl;have su:=CQ.out _ rfl;simp only[HS.out] at su;simp only at fx fH;have lp:s1.size=r1.length:=by rw[<-oE,fx]
 obtain⟨R,hR⟩:∃R,bP atom ((ae s1).length+1) (jz,ae s1)=R:=⟨_,rfl⟩
 have HZ:Hid (O=R):=by show _=_;rw[HX.out,<-hR,fx]
 have HR:=hid hR;have P1:=hid fH;have K1:=hid k1;have nA:s1.size+1<=s.size:=by omega
 have pA:jz.length+2*s1.size<=9000:=by omega
 clear hR fH k1 HX CQ h1 h2 su fx lp;go_wp2;go_loopw [30] (fun _ wr=>∃(f:Nat) (dX:List Pc) (s':ByteArray),(ae s').length<f/\Hid (bP atom f (dX,ae s')=R)/\s'.size<=s1.size/\dX.length+2*s'.size<=9000/\Hid (ee base b dX s' d wr)/\Hid (aH base b w wr)) (fun _ wr=>eE wr ⟨b,0,none⟩)
 ·exact⟨_,jz,s1,lt_succ_self _,HR,le_refl _,pA,P1,K1⟩
 clear P1 K1 HR;obtain⟨f,dX,s',hf,HQ,dp,oy,P2,K2⟩:=hrel;obtain⟨c0,f0⟩:=P2.out.rest;have ko:gw (ae s')=true\/(gw (ae s')=false/\∃h:0<s'.size,s'[0].toNat≠124/\s'[0].toNat≠41):=by
  rcases eq_zero_or_pos s'.size with hz|hp
  ·left;rw[LA s' hz];rfl
  rw[Hv s' hp];by_cases h1:s'[0].toNat=124
  ·left;simp[gw,h1]
  by_cases h2:s'[0].toNat=41
  ·left;simp[gw,h2]
  right;exact⟨by simp[gw,h1,h2],hp,h1,h2⟩
 rcases ko with ko|⟨ko,hp,h1,h2⟩
 ·have HF:Hid (O=some (dX,ae s')):=by
   show _=_;rw[HZ.out,<-HQ.out,zgy atom f _ hf ko]
  rcases eq_zero_or_pos s'.size with hz|hp
  ·have kD:s'.toList=[]:=GA s' hz;have iz:(!s'.toList.isEmpty)=false:=(by rw[kD];rfl);clear hz kD HQ ko;go_wp2;go_ret;exact aW.yes K2.out HF.out rfl P2.out
  have kD:s'.toList.isEmpty=false:=yC s' hp;have iz:(!s'.toList.isEmpty)=true:=by rw[kD];rfl
  rw[Hv s' hp] at ko;by_cases h1:s'[0].toNat=124
  ·have e1:((s'[0].toNat:Int) != 124)=false:=(by simp;omega);clear HQ ko h1;go_wp2;go_ret;exact aW.yes K2.out HF.out rfl P2.out
  have h2:s'[0].toNat=41:=by simpa [gw,h1] using ko
  have e1:((s'[0].toNat:Int) != 124)=true:=by simp;omega
  have e2:((s'[0].toNat:Int) != 41)=false:=by simp;omega
  clear HQ ko h1 h2;go_wp2;go_ret;exact aW.yes K2.out HF.out rfl P2.out
 have kD:s'.toList.isEmpty=false:=yC s' hp;have iz:(!s'.toList.isEmpty)=true:=by rw[kD];rfl
 have e1:((s'[0].toNat:Int) != 124)=true:=by simp;omega
 have e2:((s'[0].toNat:Int) != 41)=true:=by simp;omega
 have ZV:=hid ko;have HS':=hid (oE s');have kc:=P2.out.eE;have hA:=tv.out base b dX s' _ P2.out (by omega) oy;rcases hr:dV atom (dX,ae s') with _|⟨tO,r2⟩
 ·rw[hr] at hA;have lI:=hid hA;have HF:Hid (O=none):=by
   show _=_;rw[HZ.out,<-HQ.out,zin atom f _ hf ko hr]
  clear hA hr ko h1 h2 HQ;go_wp2_with fail;refine lI.out.mono ?_;rintro e w2 ⟨k2,h1,-⟩;obtain rfl:=h1 rfl;go_wp2;go_ret;exact aW.no (K2.out.trans k2) HF.out
 have su:=HD.out _ _ hr;simp only[HS'.out] at su;obtain⟨f2,mW,jk⟩:=zfz atom f _ _ OP.out hf ko hr;have tY:Hid (bP atom f2 (tO++[⟨2,bB⟩],r2)=R):=by show _=_;rw[<-jk];exact HQ.out
 rw[hr] at hA;have lI:=hid hA;clear hA hr ko h1 h2 HQ jk;go_wp2_with fail;refine lI.out.mono ?_;rintro e w2 ⟨k2,-,h2⟩;obtain⟨rfl,s2,dk,fp⟩:=h2 _ rfl;simp only at dk fp mW;have qw:s2.size=r2.length:=by rw[<-oE,dk]
 have nC:=hid dk;have P3:=hid fp;have K3:=hid (K2.out.trans k2);clear k2 h2 dk fp;go_wp2_with fail;refine (KN base b tO s2 d _ _ P3.out (by omega)).mono ?_;rintro e w3 ⟨rfl,gQ,k3⟩;have P4:=hid gQ;have K4:=hid (K3.out.trans k3);have gn:=gQ.eE;clear gQ k3;go_wp2;go_roundw
 ·exact⟨f2,_,s2,by rw[nC.out];exact mW,by show bP _ _ _=_;rw[nC.out];exact tY.out,by omega,by simp;omega,P4,K4⟩
 first|(simp only[kc,gn];omega)|(rw[kc,gn];omega)
theorem zgz(atom:bJ->Option bJ)(f:Nat)(s:bJ)(hf:s.2.length<f)(h:aG 124 s.2=none):bQ atom f s=some s:=by
 match f,hf with
 | f+1,hf=>simp only[bQ,h]
theorem Yi(atom:bJ->Option bJ)(f:Nat)(s:bJ)(r:List Nat)(hf:s.2.length<f)(h:aG 124 s.2=some r)(h1:dU atom (s.1,r)=none):bQ atom f s=none:=by
 match f,hf with
 | f+1,hf=>simp only[bQ,h,h1]
theorem Zy(atom:bJ->Option bJ)(f:Nat)(s x:bJ)(r:List Nat)(hd:py atom)(hf:s.2.length<f)(h:aG 124 s.2=some r)(h1:dU atom (s.1,r)=some x):∃g,x.2.length<g/\bQ atom f s=bQ atom g (x.1++[⟨3,bB⟩],x.2):=by
 match f,hf with
 | f+1,hf=>
  have h2:=(Kx hd _ x h1).1;have h3:=uI h;rw[h3] at hf;simp at h2 hf;exact⟨f,by omega,by simp only[bQ,h,h1]⟩
theorem Vw(atom:bJ->Option bJ)(d:Nat)(hd:py atom)(ha:tL 138 (dU atom) d):tL 111 (db atom) d:=by
 intro base b acc s w h hs hl;have HX:Hid (db atom (acc,ae s)=match dU atom (acc,ae s) with
  | none=>none
  | some x=>bQ atom (x.2.length+1) x):=by show _=_;unfold db;rfl
 have HD:=hid (fun s x=>Kx hd s x);have OP:=hid hd;generalize db atom (acc,ae s)=O at HX⊢;have hA:=ha base b acc s w h hs hl;have HS:=hid (oE s);have hB:=h.1;have tv:=hid ha;have CQ:=hid (fun x=>HD.out (acc,ae s) x);clear ha hd;generalize dU atom (acc,ae s)=A at HX CQ hA;have HA:=hid hA;clear hA h;go_enter func111,ntmps111;go_wp2_with fail;refine HA.out.mono ?_;rintro e w1 ⟨k1,h1,h2⟩;rcases A with _|⟨jz,r1⟩
 ·obtain rfl:=h1 rfl;have HZ:=HX.out;go_wp2;go_ret;exact aW.no k1 HZ
 obtain⟨rfl,s1,fx,fH⟩:=h2 _ rfl;have su:=CQ.out _ rfl;simp only[HS.out] at su;simp only at fx fH;have lp:s1.size=r1.length:=by rw[<-oE,fx]
 obtain⟨R,hR⟩:∃R,bQ atom ((ae s1).length+1) (jz,ae s1)=R:=⟨_,rfl⟩
 have HZ:Hid (O=R):=by show _=_;rw[HX.out,<-hR,fx]
 have HR:=hid hR;have P1:=hid fH;have K1:=hid k1;have nA:s1.size+1<=s.size:=by omega
 have pA:jz.length+2*s1.size<=9000:=by omega
 clear hR fH k1 HX CQ h1 h2 su fx lp;go_wp2;go_loopw [11] (fun _ wr=>∃(f:Nat) (dX:List Pc) (s':ByteArray),(ae s').length<f/\Hid (bQ atom f (dX,ae s')=R)/\s'.size<=s1.size/\dX.length+2*s'.size<=9000/\Hid (ee base b dX s' d wr)/\Hid (aH base b w wr)) (fun _ wr=>eE wr ⟨b,0,none⟩)
 ·exact⟨_,jz,s1,lt_succ_self _,HR,le_refl _,pA,P1,K1⟩
 clear P1 K1 HR;obtain⟨f,dX,s',hf,HQ,dp,oy,P2,K2⟩:=hrel;rcases hk:aG 124 (ae s') with _|r
 ·have HK:=hid hk;have HF:Hid (O=some (dX,ae s')):=by
   show _=_;rw[HZ.out,<-HQ.out,zgz atom f (dX,ae s') hf hk]
  clear hk HQ;go_wp2_with fail;refine (mY base b dX s' d 124 _ P2.out HK.out).mono ?_;rintro e w2 ⟨rfl,rfl⟩;go_wp2;go_ret;exact aW.yes K2.out HF.out rfl P2.out
 have HK:=hid hk;have kc:=P2.out.eE;rcases hr:dU atom (dX,r) with _|⟨tO,r2⟩
 ·have HF:Hid (O=none):=by
   show _=_;rw[HZ.out,<-HQ.out,Yi atom f (dX,ae s') r hf hk hr]
  have Ds:=hid hr;clear hk hr HQ;go_wp2_with fail;refine (tz base b dX s' d 124 r _ P2.out HK.out (by omega)).mono ?_;rintro e w2 ⟨rfl,k2,s2,dk,cO,fp⟩;have hA:=tv.out base b dX s2 _ fp (by omega) (by omega);rw[dk,Ds.out] at hA;have lI:=hid hA;have K3:=hid (K2.out.trans k2);clear hA k2 fp dk;go_wp2_with fail;refine lI.out.mono ?_;rintro e w3 ⟨k3,h1,-⟩;obtain rfl:=h1 rfl;go_wp2;go_ret;exact aW.no (K3.out.trans k3) HF.out
 have su:=HD.out _ _ hr;obtain⟨f2,mW,jk⟩:=Zy atom f (dX,ae s') (tO,r2) r OP.out hf hk hr;have tY:Hid (bQ atom f2 (tO++[⟨3,bB⟩],r2)=R):=by show _=_;rw[<-jk];exact HQ.out
 have Ds:=hid hr;clear hk hr HQ jk;go_wp2_with fail;refine (tz base b dX s' d 124 r _ P2.out HK.out (by omega)).mono ?_;rintro e w2 ⟨rfl,k2,s2,dk,cO,fp⟩;have hrz:s2.size=r.length:=by rw[<-oE,dk]
 have hA:=tv.out base b dX s2 _ fp (by omega) (by omega);rw[dk,Ds.out] at hA;have lI:=hid hA;have K3:=hid (K2.out.trans k2);clear hA k2 fp dk;go_wp2_with fail;refine lI.out.mono ?_;rintro e w3 ⟨k3,-,h2⟩;obtain⟨rfl,s3,mA,gQ⟩:=h2 _ rfl;simp only at mA gQ mW su;have oW:s3.size=r2.length:=by rw[<-oE,mA]
 have uW:=hid mA;have P3:=hid gQ;have K4:=hid (K3.out.trans k3);clear k3 h2 mA gQ;go_wp2_with fail;refine (KN base b tO s3 d _ _ P3.out (by omega)).mono ?_;rintro e w4 ⟨rfl,xF,k4⟩;have P4:=hid xF;have K5:=hid (K4.out.trans k4);have gn:=xF.eE;clear xF k4;go_wp2;go_roundw
 ·exact⟨f2,_,s3,by rw[uW.out];exact mW,by show bQ _ _ _=_;rw[uW.out];exact tY.out,by omega,by simp;omega,P4,K5⟩
 first|(simp only[kc,gn];omega)|(rw[kc,gn];omega)
theorem zlS:tL 195 (fun _=>none) 99:=by
 intro base b acc s w h hs hl;obtain⟨c2,f2⟩:=h.depth;have eB:=h.lt;have K1:=hid ((aH.refl base b w).set h.1 2 (.int .i64 (100:Int)));clear h;go_enter func195,ntmps195;go_wp2;go_ret;exact aW.no K1.out rfl
theorem zlT(atom:bJ->Option bJ)(d:Nat)(hd99:d<99)(hd:py atom)(ha:tL 111 (db atom) (d+1)):tL 195 (fC atom) d:=by
 intro base b acc s w h hs hl;obtain⟨c2,f2⟩:=h.depth;have eB:=h.lt;have hB:=h.1;have K1:=hid ((aH.refl base b w).set h.1 2 (.int .i64 ((d+1:Nat):Int)));have fH:=h.qN (d+1);have HX:Hid (fC atom (acc,ae s)=match db atom (acc,ae s) with
  | none=>none
  | some x=>match aG 41 x.2 with
   | none=>none
   | some r=>some (x.1,r)):=by show _=_;unfold fC;rfl
 have HD:=hid (fun x=>Xh hd (acc,ae s) x);have HS:=hid (oE s);generalize fC atom (acc,ae s)=O at HX⊢;have hA:=ha base b acc s _ fH hs hl;generalize db atom (acc,ae s)=A at HX HD hA;have HA:=hid hA;have e1:(d:Int)+1=((d+1:Nat):Int):=by omega
 obtain⟨m,hm⟩:∃m,d+1=m:=⟨_,rfl⟩
 have hm99:m<=99:=by omega
 have mJ:1<=m:=by omega
 have ed:(m:Int)-1=(d:Int):=by omega
 rw[hm] at e1 HA K1 fH;have P1:=hid fH;obtain⟨d2,g2⟩:=fH.depth;clear h hA ha fH hm hd;go_enter func195,ntmps195;go_wp2_with fail;refine HA.out.mono ?_;rintro e w1 ⟨k1,h1,h2⟩;have K2:=hid (K1.out.trans k1);rcases A with _|⟨jz,r1⟩
 ·obtain rfl:=h1 rfl;have HZ:=HX.out;clear HA K1 P1 k1 h1 h2;go_wp2;go_ret;exact aW.no K2.out HZ
 obtain⟨rfl,s1,fx,fH⟩:=h2 _ rfl;have su:=HD.out _ rfl;simp only[HS.out] at su;simp only at fx fH;have lp:s1.size=r1.length:=by rw[<-oE,fx]
 have P2:=hid fH;clear HA K1 P1 k1 h1 h2 fH d2 g2;rcases hk:aG 41 (ae s1) with _|r
 ·have HF:Hid (O=none):=by show _=_;rw[HX.out];simp only[<-fx,hk]
  have HK:=hid hk;clear hk;go_wp2_with fail;refine (mY base b jz s1 m 41 _ P2.out HK.out).mono ?_;rintro e w2 ⟨rfl,rfl⟩;go_wp2;go_ret;exact aW.no K2.out HF.out
 have HF:Hid (O=some (jz,r)):=by show _=_;rw[HX.out];simp only[<-fx,hk]
 have HK:=hid hk;clear hk;go_wp2_with fail;refine (tz base b jz s1 m 41 r _ P2.out HK.out (by omega)).mono ?_;rintro e w2 ⟨rfl,k2,s2,dk,cO,fp⟩;obtain⟨d3,g3⟩:=fp.depth;have P3:=hid (fp.qN d);have K3:=hid ((K2.out.trans k2).set hB 2 (.int .i64 (d:Int)));have nC:=hid dk;clear k2 fp dk;go_wp2;go_ret;exact aW.yes K3.out HF.out nC.out P3.out
theorem AR(c:Nat)(hc:c<256)(w:World):II (w.alloc (.cells #[.int .u8 (c:Int)] 5)) (some ⟨w.heap.size,0,none⟩) 1 (fun _=>c):=by
 intro _;refine⟨w.heap.size,0,rfl,by simp,fun j hj=>?_⟩;obtain rfl:j=0:=by omega
 refine⟨?_,hc⟩;have h:(w.alloc (.cells #[.int .u8 (c:Int)] 5)).heap[w.heap.size]?=some (.cells #[.int .u8 (c:Int)] 5 (0,0)):=St.new w _ _;rw[Nat.zero_add,cell_of_heap h];rfl
theorem Sc(group:bJ->Option bJ)(d:Nat)(ha:tL 195 group d):tL 187 (fT group) d:=by
 intro base b acc s w h hs hl;have hB:=h.1;have df:=h.low;have P0:=hid h;have tv:=hid ha;have HX:Hid (fT group (acc,ae s)=fT group (acc,ae s)):=rfl;obtain⟨O,hO⟩:∃O,fT group (acc,ae s)=O:=⟨_,rfl⟩
 rw[hO];unfold fT at hO;simp only at hO;clear ha h HX;rcases h1:aG 46 (ae s) with _|r
 ·rw[h1] at hO;simp only at hO;have H1:=hid h1;clear h1;rcases h2:aG 126 (ae s) with _|r
  ·rw[h2] at hO;simp only at hO;have H2:=hid h2;clear h2;rcases h3:aG 40 (ae s) with _|r
   ·rw[h3] at hO;simp only at hO;have H3:=hid h3;clear h3;rcases h4:aG 91 (ae s) with _|r
    ·rw[h4] at hO;simp only at hO;have H4:=hid h4;clear h4;rcases h5:bu tZ (ae s) with _|⟨c,r⟩
     ·rw[h5] at hO;simp only at hO;have H5:=hid h5;have HF:=hid hO.symm;clear h5 hO;go_enter func187,ntmps187;go_wp2_with fail;refine (mY base b acc s d 46 _ P0.out H1.out).mono ?_;rintro e w2 ⟨rfl,rfl⟩;go_wp2_with fail;refine (mY base b acc s d 126 _ P0.out H2.out).mono ?_;rintro e w2 ⟨rfl,rfl⟩;go_wp2_with fail;refine (mY base b acc s d 40 _ P0.out H3.out).mono ?_;rintro e w2 ⟨rfl,rfl⟩;go_wp2_with fail;refine (mY base b acc s d 91 _ P0.out H4.out).mono ?_;rintro e w2 ⟨rfl,rfl⟩;go_wp2_with fail;refine (Ql base b acc s tZ d _ P0.out (by omega) H5.out).mono ?_;rintro e w2 ⟨rfl,b2⟩;have K2:=hid ((aH.refl base b w).below df b2);have P2:=hid (P0.out.aa b2);have qS:=P2.out.low;clear b2;go_wp2_with fail;refine (Vl _ 1 1 (fun _=>0) _ (AR 0 (by decide) w2) (by decide)).mono ?_;rintro e w3 ⟨rfl,b3⟩;have uU:Below w2.heap.size w2 w3:=((Below.refl _ w2).alloc (le_refl _) _).trans (b3.mono (by simp));have K3:=hid (K2.out.below qS uU);have P3:=hid (P2.out.aa uU);clear b3 uU;go_wp2_with fail;refine (DU base b acc s d 1 _ _ P3.out (by omega)).mono ?_;rintro e w4 ⟨rfl,xF,k4⟩;go_wp2;go_ret;exact aW.no (K3.out.trans k4) HF.out
     rw[h5] at hO;simp only at hO;have H5:=hid h5;have HF:=hid hO.symm;clear h5 hO;go_enter func187,ntmps187;go_wp2_with fail;refine (mY base b acc s d 46 _ P0.out H1.out).mono ?_;rintro e w2 ⟨rfl,rfl⟩;go_wp2_with fail;refine (mY base b acc s d 126 _ P0.out H2.out).mono ?_;rintro e w2 ⟨rfl,rfl⟩;go_wp2_with fail;refine (mY base b acc s d 40 _ P0.out H3.out).mono ?_;rintro e w2 ⟨rfl,rfl⟩;go_wp2_with fail;refine (mY base b acc s d 91 _ P0.out H4.out).mono ?_;rintro e w2 ⟨rfl,rfl⟩;go_wp2_with fail;refine (Br base b acc s tZ d c r _ P0.out (by omega) H5.out).mono ?_;rintro e w2 ⟨rfl,hc,k2,s2,dk,cO,fp⟩;have K2:=hid k2;have P2:=hid fp;have nC:=hid dk;have qS:=fp.low;clear k2 fp dk;go_wp2_with fail;refine (Vl _ 1 1 (fun _=>c) _ (AR c hc w2) (by decide)).mono ?_;rintro e w3 ⟨rfl,b3⟩;have uU:Below w2.heap.size w2 w3:=((Below.refl _ w2).alloc (le_refl _) _).trans (b3.mono (by simp));have K3:=hid (K2.out.below qS uU);have P3:=hid (P2.out.aa uU);clear b3 uU;go_wp2_with fail;refine (DU base b acc s2 d 1 _ _ P3.out (by omega)).mono ?_;rintro e w4 ⟨rfl,xF,k4⟩;go_wp2;go_ret;exact aW.yes (K3.out.trans k4) HF.out nC.out xF
    rw[h4] at hO;simp only at hO;have H4:=hid h4;have HSR:Hid (∀s2,ae s2=r->ae s2=r):=(fun _ h=>h);clear h4;have HO:=hid hO;clear hO;go_enter func187,ntmps187;go_wp2_with fail;refine (mY base b acc s d 46 _ P0.out H1.out).mono ?_;rintro e w2 ⟨rfl,rfl⟩;go_wp2_with fail;refine (mY base b acc s d 126 _ P0.out H2.out).mono ?_;rintro e w2 ⟨rfl,rfl⟩;go_wp2_with fail;refine (mY base b acc s d 40 _ P0.out H3.out).mono ?_;rintro e w2 ⟨rfl,rfl⟩;go_wp2_with fail;refine (tz base b acc s d 91 r _ P0.out H4.out (by omega)).mono ?_;rintro e w2 ⟨rfl,k2,s2,dk,cO,fp⟩;have qf:=znT base b acc s2 d _ fp (by omega) (by omega);rw[dk] at qf;have Ml:=hid qf;clear qf;go_wp2_with fail;refine Ml.out.mono ?_;rintro e w3 ⟨k3,g1,g2⟩;have hO:=HO.out;rcases h5:eV r with _|⟨q,r1⟩
    ·rw[h5] at hO;simp only at hO;obtain rfl:=g1 h5;have HF:=hid hO.symm;clear hO h5 HO;go_wp2;go_ret;exact aW.no (k2.trans k3) HF.out
    rw[h5] at hO;simp only at hO;obtain⟨rfl,s3,mA,gQ⟩:=g2 _ _ h5;have HF:=hid hO.symm;clear hO h5 HO;go_wp2;go_ret;exact aW.yes (k2.trans k3) HF.out mA gQ
   rw[h3] at hO;simp only at hO;have H3:=hid h3;have HO:=hid hO;clear h3 hO;go_enter func187,ntmps187;go_wp2_with fail;refine (mY base b acc s d 46 _ P0.out H1.out).mono ?_;rintro e w2 ⟨rfl,rfl⟩;go_wp2_with fail;refine (mY base b acc s d 126 _ P0.out H2.out).mono ?_;rintro e w2 ⟨rfl,rfl⟩;go_wp2_with fail;refine (tz base b acc s d 40 r _ P0.out H3.out (by omega)).mono ?_;rintro e w2 ⟨rfl,k2,s2,dk,cO,fp⟩;have hA:=tv.out base b acc s2 _ fp (by omega) (by omega);rw[dk,HO.out] at hA;have HA:=hid hA;clear hA;go_wp2_with fail;refine HA.out.mono ?_;rintro e w3 ⟨k3,g1,g2⟩;rcases O with _|⟨acc3,r3⟩
   ·obtain rfl:=g1 rfl;go_wp2;go_ret;exact aW.no (k2.trans k3) rfl
   obtain⟨rfl,s3,mA,gQ⟩:=g2 _ rfl;go_wp2;go_ret;exact aW.yes (k2.trans k3) rfl mA gQ
  rw[h2] at hO;simp only at hO;have H2:=hid h2;have HF:=hid hO.symm;clear h2 hO;go_enter func187,ntmps187;go_wp2_with fail;refine (mY base b acc s d 46 _ P0.out H1.out).mono ?_;rintro e w2 ⟨rfl,rfl⟩;go_wp2_with fail;refine (tz base b acc s d 126 r _ P0.out H2.out (by omega)).mono ?_;rintro e w2 ⟨rfl,k2,s2,dk,cO,fp⟩;have P2:=hid fp;clear fp;go_wp2_with fail;refine (KN base b acc s2 d 0 _ P2.out (by omega)).mono ?_;rintro e w4 ⟨rfl,xF,k4⟩;go_wp2;go_ret;exact aW.yes (k2.trans k4) HF.out dk xF
 rw[h1] at hO;simp only at hO;have H1:=hid h1;have HF:=hid hO.symm;clear h1 hO;go_enter func187,ntmps187;go_wp2_with fail;refine (tz base b acc s d 46 r _ P0.out H1.out (by omega)).mono ?_;rintro e w2 ⟨rfl,k2,s2,dk,cO,fp⟩;have P2:=hid fp;have qS:=fp.low;clear fp;go_wp2_with fail;refine (zlF _).mono ?_;rintro e w3 ⟨rfl,b3⟩;have P3:=hid (P2.out.aa b3);have K3:=hid (k2.below qS b3);go_wp2_with fail;refine (DU base b acc s2 d 1 (fun _=>true) _ P3.out (by omega)).mono ?_;rintro e w4 ⟨rfl,xF,k4⟩;go_wp2;go_ret;exact aW.yes (K3.out.trans k4) HF.out dk xF
theorem zlU(D d:Nat)(h:d+D=99):tL 187 (eR D) d:=by
 induction D generalizing d with
 | zero=>
  obtain rfl:d=99:=by omega
  exact Sc _ 99 zlS
 | succ D ih=>
  have h1:=ih (d+1) (by omega);exact Sc _ d (zlT (eR D) d (by omega) (CP D) (Vw _ _ (CP D) (VQ _ _ (CP D) (UP _ _ (CP D) h1))))
theorem Nd:tL 111 (db (eR 99)) 0:=
 Vw _ _ (CP 99) (VQ _ _ (CP 99) (UP _ _ (CP 99) (zlU 99 0 rfl)))
theorem EJ(s:ByteArray)(w:World)(hs:1600<s.size)(hm:s.size<=maxLen):
  Calls prog 93 #[.string s] w fun e w'=>e=.returned (.tuple #[.slice none 0 0,.int .i64 6])/\w=w':=by
 unfold maxLen at hm;go_enter func93,ntmps93;go_wp2;go_ret2;exact⟨rfl,rfl⟩
theorem ee.new(s:ByteArray)(w:World):ee w.heap.size w.heap.size [] s 0 (w.alloc (.cells #[.string s,.slice none 0 0,.int .i64 0] 154)):=
 ⟨le_refl _,.slice none 0 0,St.new w _ _,World.ownsRow_nil _ _ _ _,by simp[Value.ownBlock]⟩
theorem zlV(s:ByteArray)(w:World)(hs:s.size<=1600)(h:∀l,db (eR 99) ([],ae s)≠some (l,[])):
  Calls prog 93 #[.string s] w fun e w'=>e=.returned (.tuple #[.slice none 0 0,.int .i64 5])/\Below w.heap.size w w':=by
 have hA:=Nd w.heap.size w.heap.size [] s _ (ee.new s w) (by omega) (by simp;omega);have aY:Below w.heap.size w (w.alloc (.cells #[.string s,.slice none 0 0,.int .i64 0] 154)):=(Below.refl _ _).alloc (le_refl _) _;generalize db (eR 99) ([],ae s)=O at hA h;have HA:=hid hA;have H:=hid h;clear hA h;go_enter func93,ntmps93;go_wp2_with fail;refine HA.out.mono ?_;rintro e w1 ⟨k1,h1,h2⟩;have eU:=aY.trans k1.1;rcases O with _|⟨l,r⟩
 ·obtain rfl:=h1 rfl;go_wp2;go_ret2;exact⟨rfl,eU⟩
 obtain⟨rfl,s',hn,hp⟩:=h2 _ rfl;obtain⟨c0,-⟩:=hp.rest;have hne:r≠[]:=fun e=>H.out l (by rw[e])
 have hz:0<s'.size:=by
  rcases eq_zero_or_pos s'.size with hz|hz
  ·exact absurd (by simp only at hn;rw[<-hn];exact LA s' hz) hne
  exact hz
 have kD:s'.toList.isEmpty=false:=yC s' hz;have iz:(!s'.toList.isEmpty)=true:=by rw[kD];rfl
 go_wp2;go_ret2;exact⟨rfl,eU⟩
theorem zip(s:ByteArray)(w:World)(hs:s.size<=1600)(l:List Pc)(h:db (eR 99) ([],ae s)=some (l,[]))(hl:400<l.length):
  Calls prog 93 #[.string s] w fun e w'=>e=.returned (.tuple #[.slice none 0 0,.int .i64 6])/\Below w.heap.size w w':=by
 have hA:=Nd w.heap.size w.heap.size [] s _ (ee.new s w) (by omega) (by simp;omega);have aY:Below w.heap.size w (w.alloc (.cells #[.string s,.slice none 0 0,.int .i64 0] 154)):=(Below.refl _ _).alloc (le_refl _) _;rw[h] at hA;have HA:=hid hA;clear hA h;go_enter func93,ntmps93;go_wp2_with fail;refine HA.out.mono ?_;rintro e w1 ⟨k1,h1,h2⟩;have eU:=aY.trans k1.1;obtain⟨rfl,s',hn,hp⟩:=h2 _ rfl;obtain⟨c0,-⟩:=hp.rest;simp only at hn hp;have hz:s'.size=0:=by rw[<-oE,hn];rfl
 have kD:s'.toList=[]:=GA s' hz;have iz:(!s'.toList.isEmpty)=false:=by rw[kD];rfl
 obtain⟨_,v,nU,aQ,_⟩:=hp;obtain⟨a,cap,rfl⟩:=bE aQ;have c1:w1.cell? ⟨w.heap.size,1,none⟩=some (.slice a l.length cap):=by rw[cell_of_heap nU];rfl
 obtain⟨n,Di⟩:∃n,l.length=n:=⟨_,rfl⟩
 rw[Di] at c1 hl;clear kD aQ nU h1 h2 Di;go_wp2;go_ret2;exact⟨rfl,eU⟩
theorem zj2(s:ByteArray)(w:World)(hs:s.size<=1600)(l:List Pc)(h:db (eR 99) ([],ae s)=some (l,[]))(hl:l.length<=400):
  Calls prog 93 #[.string s] w fun e w'=>∃a cap,e=.returned (.tuple #[.slice a l.length cap,.int .i64 0])/\w'.ownsRow w.heap.size 148 5 (.slice a l.length cap) l.length (mx l)/\Below w.heap.size w w':=by
 have hA:=Nd w.heap.size w.heap.size [] s _ (ee.new s w) (by omega) (by simp;omega);have aY:Below w.heap.size w (w.alloc (.cells #[.string s,.slice none 0 0,.int .i64 0] 154)):=(Below.refl _ _).alloc (le_refl _) _;rw[h] at hA;have HA:=hid hA;clear hA h;go_enter func93,ntmps93;go_wp2_with fail;refine HA.out.mono ?_;rintro e w1 ⟨k1,h1,h2⟩;have eU:=aY.trans k1.1;obtain⟨rfl,s',hn,hp⟩:=h2 _ rfl;obtain⟨c0,-⟩:=hp.rest;simp only at hn hp;have hz:s'.size=0:=by rw[<-oE,hn];rfl
 have kD:s'.toList=[]:=GA s' hz;have iz:(!s'.toList.isEmpty)=false:=by rw[kD];rfl
 obtain⟨_,v,nU,aQ,_⟩:=hp;obtain⟨a,cap,rfl⟩:=bE aQ;have c1:w1.cell? ⟨w.heap.size,1,none⟩=some (.slice a l.length cap):=by rw[cell_of_heap nU];rfl
 have HO:=hid aQ;obtain⟨n,Di⟩:∃n,l.length=n:=⟨_,rfl⟩
 have HN:=hid Di;rw[Di] at c1 hl;clear kD aQ nU h1 h2 Di;go_wp2;go_ret2;exact⟨a,cap,by rw[HN.out];rfl,HO.out,eU⟩
end Go.Proofs.YtiijebameffenaaGreat
