import Derived.Test.YtiijebameffenaaGreatZChk
import Derived.Test.YtiijebameffenaaGreatZOr
import Derived.Test.YtiijebameffenaaGreatZPRead
import Derived.Deep.RegionLaw
set_option linter.all false
set_option maxHeartbeats 4000000
set_option maxRecDepth 100000
open Go.Lib (hid)
namespace Go.Proofs.YtiijebameffenaaGreat
open Go.RowKit Go.Proofs.Tryz
open Lib (OthersKept cell_of_heap)
open Nat (eq_zero_or_pos le_refl le_trans lt_succ_self)
open Below (heap_setCell)
open Or (inl inr)
variable {a w w':World}{acc:List Pc}{cs:Array Value}{d g t:Nat}
theorem St.others{e b:Nat}(h:St w t g cs)(k:OthersKept e (some b) w w')(hb:g≠b)(ht:t≠e):St w' t g cs:=
 k g _ h (by simpa using hb) (by intro c fz h;simp at h;exact ht h.2.1)
theorem zgC{e:TypeId}{b:Option Nat}(h:OthersKept e b a w)(k:ϐ w w'):OthersKept e b a w':=by
 intro i o hi hb ho;have h1:=h i o hi hb ho;exact (k.block i (Array.getElem?_eq_some_iff.1 h1).1).trans h1
theorem oW:(prog.info? 148).map (fun i=>(i.zero,i.size,i.bytes))=some (some (.agg #[.int .i64 0,.int .u64 0,.int .u64 0,.int .u64 0,.int .u64 0]),5,40):=by kernel_rfl
def fq(base b:Nat)(acc:List Pc)(s:ByteArray)(d:Nat)(w:World):Prop:=
 base<=b/\∃v,w.heap[b]?=some (.cells #[.string s,v,.int .i64 (d:Int)] 154 (0,0))/\w.ownsRow base 148 5 v acc.length (fe acc)/\v.ownBlock≠some b
theorem fq.lt{base b:Nat}{s:ByteArray}(h:fq base b acc s d w):b<w.heap.size:=by
 obtain⟨_,v,hb,_⟩:=h;exact (Array.getElem?_eq_some_iff.1 hb).1
theorem fq.low{base b:Nat}{s:ByteArray}(h:fq base b acc s d w):base<=w.heap.size:=le_trans h.1 (Nat.le_of_lt h.lt)
theorem fq.ae{base b:Nat}{s:ByteArray}(h:fq base b acc s d w)(k:ϐ w w'):fq base b acc s d w':=by
 have hl:=h.lt;obtain⟨h1,v,h2,h3,h4⟩:=h;exact⟨h1,v,(k.block b hl).trans h2,dE h3 k,h4⟩
theorem fq.rest{base b:Nat}{s:ByteArray}(h:fq base b acc s d w):w.cell? ⟨b,0,none⟩=some (.string s)/\w.frozen? ⟨b,0,none⟩=false:=by
 obtain⟨_,v,hb,_⟩:=h;exact⟨by rw[cell_of_heap hb];rfl,Lib.frozen_of_heap hb 0⟩
theorem fq.depth{base b:Nat}{s:ByteArray}(h:fq base b acc s d w):w.cell? ⟨b,2,none⟩=some (.int .i64 (d:Int))/\w.frozen? ⟨b,2,none⟩=false:=by
 obtain⟨_,v,hb,_⟩:=h;exact⟨by rw[cell_of_heap hb];rfl,Lib.frozen_of_heap hb 2⟩
theorem fq.lN{base b:Nat}{s:ByteArray}(h:fq base b acc s d w)(s':ByteArray):fq base b acc s' d (w.setCell ⟨b,0,none⟩ (.string s')):=by
 obtain⟨hB,v,hb,az,hne⟩:=h;refine⟨hB,v,?_,?_,hne⟩
 ·simp[World.setCell,Array.getElem?_modify,hb]
 exact az.kept (row:=some b) ⟨rfl,rfl,rfl,by simp[World.setCell],fun k _ hk=>heap_setCell _ _ _ _ (fun e=>hk (by simp[e]))⟩ (inr hne)
theorem fq.rP{base b:Nat}{s:ByteArray}(h:fq base b acc s d w)(d':Nat):fq base b acc s d' (w.setCell ⟨b,2,none⟩ (.int .i64 (d':Int))):=by
 obtain⟨hB,v,hb,az,hne⟩:=h;refine⟨hB,v,?_,?_,hne⟩
 ·simp[World.setCell,Array.getElem?_modify,hb]
 exact az.kept (row:=some b) ⟨rfl,rfl,rfl,by simp[World.setCell],fun k _ hk=>heap_setCell _ _ _ _ (fun e=>hk (by simp[e]))⟩ (inr hne)
def aU(base b:Nat)(w w':World):Prop:=Below base w w'/\OthersKept 148 (some b) w w'
theorem aU.refl(base b:Nat)(w:World):aU base b w w:=⟨Below.refl _ _,Lib.OthersKept.refl _ _ _⟩
theorem aU.trans{base b:Nat}(h:aU base b a w)(k:aU base b w w'):aU base b a w':=⟨h.1.trans k.1,h.2.trans k.2⟩
theorem aU.below{base b:Nat}(h:aU base b a w)(hb:base<=w.heap.size)(k:ϐ w w'):aU base b a w':=⟨h.1.trans (k.mono hb),zgC h.2 k⟩
theorem aU.set{base b:Nat}(h:aU base b a w)(hB:base<=b)(j:Nat)(v:Value):aU base b a (w.setCell ⟨b,j,none⟩ v):=⟨h.1.setCell (p:=⟨b,j,none⟩) hB v,h.2.setCell ⟨b,j,none⟩ rfl v⟩
theorem aU.size{base b:Nat}(h:aU base b w w'):w.heap.size<=w'.heap.size:=h.1.size
theorem St.hJ{base b:Nat}(h:St w t g cs)(k:aU base b w w')(hb:g≠b)(ht:t≠148):St w' t g cs:=h.others k.2 hb ht
theorem Gx(base b:Nat)(acc:List Pc)(s:ByteArray)(d:Nat)(k:Int)(p:Nat->Bool)(w:World)(h:fq base b acc s d w)(hl:acc.length<=10000):
  Calls prog 140 #[.pointer (some ⟨b,0,none⟩),.int .i64 k,(.agg #[.int .u64 (wd p 0),.int .u64 (wd p 1),.int .u64 (wd p 2),.int .u64 (wd p 3)])] w fun e w'=>e=.returned (.tuple #[])/\fq base b (acc++[⟨k,p⟩]) s d w'/\aU base b w w':=by
 obtain⟨i0,hi,dP,dc,db⟩:=info_parts oW;have H2:=hid (h.ae ((Below.refl _ w).alloc (le_refl _) (.cells #[.int .u64 (wd p 0),.int .u64 (wd p 1),.int .u64 (wd p 2),.int .u64 (wd p 3)] 146)));have HK:=hid ((aU.refl base b w).below h.low ((Below.refl _ w).alloc (le_refl _) (.cells #[.int .u64 (wd p 0),.int .u64 (wd p 1),.int .u64 (wd p 2),.int .u64 (wd p 3)] 146)));have HS:=hid (St.new w 146 #[.int .u64 (wd p 0),.int .u64 (wd p 1),.int .u64 (wd p 2),.int .u64 (wd p 3)]);have Av:Hid (fe (acc++[⟨k,p⟩])=fe acc++[.int .i64 k,.int .u64 (wd p 0),.int .u64 (wd p 1),.int .u64 (wd p 2),.int .u64 (wd p 3)]):=by
  show _=_;rw[Ic];rfl
 have Hs:Hid ((acc++[(⟨k,p⟩:Pc)]).length=acc.length+1):=by show _=_;simp
 have eC:=h.lt;have vI:(fe acc).length=acc.length*5:=Gp acc;clear h;go_in;go_wp2_with fail;generalize w.alloc (.cells #[.int .u64 (wd p 0),.int .u64 (wd p 1),.int .u64 (wd p 2),.int .u64 (wd p 3)] 146)=W2 at H2 HK HS⊢;obtain⟨c0,c1,c2,c3,-⟩:=bZ HS.o;have dK:=H2.o.low;have lu:=H2.o.lt;obtain⟨hB,v,pR,az,hne⟩:=H2.o;have d1:W2.cell? ⟨b,1,none⟩=some v:=by rw[cell_of_heap pR];rfl
 obtain⟨ao,IA,rfl⟩:=cy az;clear HS H2
 go_region_law (
  refine step_append_lies _ (by rfl) _ _ _ (by rfl) base 148 i0 (.agg #[.int .i64 0,.int .u64 0,.int .u64 0,.int .u64 0,.int .u64 0]) 5 40 underlying110 hi dP dc db (by rfl) (by decide) _ acc.length (fe acc) (by rfl) (by first|exact az.drew.alloc _|exact (az.alloc _).drew) ⟨W2.heap.size,0,none⟩ 1 1 [.int .i64 k,.int .u64 (wd p 0),.int .u64 (wd p 1),.int .u64 (wd p 2),.int .u64 (wd p 3)] (by rfl) (by rfl) (World.news_of_block (cs:=#[.int .i64 k,.int .u64 (wd p 0),.int .u64 (wd p 1),.int .u64 (wd p 2),.int .u64 (wd p 3)]) (by first|exact heap_alloc_new _ _|exact St.new _ _ _)) (by intro u hu;simp at hu;rcases hu with rfl|rfl|rfl|rfl|rfl <;> rfl) (by omega) (by unfold maxLen;omega) (by omega) (by simp;omega) _ (by rfl) ?_
  intro g cap w1 JF dG fD Du
  have cH:w1.heap[b]?=some (.cells #[.string s,.slice ao acc.length IA,.int .i64 (d:Int)] 154 (0,0)):=(dG.block b (by simp;omega) (fun e=>hne e.symm)).trans ((Lib.alloc_old _ _ b (by first|exact lu|(simp;omega))).trans pR)
  have e1:w1.cell? ⟨b,1,none⟩=some (.slice ao acc.length IA):=by (rw[cell_of_heap cH];rfl)
  have f1:w1.frozen? ⟨b,1,none⟩=false:=Lib.frozen_of_heap cH 1)
 all_goals
  go_wp2_with fail
  go_end0
  have sd:(Value.slice (some ⟨g,0,none⟩) (acc.length+1) cap).ownBlock≠some b:=by
   intro e;simp[Value.ownBlock] at e;rcases fD with fD|fD
   ·exact hne (fD.trans (by rw[e]))
   simp at fD;omega
  refine⟨rfl,⟨hB,_,?_,?_,sd⟩,?_⟩
  ·simp[World.setCell,Array.getElem?_modify,cH]
  ·rw[Av.o,Hs.o];exact JF.kept (row:=some b) ⟨rfl,rfl,rfl,by simp[World.setCell],fun k _ hk=>heap_setCell _ _ _ _ (fun e=>hk (by simp[e]))⟩ (inr sd)
  ·refine (HK.o.trans ?_).set hB 1 _;refine⟨?_,?_⟩
   ·refine Below.grown ?_ dG (by simp;omega) (fun k hk=>(az.lt k hk).1)
    first|exact (Below.refl _ _).drew.alloc dK _|exact ((Below.refl _ _).alloc dK _).drew
   refine Lib.OthersKept.grown ?_ dG (Lib.ownsRow_kind (by first|exact az.drew.alloc _|exact (az.alloc _).drew))
   first|exact (Lib.OthersKept.refl _ _ _).drew.alloc _|exact ((Lib.OthersKept.refl _ _ _).alloc _).drew
theorem Md(s:ByteArray)(h:0<s.size):aa s=s[0].toNat :: (aa s).drop 1:=by
 have:=Im s 0 h;simpa using this
theorem Nf(s:ByteArray)(h:s.size=0):aa s=[]:=by
 have:=o0 s;exact List.length_eq_zero_iff.1 (by omega)
theorem Mc(s:ByteArray)(h:s.size=0):s.toList=[]:=by rw[ByteArray.toList_eq];exact List.eq_nil_of_length_eq_zero (by simpa using h)
theorem oZ(base b:Nat)(acc:List Pc)(s:ByteArray)(d c:Nat)(w:World)(h:fq base b acc s d w)(hc:aw c (aa s)=none):
  Calls prog 139 #[.pointer (some ⟨b,0,none⟩),.int .u8 c] w fun e w'=>e=.returned (.bool false)/\w=w':=by
 obtain⟨c0,-⟩:=h.rest;clear h;rcases eq_zero_or_pos s.size with hz|hp
 ·have hl:s.toList=[]:=Mc s hz;have iu:s.toList.isEmpty=true:=by rw[hl];rfl
  clear hc hz;go_in;go_wp2;go_ret;exact⟨rfl,rfl⟩
 have hl:s.toList.isEmpty=false:=AL s hp;have iu:(!s.toList.isEmpty)=true:=by rw[hl];rfl
 have hne:s[0].toNat≠c:=by
  intro e;rw[Md s hp] at hc;simp[aw,e] at hc
 have e0:((s[0].toNat:Int) != (c:Int))=true:=by simp;omega
 clear hc hne;go_in;go_wp2;go_ret;exact⟨rfl,rfl⟩
theorem vV(base b:Nat)(acc:List Pc)(s:ByteArray)(d c:Nat)(r:List Nat)(w:World)(h:fq base b acc s d w)(hc:aw c (aa s)=some r)(hs:s.size<=10000):
  Calls prog 139 #[.pointer (some ⟨b,0,none⟩),.int .u8 c] w fun e w'=>e=.returned (.bool true)/\aU base b w w'/\∃s',aa s'=r/\s'.size+1=s.size/\fq base b acc s' d w':=by
 obtain⟨c0,f0⟩:=h.rest;have HP:=hid h;clear h;have e:=xm hc;have cQ:=o0 s;rw[e] at cQ;simp at cQ;have hp:0<s.size:=by omega
 have hl:s.toList.isEmpty=false:=AL s hp;have iu:(!s.toList.isEmpty)=true:=by rw[hl];rfl
 have h2:=Md s hp;rw[e] at h2;simp at h2;have e0:((s[0].toNat:Int) != (c:Int))=false:=by simp;omega
 have HR:Hid (aa (s.extract 1 s.size)=r):=by show _=_;rw[GS,e];rfl
 have HZ:Hid ((s.extract 1 s.size).size+1=s.size):=by show _=_;rw[ByteArray.size_extract];omega
 clear hc e cQ h2;go_in;go_wp2;go_ret;exact⟨rfl,(aU.refl base b w).set HP.o.1 0 _,_,HR.o,HZ.o,HP.o.lN _⟩
theorem Qb(base b:Nat)(acc:List Pc)(s sp:ByteArray)(d:Nat)(w:World)(h:fq base b acc s d w)(hs:s.size<=10000)(hc:aI sp (aa s)=none):
  Calls prog 197 #[.pointer (some ⟨b,0,none⟩),.string sp] w fun e w'=>e=.returned (.tuple #[.int .u8 0,.bool false])/\ϐ w w':=by
 obtain⟨c0,f0⟩:=h.rest;clear h;unfold aI at hc;have aq:=Gg (aa s) (Al s);rcases hr:rd (aa s) with ⟨a,n,o⟩;rw[hr] at hc aq;simp only at hc aq;have HR:=hid hr;have HM:Hid (s.size<=maxLen):=by show _<=_;unfold maxLen;omega
 clear hr;rcases o with _|_
 ·clear hc;go_in;go_wp2_with fail;refine (Kw s HM.o _).mono ?_;rintro e w1 ⟨rfl,b1⟩;rw[HR.o,Co];go_wp2;go_ret2;exact⟨rfl,b1⟩
 have gj:n=1/\fZ sp a=true:=by simpa using hc
 obtain⟨rfl,h2⟩:=gj;have h3:=Ro sp a aq.1;rw[h2] at h3;have h4:0<=iK sp a:=by simpa using h3
 clear hc h2 h3 aq;go_in;go_wp2_with fail;refine (Kw s HM.o _).mono ?_;rintro e w1 ⟨rfl,b1⟩;rw[HR.o,Co];go_wp2_with fail;refine (Oz sp a _).mono ?_;rintro e w2 ⟨rfl,rfl⟩;go_wp2;go_ret2;exact⟨rfl,b1⟩
theorem FH(base b:Nat)(acc:List Pc)(s sp:ByteArray)(d c:Nat)(r:List Nat)(w:World)(h:fq base b acc s d w)(hs:s.size<=10000)(hc:aI sp (aa s)=some (c,r)):
  Calls prog 197 #[.pointer (some ⟨b,0,none⟩),.string sp] w fun e w'=>e=.returned (.tuple #[.int .u8 c,.bool true])/\c<256/\aU base b w w'/\∃s',aa s'=r/\s'.size<s.size/\fq base b acc s' d w':=by
 obtain⟨c0,f0⟩:=h.rest;have HP:=hid h;have dK:=h.low;have eC:=h.lt;have hlen:=Ns hc;clear h;unfold aI at hc;have aq:=Gg (aa s) (Al s);rcases hr:rd (aa s) with ⟨a,n,o⟩;rw[hr] at hc aq;simp only at hc aq;have HR:=hid hr;have HM:Hid (s.size<=maxLen):=by show _<=_;unfold maxLen;omega
 clear hr;split at hc
 ·rename_i tZ;obtain⟨rfl,tZ⟩:=tZ;simp only[Option.some.injEq,Prod.mk.injEq] at hc;obtain⟨rfl,hc⟩:=hc;have hn:=aq.2 rfl;rw[o0] at hn;have ha:=aq.1;have Eh:Hid (aa (s.extract n s.size)=r):=by show _=_;rw[GS,hc]
  have HZ:Hid ((s.extract n s.size).size<s.size):=by show _<_;rw[ByteArray.size_extract];omega
  have h3:=Ro sp a ha;have h4:n≠1\/iK sp a<0:=by
   by_cases h1:n=1
   ·right;have:fZ sp a=false:=by
     rcases h5:fZ sp a with _|_
     ·rfl
     exact absurd ⟨h1,h5⟩ tZ
    rw[this] at h3;simpa using h3
   left;exact h1
  clear hc aq tZ hlen h3;rcases h4 with h4|h4
  ·have e1:((n:Int) == 1)=false:=(by simp;omega);go_in;go_wp2_with fail;refine (Kw s HM.o _).mono ?_;rintro e w1 ⟨rfl,b1⟩;rw[HR.o,Co];have fP:=hid (HP.o.ae b1);obtain⟨d0,g0⟩:=fP.o.rest;have HK:=hid ((aU.refl base b w).below dK b1);go_wp2;go_ret2;exact⟨rfl,ha,HK.o.set HP.o.1 0 _,_,Eh.o,HZ.o,fP.o.lN _⟩
  by_cases h5:n=1
  ·subst h5;go_in;go_wp2_with fail;refine (Kw s HM.o _).mono ?_;rintro e w1 ⟨rfl,b1⟩;rw[HR.o,Co];have fP:=hid (HP.o.ae b1);obtain⟨d0,g0⟩:=fP.o.rest;have HK:=hid ((aU.refl base b w).below dK b1);go_wp2_with fail;refine (Oz sp a _).mono ?_;rintro e w2 ⟨rfl,rfl⟩;go_wp2;go_ret2;exact⟨rfl,ha,HK.o.set HP.o.1 0 _,_,Eh.o,HZ.o,fP.o.lN _⟩
  have e1:((n:Int) == 1)=false:=by simp;omega
  go_in;go_wp2_with fail;refine (Kw s HM.o _).mono ?_;rintro e w1 ⟨rfl,b1⟩;rw[HR.o,Co];have fP:=hid (HP.o.ae b1);obtain⟨d0,g0⟩:=fP.o.rest;have HK:=hid ((aU.refl base b w).below dK b1);go_wp2;go_ret2;exact⟨rfl,ha,HK.o.set HP.o.1 0 _,_,Eh.o,HZ.o,fP.o.lN _⟩
 simp at hc
theorem aU.ix{base b:Nat}{w0:World}(h:aU base b w0 w)(hg:base<=g)(hs:∃cs fz,w.heap[g]?=some (.cells cs 146 fz))(hgn:w0.heap.size<=g)(d0 d1 d2 d3:Value):
  aU base b w0 ((((w.setCell ⟨g,0,none⟩ d0).setCell ⟨g,1,none⟩ d1).setCell ⟨g,2,none⟩ d2).setCell ⟨g,3,none⟩ d3):=by
 refine⟨td h.1 hg _ _ _ _,?_⟩;intro k o hk hb ho;have aq:=(Array.getElem?_eq_some_iff.1 hk).1;have h1:=h.2 k o hk hb ho;rw[heap_setCell _ _ _ _ (by show k≠g;omega),heap_setCell _ _ _ _ (by show k≠g;omega),heap_setCell _ _ _ _ (by show k≠g;omega),heap_setCell _ _ _ _ (by show k≠g;omega)];exact h1
theorem fq.ix{base b:Nat}{s:ByteArray}(h:fq base b acc s d w)(hg:g≠b)(hs:∃cs fz,w.heap[g]?=some (.cells cs 146 fz))(d0 d1 d2 d3:Value):
  fq base b acc s d ((((w.setCell ⟨g,0,none⟩ d0).setCell ⟨g,1,none⟩ d1).setCell ⟨g,2,none⟩ d2).setCell ⟨g,3,none⟩ d3):=by
 obtain⟨h1,v,h2,h3,h4⟩:=h;have hv:v.ownBlock≠some g:=by
  intro e;obtain⟨c,fz,hc⟩:=Lib.ownsRow_kind h3 g e;obtain⟨cs,XB,hs⟩:=hs;rw[hs] at hc;simp at hc
 refine⟨h1,v,?_,?_,h4⟩
 ·rw[heap_setCell _ _ _ _ (by show b≠g;omega),heap_setCell _ _ _ _ (by show b≠g;omega),heap_setCell _ _ _ _ (by show b≠g;omega),heap_setCell _ _ _ _ (by show b≠g;omega)];exact h2
 have step:∀(W:World) (j:Nat) (u:Value),W.ownsRow base 148 5 v acc.length (fe acc)->(W.setCell ⟨g,j,none⟩ u).ownsRow base 148 5 v acc.length (fe acc):=fun W j u ho=>ho.kept (row:=some g) ⟨rfl,rfl,rfl,by simp[World.setCell],fun k _ hk=>heap_setCell _ _ _ _ (fun e=>hk (by simp[e]))⟩ (inr hv)
 exact step _ _ _ (step _ _ _ (step _ _ _ (step _ _ _ h3)))
theorem St.is(h:St w t g cs):∃cs fz,w.heap[g]?=some (.cells cs t fz):=⟨cs,(0,0),h⟩
theorem zn0(base b:Nat)(acc:List Pc)(s:ByteArray)(d:Nat)(w:World)(h:fq base b acc s d w)(hs:s.size<=10000)(h1:aI du (aa s)=none):
  Calls prog 206 #[.pointer (some ⟨b,0,none⟩)] w fun e w'=>(∃q:Nat->Bool,e=.returned (.tuple #[(.agg #[.int .u64 (wd q 0),.int .u64 (wd q 1),.int .u64 (wd q 2),.int .u64 (wd q 3)]),.bool false]))/\aU base b w w':=by
 have eC:=h.lt;have dK:=h.low;have HB:=h.1;have dX:=hid (St.new w 146 #[.int .u64 0,.int .u64 0,.int .u64 0,.int .u64 0]);have k0:aU base b w (w.alloc (.cells #[.int .u64 0,.int .u64 0,.int .u64 0,.int .u64 0] 146)):=(aU.refl base b w).below dK ((Below.refl _ w).alloc (le_refl _) _);have ml:=hid (h.ae ((Below.refl _ w).alloc (le_refl _) (.cells #[.int .u64 0,.int .u64 0,.int .u64 0,.int .u64 0] 146)));have qP:=hid k0;clear h k0;go_in;go_wp2_with fail;refine (Qb base b acc s du d _ ml.o hs h1).mono ?_;rintro e w1 ⟨rfl,b1⟩;have ni:=hid (qP.o.below ml.o.low b1);have pD:=hid (dX.o.ae b1);clear b1 ml qP dX;go_wp2_with fail;refine (LP 0 0 (by decide) (by decide) _).mono ?_;rintro e w9 ⟨rfl,b9⟩;have ic:=hid (ni.o.below (le_trans dK ni.o.size) b9);obtain⟨q0,q1,q2,q3,q4,q5,q6,q7⟩:=bZ (pD.o.ae b9);have BC:=ic.o.size;have tb:=hid (pD.o.ae b9);clear b9;go_wp2_with fail;exact bodyPost_ret (v:=.tuple #[(.agg #[.int .u64 ((wd (av 0 (0+1-0)) 0:Nat):Int),.int .u64 ((wd (av 0 (0+1-0)) 1:Nat):Int),.int .u64 ((wd (av 0 (0+1-0)) 2:Nat):Int),.int .u64 ((wd (av 0 (0+1-0)) 3:Nat):Int)]),.bool false]) (by first|(simp[results,results206,go_sem,q0,q1,q2,q3];done)|(simp[results,results206,go_sem,q0,q1,q2,q3];omega)) rfl ⟨⟨_,rfl⟩,(ic.o.ix dK (tb.o.is) (le_refl _) _ _ _ _)⟩
theorem zn1(base b:Nat)(acc:List Pc)(s:ByteArray)(d:Nat)(a:Nat)(r r1:List Nat)(w:World)(h:fq base b acc s d w)(hs:s.size<=10000)(h1:aI du (aa s)=some (a,r))(h2:aw 45 r=some r1)(h3:aI du r1=none):
  Calls prog 206 #[.pointer (some ⟨b,0,none⟩)] w fun e w'=>(∃q:Nat->Bool,e=.returned (.tuple #[(.agg #[.int .u64 (wd q 0),.int .u64 (wd q 1),.int .u64 (wd q 2),.int .u64 (wd q 3)]),.bool false]))/\aU base b w w':=by
 have eC:=h.lt;have dK:=h.low;have HB:=h.1;have dX:=hid (St.new w 146 #[.int .u64 0,.int .u64 0,.int .u64 0,.int .u64 0]);have k0:aU base b w (w.alloc (.cells #[.int .u64 0,.int .u64 0,.int .u64 0,.int .u64 0] 146)):=(aU.refl base b w).below dK ((Below.refl _ w).alloc (le_refl _) _);have ml:=hid (h.ae ((Below.refl _ w).alloc (le_refl _) (.cells #[.int .u64 0,.int .u64 0,.int .u64 0,.int .u64 0] 146)));have qP:=hid k0;clear h k0;go_in;go_wp2_with fail;refine (FH base b acc s du d a r _ ml.o hs h1).mono ?_;rintro e w1 ⟨rfl,ie,k1,s1,dr,dc,gG⟩;have ni:=hid (qP.o.trans k1);have pD:=hid (dX.o.hJ k1 (by omega) (by decide));have fP:=hid gG;have uh:=hid dr;clear k1 gG dr ml qP dX;go_wp2_with fail;refine (vV base b acc s1 d 45 r1 _ fP.o (by rw[uh.o];exact h2) (by omega)).mono ?_;rintro e w2 ⟨rfl,k2,s2,dd,db,fR⟩;have pA:=hid (ni.o.trans k2);have kF:=hid (pD.o.hJ k2 (by omega) (by decide));have jA:=hid fR;have pn:=hid dd;clear k2 fR dd fP ni pD;go_wp2_with fail;refine (Qb base b acc s2 du d _ jA.o (by omega) (by rw[pn.o];exact h3)).mono ?_;rintro e w3 ⟨rfl,b3⟩;have xZ:=hid (pA.o.below jA.o.low b3);have vG:=hid (kF.o.ae b3);clear b3 jA pA kF;go_wp2_with fail;refine (LP a 0 ie (by decide) _).mono ?_;rintro e w9 ⟨rfl,b9⟩;have ic:=hid (xZ.o.below (le_trans dK xZ.o.size) b9);obtain⟨q0,q1,q2,q3,q4,q5,q6,q7⟩:=bZ (vG.o.ae b9);have BC:=ic.o.size;have tb:=hid (vG.o.ae b9);clear b9;go_wp2_with fail;exact bodyPost_ret (v:=.tuple #[(.agg #[.int .u64 ((wd (av a (0+1-a)) 0:Nat):Int),.int .u64 ((wd (av a (0+1-a)) 1:Nat):Int),.int .u64 ((wd (av a (0+1-a)) 2:Nat):Int),.int .u64 ((wd (av a (0+1-a)) 3:Nat):Int)]),.bool false]) (by first|(simp[results,results206,go_sem,q0,q1,q2,q3];done)|(simp[results,results206,go_sem,q0,q1,q2,q3];omega)) rfl ⟨⟨_,rfl⟩,(ic.o.ix dK (tb.o.is) (le_refl _) _ _ _ _)⟩
theorem zn2(base b:Nat)(acc:List Pc)(s:ByteArray)(d:Nat)(a c:Nat)(r r1 r2:List Nat)(w:World)(h:fq base b acc s d w)(hs:s.size<=10000)(h1:aI du (aa s)=some (a,r))(h2:aw 45 r=some r1)(h3:aI du r1=some (c,r2))(h4:c<a):
  Calls prog 206 #[.pointer (some ⟨b,0,none⟩)] w fun e w'=>(∃q:Nat->Bool,e=.returned (.tuple #[(.agg #[.int .u64 (wd q 0),.int .u64 (wd q 1),.int .u64 (wd q 2),.int .u64 (wd q 3)]),.bool false]))/\aU base b w w':=by
 have eC:=h.lt;have dK:=h.low;have HB:=h.1;have dX:=hid (St.new w 146 #[.int .u64 0,.int .u64 0,.int .u64 0,.int .u64 0]);have k0:aU base b w (w.alloc (.cells #[.int .u64 0,.int .u64 0,.int .u64 0,.int .u64 0] 146)):=(aU.refl base b w).below dK ((Below.refl _ w).alloc (le_refl _) _);have ml:=hid (h.ae ((Below.refl _ w).alloc (le_refl _) (.cells #[.int .u64 0,.int .u64 0,.int .u64 0,.int .u64 0] 146)));have qP:=hid k0;clear h k0;go_in;go_wp2_with fail;refine (FH base b acc s du d a r _ ml.o hs h1).mono ?_;rintro e w1 ⟨rfl,ie,k1,s1,dr,dc,gG⟩;have ni:=hid (qP.o.trans k1);have pD:=hid (dX.o.hJ k1 (by omega) (by decide));have fP:=hid gG;have uh:=hid dr;clear k1 gG dr ml qP dX;go_wp2_with fail;refine (vV base b acc s1 d 45 r1 _ fP.o (by rw[uh.o];exact h2) (by omega)).mono ?_;rintro e w2 ⟨rfl,k2,s2,dd,db,fR⟩;have pA:=hid (ni.o.trans k2);have kF:=hid (pD.o.hJ k2 (by omega) (by decide));have jA:=hid fR;have pn:=hid dd;clear k2 fR dd fP ni pD;go_wp2_with fail;refine (FH base b acc s2 du d c r2 _ jA.o (by omega) (by rw[pn.o];exact h3)).mono ?_;rintro e w3 ⟨rfl,vp,k3,s3,mH,KG,ik⟩;have xZ:=hid (pA.o.trans k3);have vG:=hid (kF.o.hJ k3 (by omega) (by decide));have CW:=hid ik;have yU:=hid mH;clear k3 ik mH jA pA kF;go_wp2_with fail;refine (LP a c ie vp _).mono ?_;rintro e w9 ⟨rfl,b9⟩;have ic:=hid (xZ.o.below CW.o.low b9);have O4:=hid (CW.o.ae b9);obtain⟨q0,q1,q2,q3,q4,q5,q6,q7⟩:=bZ (vG.o.ae b9);have BC:=ic.o.size;have tb:=hid (vG.o.ae b9);clear b9;go_wp2_with fail;exact bodyPost_ret (v:=.tuple #[(.agg #[.int .u64 ((wd (av a (c+1-a)) 0:Nat):Int),.int .u64 ((wd (av a (c+1-a)) 1:Nat):Int),.int .u64 ((wd (av a (c+1-a)) 2:Nat):Int),.int .u64 ((wd (av a (c+1-a)) 3:Nat):Int)]),.bool false]) (by first|(simp[results,results206,go_sem,q0,q1,q2,q3];done)|(simp[results,results206,go_sem,q0,q1,q2,q3];omega)) rfl ⟨⟨_,rfl⟩,(ic.o.ix dK (tb.o.is) (le_refl _) _ _ _ _)⟩
theorem zlX(base b:Nat)(acc:List Pc)(s:ByteArray)(d:Nat)(a:Nat)(r:List Nat)(w:World)(h:fq base b acc s d w)(hs:s.size<=10000)(h1:aI du (aa s)=some (a,r))(h2:aw 45 r=none):
  Calls prog 206 #[.pointer (some ⟨b,0,none⟩)] w fun e w'=>e=.returned (.tuple #[(.agg #[.int .u64 ((wd (av a (a+1-a)) 0:Nat):Int),.int .u64 ((wd (av a (a+1-a)) 1:Nat):Int),.int .u64 ((wd (av a (a+1-a)) 2:Nat):Int),.int .u64 ((wd (av a (a+1-a)) 3:Nat):Int)]),.bool true])/\aU base b w w'/\∃s',aa s'=r/\s'.size<s.size/\fq base b acc s' d w':=by
 have eC:=h.lt;have dK:=h.low;have HB:=h.1;have dX:=hid (St.new w 146 #[.int .u64 0,.int .u64 0,.int .u64 0,.int .u64 0]);have k0:aU base b w (w.alloc (.cells #[.int .u64 0,.int .u64 0,.int .u64 0,.int .u64 0] 146)):=(aU.refl base b w).below dK ((Below.refl _ w).alloc (le_refl _) _);have ml:=hid (h.ae ((Below.refl _ w).alloc (le_refl _) (.cells #[.int .u64 0,.int .u64 0,.int .u64 0,.int .u64 0] 146)));have qP:=hid k0;clear h k0;go_in;go_wp2_with fail;refine (FH base b acc s du d a r _ ml.o hs h1).mono ?_;rintro e w1 ⟨rfl,ie,k1,s1,dr,dc,gG⟩;have ni:=hid (qP.o.trans k1);have pD:=hid (dX.o.hJ k1 (by omega) (by decide));have fP:=hid gG;have uh:=hid dr;clear k1 gG dr ml qP dX;go_wp2_with fail;refine (oZ base b acc s1 d 45 _ fP.o (by rw[uh.o];exact h2)).mono ?_;rintro e w2 ⟨rfl,rfl⟩;go_wp2_with fail;refine (LP a a ie ie _).mono ?_;rintro e w9 ⟨rfl,b9⟩;have ic:=hid (ni.o.below fP.o.low b9);have O4:=hid (fP.o.ae b9);obtain⟨q0,q1,q2,q3,q4,q5,q6,q7⟩:=bZ (pD.o.ae b9);have BC:=ic.o.size;have tb:=hid (pD.o.ae b9);clear b9;go_wp2_with fail;exact bodyPost_ret (v:=.tuple #[(.agg #[.int .u64 ((wd (av a (a+1-a)) 0:Nat):Int),.int .u64 ((wd (av a (a+1-a)) 1:Nat):Int),.int .u64 ((wd (av a (a+1-a)) 2:Nat):Int),.int .u64 ((wd (av a (a+1-a)) 3:Nat):Int)]),.bool true]) (by first|(simp[results,results206,go_sem,q0,q1,q2,q3];done)|(simp[results,results206,go_sem,q0,q1,q2,q3];omega)) rfl ⟨rfl,(ic.o.ix dK (tb.o.is) (le_refl _) _ _ _ _),s1,uh.o,dc,O4.o.ix (by omega) (tb.o.is) _ _ _ _⟩
theorem zlY(base b:Nat)(acc:List Pc)(s:ByteArray)(d:Nat)(a c:Nat)(r r1 r2:List Nat)(w:World)(h:fq base b acc s d w)(hs:s.size<=10000)(h1:aI du (aa s)=some (a,r))(h2:aw 45 r=some r1)(h3:aI du r1=some (c,r2))(h4:a<=c):
  Calls prog 206 #[.pointer (some ⟨b,0,none⟩)] w fun e w'=>e=.returned (.tuple #[(.agg #[.int .u64 ((wd (av a (c+1-a)) 0:Nat):Int),.int .u64 ((wd (av a (c+1-a)) 1:Nat):Int),.int .u64 ((wd (av a (c+1-a)) 2:Nat):Int),.int .u64 ((wd (av a (c+1-a)) 3:Nat):Int)]),.bool true])/\aU base b w w'/\∃s',aa s'=r2/\s'.size<s.size/\fq base b acc s' d w':=by
 have eC:=h.lt;have dK:=h.low;have HB:=h.1;have dX:=hid (St.new w 146 #[.int .u64 0,.int .u64 0,.int .u64 0,.int .u64 0]);have k0:aU base b w (w.alloc (.cells #[.int .u64 0,.int .u64 0,.int .u64 0,.int .u64 0] 146)):=(aU.refl base b w).below dK ((Below.refl _ w).alloc (le_refl _) _);have ml:=hid (h.ae ((Below.refl _ w).alloc (le_refl _) (.cells #[.int .u64 0,.int .u64 0,.int .u64 0,.int .u64 0] 146)));have qP:=hid k0;clear h k0;go_in;go_wp2_with fail;refine (FH base b acc s du d a r _ ml.o hs h1).mono ?_;rintro e w1 ⟨rfl,ie,k1,s1,dr,dc,gG⟩;have ni:=hid (qP.o.trans k1);have pD:=hid (dX.o.hJ k1 (by omega) (by decide));have fP:=hid gG;have uh:=hid dr;clear k1 gG dr ml qP dX;go_wp2_with fail;refine (vV base b acc s1 d 45 r1 _ fP.o (by rw[uh.o];exact h2) (by omega)).mono ?_;rintro e w2 ⟨rfl,k2,s2,dd,db,fR⟩;have pA:=hid (ni.o.trans k2);have kF:=hid (pD.o.hJ k2 (by omega) (by decide));have jA:=hid fR;have pn:=hid dd;clear k2 fR dd fP ni pD;go_wp2_with fail;refine (FH base b acc s2 du d c r2 _ jA.o (by omega) (by rw[pn.o];exact h3)).mono ?_;rintro e w3 ⟨rfl,vp,k3,s3,mH,KG,ik⟩;have xZ:=hid (pA.o.trans k3);have vG:=hid (kF.o.hJ k3 (by omega) (by decide));have CW:=hid ik;have yU:=hid mH;clear k3 ik mH jA pA kF;go_wp2_with fail;refine (LP a c ie vp _).mono ?_;rintro e w9 ⟨rfl,b9⟩;have ic:=hid (xZ.o.below CW.o.low b9);have O4:=hid (CW.o.ae b9);obtain⟨q0,q1,q2,q3,q4,q5,q6,q7⟩:=bZ (vG.o.ae b9);have BC:=ic.o.size;have tb:=hid (vG.o.ae b9);clear b9;go_wp2_with fail;exact bodyPost_ret (v:=.tuple #[(.agg #[.int .u64 ((wd (av a (c+1-a)) 0:Nat):Int),.int .u64 ((wd (av a (c+1-a)) 1:Nat):Int),.int .u64 ((wd (av a (c+1-a)) 2:Nat):Int),.int .u64 ((wd (av a (c+1-a)) 3:Nat):Int)]),.bool true]) (by first|(simp[results,results206,go_sem,q0,q1,q2,q3];done)|(simp[results,results206,go_sem,q0,q1,q2,q3];omega)) rfl ⟨rfl,(ic.o.ix dK (tb.o.is) (le_refl _) _ _ _ _),s3,yU.o,by omega,O4.o.ix (by omega) (tb.o.is) _ _ _ _⟩
theorem zlZ(base b:Nat)(acc:List Pc)(s:ByteArray)(d:Nat)(w:World)(h:fq base b acc s d w)(hs:s.size<=10000)(hc:cO (aa s)=none):
  Calls prog 206 #[.pointer (some ⟨b,0,none⟩)] w fun e w'=>(∃q:Nat->Bool,e=.returned (.tuple #[(.agg #[.int .u64 (wd q 0),.int .u64 (wd q 1),.int .u64 (wd q 2),.int .u64 (wd q 3)]),.bool false]))/\aU base b w w':=by
 unfold cO at hc;rcases h1:aI du (aa s) with _|⟨a,r⟩
 ·exact zn0 base b acc s d w h hs h1
 rw[h1] at hc;simp only at hc;rcases h2:aw 45 r with _|r1
 ·simp[h2] at hc
 rw[h2] at hc;simp only at hc;rcases h3:aI du r1 with _|⟨c,r2⟩
 ·exact zn1 base b acc s d a r r1 w h hs h1 h2 h3
 rw[h3] at hc;simp only at hc;exact zn2 base b acc s d a c r r1 r2 w h hs h1 h2 h3 (by
  rcases Nat.lt_or_ge c a with h|h
  ·exact h
  ·simp[h] at hc)
theorem ziZ(base b:Nat)(acc:List Pc)(s:ByteArray)(d a c:Nat)(r:List Nat)(w:World)(h:fq base b acc s d w)(hs:s.size<=10000)(hc:cO (aa s)=some (a,c,r)):
  Calls prog 206 #[.pointer (some ⟨b,0,none⟩)] w fun e w'=>e=.returned (.tuple #[(.agg #[.int .u64 ((wd (av a (c+1-a)) 0:Nat):Int),.int .u64 ((wd (av a (c+1-a)) 1:Nat):Int),.int .u64 ((wd (av a (c+1-a)) 2:Nat):Int),.int .u64 ((wd (av a (c+1-a)) 3:Nat):Int)]),.bool true])/\aU base b w w'/\∃s',aa s'=r/\s'.size<s.size/\fq base b acc s' d w':=by
 unfold cO at hc;rcases h1:aI du (aa s) with _|⟨a1,r1⟩
 ·simp[h1] at hc
 rw[h1] at hc;simp only at hc;rcases h2:aw 45 r1 with _|r2
 ·simp[h2] at hc;obtain⟨rfl,rfl,rfl⟩:=hc;exact zlX base b acc s d a1 r1 w h hs h1 h2
 rw[h2] at hc;simp only at hc;rcases h3:aI du r2 with _|⟨c1,r3⟩
 ·simp[h3] at hc
 rw[h3] at hc;simp only at hc;split at hc
 ·rename_i hle;simp at hc;obtain⟨rfl,rfl,rfl⟩:=hc;exact zlY base b acc s d a1 c1 r1 r2 r3 w h hs h1 h2 h3 hle
 simp at hc
def fL(w:World)(a:Addr):Nat:=match w.cell? a with
 | some (.string s)=>s.size
 | _=>0
theorem fq.fL{base b:Nat}{s:ByteArray}(h:fq base b acc s d w):fL w ⟨b,0,none⟩=s.size:=by
 unfold Go.Proofs.YtiijebameffenaaGreat.fL;rw[h.rest.1]
theorem zdx(f:Nat)(q:Nat->Bool)(s:List Nat)(a c:Nat)(r:List Nat)(hf:s.length<f)(h1:aw 93 s=none)(h2:cO s=some (a,c,r)):
  ∃g,r.length<g/\aD f q s=aD g (fun x=>q x || av a (c+1-a) x) r:=by
 match f,hf with
 | f+1,hf=>
  have:=(Pg h2).1;exact⟨f,by omega,by simp only[aD,h1,h2]⟩
theorem Yb(f:Nat)(q:Nat->Bool)(s r:List Nat)(hf:s.length<f)(h1:aw 93 s=some r):aD f q s=some (q,r):=by
 match f,hf with
 | f+1,hf=>simp only[aD,h1]
theorem ze0(f:Nat)(q:Nat->Bool)(s:List Nat)(hf:s.length<f)(h1:aw 93 s=none)(h2:cO s=none):aD f q s=none:=by
 match f,hf with
 | f+1,hf=>simp only[aD,h1,h2]
theorem Lh(t:Nat):(#[.int .u64 0,.int .u64 0,.int .u64 0,.int .u64 0]:Array Value)=#[.int .u64 (wd aO 0),.int .u64 (wd aO 1),.int .u64 (wd aO 2),.int .u64 (wd aO 3)]:=by
 have e:∀j,((wd aO j:Nat):Int)=0:=fun j=>by unfold aO;rw[xD];rfl
 simp only[e]
def LA(base b:Nat)(acc:List Pc)(d:Nat)(o:Option ((Nat->Bool) × List Nat))(w:World)(e:Ending)(w':World):Prop:=
 aU base b w w'/\(o=none->e=.returned (.bool false))/\∀q r,o=some (q,r)->e=.returned (.bool true)/\∃s',aa s'=r/\fq base b (acc++[⟨1,q⟩]) s' d w'
theorem zqu(base b:Nat)(acc:List Pc)(s:ByteArray)(d:Nat)(h0:aw 94 (aa s)=none)(w:World)(h:fq base b acc s d w)(hs:s.size<=10000)(vX:acc.length<=10000):
  Calls prog 196 #[.pointer (some ⟨b,0,none⟩)] w (LA base b acc d (ek (aa s)) w):=by
 have HX:Hid (ek (aa s)=match aD ((aa s).length+1) aO (aa s) with
  | none=>none
  | some (q,r1)=>if eD q=true then none else some (q,r1)):=by
  show _=_
  simp only[ek,h0]
  rfl
 generalize ek (aa s)=O at HX⊢;have eC:=h.lt;have dK:=h.low;have hB:=h.1;unfold LA;go_in;go_wp2_with fail;refine (oZ base b acc s d 94 _ h h0).mono ?_;rintro e w1 ⟨rfl,rfl⟩;obtain⟨s1,dr,dc,gG⟩:∃s1,aa s1=aa s/\s1.size<=s.size/\fq base b acc s1 d w:=⟨s,rfl,le_refl _,h⟩
 have k1:aU base b w w:=aU.refl _ _ _;obtain⟨R,hR⟩:=Ξ (aD ((aa s).length+1) aO (aa s))
 rw[hR] at HX;have qv:=hid hR;have K1:=hid (k1.below (le_trans dK k1.size) ((Below.refl _ w).alloc (le_refl _) (.cells #[.int .u64 0,.int .u64 0,.int .u64 0,.int .u64 0] 146)));have P1:=hid (gG.ae ((Below.refl _ w).alloc (le_refl _) (.cells #[.int .u64 0,.int .u64 0,.int .u64 0,.int .u64 0] 146)));have S1:Hid (St (w.alloc (.cells #[.int .u64 0,.int .u64 0,.int .u64 0,.int .u64 0] 146)) 146 w.heap.size #[.int .u64 (wd aO 0),.int .u64 (wd aO 1),.int .u64 (wd aO 2),.int .u64 (wd aO 3)]):=by
  have:=St.new w 146 #[.int .u64 0,.int .u64 0,.int .u64 0,.int .u64 0];rw[Lh 146] at this;rw[Lh 146];exact this
 have UX:=gG.lt;have CH:=k1.size;have uh:=hid dr;have Et:w.heap.size≠b:=by omega
 clear hR h k1 gG dr h0;go_wp2;go_loopw [9] (fun _ wr=>∃(f:Nat) (q:Nat->Bool) (s':ByteArray),(aa s').length<f/\Hid (aD f q (aa s')=R)/\s'.size<=s.size/\Hid (fq base b acc s' d wr)/\Hid (St wr 146 w.heap.size #[.int .u64 (wd q 0),.int .u64 (wd q 1),.int .u64 (wd q 2),.int .u64 (wd q 3)])/\Hid (aU base b w wr)/\w.heap.size<wr.heap.size) (fun _ wr=>fL wr ⟨b,0,none⟩)
 ·exact⟨_,aO,s1,lt_succ_self _,by show aD _ _ _=_;rw[uh.o];exact qv.o,by omega,P1,S1,K1,by simp⟩
 clear P1 S1 K1 qv;obtain⟨f,q,s',hf,HQ,cQ,P2,S2,K2,Lm⟩:=hrel;rcases h1:aw 93 (aa s') with _|r
 ·have HK:=hid h1;rcases h2:cO (aa s') with _|⟨a,c,r⟩
  ·have HZ:Hid (O=none):=by
    have:=HQ.o;rw[ze0 f q _ hf h1 h2] at this;show _=_;rw[HX.o,<-this]
   have H2:=hid h2;clear h1 h2 HX HQ;go_wp2_with fail;refine (oZ base b acc s' d 93 _ P2.o HK.o).mono ?_;rintro e w2 ⟨rfl,rfl⟩;go_wp2_with fail;refine (zlZ base b acc s' d _ P2.o (by omega) H2.o).mono ?_;rintro e w3 ⟨⟨q3,rfl⟩,k3⟩;have K3:=K2.o.trans k3;have qK:=K3.size;clear k3;go_wp2;go_ret;exact⟨K3.below (le_trans dK qK) ((Below.refl _ w3).alloc (le_refl _) _),fun _=>rfl,fun q r e=>by rw[HZ.o] at e;simp at e⟩
  obtain⟨f2,pw,jP⟩:=zdx f q _ a c r hf h1 h2;have wC:Hid (aD f2 (fun x=>q x || av a (c+1-a) x) r=R):=by show _=_;rw[<-jP];exact HQ.o
  have H2:=hid h2;have lG:=P2.o.fL;clear h1 h2 HQ jP;go_wp2_with fail;refine (oZ base b acc s' d 93 _ P2.o HK.o).mono ?_;rintro e w2 ⟨rfl,rfl⟩;go_wp2_with fail;refine (ziZ base b acc s' d a c r _ P2.o (by omega) H2.o).mono ?_;rintro e w3 ⟨rfl,k3,s3,mH,KG,ik⟩;have I1:=S2.o.hJ k3 Et (by decide);have qK:=k3.size;have K3:=hid ((K2.o.trans k3).below (le_trans dK (K2.o.trans k3).size) ((Below.refl _ w3).alloc (le_refl _) (.cells #[.int .u64 ((wd (av a (c+1-a)) 0:Nat):Int),.int .u64 ((wd (av a (c+1-a)) 1:Nat):Int),.int .u64 ((wd (av a (c+1-a)) 2:Nat):Int),.int .u64 ((wd (av a (c+1-a)) 3:Nat):Int)] 146)));have P3:=hid (ik.ae ((Below.refl _ w3).alloc (le_refl _) (.cells #[.int .u64 ((wd (av a (c+1-a)) 0:Nat):Int),.int .u64 ((wd (av a (c+1-a)) 1:Nat):Int),.int .u64 ((wd (av a (c+1-a)) 2:Nat):Int),.int .u64 ((wd (av a (c+1-a)) 3:Nat):Int)] 146)));have S3:=hid (I1.alloc (.cells #[.int .u64 ((wd (av a (c+1-a)) 0:Nat):Int),.int .u64 ((wd (av a (c+1-a)) 1:Nat):Int),.int .u64 ((wd (av a (c+1-a)) 2:Nat):Int),.int .u64 ((wd (av a (c+1-a)) 3:Nat):Int)] 146));have T3:=hid (St.new w3 146 #[.int .u64 ((wd (av a (c+1-a)) 0:Nat):Int),.int .u64 ((wd (av a (c+1-a)) 1:Nat):Int),.int .u64 ((wd (av a (c+1-a)) 2:Nat):Int),.int .u64 ((wd (av a (c+1-a)) 3:Nat):Int)]);obtain⟨c0,c1,c2,c3,-⟩:=bZ S3.o;obtain⟨d0,d1,d2,d3,-⟩:=bZ T3.o;have yU:=hid mH;clear k3 ik mH I1 P2 S2 K2;go_wp2_with fail;refine (Zm q (av a (c+1-a)) _).mono ?_;rintro e w5 ⟨rfl,b5⟩;have s5:=S3.o.ae b5;have jE:=b5.size;simp at jE;obtain⟨r0,VX,r2_,r3_,r4_,Zb,XI,r7_⟩:=bZ s5;have KK:=hid ((K3.o.below (le_trans dK K3.o.size) b5).ix (g:=w.heap.size) (by omega) (s5.is) (by omega) (.int .u64 ((wd (fun x=>q x || av a (c+1-a) x) 0:Nat):Int)) (.int .u64 ((wd (fun x=>q x || av a (c+1-a) x) 1:Nat):Int)) (.int .u64 ((wd (fun x=>q x || av a (c+1-a) x) 2:Nat):Int)) (.int .u64 ((wd (fun x=>q x || av a (c+1-a) x) 3:Nat):Int)));have PP:=hid ((P3.o.ae b5).ix (g:=w.heap.size) (by omega) (s5.is) (.int .u64 ((wd (fun x=>q x || av a (c+1-a) x) 0:Nat):Int)) (.int .u64 ((wd (fun x=>q x || av a (c+1-a) x) 1:Nat):Int)) (.int .u64 ((wd (fun x=>q x || av a (c+1-a) x) 2:Nat):Int)) (.int .u64 ((wd (fun x=>q x || av a (c+1-a) x) 3:Nat):Int)));have SS:=hid (s5.pQ (.int .u64 ((wd (fun x=>q x || av a (c+1-a) x) 0:Nat):Int)) (.int .u64 ((wd (fun x=>q x || av a (c+1-a) x) 1:Nat):Int)) (.int .u64 ((wd (fun x=>q x || av a (c+1-a) x) 2:Nat):Int)) (.int .u64 ((wd (fun x=>q x || av a (c+1-a) x) 3:Nat):Int)));have iB:=PP.o.fL;clear b5 s5 S3 T3 K3 P3 c0 c1 c2 c3 d0 d1 d2 d3;go_wp2;go_roundw
  ·exact⟨f2,fun x=>q x || av a (c+1-a) x,s3,by rw[yU.o];exact pw,by show aD _ _ _=_;rw[yU.o];exact wC.o,by omega,PP,SS,KK,by rw[Xr];omega⟩
  first|(simp only[lG,iB];omega)|(rw[lG,iB];omega)
 have HY:Hid (O=if eD q=true then none else some (q,r)):=by
  have:=HQ.o;rw[Yb f q _ r hf h1] at this;show _=_;rw[HX.o,<-this]
 have HK:=hid h1;clear h1 HX HQ;go_wp2_with fail;refine (vV base b acc s' d 93 r _ P2.o HK.o (by omega)).mono ?_;rintro e w2 ⟨rfl,k2,s2,dd,db,fR⟩;have S3:=hid (S2.o.hJ k2 Et (by decide));have K3:=hid (K2.o.trans k2);have P3:=hid fR;have pn:=hid dd;obtain⟨c0,c1,c2,c3,-⟩:=bZ S3.o;have RN:=k2.size;clear k2 fR dd S2 K2 P2;go_wp2_with fail;have KK:=K3;have PP:=P3;have SS:=S3;clear K3 P3 S3;obtain⟨c0,c1,c2,c3,-⟩:=bZ SS.o;go_wp2_with fail;refine (Gx base b acc s2 d 1 q _ PP.o vX).mono ?_;rintro e w7 ⟨rfl,Is,k7⟩;have s7:=SS.o.hJ k7 Et (by decide);have K7:=hid (KK.o.trans k7);have P7:=hid Is;clear c0 c1 c2 c3 k7 Is KK PP SS;obtain⟨c0,c1,c2,c3,-⟩:=bZ s7;obtain⟨o,ho⟩:=Ξ (eD q)
 have HO:=hid ho;clear ho;go_wp2_with fail;refine (Sw q o HO.o _).mono ?_;rintro e w8 ⟨rfl,b8⟩;have K8:=K7.o.below (le_trans dK K7.o.size) b8;have P8:=P7.o.ae b8;rcases o with _|_
 ·have HZ:Hid (O=some (q,r)):=by show _=_;rw[HY.o,HO.o];rfl
  go_wp2;go_ret;refine⟨K8,fun e=>by rw[HZ.o] at e;simp at e,fun q' r' e=>?_⟩;rw[HZ.o] at e;simp only[Option.some.injEq,Prod.mk.injEq] at e;obtain⟨rfl,rfl⟩:=e;exact⟨rfl,s2,pn.o,P8⟩
 have HZ:Hid (O=none):=by show _=_;rw[HY.o,HO.o];rfl
 go_wp2;go_ret;exact⟨K8,fun _=>rfl,fun q' r' e=>by rw[HZ.o] at e;simp at e⟩
theorem zqv(base b:Nat)(acc:List Pc)(s:ByteArray)(d:Nat)(rr:List Nat)(h0:aw 94 (aa s)=some rr)(w:World)(h:fq base b acc s d w)(hs:s.size<=10000)(vX:acc.length<=10000):
  Calls prog 196 #[.pointer (some ⟨b,0,none⟩)] w (LA base b acc d (ek (aa s)) w):=by
 have HX:Hid (ek (aa s)=match aD (rr.length+1) aO rr with
  | none=>none
  | some (q,r1)=>if eD (fun x=>!q x)=true then none else some ((fun x=>!q x),r1)):=by
  show _=_
  simp only[ek,h0]
  rfl
 generalize ek (aa s)=O at HX⊢;have eC:=h.lt;have dK:=h.low;have hB:=h.1;unfold LA;go_in;go_wp2_with fail;refine (vV base b acc s d 94 rr _ h h0 hs).mono ?_;rintro e w1 ⟨rfl,k1,s1,dr,dc,gG⟩;obtain⟨R,hR⟩:=Ξ (aD (rr.length+1) aO rr)
 rw[hR] at HX;have qv:=hid hR;have K1:=hid (k1.below (le_trans dK k1.size) ((Below.refl _ w1).alloc (le_refl _) (.cells #[.int .u64 0,.int .u64 0,.int .u64 0,.int .u64 0] 146)));have P1:=hid (gG.ae ((Below.refl _ w1).alloc (le_refl _) (.cells #[.int .u64 0,.int .u64 0,.int .u64 0,.int .u64 0] 146)));have S1:Hid (St (w1.alloc (.cells #[.int .u64 0,.int .u64 0,.int .u64 0,.int .u64 0] 146)) 146 w1.heap.size #[.int .u64 (wd aO 0),.int .u64 (wd aO 1),.int .u64 (wd aO 2),.int .u64 (wd aO 3)]):=by
  have:=St.new w1 146 #[.int .u64 0,.int .u64 0,.int .u64 0,.int .u64 0];rw[Lh 146] at this;rw[Lh 146];exact this
 have UX:=gG.lt;have CH:=k1.size;have uh:=hid dr;have Et:w1.heap.size≠b:=by omega
 clear hR h k1 gG dr h0;go_wp2;go_loopw [9] (fun _ wr=>∃(f:Nat) (q:Nat->Bool) (s':ByteArray),(aa s').length<f/\Hid (aD f q (aa s')=R)/\s'.size<=s.size/\Hid (fq base b acc s' d wr)/\Hid (St wr 146 w1.heap.size #[.int .u64 (wd q 0),.int .u64 (wd q 1),.int .u64 (wd q 2),.int .u64 (wd q 3)])/\Hid (aU base b w wr)/\w1.heap.size<wr.heap.size) (fun _ wr=>fL wr ⟨b,0,none⟩)
 ·exact⟨_,aO,s1,lt_succ_self _,by show aD _ _ _=_;rw[uh.o];exact qv.o,by omega,P1,S1,K1,by simp⟩
 clear P1 S1 K1 qv;obtain⟨f,q,s',hf,HQ,cQ,P2,S2,K2,Lm⟩:=hrel;rcases h1:aw 93 (aa s') with _|r
 ·have HK:=hid h1;rcases h2:cO (aa s') with _|⟨a,c,r⟩
  ·have HZ:Hid (O=none):=by
    have:=HQ.o;rw[ze0 f q _ hf h1 h2] at this;show _=_;rw[HX.o,<-this]
   have H2:=hid h2;clear h1 h2 HX HQ;go_wp2_with fail;refine (oZ base b acc s' d 93 _ P2.o HK.o).mono ?_;rintro e w2 ⟨rfl,rfl⟩;go_wp2_with fail;refine (zlZ base b acc s' d _ P2.o (by omega) H2.o).mono ?_;rintro e w3 ⟨⟨q3,rfl⟩,k3⟩;have K3:=K2.o.trans k3;have qK:=K3.size;clear k3;go_wp2;go_ret;exact⟨K3.below (le_trans dK qK) ((Below.refl _ w3).alloc (le_refl _) _),fun _=>rfl,fun q r e=>by rw[HZ.o] at e;simp at e⟩
  obtain⟨f2,pw,jP⟩:=zdx f q _ a c r hf h1 h2;have wC:Hid (aD f2 (fun x=>q x || av a (c+1-a) x) r=R):=by show _=_;rw[<-jP];exact HQ.o
  have H2:=hid h2;have lG:=P2.o.fL;clear h1 h2 HQ jP;go_wp2_with fail;refine (oZ base b acc s' d 93 _ P2.o HK.o).mono ?_;rintro e w2 ⟨rfl,rfl⟩;go_wp2_with fail;refine (ziZ base b acc s' d a c r _ P2.o (by omega) H2.o).mono ?_;rintro e w3 ⟨rfl,k3,s3,mH,KG,ik⟩;have I1:=S2.o.hJ k3 Et (by decide);have qK:=k3.size;have K3:=hid ((K2.o.trans k3).below (le_trans dK (K2.o.trans k3).size) ((Below.refl _ w3).alloc (le_refl _) (.cells #[.int .u64 ((wd (av a (c+1-a)) 0:Nat):Int),.int .u64 ((wd (av a (c+1-a)) 1:Nat):Int),.int .u64 ((wd (av a (c+1-a)) 2:Nat):Int),.int .u64 ((wd (av a (c+1-a)) 3:Nat):Int)] 146)));have P3:=hid (ik.ae ((Below.refl _ w3).alloc (le_refl _) (.cells #[.int .u64 ((wd (av a (c+1-a)) 0:Nat):Int),.int .u64 ((wd (av a (c+1-a)) 1:Nat):Int),.int .u64 ((wd (av a (c+1-a)) 2:Nat):Int),.int .u64 ((wd (av a (c+1-a)) 3:Nat):Int)] 146)));have S3:=hid (I1.alloc (.cells #[.int .u64 ((wd (av a (c+1-a)) 0:Nat):Int),.int .u64 ((wd (av a (c+1-a)) 1:Nat):Int),.int .u64 ((wd (av a (c+1-a)) 2:Nat):Int),.int .u64 ((wd (av a (c+1-a)) 3:Nat):Int)] 146));have T3:=hid (St.new w3 146 #[.int .u64 ((wd (av a (c+1-a)) 0:Nat):Int),.int .u64 ((wd (av a (c+1-a)) 1:Nat):Int),.int .u64 ((wd (av a (c+1-a)) 2:Nat):Int),.int .u64 ((wd (av a (c+1-a)) 3:Nat):Int)]);obtain⟨c0,c1,c2,c3,-⟩:=bZ S3.o;obtain⟨d0,d1,d2,d3,-⟩:=bZ T3.o;have yU:=hid mH;clear k3 ik mH I1 P2 S2 K2;go_wp2_with fail;refine (Zm q (av a (c+1-a)) _).mono ?_;rintro e w5 ⟨rfl,b5⟩;have s5:=S3.o.ae b5;have jE:=b5.size;simp at jE;obtain⟨r0,VX,r2_,r3_,r4_,Zb,XI,r7_⟩:=bZ s5;have KK:=hid ((K3.o.below (le_trans dK K3.o.size) b5).ix (g:=w1.heap.size) (by omega) (s5.is) (by omega) (.int .u64 ((wd (fun x=>q x || av a (c+1-a) x) 0:Nat):Int)) (.int .u64 ((wd (fun x=>q x || av a (c+1-a) x) 1:Nat):Int)) (.int .u64 ((wd (fun x=>q x || av a (c+1-a) x) 2:Nat):Int)) (.int .u64 ((wd (fun x=>q x || av a (c+1-a) x) 3:Nat):Int)));have PP:=hid ((P3.o.ae b5).ix (g:=w1.heap.size) (by omega) (s5.is) (.int .u64 ((wd (fun x=>q x || av a (c+1-a) x) 0:Nat):Int)) (.int .u64 ((wd (fun x=>q x || av a (c+1-a) x) 1:Nat):Int)) (.int .u64 ((wd (fun x=>q x || av a (c+1-a) x) 2:Nat):Int)) (.int .u64 ((wd (fun x=>q x || av a (c+1-a) x) 3:Nat):Int)));have SS:=hid (s5.pQ (.int .u64 ((wd (fun x=>q x || av a (c+1-a) x) 0:Nat):Int)) (.int .u64 ((wd (fun x=>q x || av a (c+1-a) x) 1:Nat):Int)) (.int .u64 ((wd (fun x=>q x || av a (c+1-a) x) 2:Nat):Int)) (.int .u64 ((wd (fun x=>q x || av a (c+1-a) x) 3:Nat):Int)));have iB:=PP.o.fL;clear b5 s5 S3 T3 K3 P3 c0 c1 c2 c3 d0 d1 d2 d3;go_wp2;go_roundw
  ·exact⟨f2,fun x=>q x || av a (c+1-a) x,s3,by rw[yU.o];exact pw,by show aD _ _ _=_;rw[yU.o];exact wC.o,by omega,PP,SS,KK,by rw[Xr];omega⟩
  first|(simp only[lG,iB];omega)|(rw[lG,iB];omega)
 have HY:Hid (O=if eD (fun x=>!q x)=true then none else some ((fun x=>!q x),r)):=by
  have:=HQ.o;rw[Yb f q _ r hf h1] at this;show _=_;rw[HX.o,<-this]
 have HK:=hid h1;clear h1 HX HQ;go_wp2_with fail;refine (vV base b acc s' d 93 r _ P2.o HK.o (by omega)).mono ?_;rintro e w2 ⟨rfl,k2,s2,dd,db,fR⟩;have S3:=hid (S2.o.hJ k2 Et (by decide));have K3:=hid (K2.o.trans k2);have P3:=hid fR;have pn:=hid dd;obtain⟨c0,c1,c2,c3,-⟩:=bZ S3.o;have RN:=k2.size;clear k2 fR dd S2 K2 P2;go_wp2_with fail;refine (zlH q _).mono ?_;rintro e w5 ⟨rfl,b5⟩;have s5:=S3.o.ae b5;obtain⟨r0,VX,r2_,r3_,r4_,Zb,XI,r7_⟩:=bZ s5;have KK:=hid ((K3.o.below (le_trans dK K3.o.size) b5).ix (g:=w1.heap.size) (by omega) (s5.is) (by omega) (.int .u64 ((wd (fun x=>!q x) 0:Nat):Int)) (.int .u64 ((wd (fun x=>!q x) 1:Nat):Int)) (.int .u64 ((wd (fun x=>!q x) 2:Nat):Int)) (.int .u64 ((wd (fun x=>!q x) 3:Nat):Int)));have PP:=hid ((P3.o.ae b5).ix (g:=w1.heap.size) (by omega) (s5.is) (.int .u64 ((wd (fun x=>!q x) 0:Nat):Int)) (.int .u64 ((wd (fun x=>!q x) 1:Nat):Int)) (.int .u64 ((wd (fun x=>!q x) 2:Nat):Int)) (.int .u64 ((wd (fun x=>!q x) 3:Nat):Int)));have SS:=hid (s5.pQ (.int .u64 ((wd (fun x=>!q x) 0:Nat):Int)) (.int .u64 ((wd (fun x=>!q x) 1:Nat):Int)) (.int .u64 ((wd (fun x=>!q x) 2:Nat):Int)) (.int .u64 ((wd (fun x=>!q x) 3:Nat):Int)));clear b5 s5 S3 K3 P3 c0 c1 c2 c3;go_wp2_with fail;generalize ((((w5.setCell _ _).setCell _ _).setCell _ _).setCell _ _)=w6 at KK PP SS⊢;obtain⟨c0,c1,c2,c3,-⟩:=bZ SS.o;go_wp2_with fail;refine (Gx base b acc s2 d 1 (fun x=>!q x) _ PP.o vX).mono ?_;rintro e w7 ⟨rfl,Is,k7⟩;have s7:=SS.o.hJ k7 Et (by decide);have K7:=hid (KK.o.trans k7);have P7:=hid Is;clear c0 c1 c2 c3 k7 Is KK PP SS;obtain⟨c0,c1,c2,c3,-⟩:=bZ s7;obtain⟨o,ho⟩:=Ξ (eD (fun x=>!q x))
 have HO:=hid ho;clear ho;go_wp2_with fail;refine (Sw (fun x=>!q x) o HO.o _).mono ?_;rintro e w8 ⟨rfl,b8⟩;have K8:=K7.o.below (le_trans dK K7.o.size) b8;have P8:=P7.o.ae b8;rcases o with _|_
 ·have HZ:Hid (O=some ((fun x=>!q x),r)):=by show _=_;rw[HY.o,HO.o];rfl
  go_wp2;go_ret;refine⟨K8,fun e=>by rw[HZ.o] at e;simp at e,fun q' r' e=>?_⟩;rw[HZ.o] at e;simp only[Option.some.injEq,Prod.mk.injEq] at e;obtain⟨rfl,rfl⟩:=e;exact⟨rfl,s2,pn.o,P8⟩
 have HZ:Hid (O=none):=by show _=_;rw[HY.o,HO.o];rfl
 go_wp2;go_ret;exact⟨K8,fun _=>rfl,fun q' r' e=>by rw[HZ.o] at e;simp at e⟩
theorem zqw(base b:Nat)(acc:List Pc)(s:ByteArray)(d:Nat)(w:World)(h:fq base b acc s d w)(hs:s.size<=10000)(vX:acc.length<=10000):
  Calls prog 196 #[.pointer (some ⟨b,0,none⟩)] w (LA base b acc d (ek (aa s)) w):=by
 rcases h0:aw 94 (aa s) with _|rr
 ·exact zqu base b acc s d h0 w h hs vX
 exact zqv base b acc s d rr h0 w h hs vX
def bD(base b d:Nat)(o:Option bf)(w:World)(e:Ending)(w':World):Prop:=
 aU base b w w'/\(o=none->e=.returned (.bool false))/\∀x,o=some x->e=.returned (.bool true)/\∃s',aa s'=x.2/\fq base b x.1 s' d w'
def vQ(f:Nat)(g:bf->Option bf)(d:Nat):Prop:=∀(base b:Nat) (acc:List Pc) (s:ByteArray) (w:World),fq base b acc s d w->s.size<=2000->acc.length+2*s.size<=9000->
 Calls prog f #[.pointer (some ⟨b,0,none⟩)] w (bD base b d (g (acc,aa s)) w)
theorem bD.no{base b:Nat}{o:Option bf}(k:aU base b w w')(h:o=none):bD base b d o w (.returned (.bool false)) w':=⟨k,fun _=>rfl,fun x e=>by rw[h] at e;simp at e⟩
theorem bD.yes{base b:Nat}{o:Option bf}{x:bf}{s':ByteArray}(k:aU base b w w')(h:o=some x)(hn:aa s'=x.2)(hp:fq base b x.1 s' d w'):bD base b d o w (.returned (.bool true)) w':=
 ⟨k,fun e=>by rw[h] at e;simp at e,fun y e=>by rw[h] at e;simp at e;subst e;exact⟨rfl,s',hn,hp⟩⟩
theorem zqx:(Value.agg #[.int .u64 0,.int .u64 0,.int .u64 0,.int .u64 0])=(.agg #[.int .u64 (wd aO 0),.int .u64 (wd aO 1),.int .u64 (wd aO 2),.int .u64 (wd aO 3)]):=by rw[Lh 146]
theorem MU(base b:Nat)(acc:List Pc)(s:ByteArray)(d:Nat)(k:Int)(w:World)(h:fq base b acc s d w)(hl:acc.length<=10000):
  Calls prog 140 #[.pointer (some ⟨b,0,none⟩),.int .i64 k,.agg #[.int .u64 0,.int .u64 0,.int .u64 0,.int .u64 0]] w fun e w'=>e=.returned (.tuple #[])/\fq base b (acc++[⟨k,aO⟩]) s d w'/\aU base b w w':=by
 rw[zqx];exact Gx base b acc s d k aO w h hl
theorem JG(c:Nat)(hc:c<256):(c=42/\iK ⟨#[42,43,63]⟩ c=0/\eZ c=some 4)\/(c=43/\iK ⟨#[42,43,63]⟩ c=1/\eZ c=some 5)\/(c=63/\iK ⟨#[42,43,63]⟩ c=2/\eZ c=some 6)\/(iK ⟨#[42,43,63]⟩ c<0/\eZ c=none):=by
 by_cases h1:c=42
 ·subst h1;exact inl ⟨rfl,by decide,by decide⟩
 by_cases h2:c=43
 ·subst h2;exact inr (inl ⟨rfl,by decide,by decide⟩)
 by_cases h3:c=63
 ·subst h3;exact inr (inr (inl ⟨rfl,by decide,by decide⟩))
 refine inr (inr (inr ⟨?_,by simp[eZ,h1,h2,h3]⟩));have:=Ro ⟨#[42,43,63]⟩ c hc;have e:fZ ⟨#[42,43,63]⟩ c=false:=by
  unfold fZ;simp;omega
 rw[e] at this;simpa using this
theorem zgH(c:Nat)(r:List Nat)(acc:List Pc)(k:Int)(h:eZ c=some k):bB (c :: r) acc=bB r (acc++[⟨k,aO⟩]):=by simp only[bB,h]
theorem zhM(c:Nat)(r:List Nat)(acc:List Pc)(h:eZ c=none):bB (c :: r) acc=(acc,c :: r):=by simp only[bB,h]
theorem zpk(atom:bf->Option bf)(d:Nat)(hd:nj atom)(ha:vQ 187 atom d):vQ 166 (ct atom) d:=by
 intro base b acc s w h hs hl;have HX:Hid (ct atom (acc,aa s)=match atom (acc,aa s) with
  | none=>none
  | some x=>some (bB x.2 x.1)):=by show _=_;unfold ct;rfl
 have HD:=hid (fun x=>hd (acc,aa s) x);generalize ct atom (acc,aa s)=O at HX⊢;have hA:=ha base b acc s w h hs hl;have HS:=hid (o0 s);have hB:=h.1;clear ha hd;generalize atom (acc,aa s)=A at HX HD hA;have HA:=hid hA;clear hA h;go_in;go_wp2_with fail;refine HA.o.mono ?_;rintro e w1 ⟨k1,h1,h2⟩;rcases A with _|⟨kA,r1⟩
 ·obtain rfl:=h1 rfl;have HZ:=HX.o;go_wp2;go_ret;exact bD.no k1 HZ
 obtain⟨rfl,s1,dr,gG⟩:=h2 _ rfl;have uV:=HD.o _ rfl;simp only[HS.o] at uV;simp only at dr gG;have my:s1.size=r1.length:=by rw[<-o0,dr]
 have HZ:Hid (O=some (bB (aa s1) kA)):=by show _=_;rw[HX.o,dr]
 obtain⟨R,hR⟩:=Ξ (bB (aa s1) kA)
 rw[hR] at HZ;have HR:=hid hR;have P1:=hid gG;have K1:=hid k1;have oY:s1.size+1<=s.size:=by omega
 have lb:kA.length+2*s1.size<=9000:=by omega
 clear hR gG k1 HX HD h1 h2 uV dr my;go_wp2;go_loopw [3] (fun _ wr=>∃(fp:List Pc) (s':ByteArray),Hid (bB (aa s') fp=R)/\s'.size<=s1.size/\fp.length+2*s'.size<=9000/\Hid (fq base b fp s' d wr)/\Hid (aU base b w wr)) (fun _ wr=>fL wr ⟨b,0,none⟩)
 ·exact⟨kA,s1,HR,le_refl _,lb,P1,K1⟩
 clear P1 K1 HR;obtain⟨fp,s',HQ,cQ,qb,P2,K2⟩:=hrel;obtain⟨c0,f0⟩:=P2.o.rest;rcases eq_zero_or_pos s'.size with hz|hp
 ·have l5:s'.toList=[]:=Mc s' hz;have iu:(!s'.toList.isEmpty)=false:=by rw[l5];rfl
  have HF:Hid (O=some (fp,[])):=by
   show _=_;have:=HQ.o;rw[Nf s' hz] at this;rw[HZ,<-this];rfl
  have HN:Hid (aa s'=[]):=Nf s' hz;clear hz l5 HQ;go_wp2;go_ret;exact bD.yes K2.o HF.o HN.o P2.o
 have l5:s'.toList.isEmpty=false:=AL s' hp;have iu:(!s'.toList.isEmpty)=true:=by rw[l5];rfl
 have hc:=UInt8.toNat_lt s'[0];have Cn:=Md s' hp;have HE:Hid (aa (s'.extract 1 s'.size)=(aa s').drop 1):=by show _=_;rw[GS]
 have hez:(s'.extract 1 s'.size).size+1=s'.size:=by rw[ByteArray.size_extract];omega
 have lG:=P2.o.fL;have P3:=hid (P2.o.lN (s'.extract 1 s'.size));have K3:=hid (K2.o.set hB 0 (.string (s'.extract 1 s'.size)));rcases JG s'[0].toNat hc with ⟨e,hw,hk⟩|⟨e,hw,hk⟩|⟨e,hw,hk⟩|⟨hw,hk⟩
 all_goals
  have HW:=hid hw
  have HK:=hid hk
  have HC:=hid Cn
  first|clear e|skip
  clear hw hk Cn
 rotate_right
 ·have HF:Hid (O=some (fp,aa s')):=by
   show _=_;have:=HQ.o;rw[HC.o,zhM _ _ _ HK.o] at this;rw[HZ,<-this,<-HC.o]
  obtain⟨x,hx⟩:=Ξ (iK ⟨#[42,43,63]⟩ s'[0].toNat)
  have oI:x<0:=by rw[<-hx];exact HW.o
  have HXX:=hid hx;clear hx HQ;go_wp2_with fail;refine (Oz _ _ _).mono ?_;rintro e w2 ⟨rfl,rfl⟩;rw[HXX.o];go_wp2;go_ret;exact bD.yes K2.o HF.o rfl P2.o
 all_goals
  go_wp2_with fail
  refine (Oz _ _ _).mono ?_
  rintro e w2 ⟨rfl,rfl⟩
  rw[HW.o]
  go_wp2_with fail
  refine (MU base b fp (s'.extract 1 s'.size) d _ _ P3.o (by omega)).mono ?_
  rintro e w3 ⟨rfl,ik,k3⟩
  have P4:=hid ik
  have K4:=hid (K3.o.trans k3)
  have iB:=ik.fL
  clear ik k3
  go_wp2
  go_roundw
  case rel=>exact⟨_,s'.extract 1 s'.size,by show bB _ _=_;rw[HE.o,<-zgH _ _ _ _ HK.o,<-HC.o];exact HQ.o,by omega,by simp;omega,P4,K4⟩
  case measure=>first|(simp only[lG,iB];omega)|(rw[lG,iB];omega)
theorem zhN(atom:bf->Option bf)(f:Nat)(s:bf)(hf:s.2.length<f)(h:gK s.2=true):aX atom f s=some s:=by
 match f,hf with
 | f+1,hf=>unfold aX;rw[if_pos h]
theorem zj4(atom:bf->Option bf)(f:Nat)(s:bf)(hf:s.2.length<f)(h:gK s.2=false)(h1:ct atom s=none):aX atom f s=none:=by
 match f,hf with
 | f+1,hf=>simp[aX,h,h1]
theorem zgI(atom:bf->Option bf)(f:Nat)(s x:bf)(hd:nj atom)(hf:s.2.length<f)(h:gK s.2=false)(h1:ct atom s=some x):∃g,x.2.length<g/\aX atom f s=aX atom g (x.1++[⟨2,aO⟩],x.2):=by
 match f,hf with
 | f+1,hf=>
  have:=(Dh hd s x h1).1;exact⟨f,by omega,by simp[aX,h,h1]⟩
theorem Ze(atom:bf->Option bf)(d:Nat)(hd:nj atom)(ha:vQ 166 (ct atom) d):vQ 138 (cm atom) d:=by
 intro base b acc s w h hs hl;have HX:Hid (cm atom (acc,aa s)=match ct atom (acc,aa s) with
  | none=>none
  | some x=>aX atom (x.2.length+1) x):=by show _=_;unfold cm;rfl
 have HD:=hid (fun s x=>Dh hd s x);have QM:=hid hd;generalize cm atom (acc,aa s)=O at HX⊢;have hA:=ha base b acc s w h hs hl;have HS:=hid (o0 s);have hB:=h.1;have xx:=hid ha;have D4:=hid (fun x=>HD.o (acc,aa s) x);clear ha hd;generalize ct atom (acc,aa s)=A at HX D4 hA;have HA:=hid hA;clear hA h;go_in;go_wp2_with fail;refine HA.o.mono ?_;rintro e w1 ⟨k1,h1,h2⟩;rcases A with _|⟨kA,r1⟩
 ·obtain rfl:=h1 rfl;have HZ:=HX.o;go_wp2;go_ret;exact bD.no k1 HZ
 obtain⟨rfl,s1,dr,gG⟩:=h2 _ rfl;have uV:=D4.o _ rfl;simp only[HS.o] at uV;simp only at dr gG;have my:s1.size=r1.length:=by rw[<-o0,dr]
 obtain⟨R,hR⟩:=Ξ (aX atom ((aa s1).length+1) (kA,aa s1))
 have HZ:Hid (O=R):=by show _=_;rw[HX.o,<-hR,dr]
 have HR:=hid hR;have P1:=hid gG;have K1:=hid k1;have oY:s1.size+1<=s.size:=by omega
 have lb:kA.length+2*s1.size<=9000:=by omega
 clear hR gG k1 HX D4 h1 h2 uV dr my;go_wp2;go_loopw [30] (fun _ wr=>∃(f:Nat) (fp:List Pc) (s':ByteArray),(aa s').length<f/\Hid (aX atom f (fp,aa s')=R)/\s'.size<=s1.size/\fp.length+2*s'.size<=9000/\Hid (fq base b fp s' d wr)/\Hid (aU base b w wr)) (fun _ wr=>fL wr ⟨b,0,none⟩)
 ·exact⟨_,kA,s1,lt_succ_self _,HR,le_refl _,lb,P1,K1⟩
 clear P1 K1 HR;obtain⟨f,fp,s',hf,HQ,cQ,qb,P2,K2⟩:=hrel;obtain⟨c0,f0⟩:=P2.o.rest;have iH:gK (aa s')=true\/(gK (aa s')=false/\∃h:0<s'.size,s'[0].toNat≠124/\s'[0].toNat≠41):=by
  rcases eq_zero_or_pos s'.size with hz|hp
  ·left;rw[Nf s' hz];rfl
  rw[Md s' hp];by_cases h1:s'[0].toNat=124
  ·left;simp[gK,h1]
  by_cases h2:s'[0].toNat=41
  ·left;simp[gK,h2]
  right;exact⟨by simp[gK,h1,h2],hp,h1,h2⟩
 rcases iH with iH|⟨iH,hp,h1,h2⟩
 ·have HF:Hid (O=some (fp,aa s')):=by
   show _=_;rw[HZ.o,<-HQ.o,zhN atom f _ hf iH]
  rcases eq_zero_or_pos s'.size with hz|hp
  ·have l5:s'.toList=[]:=Mc s' hz;have iu:(!s'.toList.isEmpty)=false:=(by rw[l5];rfl);clear hz l5 HQ iH;go_wp2;go_ret;exact bD.yes K2.o HF.o rfl P2.o
  have l5:s'.toList.isEmpty=false:=AL s' hp;have iu:(!s'.toList.isEmpty)=true:=by rw[l5];rfl
  rw[Md s' hp] at iH;by_cases h1:s'[0].toNat=124
  ·have e1:((s'[0].toNat:Int) != 124)=false:=(by simp;omega);clear HQ iH h1;go_wp2;go_ret;exact bD.yes K2.o HF.o rfl P2.o
  have h2:s'[0].toNat=41:=by simpa [gK,h1] using iH
  have e1:((s'[0].toNat:Int) != 124)=true:=by simp;omega
  have e2:((s'[0].toNat:Int) != 41)=false:=by simp;omega
  clear HQ iH h1 h2;go_wp2;go_ret;exact bD.yes K2.o HF.o rfl P2.o
 have l5:s'.toList.isEmpty=false:=AL s' hp;have iu:(!s'.toList.isEmpty)=true:=by rw[l5];rfl
 have e1:((s'[0].toNat:Int) != 124)=true:=by simp;omega
 have e2:((s'[0].toNat:Int) != 41)=true:=by simp;omega
 have HEnd:=hid iH;have HS':=hid (o0 s');have lG:=P2.o.fL;have hA:=xx.o base b fp s' _ P2.o (by omega) qb;rcases hr:ct atom (fp,aa s') with _|⟨wW,r2⟩
 ·rw[hr] at hA;have nu:=hid hA;have HF:Hid (O=none):=by
   show _=_;rw[HZ.o,<-HQ.o,zj4 atom f _ hf iH hr]
  clear hA hr iH h1 h2 HQ;go_wp2_with fail;refine nu.o.mono ?_;rintro e w2 ⟨k2,h1,-⟩;obtain rfl:=h1 rfl;go_wp2;go_ret;exact bD.no (K2.o.trans k2) HF.o
 have uV:=HD.o _ _ hr;simp only[HS'.o] at uV;obtain⟨f2,pw,jP⟩:=zgI atom f _ _ QM.o hf iH hr;have wC:Hid (aX atom f2 (wW++[⟨2,aO⟩],r2)=R):=by show _=_;rw[<-jP];exact HQ.o
 rw[hr] at hA;have nu:=hid hA;clear hA hr iH h1 h2 HQ jP;go_wp2_with fail;refine nu.o.mono ?_;rintro e w2 ⟨k2,-,h2⟩;obtain⟨rfl,s2,dd,fR⟩:=h2 _ rfl;simp only at dd fR pw;have sX:s2.size=r2.length:=by rw[<-o0,dd]
 have pn:=hid dd;have P3:=hid fR;have K3:=hid (K2.o.trans k2);clear k2 h2 dd fR;go_wp2_with fail;refine (MU base b wW s2 d _ _ P3.o (by omega)).mono ?_;rintro e w3 ⟨rfl,ik,k3⟩;have P4:=hid ik;have K4:=hid (K3.o.trans k3);have iB:=ik.fL;clear ik k3;go_wp2;go_roundw
 ·exact⟨f2,_,s2,by rw[pn.o];exact pw,by show aX _ _ _=_;rw[pn.o];exact wC.o,by omega,by simp;omega,P4,K4⟩
 first|(simp only[lG,iB];omega)|(rw[lG,iB];omega)
theorem zhO(atom:bf->Option bf)(f:Nat)(s:bf)(hf:s.2.length<f)(h:aw 124 s.2=none):aY atom f s=some s:=by
 match f,hf with
 | f+1,hf=>simp only[aY,h]
theorem zj5(atom:bf->Option bf)(f:Nat)(s:bf)(r:List Nat)(hf:s.2.length<f)(h:aw 124 s.2=some r)(h1:cm atom (s.1,r)=none):aY atom f s=none:=by
 match f,hf with
 | f+1,hf=>simp only[aY,h,h1]
theorem zgJ(atom:bf->Option bf)(f:Nat)(s x:bf)(r:List Nat)(hd:nj atom)(hf:s.2.length<f)(h:aw 124 s.2=some r)(h1:cm atom (s.1,r)=some x):∃g,x.2.length<g/\aY atom f s=aY atom g (x.1++[⟨3,aO⟩],x.2):=by
 match f,hf with
 | f+1,hf=>
  have h2:=(DG hd _ x h1).1;have h3:=xm h;rw[h3] at hf;simp at h2 hf;exact⟨f,by omega,by simp only[aY,h,h1]⟩
theorem XV(atom:bf->Option bf)(d:Nat)(hd:nj atom)(ha:vQ 138 (cm atom) d):vQ 111 (bx atom) d:=by
 intro base b acc s w h hs hl;have HX:Hid (bx atom (acc,aa s)=match cm atom (acc,aa s) with
  | none=>none
  | some x=>aY atom (x.2.length+1) x):=by show _=_;unfold bx;rfl
 have HD:=hid (fun s x=>DG hd s x);have QM:=hid hd;generalize bx atom (acc,aa s)=O at HX⊢;have hA:=ha base b acc s w h hs hl;have HS:=hid (o0 s);have hB:=h.1;have xx:=hid ha;have D4:=hid (fun x=>HD.o (acc,aa s) x);clear ha hd;generalize cm atom (acc,aa s)=A at HX D4 hA;have HA:=hid hA;clear hA h;go_in;go_wp2_with fail;refine HA.o.mono ?_;rintro e w1 ⟨k1,h1,h2⟩;rcases A with _|⟨kA,r1⟩
 ·obtain rfl:=h1 rfl;have HZ:=HX.o;go_wp2;go_ret;exact bD.no k1 HZ
 obtain⟨rfl,s1,dr,gG⟩:=h2 _ rfl;have uV:=D4.o _ rfl;simp only[HS.o] at uV;simp only at dr gG;have my:s1.size=r1.length:=by rw[<-o0,dr]
 obtain⟨R,hR⟩:=Ξ (aY atom ((aa s1).length+1) (kA,aa s1))
 have HZ:Hid (O=R):=by show _=_;rw[HX.o,<-hR,dr]
 have HR:=hid hR;have P1:=hid gG;have K1:=hid k1;have oY:s1.size+1<=s.size:=by omega
 have lb:kA.length+2*s1.size<=9000:=by omega
 clear hR gG k1 HX D4 h1 h2 uV dr my;go_wp2;go_loopw [11] (fun _ wr=>∃(f:Nat) (fp:List Pc) (s':ByteArray),(aa s').length<f/\Hid (aY atom f (fp,aa s')=R)/\s'.size<=s1.size/\fp.length+2*s'.size<=9000/\Hid (fq base b fp s' d wr)/\Hid (aU base b w wr)) (fun _ wr=>fL wr ⟨b,0,none⟩)
 ·exact⟨_,kA,s1,lt_succ_self _,HR,le_refl _,lb,P1,K1⟩
 clear P1 K1 HR;obtain⟨f,fp,s',hf,HQ,cQ,qb,P2,K2⟩:=hrel;rcases hk:aw 124 (aa s') with _|r
 ·have HK:=hid hk;have HF:Hid (O=some (fp,aa s')):=by
   show _=_;rw[HZ.o,<-HQ.o,zhO atom f (fp,aa s') hf hk]
  clear hk HQ;go_wp2_with fail;refine (oZ base b fp s' d 124 _ P2.o HK.o).mono ?_;rintro e w2 ⟨rfl,rfl⟩;go_wp2;go_ret;exact bD.yes K2.o HF.o rfl P2.o
 have HK:=hid hk;have lG:=P2.o.fL;rcases hr:cm atom (fp,r) with _|⟨wW,r2⟩
 ·have HF:Hid (O=none):=by
   show _=_;rw[HZ.o,<-HQ.o,zj5 atom f (fp,aa s') r hf hk hr]
  have Eh:=hid hr;clear hk hr HQ;go_wp2_with fail;refine (vV base b fp s' d 124 r _ P2.o HK.o (by omega)).mono ?_;rintro e w2 ⟨rfl,k2,s2,dd,db,fR⟩;have hA:=xx.o base b fp s2 _ fR (by omega) (by omega);rw[dd,Eh.o] at hA;have nu:=hid hA;have K3:=hid (K2.o.trans k2);clear hA k2 fR dd;go_wp2_with fail;refine nu.o.mono ?_;rintro e w3 ⟨k3,h1,-⟩;obtain rfl:=h1 rfl;go_wp2;go_ret;exact bD.no (K3.o.trans k3) HF.o
 have uV:=HD.o _ _ hr;obtain⟨f2,pw,jP⟩:=zgJ atom f (fp,aa s') (wW,r2) r QM.o hf hk hr;have wC:Hid (aY atom f2 (wW++[⟨3,aO⟩],r2)=R):=by show _=_;rw[<-jP];exact HQ.o
 have Eh:=hid hr;clear hk hr HQ jP;go_wp2_with fail;refine (vV base b fp s' d 124 r _ P2.o HK.o (by omega)).mono ?_;rintro e w2 ⟨rfl,k2,s2,dd,db,fR⟩;have hrz:s2.size=r.length:=by rw[<-o0,dd]
 have hA:=xx.o base b fp s2 _ fR (by omega) (by omega);rw[dd,Eh.o] at hA;have nu:=hid hA;have K3:=hid (K2.o.trans k2);clear hA k2 fR dd;go_wp2_with fail;refine nu.o.mono ?_;rintro e w3 ⟨k3,-,h2⟩;obtain⟨rfl,s3,mH,ik⟩:=h2 _ rfl;simp only at mH ik pw uV;have qK:s3.size=r2.length:=by rw[<-o0,mH]
 have yU:=hid mH;have P3:=hid ik;have K4:=hid (K3.o.trans k3);clear k3 h2 mH ik;go_wp2_with fail;refine (MU base b wW s3 d _ _ P3.o (by omega)).mono ?_;rintro e w4 ⟨rfl,zV,k4⟩;have P4:=hid zV;have K5:=hid (K4.o.trans k4);have iB:=zV.fL;clear zV k4;go_wp2;go_roundw
 ·exact⟨f2,_,s3,by rw[yU.o];exact pw,by show aY _ _ _=_;rw[yU.o];exact wC.o,by omega,by simp;omega,P4,K5⟩
 first|(simp only[lG,iB];omega)|(rw[lG,iB];omega)
theorem zn3:vQ 195 (fun _=>none) 99:=by
 intro base b acc s w h hs hl;obtain⟨c2,f2⟩:=h.depth;have eC:=h.lt;have K1:=hid ((aU.refl base b w).set h.1 2 (.int .i64 (100:Int)));clear h;go_in;go_wp2;go_ret;exact bD.no K1.o rfl
theorem zn4(atom:bf->Option bf)(d:Nat)(hd99:d<99)(hd:nj atom)(ha:vQ 111 (bx atom) (d+1)):vQ 195 (eu atom) d:=by
 intro base b acc s w h hs hl;obtain⟨c2,f2⟩:=h.depth;have eC:=h.lt;have hB:=h.1;have K1:=hid ((aU.refl base b w).set h.1 2 (.int .i64 ((d+1:Nat):Int)));have gG:=h.rP (d+1);have HX:Hid (eu atom (acc,aa s)=match bx atom (acc,aa s) with
  | none=>none
  | some x=>match aw 41 x.2 with
   | none=>none
   | some r=>some (x.1,r)):=by show _=_;unfold eu;rfl
 have HD:=hid (fun x=>Zr hd (acc,aa s) x);have HS:=hid (o0 s);generalize eu atom (acc,aa s)=O at HX⊢;have hA:=ha base b acc s _ gG hs hl;generalize bx atom (acc,aa s)=A at HX HD hA;have HA:=hid hA;have e1:(d:Int)+1=((d+1:Nat):Int):=by omega
 obtain⟨m,hm⟩:=Ξ (d+1)
 have hm99:m<=99:=by omega
 have jD:1<=m:=by omega
 have ed:(m:Int)-1=(d:Int):=by omega
 rw[hm] at e1 HA K1 gG;have P1:=hid gG;obtain⟨d2,g2⟩:=gG.depth;clear h hA ha gG hm hd;go_in;go_wp2_with fail;refine HA.o.mono ?_;rintro e w1 ⟨k1,h1,h2⟩;have K2:=hid (K1.o.trans k1);rcases A with _|⟨kA,r1⟩
 ·obtain rfl:=h1 rfl;have HZ:=HX.o;clear HA K1 P1 k1 h1 h2;go_wp2;go_ret;exact bD.no K2.o HZ
 obtain⟨rfl,s1,dr,gG⟩:=h2 _ rfl;have uV:=HD.o _ rfl;simp only[HS.o] at uV;simp only at dr gG;have my:s1.size=r1.length:=by rw[<-o0,dr]
 have P2:=hid gG;clear HA K1 P1 k1 h1 h2 gG d2 g2;rcases hk:aw 41 (aa s1) with _|r
 ·have HF:Hid (O=none):=by show _=_;rw[HX.o];simp only[<-dr,hk]
  have HK:=hid hk;clear hk;go_wp2_with fail;refine (oZ base b kA s1 m 41 _ P2.o HK.o).mono ?_;rintro e w2 ⟨rfl,rfl⟩;go_wp2;go_ret;exact bD.no K2.o HF.o
 have HF:Hid (O=some (kA,r)):=by show _=_;rw[HX.o];simp only[<-dr,hk]
 have HK:=hid hk;clear hk;go_wp2_with fail;refine (vV base b kA s1 m 41 r _ P2.o HK.o (by omega)).mono ?_;rintro e w2 ⟨rfl,k2,s2,dd,db,fR⟩;obtain⟨d3,g3⟩:=fR.depth;have P3:=hid (fR.rP d);have K3:=hid ((K2.o.trans k2).set hB 2 (.int .i64 (d:Int)));have pn:=hid dd;clear k2 fR dd;go_wp2;go_ret;exact bD.yes K3.o HF.o pn.o P3.o
theorem CN(c:Nat)(hc:c<256)(w:World):IF (w.alloc (.cells #[.int .u8 (c:Int)] 5)) (some ⟨w.heap.size,0,none⟩) 1 (fun _=>c):=by
 intro _;refine⟨w.heap.size,0,rfl,by simp,fun j hj=>?_⟩;obtain rfl:j=0:=by omega
 refine⟨?_,hc⟩;have h:(w.alloc (.cells #[.int .u8 (c:Int)] 5)).heap[w.heap.size]?=some (.cells #[.int .u8 (c:Int)] 5 (0,0)):=St.new w _ _;rw[Nat.zero_add,cell_of_heap h];rfl
theorem WG(group:bf->Option bf)(d:Nat)(ha:vQ 195 group d):vQ 187 (aW group) d:=by
 intro base b acc s w h hs hl;have hB:=h.1;have dK:=h.low;have P0:=hid h;have xx:=hid ha;have HX:Hid (aW group (acc,aa s)=aW group (acc,aa s)):=rfl;obtain⟨O,hO⟩:=Ξ (aW group (acc,aa s))
 rw[hO];unfold aW at hO;simp only at hO;clear ha h HX;rcases h1:aw 46 (aa s) with _|r
 ·rw[h1] at hO;simp only at hO;have H1:=hid h1;clear h1;rcases h2:aw 126 (aa s) with _|r
  ·rw[h2] at hO;simp only at hO;have H2:=hid h2;clear h2;rcases h3:aw 40 (aa s) with _|r
   ·rw[h3] at hO;simp only at hO;have H3:=hid h3;clear h3;rcases h4:aw 91 (aa s) with _|r
    ·rw[h4] at hO;simp only at hO;have H4:=hid h4;clear h4;rcases h5:aI oy (aa s) with _|⟨c,r⟩
     ·rw[h5] at hO;simp only at hO;have H5:=hid h5;have HF:=hid hO.symm;clear h5 hO;go_in;go_wp2_with fail;refine (oZ base b acc s d 46 _ P0.o H1.o).mono ?_;rintro e w2 ⟨rfl,rfl⟩;go_wp2_with fail;refine (oZ base b acc s d 126 _ P0.o H2.o).mono ?_;rintro e w2 ⟨rfl,rfl⟩;go_wp2_with fail;refine (oZ base b acc s d 40 _ P0.o H3.o).mono ?_;rintro e w2 ⟨rfl,rfl⟩;go_wp2_with fail;refine (oZ base b acc s d 91 _ P0.o H4.o).mono ?_;rintro e w2 ⟨rfl,rfl⟩;go_wp2_with fail;refine (Qb base b acc s oy d _ P0.o (by omega) H5.o).mono ?_;rintro e w2 ⟨rfl,b2⟩;have K2:=hid ((aU.refl base b w).below dK b2);have P2:=hid (P0.o.ae b2);have sx:=P2.o.low;clear b2;go_wp2_with fail;refine (WQ _ 1 1 (fun _=>0) _ (CN 0 (by decide) w2) (by decide)).mono ?_;rintro e w3 ⟨rfl,b3⟩;have yd:ϐ w2 w3:=((Below.refl _ w2).alloc (le_refl _) _).trans (b3.mono (by simp));have K3:=hid (K2.o.below sx yd);have P3:=hid (P2.o.ae yd);clear b3 yd;go_wp2_with fail;refine (Gx base b acc s d 1 _ _ P3.o (by omega)).mono ?_;rintro e w4 ⟨rfl,zV,k4⟩;go_wp2;go_ret;exact bD.no (K3.o.trans k4) HF.o
     rw[h5] at hO;simp only at hO;have H5:=hid h5;have HF:=hid hO.symm;clear h5 hO;go_in;go_wp2_with fail;refine (oZ base b acc s d 46 _ P0.o H1.o).mono ?_;rintro e w2 ⟨rfl,rfl⟩;go_wp2_with fail;refine (oZ base b acc s d 126 _ P0.o H2.o).mono ?_;rintro e w2 ⟨rfl,rfl⟩;go_wp2_with fail;refine (oZ base b acc s d 40 _ P0.o H3.o).mono ?_;rintro e w2 ⟨rfl,rfl⟩;go_wp2_with fail;refine (oZ base b acc s d 91 _ P0.o H4.o).mono ?_;rintro e w2 ⟨rfl,rfl⟩;go_wp2_with fail;refine (FH base b acc s oy d c r _ P0.o (by omega) H5.o).mono ?_;rintro e w2 ⟨rfl,hc,k2,s2,dd,db,fR⟩;have K2:=hid k2;have P2:=hid fR;have pn:=hid dd;have sx:=fR.low;clear k2 fR dd;go_wp2_with fail;refine (WQ _ 1 1 (fun _=>c) _ (CN c hc w2) (by decide)).mono ?_;rintro e w3 ⟨rfl,b3⟩;have yd:ϐ w2 w3:=((Below.refl _ w2).alloc (le_refl _) _).trans (b3.mono (by simp));have K3:=hid (K2.o.below sx yd);have P3:=hid (P2.o.ae yd);clear b3 yd;go_wp2_with fail;refine (Gx base b acc s2 d 1 _ _ P3.o (by omega)).mono ?_;rintro e w4 ⟨rfl,zV,k4⟩;go_wp2;go_ret;exact bD.yes (K3.o.trans k4) HF.o pn.o zV
    rw[h4] at hO;simp only at hO;have H4:=hid h4;have HSR:Hid (∀s2,aa s2=r->aa s2=r):=(fun _ h=>h);clear h4;have HO:=hid hO;clear hO;go_in;go_wp2_with fail;refine (oZ base b acc s d 46 _ P0.o H1.o).mono ?_;rintro e w2 ⟨rfl,rfl⟩;go_wp2_with fail;refine (oZ base b acc s d 126 _ P0.o H2.o).mono ?_;rintro e w2 ⟨rfl,rfl⟩;go_wp2_with fail;refine (oZ base b acc s d 40 _ P0.o H3.o).mono ?_;rintro e w2 ⟨rfl,rfl⟩;go_wp2_with fail;refine (vV base b acc s d 91 r _ P0.o H4.o (by omega)).mono ?_;rintro e w2 ⟨rfl,k2,s2,dd,db,fR⟩;have sf:=zqw base b acc s2 d _ fR (by omega) (by omega);rw[dd] at sf;have TM:=hid sf;clear sf;go_wp2_with fail;refine TM.o.mono ?_;rintro e w3 ⟨k3,g1,g2⟩;have hO:=HO.o;rcases h5:ek r with _|⟨q,r1⟩
    ·rw[h5] at hO;simp only at hO;obtain rfl:=g1 h5;have HF:=hid hO.symm;clear hO h5 HO;go_wp2;go_ret;exact bD.no (k2.trans k3) HF.o
    rw[h5] at hO;simp only at hO;obtain⟨rfl,s3,mH,ik⟩:=g2 _ _ h5;have HF:=hid hO.symm;clear hO h5 HO;go_wp2;go_ret;exact bD.yes (k2.trans k3) HF.o mH ik
   rw[h3] at hO;simp only at hO;have H3:=hid h3;have HO:=hid hO;clear h3 hO;go_in;go_wp2_with fail;refine (oZ base b acc s d 46 _ P0.o H1.o).mono ?_;rintro e w2 ⟨rfl,rfl⟩;go_wp2_with fail;refine (oZ base b acc s d 126 _ P0.o H2.o).mono ?_;rintro e w2 ⟨rfl,rfl⟩;go_wp2_with fail;refine (vV base b acc s d 40 r _ P0.o H3.o (by omega)).mono ?_;rintro e w2 ⟨rfl,k2,s2,dd,db,fR⟩;have hA:=xx.o base b acc s2 _ fR (by omega) (by omega);rw[dd,HO.o] at hA;have HA:=hid hA;clear hA;go_wp2_with fail;refine HA.o.mono ?_;rintro e w3 ⟨k3,g1,g2⟩;rcases O with _|⟨acc3,r3⟩
   ·obtain rfl:=g1 rfl;go_wp2;go_ret;exact bD.no (k2.trans k3) rfl
   obtain⟨rfl,s3,mH,ik⟩:=g2 _ rfl;go_wp2;go_ret;exact bD.yes (k2.trans k3) rfl mH ik
  rw[h2] at hO;simp only at hO;have H2:=hid h2;have HF:=hid hO.symm;clear h2 hO;go_in;go_wp2_with fail;refine (oZ base b acc s d 46 _ P0.o H1.o).mono ?_;rintro e w2 ⟨rfl,rfl⟩;go_wp2_with fail;refine (vV base b acc s d 126 r _ P0.o H2.o (by omega)).mono ?_;rintro e w2 ⟨rfl,k2,s2,dd,db,fR⟩;have P2:=hid fR;clear fR;go_wp2_with fail;refine (MU base b acc s2 d 0 _ P2.o (by omega)).mono ?_;rintro e w4 ⟨rfl,zV,k4⟩;go_wp2;go_ret;exact bD.yes (k2.trans k4) HF.o dd zV
 rw[h1] at hO;simp only at hO;have H1:=hid h1;have HF:=hid hO.symm;clear h1 hO;go_in;go_wp2_with fail;refine (vV base b acc s d 46 r _ P0.o H1.o (by omega)).mono ?_;rintro e w2 ⟨rfl,k2,s2,dd,db,fR⟩;have P2:=hid fR;have sx:=fR.low;clear fR;go_wp2_with fail;refine (znQ _).mono ?_;rintro e w3 ⟨rfl,b3⟩;have P3:=hid (P2.o.ae b3);have K3:=hid (k2.below sx b3);go_wp2_with fail;refine (Gx base b acc s2 d 1 (fun _=>true) _ P3.o (by omega)).mono ?_;rintro e w4 ⟨rfl,zV,k4⟩;go_wp2;go_ret;exact bD.yes (K3.o.trans k4) HF.o dd zV
theorem zn5(D d:Nat)(h:d+D=99):vQ 187 (dB D) d:=by
 induction D generalizing d with
 | zero=>
  obtain rfl:d=99:=by omega
  exact WG _ 99 zn3
 | succ D ih=>
  have h1:=ih (d+1) (by omega);exact WG _ d (zn4 (dB D) d (by omega) (AX D) (XV _ _ (AX D) (Ze _ _ (AX D) (zpk _ _ (AX D) h1))))
theorem UE:vQ 111 (bx (dB 99)) 0:=
 XV _ _ (AX 99) (Ze _ _ (AX 99) (zpk _ _ (AX 99) (zn5 99 0 rfl)))
theorem G1(s:ByteArray)(w:World)(hs:1600<s.size)(hm:s.size<=maxLen):
  Calls prog 93 #[.string s] w fun e w'=>e=.returned (.tuple #[.slice none 0 0,.int .i64 6])/\w=w':=by
 unfold maxLen at hm;go_in;go_wp2;go_ret2;exact⟨rfl,rfl⟩
theorem fq.new(s:ByteArray)(w:World):fq w.heap.size w.heap.size [] s 0 (w.alloc (.cells #[.string s,.slice none 0 0,.int .i64 0] 154)):=
 ⟨le_refl _,.slice none 0 0,St.new w _ _,World.ownsRow_nil _ _ _ _,by simp[Value.ownBlock]⟩
theorem zn6(s:ByteArray)(w:World)(hs:s.size<=1600)(h:∀l,bx (dB 99) ([],aa s)≠some (l,[])):
  Calls prog 93 #[.string s] w fun e w'=>e=.returned (.tuple #[.slice none 0 0,.int .i64 5])/\ϐ w w':=by
 have hA:=UE w.heap.size w.heap.size [] s _ (fq.new s w) (by omega) (by simp;omega);have bz:ϐ w (w.alloc (.cells #[.string s,.slice none 0 0,.int .i64 0] 154)):=(Below.refl _ _).alloc (le_refl _) _;generalize bx (dB 99) ([],aa s)=O at hA h;have HA:=hid hA;have H:=hid h;clear hA h;go_in;go_wp2_with fail;refine HA.o.mono ?_;rintro e w1 ⟨k1,h1,h2⟩;have fT:=bz.trans k1.1;rcases O with _|⟨l,r⟩
 ·obtain rfl:=h1 rfl;go_wp2;go_ret2;exact⟨rfl,fT⟩
 obtain⟨rfl,s',hn,hp⟩:=h2 _ rfl;obtain⟨c0,-⟩:=hp.rest;have hne:r≠[]:=fun e=>H.o l (by rw[e])
 have hz:0<s'.size:=by
  rcases eq_zero_or_pos s'.size with hz|hz
  ·exact absurd (by simp only at hn;rw[<-hn];exact Nf s' hz) hne
  exact hz
 have l5:s'.toList.isEmpty=false:=AL s' hz;have iu:(!s'.toList.isEmpty)=true:=by rw[l5];rfl
 go_wp2;go_ret2;exact⟨rfl,fT⟩
theorem zj6(s:ByteArray)(w:World)(hs:s.size<=1600)(l:List Pc)(h:bx (dB 99) ([],aa s)=some (l,[]))(hl:400<l.length):
  Calls prog 93 #[.string s] w fun e w'=>e=.returned (.tuple #[.slice none 0 0,.int .i64 6])/\ϐ w w':=by
 have hA:=UE w.heap.size w.heap.size [] s _ (fq.new s w) (by omega) (by simp;omega);have bz:ϐ w (w.alloc (.cells #[.string s,.slice none 0 0,.int .i64 0] 154)):=(Below.refl _ _).alloc (le_refl _) _;rw[h] at hA;have HA:=hid hA;clear hA h;go_in;go_wp2_with fail;refine HA.o.mono ?_;rintro e w1 ⟨k1,h1,h2⟩;have fT:=bz.trans k1.1;obtain⟨rfl,s',hn,hp⟩:=h2 _ rfl;obtain⟨c0,-⟩:=hp.rest;simp only at hn hp;have hz:s'.size=0:=by rw[<-o0,hn];rfl
 have l5:s'.toList=[]:=Mc s' hz;have iu:(!s'.toList.isEmpty)=false:=by rw[l5];rfl
 obtain⟨_,v,pR,az,_⟩:=hp;obtain⟨a,cap,rfl⟩:=cy az;have c1:w1.cell? ⟨w.heap.size,1,none⟩=some (.slice a l.length cap):=by rw[cell_of_heap pR];rfl
 obtain⟨n,Dk⟩:=Ξ l.length
 rw[Dk] at c1 hl;clear l5 az pR h1 h2 Dk;go_wp2;go_ret2;exact⟨rfl,fT⟩
theorem zl1(s:ByteArray)(w:World)(hs:s.size<=1600)(l:List Pc)(h:bx (dB 99) ([],aa s)=some (l,[]))(hl:l.length<=400):
  Calls prog 93 #[.string s] w fun e w'=>∃a cap,e=.returned (.tuple #[.slice a l.length cap,.int .i64 0])/\w'.ownsRow w.heap.size 148 5 (.slice a l.length cap) l.length (fe l)/\ϐ w w':=by
 have hA:=UE w.heap.size w.heap.size [] s _ (fq.new s w) (by omega) (by simp;omega);have bz:ϐ w (w.alloc (.cells #[.string s,.slice none 0 0,.int .i64 0] 154)):=(Below.refl _ _).alloc (le_refl _) _;rw[h] at hA;have HA:=hid hA;clear hA h;go_in;go_wp2_with fail;refine HA.o.mono ?_;rintro e w1 ⟨k1,h1,h2⟩;have fT:=bz.trans k1.1;obtain⟨rfl,s',hn,hp⟩:=h2 _ rfl;obtain⟨c0,-⟩:=hp.rest;simp only at hn hp;have hz:s'.size=0:=by rw[<-o0,hn];rfl
 have l5:s'.toList=[]:=Mc s' hz;have iu:(!s'.toList.isEmpty)=false:=by rw[l5];rfl
 obtain⟨_,v,pR,az,_⟩:=hp;obtain⟨a,cap,rfl⟩:=cy az;have c1:w1.cell? ⟨w.heap.size,1,none⟩=some (.slice a l.length cap):=by rw[cell_of_heap pR];rfl
 have HO:=hid az;obtain⟨n,Dk⟩:=Ξ l.length
 have HN:=hid Dk;rw[Dk] at c1 hl;clear l5 az pR h1 h2 Dk;go_wp2;go_ret2;exact⟨a,cap,by rw[HN.o];rfl,HO.o,fT⟩
