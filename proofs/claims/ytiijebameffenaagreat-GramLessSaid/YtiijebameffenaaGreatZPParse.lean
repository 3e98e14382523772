import Derived.Test.YtiijebameffenaaGreatZChk
import Derived.Test.YtiijebameffenaaGreatZOr
import Derived.Test.YtiijebameffenaaGreatZPRead
import Derived.Deep.RegionLaw
set_option linter.all false
set_option maxHeartbeats 4000000
set_option maxRecDepth 100000
open Go.Lib (hid)
namespace Go.Proofs.YtiijebameffenaaGreat
open Go.RowKit Go.Proofs.Tryz
open Lib (OthersKept cell_of_heap)
open Nat (eq_zero_or_pos le_refl le_trans lt_succ_self)
open Below (heap_setCell)
open Or (inl inr)
variable {a w':World}{acc:List Pc}{d g t:Nat}
theorem St.others{w:World}{e b:Nat}{cs:Array Value}(h:St w t g cs)(k:OthersKept e (some b) w w')(hb:g≠b)(ht:t≠e):St w' t g cs:=
 k g _ h (by simpa using hb) (by intro c fz h;simp at h;exact ht h.2.1)
theorem zfw{e:TypeId}{b:Option Nat}{w:World}(h:OthersKept e b a w)(k:Below w.heap.size w w'):OthersKept e b a w':=by
 intro i o hi hb ho;have h1:=h i o hi hb ho;exact (k.block i (Array.getElem?_eq_some_iff.1 h1).1).trans h1
theorem rS:(prog.info? 148).map (fun i=>(i.zero,i.size,i.bytes))=some (some (.agg #[.int .i64 0,.int .u64 0,.int .u64 0,.int .u64 0,.int .u64 0]),5,40):=by kernel_rfl
def ea(base b:Nat)(acc:List Pc)(s:ByteArray)(d:Nat)(w:World):Prop:=
 base<=b/\∃v,w.heap[b]?=some (.cells #[.string s,v,.int .i64 (d:Int)] 154 (0,0))/\w.ownsRow base 148 5 v acc.length (mZ acc)/\v.ownBlock≠some b
theorem ea.lt{base b:Nat}{s:ByteArray}{w:World}(h:ea base b acc s d w):b<w.heap.size:=by
 obtain⟨_,v,hb,_⟩:=h;exact (Array.getElem?_eq_some_iff.1 hb).1
theorem ea.low{base b:Nat}{s:ByteArray}{w:World}(h:ea base b acc s d w):base<=w.heap.size:=le_trans h.1 (Nat.le_of_lt h.lt)
theorem ea.aa{base b:Nat}{s:ByteArray}{w:World}(h:ea base b acc s d w)(k:Below w.heap.size w w'):ea base b acc s d w':=by
 have hl:=h.lt;obtain⟨h1,v,h2,h3,h4⟩:=h;exact⟨h1,v,(k.block b hl).trans h2,dp h3 k,h4⟩
theorem ea.rest{base b:Nat}{s:ByteArray}{w:World}(h:ea base b acc s d w):w.cell? ⟨b,0,none⟩=some (.string s)/\w.frozen? ⟨b,0,none⟩=false:=by
 obtain⟨_,v,hb,_⟩:=h;exact⟨by rw[cell_of_heap hb];rfl,Lib.frozen_of_heap hb 0⟩
theorem ea.depth{base b:Nat}{s:ByteArray}{w:World}(h:ea base b acc s d w):w.cell? ⟨b,2,none⟩=some (.int .i64 (d:Int))/\w.frozen? ⟨b,2,none⟩=false:=by
 obtain⟨_,v,hb,_⟩:=h;exact⟨by rw[cell_of_heap hb];rfl,Lib.frozen_of_heap hb 2⟩
theorem ea.kH{base b:Nat}{s:ByteArray}{w:World}(h:ea base b acc s d w)(s':ByteArray):ea base b acc s' d (w.setCell ⟨b,0,none⟩ (.string s')):=by
 obtain⟨hB,v,hb,aX,hne⟩:=h;refine⟨hB,v,?_,?_,hne⟩
 ·simp[World.setCell,Array.getElem?_modify,hb]
 exact aX.kept (row:=some b) ⟨rfl,rfl,rfl,by simp[World.setCell],fun k _ hk=>heap_setCell _ _ _ _ (fun e=>hk (by simp[e]))⟩ (inr hne)
theorem ea.qu{base b:Nat}{s:ByteArray}{w:World}(h:ea base b acc s d w)(d':Nat):ea base b acc s d' (w.setCell ⟨b,2,none⟩ (.int .i64 (d':Int))):=by
 obtain⟨hB,v,hb,aX,hne⟩:=h;refine⟨hB,v,?_,?_,hne⟩
 ·simp[World.setCell,Array.getElem?_modify,hb]
 exact aX.kept (row:=some b) ⟨rfl,rfl,rfl,by simp[World.setCell],fun k _ hk=>heap_setCell _ _ _ _ (fun e=>hk (by simp[e]))⟩ (inr hne)
def aH(base b:Nat)(w w':World):Prop:=Below base w w'/\OthersKept 148 (some b) w w'
theorem aH.refl(base b:Nat)(w:World):aH base b w w:=⟨Below.refl _ _,Lib.OthersKept.refl _ _ _⟩
theorem aH.trans{base b:Nat}{w:World}(h:aH base b a w)(k:aH base b w w'):aH base b a w':=⟨h.1.trans k.1,h.2.trans k.2⟩
theorem aH.below{base b:Nat}{w:World}(h:aH base b a w)(hb:base<=w.heap.size)(k:Below w.heap.size w w'):aH base b a w':=⟨h.1.trans (k.mono hb),zfw h.2 k⟩
theorem aH.set{base b:Nat}{w:World}(h:aH base b a w)(hB:base<=b)(j:Nat)(v:Value):aH base b a (w.setCell ⟨b,j,none⟩ v):=⟨h.1.setCell (p:=⟨b,j,none⟩) hB v,h.2.setCell ⟨b,j,none⟩ rfl v⟩
theorem aH.size{base b:Nat}{w:World}(h:aH base b w w'):w.heap.size<=w'.heap.size:=h.1.size
theorem St.fU{base b:Nat}{w:World}{cs:Array Value}(h:St w t g cs)(k:aH base b w w')(hb:g≠b)(ht:t≠148):St w' t g cs:=h.others k.2 hb ht
theorem Ev(base b:Nat)(acc:List Pc)(s:ByteArray)(d:Nat)(k:Int)(p:Nat->Bool)(w:World)(h:ea base b acc s d w)(hl:acc.length<=10000):
  Calls prog 140 #[.pointer (some ⟨b,0,none⟩),.int .i64 k,(.agg #[.int .u64 ((wd p 0:Nat):Int),.int .u64 ((wd p 1:Nat):Int),.int .u64 ((wd p 2:Nat):Int),.int .u64 ((wd p 3:Nat):Int)])] w fun e w'=>e=.returned (.tuple #[])/\ea base b (acc++[⟨k,p⟩]) s d w'/\aH base b w w':=by
 obtain⟨i0,hi,dD,db,cW⟩:=info_parts rS;have H2:=hid (h.aa ((Below.refl _ w).alloc (le_refl _) (.cells #[.int .u64 ((wd p 0:Nat):Int),.int .u64 ((wd p 1:Nat):Int),.int .u64 ((wd p 2:Nat):Int),.int .u64 ((wd p 3:Nat):Int)] 146)));have HK:=hid ((aH.refl base b w).below h.low ((Below.refl _ w).alloc (le_refl _) (.cells #[.int .u64 ((wd p 0:Nat):Int),.int .u64 ((wd p 1:Nat):Int),.int .u64 ((wd p 2:Nat):Int),.int .u64 ((wd p 3:Nat):Int)] 146)));have HS:=hid (St.new w 146 #[.int .u64 ((wd p 0:Nat):Int),.int .u64 ((wd p 1:Nat):Int),.int .u64 ((wd p 2:Nat):Int),.int .u64 ((wd p 3:Nat):Int)]);have yE:Hid (mZ (acc++[⟨k,p⟩])=mZ acc++[.int .i64 k,.int .u64 ((wd p 0:Nat):Int),.int .u64 ((wd p 1:Nat):Int),.int .u64 ((wd p 2:Nat):Int),.int .u64 ((wd p 3:Nat):Int)]):=by
  show _=_;rw[zhZ];rfl
 have Em:Hid ((acc++[(⟨k,p⟩:Pc)]).length=acc.length+1):=by show _=_;simp
 have ey:=h.lt;have tR:(mZ acc).length=acc.length*5:=zhY acc;clear h;go_enter func140,ntmps140;go_wp2_with fail;generalize w.alloc (.cells #[.int .u64 ((wd p 0:Nat):Int),.int .u64 ((wd p 1:Nat):Int),.int .u64 ((wd p 2:Nat):Int),.int .u64 ((wd p 3:Nat):Int)] 146)=W2 at H2 HK HS⊢;obtain⟨c0,c1,c2,c3,-⟩:=cZ HS.out;have di:=H2.out.low;have ng:=H2.out.lt;obtain⟨hB,v,nZ,aX,hne⟩:=H2.out;have d1:W2.cell? ⟨b,1,none⟩=some v:=by rw[cell_of_heap nZ];rfl
 obtain⟨ao,FI,rfl⟩:=bF aX;clear HS H2
 go_region_law (
  refine step_append_lies _ (by rfl) _ _ _ (by rfl) base 148 i0 (.agg #[.int .i64 0,.int .u64 0,.int .u64 0,.int .u64 0,.int .u64 0]) 5 40 underlying110 hi dD db cW (by rfl) (by decide) _ acc.length (mZ acc) (by rfl) (by first|exact aX.drew.alloc _|exact (aX.alloc _).drew) ⟨W2.heap.size,0,none⟩ 1 1 [.int .i64 k,.int .u64 ((wd p 0:Nat):Int),.int .u64 ((wd p 1:Nat):Int),.int .u64 ((wd p 2:Nat):Int),.int .u64 ((wd p 3:Nat):Int)] (by rfl) (by rfl) (World.news_of_block (cs:=#[.int .i64 k,.int .u64 ((wd p 0:Nat):Int),.int .u64 ((wd p 1:Nat):Int),.int .u64 ((wd p 2:Nat):Int),.int .u64 ((wd p 3:Nat):Int)]) (by first|exact heap_alloc_new _ _|exact St.new _ _ _)) (by intro u hu;simp at hu;rcases hu with rfl|rfl|rfl|rfl|rfl <;> rfl) (by omega) (by unfold maxLen;omega) (by omega) (by simp;omega) _ (by rfl) ?_
  intro g cap w1 Iw de ew Dy
  have cv:w1.heap[b]?=some (.cells #[.string s,.slice ao acc.length FI,.int .i64 (d:Int)] 154 (0,0)):=(de.block b (by simp;omega) (fun e=>hne e.symm)).trans ((Lib.alloc_old _ _ b (by first|exact ng|(simp;omega))).trans nZ)
  have e1:w1.cell? ⟨b,1,none⟩=some (.slice ao acc.length FI):=by (rw[cell_of_heap cv];rfl)
  have f1:w1.frozen? ⟨b,1,none⟩=false:=Lib.frozen_of_heap cv 1)
 all_goals
  go_wp2_with fail
  go_end0
  have qO:(Value.slice (some ⟨g,0,none⟩) (acc.length+1) cap).ownBlock≠some b:=by
   intro e;simp[Value.ownBlock] at e;rcases ew with ew|ew
   ·exact hne (ew.trans (by rw[e]))
   simp at ew;omega
  refine⟨rfl,⟨hB,_,?_,?_,qO⟩,?_⟩
  ·simp[World.setCell,Array.getElem?_modify,cv]
  ·rw[yE.out,Em.out];exact Iw.kept (row:=some b) ⟨rfl,rfl,rfl,by simp[World.setCell],fun k _ hk=>heap_setCell _ _ _ _ (fun e=>hk (by simp[e]))⟩ (inr qO)
  ·refine (HK.out.trans ?_).set hB 1 _;refine⟨?_,?_⟩
   ·refine Below.grown ?_ de (by simp;omega) (fun k hk=>(aX.lt k hk).1)
    first|exact (Below.refl _ _).drew.alloc di _|exact ((Below.refl _ _).alloc di _).drew
   refine Lib.OthersKept.grown ?_ de (Lib.ownsRow_kind (by first|exact aX.drew.alloc _|exact (aX.alloc _).drew))
   first|exact (Lib.OthersKept.refl _ _ _).drew.alloc _|exact ((Lib.OthersKept.refl _ _ _).alloc _).drew
theorem GD(s:ByteArray)(h:0<s.size):ae s=s[0].toNat :: (ae s).drop 1:=by
 have:=Gh s 0 h;simpa using this
theorem La(s:ByteArray)(h:s.size=0):ae s=[]:=by
 have:=oK s;exact List.length_eq_zero_iff.1 (by omega)
theorem Jg(s:ByteArray)(h:s.size=0):s.toList=[]:=by rw[ByteArray.toList_eq];exact List.eq_nil_of_length_eq_zero (by simpa using h)
theorem nO(base b:Nat)(acc:List Pc)(s:ByteArray)(d c:Nat)(w:World)(h:ea base b acc s d w)(hc:aI c (ae s)=none):
  Calls prog 139 #[.pointer (some ⟨b,0,none⟩),.int .u8 c] w fun e w'=>e=.returned (.bool false)/\w=w':=by
 obtain⟨c0,-⟩:=h.rest;clear h;rcases eq_zero_or_pos s.size with hz|hp
 ·have hl:s.toList=[]:=Jg s hz;have iE:s.toList.isEmpty=true:=by rw[hl];rfl
  clear hc hz;go_enter func139,ntmps139;go_wp2;go_ret;exact⟨rfl,rfl⟩
 have hl:s.toList.isEmpty=false:=Ac s hp;have iE:(!s.toList.isEmpty)=true:=by rw[hl];rfl
 have hne:s[0].toNat≠c:=by
  intro e;rw[GD s hp] at hc;simp[aI,e] at hc
 have e0:((s[0].toNat:Int) != (c:Int))=true:=by simp;omega
 clear hc hne;go_enter func139,ntmps139;go_wp2;go_ret;exact⟨rfl,rfl⟩
theorem tN(base b:Nat)(acc:List Pc)(s:ByteArray)(d c:Nat)(r:List Nat)(w:World)(h:ea base b acc s d w)(hc:aI c (ae s)=some r)(hs:s.size<=10000):
  Calls prog 139 #[.pointer (some ⟨b,0,none⟩),.int .u8 c] w fun e w'=>e=.returned (.bool true)/\aH base b w w'/\∃s',ae s'=r/\s'.size+1=s.size/\ea base b acc s' d w':=by
 obtain⟨c0,f0⟩:=h.rest;have HP:=hid h;clear h;have e:=ve hc;have da:=oK s;rw[e] at da;simp at da;have hp:0<s.size:=by omega
 have hl:s.toList.isEmpty=false:=Ac s hp;have iE:(!s.toList.isEmpty)=true:=by rw[hl];rfl
 have h2:=GD s hp;rw[e] at h2;simp at h2;have e0:((s[0].toNat:Int) != (c:Int))=false:=by simp;omega
 have HR:Hid (ae (s.extract 1 s.size)=r):=by show _=_;rw[PX,e];rfl
 have HZ:Hid ((s.extract 1 s.size).size+1=s.size):=by show _=_;rw[ByteArray.size_extract];omega
 clear hc e da h2;go_enter func139,ntmps139;go_wp2;go_ret;exact⟨rfl,(aH.refl base b w).set HP.out.1 0 _,_,HR.out,HZ.out,HP.out.kH _⟩
theorem NG(base b:Nat)(acc:List Pc)(s sp:ByteArray)(d:Nat)(w:World)(h:ea base b acc s d w)(hs:s.size<=10000)(hc:bw sp (ae s)=none):
  Calls prog 197 #[.pointer (some ⟨b,0,none⟩),.string sp] w fun e w'=>e=.returned (.tuple #[.int .u8 0,.bool false])/\Below w.heap.size w w':=by
 obtain⟨c0,f0⟩:=h.rest;clear h;unfold bw at hc;have aw:=Se (ae s) (JI s);rcases hr:rd (ae s) with ⟨a,n,o⟩;rw[hr] at hc aw;simp only at hc aw;have HR:=hid hr;have HM:Hid (s.size<=maxLen):=by show _<=_;unfold maxLen;omega
 clear hr;rcases o with _|_
 ·clear hc;go_enter func197,ntmps197;go_wp2_with fail;refine (IT s HM.out _).mono ?_;rintro e w1 ⟨rfl,b1⟩;rw[HR.out,G8];go_wp2;go_ret2;exact⟨rfl,b1⟩
 have jf:n=1/\Bx sp a=true:=by simpa using hc
 obtain⟨rfl,h2⟩:=jf;have h3:=OT sp a aw.1;rw[h2] at h3;have h4:0<=gz sp a:=by simpa using h3
 clear hc h2 h3 aw;go_enter func197,ntmps197;go_wp2_with fail;refine (IT s HM.out _).mono ?_;rintro e w1 ⟨rfl,b1⟩;rw[HR.out,G8];go_wp2_with fail;refine (J3 sp a _).mono ?_;rintro e w2 ⟨rfl,rfl⟩;go_wp2;go_ret2;exact⟨rfl,b1⟩
theorem Ck(base b:Nat)(acc:List Pc)(s sp:ByteArray)(d c:Nat)(r:List Nat)(w:World)(h:ea base b acc s d w)(hs:s.size<=10000)(hc:bw sp (ae s)=some (c,r)):
  Calls prog 197 #[.pointer (some ⟨b,0,none⟩),.string sp] w fun e w'=>e=.returned (.tuple #[.int .u8 c,.bool true])/\c<256/\aH base b w w'/\∃s',ae s'=r/\s'.size<s.size/\ea base b acc s' d w':=by
 obtain⟨c0,f0⟩:=h.rest;have HP:=hid h;have di:=h.low;have ey:=h.lt;have hlen:=JQ hc;clear h;unfold bw at hc;have aw:=Se (ae s) (JI s);rcases hr:rd (ae s) with ⟨a,n,o⟩;rw[hr] at hc aw;simp only at hc aw;have HR:=hid hr;have HM:Hid (s.size<=maxLen):=by show _<=_;unfold maxLen;omega
 clear hr;split at hc
 ·rename_i Lw;obtain⟨rfl,Lw⟩:=Lw;simp only[Option.some.injEq,Prod.mk.injEq] at hc;obtain⟨rfl,hc⟩:=hc;have hn:=aw.2 rfl;rw[oK] at hn;have ha:=aw.1;have Ds:Hid (ae (s.extract n s.size)=r):=by show _=_;rw[PX,hc]
  have HZ:Hid ((s.extract n s.size).size<s.size):=by show _<_;rw[ByteArray.size_extract];omega
  have h3:=OT sp a ha;have h4:n≠1\/gz sp a<0:=by
   by_cases h1:n=1
   ·right;have:Bx sp a=false:=by
     rcases h5:Bx sp a with _|_
     ·rfl
     exact absurd ⟨h1,h5⟩ Lw
    rw[this] at h3;simpa using h3
   left;exact h1
  clear hc aw Lw hlen h3;rcases h4 with h4|h4
  ·have e1:((n:Int) == 1)=false:=(by simp;omega);go_enter func197,ntmps197;go_wp2_with fail;refine (IT s HM.out _).mono ?_;rintro e w1 ⟨rfl,b1⟩;rw[HR.out,G8];have gw:=hid (HP.out.aa b1);obtain⟨d0,g0⟩:=gw.out.rest;have HK:=hid ((aH.refl base b w).below di b1);go_wp2;go_ret2;exact⟨rfl,ha,HK.out.set HP.out.1 0 _,_,Ds.out,HZ.out,gw.out.kH _⟩
  by_cases h5:n=1
  ·subst h5;go_enter func197,ntmps197;go_wp2_with fail;refine (IT s HM.out _).mono ?_;rintro e w1 ⟨rfl,b1⟩;rw[HR.out,G8];have gw:=hid (HP.out.aa b1);obtain⟨d0,g0⟩:=gw.out.rest;have HK:=hid ((aH.refl base b w).below di b1);go_wp2_with fail;refine (J3 sp a _).mono ?_;rintro e w2 ⟨rfl,rfl⟩;go_wp2;go_ret2;exact⟨rfl,ha,HK.out.set HP.out.1 0 _,_,Ds.out,HZ.out,gw.out.kH _⟩
  have e1:((n:Int) == 1)=false:=by simp;omega
  go_enter func197,ntmps197;go_wp2_with fail;refine (IT s HM.out _).mono ?_;rintro e w1 ⟨rfl,b1⟩;rw[HR.out,G8];have gw:=hid (HP.out.aa b1);obtain⟨d0,g0⟩:=gw.out.rest;have HK:=hid ((aH.refl base b w).below di b1);go_wp2;go_ret2;exact⟨rfl,ha,HK.out.set HP.out.1 0 _,_,Ds.out,HZ.out,gw.out.kH _⟩
 simp at hc
theorem aH.gp{base b:Nat}{w0 w:World}(h:aH base b w0 w)(hg:base<=g)(hs:∃cs fz,w.heap[g]?=some (.cells cs 146 fz))(hgn:w0.heap.size<=g)(d0 d1 d2 d3:Value):
  aH base b w0 ((((w.setCell ⟨g,0,none⟩ d0).setCell ⟨g,1,none⟩ d1).setCell ⟨g,2,none⟩ d2).setCell ⟨g,3,none⟩ d3):=by
 refine⟨uU h.1 hg _ _ _ _,?_⟩;intro k o hk hb ho;have aw:=(Array.getElem?_eq_some_iff.1 hk).1;have h1:=h.2 k o hk hb ho;rw[heap_setCell _ _ _ _ (by show k≠g;omega),heap_setCell _ _ _ _ (by show k≠g;omega),heap_setCell _ _ _ _ (by show k≠g;omega),heap_setCell _ _ _ _ (by show k≠g;omega)];exact h1
theorem ea.gp{base b:Nat}{s:ByteArray}{w:World}(h:ea base b acc s d w)(hg:g≠b)(hs:∃cs fz,w.heap[g]?=some (.cells cs 146 fz))(d0 d1 d2 d3:Value):
  ea base b acc s d ((((w.setCell ⟨g,0,none⟩ d0).setCell ⟨g,1,none⟩ d1).setCell ⟨g,2,none⟩ d2).setCell ⟨g,3,none⟩ d3):=by
 obtain⟨h1,v,h2,h3,h4⟩:=h;have hv:v.ownBlock≠some g:=by
  intro e;obtain⟨c,fz,hc⟩:=Lib.ownsRow_kind h3 g e;obtain⟨cs,T6,hs⟩:=hs;rw[hs] at hc;simp at hc
 refine⟨h1,v,?_,?_,h4⟩
 ·rw[heap_setCell _ _ _ _ (by show b≠g;omega),heap_setCell _ _ _ _ (by show b≠g;omega),heap_setCell _ _ _ _ (by show b≠g;omega),heap_setCell _ _ _ _ (by show b≠g;omega)];exact h2
 have step:∀(W:World) (j:Nat) (u:Value),W.ownsRow base 148 5 v acc.length (mZ acc)->(W.setCell ⟨g,j,none⟩ u).ownsRow base 148 5 v acc.length (mZ acc):=fun W j u ho=>ho.kept (row:=some g) ⟨rfl,rfl,rfl,by simp[World.setCell],fun k _ hk=>heap_setCell _ _ _ _ (fun e=>hk (by simp[e]))⟩ (inr hv)
 exact step _ _ _ (step _ _ _ (step _ _ _ (step _ _ _ h3)))
theorem St.is{w:World}{cs:Array Value}(h:St w t g cs):∃cs fz,w.heap[g]?=some (.cells cs t fz):=⟨cs,(0,0),h⟩
theorem zl7(base b:Nat)(acc:List Pc)(s:ByteArray)(d:Nat)(w:World)(h:ea base b acc s d w)(hs:s.size<=10000)(h1:bw eU (ae s)=none):
  Calls prog 206 #[.pointer (some ⟨b,0,none⟩)] w fun e w'=>(∃q:Nat->Bool,e=.returned (.tuple #[(.agg #[.int .u64 ((wd q 0:Nat):Int),.int .u64 ((wd q 1:Nat):Int),.int .u64 ((wd q 2:Nat):Int),.int .u64 ((wd q 3:Nat):Int)]),.bool false]))/\aH base b w w':=by
 have ey:=h.lt;have di:=h.low;have HB:=h.1;have dB:=hid (St.new w 146 #[.int .u64 0,.int .u64 0,.int .u64 0,.int .u64 0]);have k0:aH base b w (w.alloc (.cells #[.int .u64 0,.int .u64 0,.int .u64 0,.int .u64 0] 146)):=(aH.refl base b w).below di ((Below.refl _ w).alloc (le_refl _) _);have rZ:=hid (h.aa ((Below.refl _ w).alloc (le_refl _) (.cells #[.int .u64 0,.int .u64 0,.int .u64 0,.int .u64 0] 146)));have pH:=hid k0;clear h k0;go_enter func206,ntmps206;go_wp2_with fail;refine (NG base b acc s eU d _ rZ.out hs h1).mono ?_;rintro e w1 ⟨rfl,b1⟩;have nJ:=hid (pH.out.below rZ.out.low b1);have my:=hid (dB.out.aa b1);clear b1 rZ pH dB;go_wp2_with fail;refine (Gi 0 0 (by decide) (by decide) _).mono ?_;rintro e w9 ⟨rfl,b9⟩;have jT:=hid (nJ.out.below (le_trans di nJ.out.size) b9);obtain⟨q0,q1,q2,q3,q4,q5,q6,q7⟩:=cZ (my.out.aa b9);have zm:=jT.out.size;have rC:=hid (my.out.aa b9);clear b9;go_wp2_with fail;exact bodyPost_ret (v:=.tuple #[(.agg #[.int .u64 ((wd (ay 0 (0+1-0)) 0:Nat):Int),.int .u64 ((wd (ay 0 (0+1-0)) 1:Nat):Int),.int .u64 ((wd (ay 0 (0+1-0)) 2:Nat):Int),.int .u64 ((wd (ay 0 (0+1-0)) 3:Nat):Int)]),.bool false]) (by first|(simp[results,results206,go_sem,q0,q1,q2,q3];done)|(simp[results,results206,go_sem,q0,q1,q2,q3];omega)) rfl ⟨⟨_,rfl⟩,(jT.out.gp di (rC.out.is) (le_refl _) _ _ _ _)⟩
theorem zl8(base b:Nat)(acc:List Pc)(s:ByteArray)(d:Nat)(a:Nat)(r r1:List Nat)(w:World)(h:ea base b acc s d w)(hs:s.size<=10000)(h1:bw eU (ae s)=some (a,r))(h2:aI 45 r=some r1)(h3:bw eU r1=none):
  Calls prog 206 #[.pointer (some ⟨b,0,none⟩)] w fun e w'=>(∃q:Nat->Bool,e=.returned (.tuple #[(.agg #[.int .u64 ((wd q 0:Nat):Int),.int .u64 ((wd q 1:Nat):Int),.int .u64 ((wd q 2:Nat):Int),.int .u64 ((wd q 3:Nat):Int)]),.bool false]))/\aH base b w w':=by
 have ey:=h.lt;have di:=h.low;have HB:=h.1;have dB:=hid (St.new w 146 #[.int .u64 0,.int .u64 0,.int .u64 0,.int .u64 0]);have k0:aH base b w (w.alloc (.cells #[.int .u64 0,.int .u64 0,.int .u64 0,.int .u64 0] 146)):=(aH.refl base b w).below di ((Below.refl _ w).alloc (le_refl _) _);have rZ:=hid (h.aa ((Below.refl _ w).alloc (le_refl _) (.cells #[.int .u64 0,.int .u64 0,.int .u64 0,.int .u64 0] 146)));have pH:=hid k0;clear h k0;go_enter func206,ntmps206;go_wp2_with fail;refine (Ck base b acc s eU d a r _ rZ.out hs h1).mono ?_;rintro e w1 ⟨rfl,pI,k1,s1,fA,db,fK⟩;have nJ:=hid (pH.out.trans k1);have my:=hid (dB.out.fU k1 (by omega) (by decide));have gw:=hid fK;have rX:=hid fA;clear k1 fK fA rZ pH dB;go_wp2_with fail;refine (tN base b acc s1 d 45 r1 _ gw.out (by rw[rX.out];exact h2) (by omega)).mono ?_;rintro e w2 ⟨rfl,k2,s2,dj,cW,fj⟩;have xT:=hid (nJ.out.trans k2);have jD:=hid (my.out.fU k2 (by omega) (by decide));have kr:=hid fj;have nQ:=hid dj;clear k2 fj dj gw nJ my;go_wp2_with fail;refine (NG base b acc s2 eU d _ kr.out (by omega) (by rw[nQ.out];exact h3)).mono ?_;rintro e w3 ⟨rfl,b3⟩;have vI:=hid (xT.out.below kr.out.low b3);have ud:=hid (jD.out.aa b3);clear b3 kr xT jD;go_wp2_with fail;refine (Gi a 0 pI (by decide) _).mono ?_;rintro e w9 ⟨rfl,b9⟩;have jT:=hid (vI.out.below (le_trans di vI.out.size) b9);obtain⟨q0,q1,q2,q3,q4,q5,q6,q7⟩:=cZ (ud.out.aa b9);have zm:=jT.out.size;have rC:=hid (ud.out.aa b9);clear b9;go_wp2_with fail;exact bodyPost_ret (v:=.tuple #[(.agg #[.int .u64 ((wd (ay a (0+1-a)) 0:Nat):Int),.int .u64 ((wd (ay a (0+1-a)) 1:Nat):Int),.int .u64 ((wd (ay a (0+1-a)) 2:Nat):Int),.int .u64 ((wd (ay a (0+1-a)) 3:Nat):Int)]),.bool false]) (by first|(simp[results,results206,go_sem,q0,q1,q2,q3];done)|(simp[results,results206,go_sem,q0,q1,q2,q3];omega)) rfl ⟨⟨_,rfl⟩,(jT.out.gp di (rC.out.is) (le_refl _) _ _ _ _)⟩
theorem zl9(base b:Nat)(acc:List Pc)(s:ByteArray)(d:Nat)(a c:Nat)(r r1 r2:List Nat)(w:World)(h:ea base b acc s d w)(hs:s.size<=10000)(h1:bw eU (ae s)=some (a,r))(h2:aI 45 r=some r1)(h3:bw eU r1=some (c,r2))(h4:c<a):
  Calls prog 206 #[.pointer (some ⟨b,0,none⟩)] w fun e w'=>(∃q:Nat->Bool,e=.returned (.tuple #[(.agg #[.int .u64 ((wd q 0:Nat):Int),.int .u64 ((wd q 1:Nat):Int),.int .u64 ((wd q 2:Nat):Int),.int .u64 ((wd q 3:Nat):Int)]),.bool false]))/\aH base b w w':=by
 have ey:=h.lt;have di:=h.low;have HB:=h.1;have dB:=hid (St.new w 146 #[.int .u64 0,.int .u64 0,.int .u64 0,.int .u64 0]);have k0:aH base b w (w.alloc (.cells #[.int .u64 0,.int .u64 0,.int .u64 0,.int .u64 0] 146)):=(aH.refl base b w).below di ((Below.refl _ w).alloc (le_refl _) _);have rZ:=hid (h.aa ((Below.refl _ w).alloc (le_refl _) (.cells #[.int .u64 0,.int .u64 0,.int .u64 0,.int .u64 0] 146)));have pH:=hid k0;clear h k0;go_enter func206,ntmps206;go_wp2_with fail;refine (Ck base b acc s eU d a r _ rZ.out hs h1).mono ?_;rintro e w1 ⟨rfl,pI,k1,s1,fA,db,fK⟩;have nJ:=hid (pH.out.trans k1);have my:=hid (dB.out.fU k1 (by omega) (by decide));have gw:=hid fK;have rX:=hid fA;clear k1 fK fA rZ pH dB;go_wp2_with fail;refine (tN base b acc s1 d 45 r1 _ gw.out (by rw[rX.out];exact h2) (by omega)).mono ?_;rintro e w2 ⟨rfl,k2,s2,dj,cW,fj⟩;have xT:=hid (nJ.out.trans k2);have jD:=hid (my.out.fU k2 (by omega) (by decide));have kr:=hid fj;have nQ:=hid dj;clear k2 fj dj gw nJ my;go_wp2_with fail;refine (Ck base b acc s2 eU d c r2 _ kr.out (by omega) (by rw[nQ.out];exact h3)).mono ?_;rintro e w3 ⟨rfl,ti,k3,s3,mN,FV,gK⟩;have vI:=hid (xT.out.trans k3);have ud:=hid (jD.out.fU k3 (by omega) (by decide));have Bk:=hid gK;have vU:=hid mN;clear k3 gK mN kr xT jD;go_wp2_with fail;refine (Gi a c pI ti _).mono ?_;rintro e w9 ⟨rfl,b9⟩;have jT:=hid (vI.out.below Bk.out.low b9);have KA:=hid (Bk.out.aa b9);obtain⟨q0,q1,q2,q3,q4,q5,q6,q7⟩:=cZ (ud.out.aa b9);have zm:=jT.out.size;have rC:=hid (ud.out.aa b9);clear b9;go_wp2_with fail;exact bodyPost_ret (v:=.tuple #[(.agg #[.int .u64 ((wd (ay a (c+1-a)) 0:Nat):Int),.int .u64 ((wd (ay a (c+1-a)) 1:Nat):Int),.int .u64 ((wd (ay a (c+1-a)) 2:Nat):Int),.int .u64 ((wd (ay a (c+1-a)) 3:Nat):Int)]),.bool false]) (by first|(simp[results,results206,go_sem,q0,q1,q2,q3];done)|(simp[results,results206,go_sem,q0,q1,q2,q3];omega)) rfl ⟨⟨_,rfl⟩,(jT.out.gp di (rC.out.is) (le_refl _) _ _ _ _)⟩
theorem zj9(base b:Nat)(acc:List Pc)(s:ByteArray)(d:Nat)(a:Nat)(r:List Nat)(w:World)(h:ea base b acc s d w)(hs:s.size<=10000)(h1:bw eU (ae s)=some (a,r))(h2:aI 45 r=none):
  Calls prog 206 #[.pointer (some ⟨b,0,none⟩)] w fun e w'=>e=.returned (.tuple #[(.agg #[.int .u64 ((wd (ay a (a+1-a)) 0:Nat):Int),.int .u64 ((wd (ay a (a+1-a)) 1:Nat):Int),.int .u64 ((wd (ay a (a+1-a)) 2:Nat):Int),.int .u64 ((wd (ay a (a+1-a)) 3:Nat):Int)]),.bool true])/\aH base b w w'/\∃s',ae s'=r/\s'.size<s.size/\ea base b acc s' d w':=by
 have ey:=h.lt;have di:=h.low;have HB:=h.1;have dB:=hid (St.new w 146 #[.int .u64 0,.int .u64 0,.int .u64 0,.int .u64 0]);have k0:aH base b w (w.alloc (.cells #[.int .u64 0,.int .u64 0,.int .u64 0,.int .u64 0] 146)):=(aH.refl base b w).below di ((Below.refl _ w).alloc (le_refl _) _);have rZ:=hid (h.aa ((Below.refl _ w).alloc (le_refl _) (.cells #[.int .u64 0,.int .u64 0,.int .u64 0,.int .u64 0] 146)));have pH:=hid k0;clear h k0;go_enter func206,ntmps206;go_wp2_with fail;refine (Ck base b acc s eU d a r _ rZ.out hs h1).mono ?_;rintro e w1 ⟨rfl,pI,k1,s1,fA,db,fK⟩;have nJ:=hid (pH.out.trans k1);have my:=hid (dB.out.fU k1 (by omega) (by decide));have gw:=hid fK;have rX:=hid fA;clear k1 fK fA rZ pH dB;go_wp2_with fail;refine (nO base b acc s1 d 45 _ gw.out (by rw[rX.out];exact h2)).mono ?_;rintro e w2 ⟨rfl,rfl⟩;go_wp2_with fail;refine (Gi a a pI pI _).mono ?_;rintro e w9 ⟨rfl,b9⟩;have jT:=hid (nJ.out.below gw.out.low b9);have KA:=hid (gw.out.aa b9);obtain⟨q0,q1,q2,q3,q4,q5,q6,q7⟩:=cZ (my.out.aa b9);have zm:=jT.out.size;have rC:=hid (my.out.aa b9);clear b9;go_wp2_with fail;exact bodyPost_ret (v:=.tuple #[(.agg #[.int .u64 ((wd (ay a (a+1-a)) 0:Nat):Int),.int .u64 ((wd (ay a (a+1-a)) 1:Nat):Int),.int .u64 ((wd (ay a (a+1-a)) 2:Nat):Int),.int .u64 ((wd (ay a (a+1-a)) 3:Nat):Int)]),.bool true]) (by first|(simp[results,results206,go_sem,q0,q1,q2,q3];done)|(simp[results,results206,go_sem,q0,q1,q2,q3];omega)) rfl ⟨rfl,(jT.out.gp di (rC.out.is) (le_refl _) _ _ _ _),s1,rX.out,db,KA.out.gp (by omega) (rC.out.is) _ _ _ _⟩
theorem zka(base b:Nat)(acc:List Pc)(s:ByteArray)(d:Nat)(a c:Nat)(r r1 r2:List Nat)(w:World)(h:ea base b acc s d w)(hs:s.size<=10000)(h1:bw eU (ae s)=some (a,r))(h2:aI 45 r=some r1)(h3:bw eU r1=some (c,r2))(h4:a<=c):
  Calls prog 206 #[.pointer (some ⟨b,0,none⟩)] w fun e w'=>e=.returned (.tuple #[(.agg #[.int .u64 ((wd (ay a (c+1-a)) 0:Nat):Int),.int .u64 ((wd (ay a (c+1-a)) 1:Nat):Int),.int .u64 ((wd (ay a (c+1-a)) 2:Nat):Int),.int .u64 ((wd (ay a (c+1-a)) 3:Nat):Int)]),.bool true])/\aH base b w w'/\∃s',ae s'=r2/\s'.size<s.size/\ea base b acc s' d w':=by
 have ey:=h.lt;have di:=h.low;have HB:=h.1;have dB:=hid (St.new w 146 #[.int .u64 0,.int .u64 0,.int .u64 0,.int .u64 0]);have k0:aH base b w (w.alloc (.cells #[.int .u64 0,.int .u64 0,.int .u64 0,.int .u64 0] 146)):=(aH.refl base b w).below di ((Below.refl _ w).alloc (le_refl _) _);have rZ:=hid (h.aa ((Below.refl _ w).alloc (le_refl _) (.cells #[.int .u64 0,.int .u64 0,.int .u64 0,.int .u64 0] 146)));have pH:=hid k0;clear h k0;go_enter func206,ntmps206;go_wp2_with fail;refine (Ck base b acc s eU d a r _ rZ.out hs h1).mono ?_;rintro e w1 ⟨rfl,pI,k1,s1,fA,db,fK⟩;have nJ:=hid (pH.out.trans k1);have my:=hid (dB.out.fU k1 (by omega) (by decide));have gw:=hid fK;have rX:=hid fA;clear k1 fK fA rZ pH dB;go_wp2_with fail;refine (tN base b acc s1 d 45 r1 _ gw.out (by rw[rX.out];exact h2) (by omega)).mono ?_;rintro e w2 ⟨rfl,k2,s2,dj,cW,fj⟩;have xT:=hid (nJ.out.trans k2);have jD:=hid (my.out.fU k2 (by omega) (by decide));have kr:=hid fj;have nQ:=hid dj;clear k2 fj dj gw nJ my;go_wp2_with fail;refine (Ck base b acc s2 eU d c r2 _ kr.out (by omega) (by rw[nQ.out];exact h3)).mono ?_;rintro e w3 ⟨rfl,ti,k3,s3,mN,FV,gK⟩;have vI:=hid (xT.out.trans k3);have ud:=hid (jD.out.fU k3 (by omega) (by decide));have Bk:=hid gK;have vU:=hid mN;clear k3 gK mN kr xT jD;go_wp2_with fail;refine (Gi a c pI ti _).mono ?_;rintro e w9 ⟨rfl,b9⟩;have jT:=hid (vI.out.below Bk.out.low b9);have KA:=hid (Bk.out.aa b9);obtain⟨q0,q1,q2,q3,q4,q5,q6,q7⟩:=cZ (ud.out.aa b9);have zm:=jT.out.size;have rC:=hid (ud.out.aa b9);clear b9;go_wp2_with fail;exact bodyPost_ret (v:=.tuple #[(.agg #[.int .u64 ((wd (ay a (c+1-a)) 0:Nat):Int),.int .u64 ((wd (ay a (c+1-a)) 1:Nat):Int),.int .u64 ((wd (ay a (c+1-a)) 2:Nat):Int),.int .u64 ((wd (ay a (c+1-a)) 3:Nat):Int)]),.bool true]) (by first|(simp[results,results206,go_sem,q0,q1,q2,q3];done)|(simp[results,results206,go_sem,q0,q1,q2,q3];omega)) rfl ⟨rfl,(jT.out.gp di (rC.out.is) (le_refl _) _ _ _ _),s3,vU.out,by omega,KA.out.gp (by omega) (rC.out.is) _ _ _ _⟩
theorem Sk(base b:Nat)(acc:List Pc)(s:ByteArray)(d:Nat)(w:World)(h:ea base b acc s d w)(hs:s.size<=10000)(hc:dJ (ae s)=none):
  Calls prog 206 #[.pointer (some ⟨b,0,none⟩)] w fun e w'=>(∃q:Nat->Bool,e=.returned (.tuple #[(.agg #[.int .u64 ((wd q 0:Nat):Int),.int .u64 ((wd q 1:Nat):Int),.int .u64 ((wd q 2:Nat):Int),.int .u64 ((wd q 3:Nat):Int)]),.bool false]))/\aH base b w w':=by
 unfold dJ at hc;rcases h1:bw eU (ae s) with _|⟨a,r⟩
 ·exact zl7 base b acc s d w h hs h1
 rw[h1] at hc;simp only at hc;rcases h2:aI 45 r with _|r1
 ·simp[h2] at hc
 rw[h2] at hc;simp only at hc;rcases h3:bw eU r1 with _|⟨c,r2⟩
 ·exact zl8 base b acc s d a r r1 w h hs h1 h2 h3
 rw[h3] at hc;simp only at hc;exact zl9 base b acc s d a c r r1 r2 w h hs h1 h2 h3 (by
  rcases Nat.lt_or_ge c a with h|h
  ·exact h
  ·simp[h] at hc)
theorem Yf(base b:Nat)(acc:List Pc)(s:ByteArray)(d a c:Nat)(r:List Nat)(w:World)(h:ea base b acc s d w)(hs:s.size<=10000)(hc:dJ (ae s)=some (a,c,r)):
  Calls prog 206 #[.pointer (some ⟨b,0,none⟩)] w fun e w'=>e=.returned (.tuple #[(.agg #[.int .u64 ((wd (ay a (c+1-a)) 0:Nat):Int),.int .u64 ((wd (ay a (c+1-a)) 1:Nat):Int),.int .u64 ((wd (ay a (c+1-a)) 2:Nat):Int),.int .u64 ((wd (ay a (c+1-a)) 3:Nat):Int)]),.bool true])/\aH base b w w'/\∃s',ae s'=r/\s'.size<s.size/\ea base b acc s' d w':=by
 unfold dJ at hc;rcases h1:bw eU (ae s) with _|⟨a1,r1⟩
 ·simp[h1] at hc
 rw[h1] at hc;simp only at hc;rcases h2:aI 45 r1 with _|r2
 ·simp[h2] at hc;obtain⟨rfl,rfl,rfl⟩:=hc;exact zj9 base b acc s d a1 r1 w h hs h1 h2
 rw[h2] at hc;simp only at hc;rcases h3:bw eU r2 with _|⟨c1,r3⟩
 ·simp[h3] at hc
 rw[h3] at hc;simp only at hc;split at hc
 ·rename_i hle;simp at hc;obtain⟨rfl,rfl,rfl⟩:=hc;exact zka base b acc s d a1 c1 r1 r2 r3 w h hs h1 h2 h3 hle
 simp at hc
def eC(w:World)(a:Addr):Nat:=match w.cell? a with
 | some (.string s)=>s.size
 | _=>0
theorem ea.eC{base b:Nat}{s:ByteArray}{w:World}(h:ea base b acc s d w):eC w ⟨b,0,none⟩=s.size:=by
 unfold Go.Proofs.YtiijebameffenaaGreat.eC;rw[h.rest.1]
theorem Yr(f:Nat)(q:Nat->Bool)(s:List Nat)(a c:Nat)(r:List Nat)(hf:s.length<f)(h1:aI 93 s=none)(h2:dJ s=some (a,c,r)):
  ∃g,r.length<g/\aW f q s=aW g (fun x=>q x || ay a (c+1-a) x) r:=by
 match f,hf with
 | f+1,hf=>
  have:=(Ul h2).1;exact⟨f,by omega,by simp only[aW,h1,h2]⟩
theorem UL(f:Nat)(q:Nat->Bool)(s r:List Nat)(hf:s.length<f)(h1:aI 93 s=some r):aW f q s=some (q,r):=by
 match f,hf with
 | f+1,hf=>simp only[aW,h1]
theorem Sv(f:Nat)(q:Nat->Bool)(s:List Nat)(hf:s.length<f)(h1:aI 93 s=none)(h2:dJ s=none):aW f q s=none:=by
 match f,hf with
 | f+1,hf=>simp only[aW,h1,h2]
theorem FQ(t:Nat):(#[.int .u64 0,.int .u64 0,.int .u64 0,.int .u64 0]:Array Value)=#[.int .u64 ((wd bE 0:Nat):Int),.int .u64 ((wd bE 1:Nat):Int),.int .u64 ((wd bE 2:Nat):Int),.int .u64 ((wd bE 3:Nat):Int)]:=by
 have e:∀j,((wd bE j:Nat):Int)=0:=fun j=>by unfold bE;rw[zq];rfl
 simp only[e]
def Gp(base b:Nat)(acc:List Pc)(d:Nat)(o:Option ((Nat->Bool) × List Nat))(w:World)(e:Ending)(w':World):Prop:=
 aH base b w w'/\(o=none->e=.returned (.bool false))/\∀q r,o=some (q,r)->e=.returned (.bool true)/\∃s',ae s'=r/\ea base b (acc++[⟨1,q⟩]) s' d w'
theorem zon(base b:Nat)(acc:List Pc)(s:ByteArray)(d:Nat)(h0:aI 94 (ae s)=none)(w:World)(h:ea base b acc s d w)(hs:s.size<=10000)(uP:acc.length<=10000):
  Calls prog 196 #[.pointer (some ⟨b,0,none⟩)] w (Gp base b acc d (eW (ae s)) w):=by
 have HX:Hid (eW (ae s)=match aW ((ae s).length+1) bE (ae s) with
  | none=>none
  | some (q,r1)=>if en q=true then none else some (q,r1)):=by
  show _=_
  simp only[eW,h0]
  rfl
 generalize eW (ae s)=O at HX⊢;have ey:=h.lt;have di:=h.low;have hB:=h.1;unfold Gp;go_enter func196,ntmps196;go_wp2_with fail;refine (nO base b acc s d 94 _ h h0).mono ?_;rintro e w1 ⟨rfl,rfl⟩;obtain⟨s1,fA,db,fK⟩:∃s1,ae s1=ae s/\s1.size<=s.size/\ea base b acc s1 d w:=⟨s,rfl,le_refl _,h⟩
 have k1:aH base b w w:=aH.refl _ _ _;obtain⟨R,hR⟩:∃R,aW ((ae s).length+1) bE (ae s)=R:=⟨_,rfl⟩
 rw[hR] at HX;have rA:=hid hR;have K1:=hid (k1.below (le_trans di k1.size) ((Below.refl _ w).alloc (le_refl _) (.cells #[.int .u64 0,.int .u64 0,.int .u64 0,.int .u64 0] 146)));have P1:=hid (fK.aa ((Below.refl _ w).alloc (le_refl _) (.cells #[.int .u64 0,.int .u64 0,.int .u64 0,.int .u64 0] 146)));have S1:Hid (St (w.alloc (.cells #[.int .u64 0,.int .u64 0,.int .u64 0,.int .u64 0] 146)) 146 w.heap.size #[.int .u64 ((wd bE 0:Nat):Int),.int .u64 ((wd bE 1:Nat):Int),.int .u64 ((wd bE 2:Nat):Int),.int .u64 ((wd bE 3:Nat):Int)]):=by
  have:=St.new w 146 #[.int .u64 0,.int .u64 0,.int .u64 0,.int .u64 0];rw[FQ 146] at this;rw[FQ 146];exact this
 have QA:=fK.lt;have jL:=k1.size;have rX:=hid fA;have BX:w.heap.size≠b:=by omega
 clear hR h k1 fK fA h0;go_wp2;go_loopw [9] (fun _ wr=>∃(f:Nat) (q:Nat->Bool) (s':ByteArray),(ae s').length<f/\Hid (aW f q (ae s')=R)/\s'.size<=s.size/\Hid (ea base b acc s' d wr)/\Hid (St wr 146 w.heap.size #[.int .u64 ((wd q 0:Nat):Int),.int .u64 ((wd q 1:Nat):Int),.int .u64 ((wd q 2:Nat):Int),.int .u64 ((wd q 3:Nat):Int)])/\Hid (aH base b w wr)/\w.heap.size<wr.heap.size) (fun _ wr=>eC wr ⟨b,0,none⟩)
 ·exact⟨_,bE,s1,lt_succ_self _,by show aW _ _ _=_;rw[rX.out];exact rA.out,by omega,P1,S1,K1,by simp⟩
 clear P1 S1 K1 rA;obtain⟨f,q,s',hf,HQ,da,P2,S2,K2,Ad⟩:=hrel;rcases h1:aI 93 (ae s') with _|r
 ·have HK:=hid h1;rcases h2:dJ (ae s') with _|⟨a,c,r⟩
  ·have HZ:Hid (O=none):=by
    have:=HQ.out;rw[Sv f q _ hf h1 h2] at this;show _=_;rw[HX.out,<-this]
   have H2:=hid h2;clear h1 h2 HX HQ;go_wp2_with fail;refine (nO base b acc s' d 93 _ P2.out HK.out).mono ?_;rintro e w2 ⟨rfl,rfl⟩;go_wp2_with fail;refine (Sk base b acc s' d _ P2.out (by omega) H2.out).mono ?_;rintro e w3 ⟨⟨q3,rfl⟩,k3⟩;have K3:=K2.out.trans k3;have pq:=K3.size;clear k3;go_wp2;go_ret;exact⟨K3.below (le_trans di pq) ((Below.refl _ w3).alloc (le_refl _) _),fun _=>rfl,fun q r e=>by rw[HZ.out] at e;simp at e⟩
  obtain⟨f2,nD,ji⟩:=Yr f q _ a c r hf h1 h2;have um:Hid (aW f2 (fun x=>q x || ay a (c+1-a) x) r=R):=by show _=_;rw[<-ji];exact HQ.out
  have H2:=hid h2;have kO:=P2.out.eC;clear h1 h2 HQ ji;go_wp2_with fail;refine (nO base b acc s' d 93 _ P2.out HK.out).mono ?_;rintro e w2 ⟨rfl,rfl⟩;go_wp2_with fail;refine (Yf base b acc s' d a c r _ P2.out (by omega) H2.out).mono ?_;rintro e w3 ⟨rfl,k3,s3,mN,FV,gK⟩;have Ip:=S2.out.fU k3 BX (by decide);have pq:=k3.size;have K3:=hid ((K2.out.trans k3).below (le_trans di (K2.out.trans k3).size) ((Below.refl _ w3).alloc (le_refl _) (.cells #[.int .u64 ((wd (ay a (c+1-a)) 0:Nat):Int),.int .u64 ((wd (ay a (c+1-a)) 1:Nat):Int),.int .u64 ((wd (ay a (c+1-a)) 2:Nat):Int),.int .u64 ((wd (ay a (c+1-a)) 3:Nat):Int)] 146)));have P3:=hid (gK.aa ((Below.refl _ w3).alloc (le_refl _) (.cells #[.int .u64 ((wd (ay a (c+1-a)) 0:Nat):Int),.int .u64 ((wd (ay a (c+1-a)) 1:Nat):Int),.int .u64 ((wd (ay a (c+1-a)) 2:Nat):Int),.int .u64 ((wd (ay a (c+1-a)) 3:Nat):Int)] 146)));have S3:=hid (Ip.alloc (.cells #[.int .u64 ((wd (ay a (c+1-a)) 0:Nat):Int),.int .u64 ((wd (ay a (c+1-a)) 1:Nat):Int),.int .u64 ((wd (ay a (c+1-a)) 2:Nat):Int),.int .u64 ((wd (ay a (c+1-a)) 3:Nat):Int)] 146));have T3:=hid (St.new w3 146 #[.int .u64 ((wd (ay a (c+1-a)) 0:Nat):Int),.int .u64 ((wd (ay a (c+1-a)) 1:Nat):Int),.int .u64 ((wd (ay a (c+1-a)) 2:Nat):Int),.int .u64 ((wd (ay a (c+1-a)) 3:Nat):Int)]);obtain⟨c0,c1,c2,c3,-⟩:=cZ S3.out;obtain⟨d0,d1,d2,d3,-⟩:=cZ T3.out;have vU:=hid mN;clear k3 gK mN Ip P2 S2 K2;go_wp2_with fail;refine (Wt q (ay a (c+1-a)) _).mono ?_;rintro e w5 ⟨rfl,b5⟩;have s5:=S3.out.aa b5;have iR:=b5.size;simp at iR;obtain⟨r0,XG,Tf,Y9,VJ,Y5,Yd,Wj⟩:=cZ s5;have KK:=hid ((K3.out.below (le_trans di K3.out.size) b5).gp (g:=w.heap.size) (by omega) (s5.is) (by omega) (.int .u64 ((wd (fun x=>q x || ay a (c+1-a) x) 0:Nat):Int)) (.int .u64 ((wd (fun x=>q x || ay a (c+1-a) x) 1:Nat):Int)) (.int .u64 ((wd (fun x=>q x || ay a (c+1-a) x) 2:Nat):Int)) (.int .u64 ((wd (fun x=>q x || ay a (c+1-a) x) 3:Nat):Int)));have PP:=hid ((P3.out.aa b5).gp (g:=w.heap.size) (by omega) (s5.is) (.int .u64 ((wd (fun x=>q x || ay a (c+1-a) x) 0:Nat):Int)) (.int .u64 ((wd (fun x=>q x || ay a (c+1-a) x) 1:Nat):Int)) (.int .u64 ((wd (fun x=>q x || ay a (c+1-a) x) 2:Nat):Int)) (.int .u64 ((wd (fun x=>q x || ay a (c+1-a) x) 3:Nat):Int)));have SS:=hid (s5.rj (.int .u64 ((wd (fun x=>q x || ay a (c+1-a) x) 0:Nat):Int)) (.int .u64 ((wd (fun x=>q x || ay a (c+1-a) x) 1:Nat):Int)) (.int .u64 ((wd (fun x=>q x || ay a (c+1-a) x) 2:Nat):Int)) (.int .u64 ((wd (fun x=>q x || ay a (c+1-a) x) 3:Nat):Int)));have gu:=PP.out.eC;clear b5 s5 S3 T3 K3 P3 c0 c1 c2 c3 d0 d1 d2 d3;go_wp2;go_roundw
  ·exact⟨f2,fun x=>q x || ay a (c+1-a) x,s3,by rw[vU.out];exact nD,by show aW _ _ _=_;rw[vU.out];exact um.out,by omega,PP,SS,KK,by rw[YA];omega⟩
  first|(simp only[kO,gu];omega)|(rw[kO,gu];omega)
 have HY:Hid (O=if en q=true then none else some (q,r)):=by
  have:=HQ.out;rw[UL f q _ r hf h1] at this;show _=_;rw[HX.out,<-this]
 have HK:=hid h1;clear h1 HX HQ;go_wp2_with fail;refine (tN base b acc s' d 93 r _ P2.out HK.out (by omega)).mono ?_;rintro e w2 ⟨rfl,k2,s2,dj,cW,fj⟩;have S3:=hid (S2.out.fU k2 BX (by decide));have K3:=hid (K2.out.trans k2);have P3:=hid fj;have nQ:=hid dj;obtain⟨c0,c1,c2,c3,-⟩:=cZ S3.out;have Oo:=k2.size;clear k2 fj dj S2 K2 P2;go_wp2_with fail;have KK:=K3;have PP:=P3;have SS:=S3;clear K3 P3 S3;obtain⟨c0,c1,c2,c3,-⟩:=cZ SS.out;go_wp2_with fail;refine (Ev base b acc s2 d 1 q _ PP.out uP).mono ?_;rintro e w7 ⟨rfl,mW,k7⟩;have s7:=SS.out.fU k7 BX (by decide);have K7:=hid (KK.out.trans k7);have P7:=hid mW;clear c0 c1 c2 c3 k7 mW KK PP SS;obtain⟨c0,c1,c2,c3,-⟩:=cZ s7;obtain⟨o,ho⟩:∃o,en q=o:=⟨_,rfl⟩
 have HO:=hid ho;clear ho;go_wp2_with fail;refine (PS q o HO.out _).mono ?_;rintro e w8 ⟨rfl,b8⟩;have K8:=K7.out.below (le_trans di K7.out.size) b8;have P8:=P7.out.aa b8;rcases o with _|_
 ·have HZ:Hid (O=some (q,r)):=by show _=_;rw[HY.out,HO.out];rfl
  go_wp2;go_ret;refine⟨K8,fun e=>by rw[HZ.out] at e;simp at e,fun q' r' e=>?_⟩;rw[HZ.out] at e;simp only[Option.some.injEq,Prod.mk.injEq] at e;obtain⟨rfl,rfl⟩:=e;exact⟨rfl,s2,nQ.out,P8⟩
 have HZ:Hid (O=none):=by show _=_;rw[HY.out,HO.out];rfl
 go_wp2;go_ret;exact⟨K8,fun _=>rfl,fun q' r' e=>by rw[HZ.out] at e;simp at e⟩
theorem zoo(base b:Nat)(acc:List Pc)(s:ByteArray)(d:Nat)(rr:List Nat)(h0:aI 94 (ae s)=some rr)(w:World)(h:ea base b acc s d w)(hs:s.size<=10000)(uP:acc.length<=10000):
  Calls prog 196 #[.pointer (some ⟨b,0,none⟩)] w (Gp base b acc d (eW (ae s)) w):=by
 have HX:Hid (eW (ae s)=match aW (rr.length+1) bE rr with
  | none=>none
  | some (q,r1)=>if en (fun x=>!q x)=true then none else some ((fun x=>!q x),r1)):=by
  show _=_
  simp only[eW,h0]
  rfl
 generalize eW (ae s)=O at HX⊢;have ey:=h.lt;have di:=h.low;have hB:=h.1;unfold Gp;go_enter func196,ntmps196;go_wp2_with fail;refine (tN base b acc s d 94 rr _ h h0 hs).mono ?_;rintro e w1 ⟨rfl,k1,s1,fA,db,fK⟩;obtain⟨R,hR⟩:∃R,aW (rr.length+1) bE rr=R:=⟨_,rfl⟩
 rw[hR] at HX;have rA:=hid hR;have K1:=hid (k1.below (le_trans di k1.size) ((Below.refl _ w1).alloc (le_refl _) (.cells #[.int .u64 0,.int .u64 0,.int .u64 0,.int .u64 0] 146)));have P1:=hid (fK.aa ((Below.refl _ w1).alloc (le_refl _) (.cells #[.int .u64 0,.int .u64 0,.int .u64 0,.int .u64 0] 146)));have S1:Hid (St (w1.alloc (.cells #[.int .u64 0,.int .u64 0,.int .u64 0,.int .u64 0] 146)) 146 w1.heap.size #[.int .u64 ((wd bE 0:Nat):Int),.int .u64 ((wd bE 1:Nat):Int),.int .u64 ((wd bE 2:Nat):Int),.int .u64 ((wd bE 3:Nat):Int)]):=by
  have:=St.new w1 146 #[.int .u64 0,.int .u64 0,.int .u64 0,.int .u64 0];rw[FQ 146] at this;rw[FQ 146];exact this
 have QA:=fK.lt;have jL:=k1.size;have rX:=hid fA;have BX:w1.heap.size≠b:=by omega
 clear hR h k1 fK fA h0;go_wp2;go_loopw [9] (fun _ wr=>∃(f:Nat) (q:Nat->Bool) (s':ByteArray),(ae s').length<f/\Hid (aW f q (ae s')=R)/\s'.size<=s.size/\Hid (ea base b acc s' d wr)/\Hid (St wr 146 w1.heap.size #[.int .u64 ((wd q 0:Nat):Int),.int .u64 ((wd q 1:Nat):Int),.int .u64 ((wd q 2:Nat):Int),.int .u64 ((wd q 3:Nat):Int)])/\Hid (aH base b w wr)/\w1.heap.size<wr.heap.size) (fun _ wr=>eC wr ⟨b,0,none⟩)
 ·exact⟨_,bE,s1,lt_succ_self _,by show aW _ _ _=_;rw[rX.out];exact rA.out,by omega,P1,S1,K1,by simp⟩
 clear P1 S1 K1 rA;obtain⟨f,q,s',hf,HQ,da,P2,S2,K2,Ad⟩:=hrel;rcases h1:aI 93 (ae s') with _|r
 ·have HK:=hid h1;rcases h2:dJ (ae s') with _|⟨a,c,r⟩
  ·have HZ:Hid (O=none):=by
    have:=HQ.out;rw[Sv f q _ hf h1 h2] at this;show _=_;rw[HX.out,<-this]
   have H2:=hid h2;clear h1 h2 HX HQ;go_wp2_with fail;refine (nO base b acc s' d 93 _ P2.out HK.out).mono ?_;rintro e w2 ⟨rfl,rfl⟩;go_wp2_with fail;refine (Sk base b acc s' d _ P2.out (by omega) H2.out).mono ?_;rintro e w3 ⟨⟨q3,rfl⟩,k3⟩;have K3:=K2.out.trans k3;have pq:=K3.size;clear k3;go_wp2;go_ret;exact⟨K3.below (le_trans di pq) ((Below.refl _ w3).alloc (le_refl _) _),fun _=>rfl,fun q r e=>by rw[HZ.out] at e;simp at e⟩
  obtain⟨f2,nD,ji⟩:=Yr f q _ a c r hf h1 h2;have um:Hid (aW f2 (fun x=>q x || ay a (c+1-a) x) r=R):=by show _=_;rw[<-ji];exact HQ.out
  have H2:=hid h2;have kO:=P2.out.eC;clear h1 h2 HQ ji;go_wp2_with fail;refine (nO base b acc s' d 93 _ P2.out HK.out).mono ?_;rintro e w2 ⟨rfl,rfl⟩;go_wp2_with fail;refine (Yf base b acc s' d a c r _ P2.out (by omega) H2.out).mono ?_;rintro e w3 ⟨rfl,k3,s3,mN,FV,gK⟩;have Ip:=S2.out.fU k3 BX (by decide);have pq:=k3.size;have K3:=hid ((K2.out.trans k3).below (le_trans di (K2.out.trans k3).size) ((Below.refl _ w3).alloc (le_refl _) (.cells #[.int .u64 ((wd (ay a (c+1-a)) 0:Nat):Int),.int .u64 ((wd (ay a (c+1-a)) 1:Nat):Int),.int .u64 ((wd (ay a (c+1-a)) 2:Nat):Int),.int .u64 ((wd (ay a (c+1-a)) 3:Nat):Int)] 146)));have P3:=hid (gK.aa ((Below.refl _ w3).alloc (le_refl _) (.cells #[.int .u64 ((wd (ay a (c+1-a)) 0:Nat):Int),.int .u64 ((wd (ay a (c+1-a)) 1:Nat):Int),.int .u64 ((wd (ay a (c+1-a)) 2:Nat):Int),.int .u64 ((wd (ay a (c+1-a)) 3:Nat):Int)] 146)));have S3:=hid (Ip.alloc (.cells #[.int .u64 ((wd (ay a (c+1-a)) 0:Nat):Int),.int .u64 ((wd (ay a (c+1-a)) 1:Nat):Int),.int .u64 ((wd (ay a (c+1-a)) 2:Nat):Int),.int .u64 ((wd (ay a (c+1-a)) 3:Nat):Int)] 146));have T3:=hid (St.new w3 146 #[.int .u64 ((wd (ay a (c+1-a)) 0:Nat):Int),.int .u64 ((wd (ay a (c+1-a)) 1:Nat):Int),.int .u64 ((wd (ay a (c+1-a)) 2:Nat):Int),.int .u64 ((wd (ay a (c+1-a)) 3:Nat):Int)]);obtain⟨c0,c1,c2,c3,-⟩:=cZ S3.out;obtain⟨d0,d1,d2,d3,-⟩:=cZ T3.out;have vU:=hid mN;clear k3 gK mN Ip P2 S2 K2;go_wp2_with fail;refine (Wt q (ay a (c+1-a)) _).mono ?_;rintro e w5 ⟨rfl,b5⟩;have s5:=S3.out.aa b5;have iR:=b5.size;simp at iR;obtain⟨r0,XG,Tf,Y9,VJ,Y5,Yd,Wj⟩:=cZ s5;have KK:=hid ((K3.out.below (le_trans di K3.out.size) b5).gp (g:=w1.heap.size) (by omega) (s5.is) (by omega) (.int .u64 ((wd (fun x=>q x || ay a (c+1-a) x) 0:Nat):Int)) (.int .u64 ((wd (fun x=>q x || ay a (c+1-a) x) 1:Nat):Int)) (.int .u64 ((wd (fun x=>q x || ay a (c+1-a) x) 2:Nat):Int)) (.int .u64 ((wd (fun x=>q x || ay a (c+1-a) x) 3:Nat):Int)));have PP:=hid ((P3.out.aa b5).gp (g:=w1.heap.size) (by omega) (s5.is) (.int .u64 ((wd (fun x=>q x || ay a (c+1-a) x) 0:Nat):Int)) (.int .u64 ((wd (fun x=>q x || ay a (c+1-a) x) 1:Nat):Int)) (.int .u64 ((wd (fun x=>q x || ay a (c+1-a) x) 2:Nat):Int)) (.int .u64 ((wd (fun x=>q x || ay a (c+1-a) x) 3:Nat):Int)));have SS:=hid (s5.rj (.int .u64 ((wd (fun x=>q x || ay a (c+1-a) x) 0:Nat):Int)) (.int .u64 ((wd (fun x=>q x || ay a (c+1-a) x) 1:Nat):Int)) (.int .u64 ((wd (fun x=>q x || ay a (c+1-a) x) 2:Nat):Int)) (.int .u64 ((wd (fun x=>q x || ay a (c+1-a) x) 3:Nat):Int)));have gu:=PP.out.eC;clear b5 s5 S3 T3 K3 P3 c0 c1 c2 c3 d0 d1 d2 d3;go_wp2;go_roundw
  ·exact⟨f2,fun x=>q x || ay a (c+1-a) x,s3,by rw[vU.out];exact nD,by show aW _ _ _=_;rw[vU.out];exact um.out,by omega,PP,SS,KK,by rw[YA];omega⟩
  first|(simp only[kO,gu];omega)|(rw[kO,gu];omega)
 have HY:Hid (O=if en (fun x=>!q x)=true then none else some ((fun x=>!q x),r)):=by
  have:=HQ.out;rw[UL f q _ r hf h1] at this;show _=_;rw[HX.out,<-this]
 have HK:=hid h1;clear h1 HX HQ;go_wp2_with fail;refine (tN base b acc s' d 93 r _ P2.out HK.out (by omega)).mono ?_;rintro e w2 ⟨rfl,k2,s2,dj,cW,fj⟩;have S3:=hid (S2.out.fU k2 BX (by decide));have K3:=hid (K2.out.trans k2);have P3:=hid fj;have nQ:=hid dj;obtain⟨c0,c1,c2,c3,-⟩:=cZ S3.out;have Oo:=k2.size;clear k2 fj dj S2 K2 P2;go_wp2_with fail;refine (Tr q _).mono ?_;rintro e w5 ⟨rfl,b5⟩;have s5:=S3.out.aa b5;obtain⟨r0,XG,Tf,Y9,VJ,Y5,Yd,Wj⟩:=cZ s5;have KK:=hid ((K3.out.below (le_trans di K3.out.size) b5).gp (g:=w1.heap.size) (by omega) (s5.is) (by omega) (.int .u64 ((wd (fun x=>!q x) 0:Nat):Int)) (.int .u64 ((wd (fun x=>!q x) 1:Nat):Int)) (.int .u64 ((wd (fun x=>!q x) 2:Nat):Int)) (.int .u64 ((wd (fun x=>!q x) 3:Nat):Int)));have PP:=hid ((P3.out.aa b5).gp (g:=w1.heap.size) (by omega) (s5.is) (.int .u64 ((wd (fun x=>!q x) 0:Nat):Int)) (.int .u64 ((wd (fun x=>!q x) 1:Nat):Int)) (.int .u64 ((wd (fun x=>!q x) 2:Nat):Int)) (.int .u64 ((wd (fun x=>!q x) 3:Nat):Int)));have SS:=hid (s5.rj (.int .u64 ((wd (fun x=>!q x) 0:Nat):Int)) (.int .u64 ((wd (fun x=>!q x) 1:Nat):Int)) (.int .u64 ((wd (fun x=>!q x) 2:Nat):Int)) (.int .u64 ((wd (fun x=>!q x) 3:Nat):Int)));clear b5 s5 S3 K3 P3 c0 c1 c2 c3;go_wp2_with fail;generalize ((((w5.setCell _ _).setCell _ _).setCell _ _).setCell _ _)=w6 at KK PP SS⊢;obtain⟨c0,c1,c2,c3,-⟩:=cZ SS.out;go_wp2_with fail;refine (Ev base b acc s2 d 1 (fun x=>!q x) _ PP.out uP).mono ?_;rintro e w7 ⟨rfl,mW,k7⟩;have s7:=SS.out.fU k7 BX (by decide);have K7:=hid (KK.out.trans k7);have P7:=hid mW;clear c0 c1 c2 c3 k7 mW KK PP SS;obtain⟨c0,c1,c2,c3,-⟩:=cZ s7;obtain⟨o,ho⟩:∃o,en (fun x=>!q x)=o:=⟨_,rfl⟩
 have HO:=hid ho;clear ho;go_wp2_with fail;refine (PS (fun x=>!q x) o HO.out _).mono ?_;rintro e w8 ⟨rfl,b8⟩;have K8:=K7.out.below (le_trans di K7.out.size) b8;have P8:=P7.out.aa b8;rcases o with _|_
 ·have HZ:Hid (O=some ((fun x=>!q x),r)):=by show _=_;rw[HY.out,HO.out];rfl
  go_wp2;go_ret;refine⟨K8,fun e=>by rw[HZ.out] at e;simp at e,fun q' r' e=>?_⟩;rw[HZ.out] at e;simp only[Option.some.injEq,Prod.mk.injEq] at e;obtain⟨rfl,rfl⟩:=e;exact⟨rfl,s2,nQ.out,P8⟩
 have HZ:Hid (O=none):=by show _=_;rw[HY.out,HO.out];rfl
 go_wp2;go_ret;exact⟨K8,fun _=>rfl,fun q' r' e=>by rw[HZ.out] at e;simp at e⟩
theorem zop(base b:Nat)(acc:List Pc)(s:ByteArray)(d:Nat)(w:World)(h:ea base b acc s d w)(hs:s.size<=10000)(uP:acc.length<=10000):
  Calls prog 196 #[.pointer (some ⟨b,0,none⟩)] w (Gp base b acc d (eW (ae s)) w):=by
 rcases h0:aI 94 (ae s) with _|rr
 ·exact zon base b acc s d h0 w h hs uP
 exact zoo base b acc s d rr h0 w h hs uP
def aZ(base b d:Nat)(o:Option bJ)(w:World)(e:Ending)(w':World):Prop:=
 aH base b w w'/\(o=none->e=.returned (.bool false))/\∀x,o=some x->e=.returned (.bool true)/\∃s',ae s'=x.2/\ea base b x.1 s' d w'
def uD(f:Nat)(g:bJ->Option bJ)(d:Nat):Prop:=∀(base b:Nat) (acc:List Pc) (s:ByteArray) (w:World),ea base b acc s d w->s.size<=2000->acc.length+2*s.size<=9000->
 Calls prog f #[.pointer (some ⟨b,0,none⟩)] w (aZ base b d (g (acc,ae s)) w)
theorem aZ.no{base b:Nat}{o:Option bJ}{w:World}(k:aH base b w w')(h:o=none):aZ base b d o w (.returned (.bool false)) w':=⟨k,fun _=>rfl,fun x e=>by rw[h] at e;simp at e⟩
theorem aZ.yes{base b:Nat}{o:Option bJ}{x:bJ}{w:World}{s':ByteArray}(k:aH base b w w')(h:o=some x)(hn:ae s'=x.2)(hp:ea base b x.1 s' d w'):aZ base b d o w (.returned (.bool true)) w':=
 ⟨k,fun e=>by rw[h] at e;simp at e,fun y e=>by rw[h] at e;simp at e;subst e;exact⟨rfl,s',hn,hp⟩⟩
theorem zoq:(Value.agg #[.int .u64 0,.int .u64 0,.int .u64 0,.int .u64 0])=(.agg #[.int .u64 ((wd bE 0:Nat):Int),.int .u64 ((wd bE 1:Nat):Int),.int .u64 ((wd bE 2:Nat):Int),.int .u64 ((wd bE 3:Nat):Int)]):=by rw[FQ 146]
theorem ML(base b:Nat)(acc:List Pc)(s:ByteArray)(d:Nat)(k:Int)(w:World)(h:ea base b acc s d w)(hl:acc.length<=10000):
  Calls prog 140 #[.pointer (some ⟨b,0,none⟩),.int .i64 k,.agg #[.int .u64 0,.int .u64 0,.int .u64 0,.int .u64 0]] w fun e w'=>e=.returned (.tuple #[])/\ea base b (acc++[⟨k,bE⟩]) s d w'/\aH base b w w':=by
 rw[zoq];exact Ev base b acc s d k bE w h hl
theorem FG(c:Nat)(hc:c<256):(c=42/\gz ⟨#[42,43,63]⟩ c=0/\im c=some 4)\/(c=43/\gz ⟨#[42,43,63]⟩ c=1/\im c=some 5)\/(c=63/\gz ⟨#[42,43,63]⟩ c=2/\im c=some 6)\/(gz ⟨#[42,43,63]⟩ c<0/\im c=none):=by
 by_cases h1:c=42
 ·subst h1;exact inl ⟨rfl,by decide,by decide⟩
 by_cases h2:c=43
 ·subst h2;exact inr (inl ⟨rfl,by decide,by decide⟩)
 by_cases h3:c=63
 ·subst h3;exact inr (inr (inl ⟨rfl,by decide,by decide⟩))
 refine inr (inr (inr ⟨?_,by simp[im,h1,h2,h3]⟩));have:=OT ⟨#[42,43,63]⟩ c hc;have e:Bx ⟨#[42,43,63]⟩ c=false:=by
  unfold Bx;simp;omega
 rw[e] at this;simpa using this
theorem zfB(c:Nat)(r:List Nat)(acc:List Pc)(k:Int)(h:im c=some k):cU (c :: r) acc=cU r (acc++[⟨k,bE⟩]):=by simp only[cU,h]
theorem zgA(c:Nat)(r:List Nat)(acc:List Pc)(h:im c=none):cU (c :: r) acc=(acc,c :: r):=by simp only[cU,h]
theorem X8(atom:bJ->Option bJ)(d:Nat)(hd:px atom)(ha:uD 187 atom d):uD 166 (dQ atom) d:=by
 intro base b acc s w h hs hl;have HX:Hid (dQ atom (acc,ae s)=match atom (acc,ae s) with
  | none=>none
  | some x=>some (cU x.2 x.1)):=by show _=_;unfold dQ;rfl
 have HD:=hid (fun x=>hd (acc,ae s) x);generalize dQ atom (acc,ae s)=O at HX⊢;have hA:=ha base b acc s w h hs hl;have HS:=hid (oK s);have hB:=h.1;clear ha hd;generalize atom (acc,ae s)=A at HX HD hA;have HA:=hid hA;clear hA h;go_enter func166,ntmps166;go_wp2_with fail;refine HA.out.mono ?_;rintro e w1 ⟨k1,h1,h2⟩;rcases A with _|⟨jN,r1⟩
 ·obtain rfl:=h1 rfl;have HZ:=HX.out;go_wp2;go_ret;exact aZ.no k1 HZ
 obtain⟨rfl,s1,fA,fK⟩:=h2 _ rfl;have tm:=HD.out _ rfl;simp only[HS.out] at tm;simp only at fA fK;have kz:s1.size=r1.length:=by rw[<-oK,fA]
 have HZ:Hid (O=some (cU (ae s1) jN)):=by show _=_;rw[HX.out,fA]
 obtain⟨R,hR⟩:∃R,cU (ae s1) jN=R:=⟨_,rfl⟩
 rw[hR] at HZ;have HR:=hid hR;have P1:=hid fK;have K1:=hid k1;have nw:s1.size+1<=s.size:=by omega
 have pR:jN.length+2*s1.size<=9000:=by omega
 clear hR fK k1 HX HD h1 h2 tm fA kz;go_wp2;go_loopw [3] (fun _ wr=>∃(dY:List Pc) (s':ByteArray),Hid (cU (ae s') dY=R)/\s'.size<=s1.size/\dY.length+2*s'.size<=9000/\Hid (ea base b dY s' d wr)/\Hid (aH base b w wr)) (fun _ wr=>eC wr ⟨b,0,none⟩)
 ·exact⟨jN,s1,HR,le_refl _,pR,P1,K1⟩
 clear P1 K1 HR;obtain⟨dY,s',HQ,da,tx,P2,K2⟩:=hrel;obtain⟨c0,f0⟩:=P2.out.rest;rcases eq_zero_or_pos s'.size with hz|hp
 ·have lg:s'.toList=[]:=Jg s' hz;have iE:(!s'.toList.isEmpty)=false:=by rw[lg];rfl
  have HF:Hid (O=some (dY,[])):=by
   show _=_;have:=HQ.out;rw[La s' hz] at this;rw[HZ,<-this];rfl
  have HN:Hid (ae s'=[]):=La s' hz;clear hz lg HQ;go_wp2;go_ret;exact aZ.yes K2.out HF.out HN.out P2.out
 have lg:s'.toList.isEmpty=false:=Ac s' hp;have iE:(!s'.toList.isEmpty)=true:=by rw[lg];rfl
 have hc:=UInt8.toNat_lt s'[0];have BE:=GD s' hp;have HE:Hid (ae (s'.extract 1 s'.size)=(ae s').drop 1):=by show _=_;rw[PX]
 have hez:(s'.extract 1 s'.size).size+1=s'.size:=by rw[ByteArray.size_extract];omega
 have kO:=P2.out.eC;have P3:=hid (P2.out.kH (s'.extract 1 s'.size));have K3:=hid (K2.out.set hB 0 (.string (s'.extract 1 s'.size)));rcases FG s'[0].toNat hc with ⟨e,hw,hk⟩|⟨e,hw,hk⟩|⟨e,hw,hk⟩|⟨hw,hk⟩
 all_goals
  have HW:=hid hw
  have HK:=hid hk
  have HC:=hid BE
  first|clear e|skip
  clear hw hk BE
 rotate_right
 ·have HF:Hid (O=some (dY,ae s')):=by
   show _=_;have:=HQ.out;rw[HC.out,zgA _ _ _ HK.out] at this;rw[HZ,<-this,<-HC.out]
  obtain⟨x,hx⟩:∃x,gz ⟨#[42,43,63]⟩ s'[0].toNat=x:=⟨_,rfl⟩
  have Yu:x<0:=by rw[<-hx];exact HW.out
  have HXX:=hid hx;clear hx HQ;go_wp2_with fail;refine (J3 _ _ _).mono ?_;rintro e w2 ⟨rfl,rfl⟩;rw[HXX.out];go_wp2;go_ret;exact aZ.yes K2.out HF.out rfl P2.out
 all_goals
  go_wp2_with fail
  refine (J3 _ _ _).mono ?_
  rintro e w2 ⟨rfl,rfl⟩
  rw[HW.out]
  go_wp2_with fail
  refine (ML base b dY (s'.extract 1 s'.size) d _ _ P3.out (by omega)).mono ?_
  rintro e w3 ⟨rfl,gK,k3⟩
  have P4:=hid gK
  have K4:=hid (K3.out.trans k3)
  have gu:=gK.eC
  clear gK k3
  go_wp2
  go_roundw
  case rel=>exact⟨_,s'.extract 1 s'.size,by show cU _ _=_;rw[HE.out,<-zfB _ _ _ _ HK.out,<-HC.out];exact HQ.out,by omega,by simp;omega,P4,K4⟩
  case measure=>first|(simp only[kO,gu];omega)|(rw[kO,gu];omega)
theorem zgB(atom:bJ->Option bJ)(f:Nat)(s:bJ)(hf:s.2.length<f)(h:gE s.2=true):bS atom f s=some s:=by
 match f,hf with
 | f+1,hf=>unfold bS;rw[if_pos h]
theorem ziv(atom:bJ->Option bJ)(f:Nat)(s:bJ)(hf:s.2.length<f)(h:gE s.2=false)(h1:dQ atom s=none):bS atom f s=none:=by
 match f,hf with
 | f+1,hf=>simp[bS,h,h1]
theorem zfC(atom:bJ->Option bJ)(f:Nat)(s x:bJ)(hd:px atom)(hf:s.2.length<f)(h:gE s.2=false)(h1:dQ atom s=some x):∃g,x.2.length<g/\bS atom f s=bS atom g (x.1++[⟨2,bE⟩],x.2):=by
 match f,hf with
 | f+1,hf=>
  have:=(LX hd s x h1).1;exact⟨f,by omega,by simp[bS,h,h1]⟩
theorem XA(atom:bJ->Option bJ)(d:Nat)(hd:px atom)(ha:uD 166 (dQ atom) d):uD 138 (dR atom) d:=by
 intro base b acc s w h hs hl;have HX:Hid (dR atom (acc,ae s)=match dQ atom (acc,ae s) with
  | none=>none
  | some x=>bS atom (x.2.length+1) x):=by show _=_;unfold dR;rfl
 have HD:=hid (fun s x=>LX hd s x);have Nl:=hid hd;generalize dR atom (acc,ae s)=O at HX⊢;have hA:=ha base b acc s w h hs hl;have HS:=hid (oK s);have hB:=h.1;have uE:=hid ha;have BR:=hid (fun x=>HD.out (acc,ae s) x);clear ha hd;generalize dQ atom (acc,ae s)=A at HX BR hA;have HA:=hid hA;clear hA h;go_enter func138,ntmps138;go_wp2_with fail;refine HA.out.mono ?_;rintro e w1 ⟨k1,h1,h2⟩;rcases A with _|⟨jN,r1⟩
 ·obtain rfl:=h1 rfl;have HZ:=HX.out;go_wp2;go_ret;exact aZ.no k1 HZ
 obtain⟨rfl,s1,fA,fK⟩:=h2 _ rfl;have tm:=BR.out _ rfl;simp only[HS.out] at tm;simp only at fA fK;have kz:s1.size=r1.length:=by rw[<-oK,fA]
 obtain⟨R,hR⟩:∃R,bS atom ((ae s1).length+1) (jN,ae s1)=R:=⟨_,rfl⟩
 have HZ:Hid (O=R):=by show _=_;rw[HX.out,<-hR,fA]
 have HR:=hid hR;have P1:=hid fK;have K1:=hid k1;have nw:s1.size+1<=s.size:=by omega
 have pR:jN.length+2*s1.size<=9000:=by omega
 clear hR fK k1 HX BR h1 h2 tm fA kz;go_wp2;go_loopw [30] (fun _ wr=>∃(f:Nat) (dY:List Pc) (s':ByteArray),(ae s').length<f/\Hid (bS atom f (dY,ae s')=R)/\s'.size<=s1.size/\dY.length+2*s'.size<=9000/\Hid (ea base b dY s' d wr)/\Hid (aH base b w wr)) (fun _ wr=>eC wr ⟨b,0,none⟩)
 ·exact⟨_,jN,s1,lt_succ_self _,HR,le_refl _,pR,P1,K1⟩
 clear P1 K1 HR;obtain⟨f,dY,s',hf,HQ,da,tx,P2,K2⟩:=hrel;obtain⟨c0,f0⟩:=P2.out.rest;have kK:gE (ae s')=true\/(gE (ae s')=false/\∃h:0<s'.size,s'[0].toNat≠124/\s'[0].toNat≠41):=by
  rcases eq_zero_or_pos s'.size with hz|hp
  ·left;rw[La s' hz];rfl
  rw[GD s' hp];by_cases h1:s'[0].toNat=124
  ·left;simp[gE,h1]
  by_cases h2:s'[0].toNat=41
  ·left;simp[gE,h2]
  right;exact⟨by simp[gE,h1,h2],hp,h1,h2⟩
 rcases kK with kK|⟨kK,hp,h1,h2⟩
 ·have HF:Hid (O=some (dY,ae s')):=by
   show _=_;rw[HZ.out,<-HQ.out,zgB atom f _ hf kK]
  rcases eq_zero_or_pos s'.size with hz|hp
  ·have lg:s'.toList=[]:=Jg s' hz;have iE:(!s'.toList.isEmpty)=false:=(by rw[lg];rfl);clear hz lg HQ kK;go_wp2;go_ret;exact aZ.yes K2.out HF.out rfl P2.out
  have lg:s'.toList.isEmpty=false:=Ac s' hp;have iE:(!s'.toList.isEmpty)=true:=by rw[lg];rfl
  rw[GD s' hp] at kK;by_cases h1:s'[0].toNat=124
  ·have e1:((s'[0].toNat:Int) != 124)=false:=(by simp;omega);clear HQ kK h1;go_wp2;go_ret;exact aZ.yes K2.out HF.out rfl P2.out
  have h2:s'[0].toNat=41:=by simpa [gE,h1] using kK
  have e1:((s'[0].toNat:Int) != 124)=true:=by simp;omega
  have e2:((s'[0].toNat:Int) != 41)=false:=by simp;omega
  clear HQ kK h1 h2;go_wp2;go_ret;exact aZ.yes K2.out HF.out rfl P2.out
 have lg:s'.toList.isEmpty=false:=Ac s' hp;have iE:(!s'.toList.isEmpty)=true:=by rw[lg];rfl
 have e1:((s'[0].toNat:Int) != 124)=true:=by simp;omega
 have e2:((s'[0].toNat:Int) != 41)=true:=by simp;omega
 have HEnd:=hid kK;have HS':=hid (oK s');have kO:=P2.out.eC;have hA:=uE.out base b dY s' _ P2.out (by omega) tx;rcases hr:dQ atom (dY,ae s') with _|⟨uA,r2⟩
 ·rw[hr] at hA;have mj:=hid hA;have HF:Hid (O=none):=by
   show _=_;rw[HZ.out,<-HQ.out,ziv atom f _ hf kK hr]
  clear hA hr kK h1 h2 HQ;go_wp2_with fail;refine mj.out.mono ?_;rintro e w2 ⟨k2,h1,-⟩;obtain rfl:=h1 rfl;go_wp2;go_ret;exact aZ.no (K2.out.trans k2) HF.out
 have tm:=HD.out _ _ hr;simp only[HS'.out] at tm;obtain⟨f2,nD,ji⟩:=zfC atom f _ _ Nl.out hf kK hr;have um:Hid (bS atom f2 (uA++[⟨2,bE⟩],r2)=R):=by show _=_;rw[<-ji];exact HQ.out
 rw[hr] at hA;have mj:=hid hA;clear hA hr kK h1 h2 HQ ji;go_wp2_with fail;refine mj.out.mono ?_;rintro e w2 ⟨k2,-,h2⟩;obtain⟨rfl,s2,dj,fj⟩:=h2 _ rfl;simp only at dj fj nD;have nY:s2.size=r2.length:=by rw[<-oK,dj]
 have nQ:=hid dj;have P3:=hid fj;have K3:=hid (K2.out.trans k2);clear k2 h2 dj fj;go_wp2_with fail;refine (ML base b uA s2 d _ _ P3.out (by omega)).mono ?_;rintro e w3 ⟨rfl,gK,k3⟩;have P4:=hid gK;have K4:=hid (K3.out.trans k3);have gu:=gK.eC;clear gK k3;go_wp2;go_roundw
 ·exact⟨f2,_,s2,by rw[nQ.out];exact nD,by show bS _ _ _=_;rw[nQ.out];exact um.out,by omega,by simp;omega,P4,K4⟩
 first|(simp only[kO,gu];omega)|(rw[kO,gu];omega)
theorem zgC(atom:bJ->Option bJ)(f:Nat)(s:bJ)(hf:s.2.length<f)(h:aI 124 s.2=none):bW atom f s=some s:=by
 match f,hf with
 | f+1,hf=>simp only[bW,h]
theorem ziw(atom:bJ->Option bJ)(f:Nat)(s:bJ)(r:List Nat)(hf:s.2.length<f)(h:aI 124 s.2=some r)(h1:dR atom (s.1,r)=none):bW atom f s=none:=by
 match f,hf with
 | f+1,hf=>simp only[bW,h,h1]
theorem zfD(atom:bJ->Option bJ)(f:Nat)(s x:bJ)(r:List Nat)(hd:px atom)(hf:s.2.length<f)(h:aI 124 s.2=some r)(h1:dR atom (s.1,r)=some x):∃g,x.2.length<g/\bW atom f s=bW atom g (x.1++[⟨3,bE⟩],x.2):=by
 match f,hf with
 | f+1,hf=>
  have h2:=(Km hd _ x h1).1;have h3:=ve h;rw[h3] at hf;simp at h2 hf;exact⟨f,by omega,by simp only[bW,h,h1]⟩
theorem VZ(atom:bJ->Option bJ)(d:Nat)(hd:px atom)(ha:uD 138 (dR atom) d):uD 111 (dd atom) d:=by
 intro base b acc s w h hs hl;have HX:Hid (dd atom (acc,ae s)=match dR atom (acc,ae s) with
  | none=>none
  | some x=>bW atom (x.2.length+1) x):=by show _=_;unfold dd;rfl
 have HD:=hid (fun s x=>Km hd s x);have Nl:=hid hd;generalize dd atom (acc,ae s)=O at HX⊢;have hA:=ha base b acc s w h hs hl;have HS:=hid (oK s);have hB:=h.1;have uE:=hid ha;have BR:=hid (fun x=>HD.out (acc,ae s) x);clear ha hd;generalize dR atom (acc,ae s)=A at HX BR hA;have HA:=hid hA;clear hA h;go_enter func111,ntmps111;go_wp2_with fail;refine HA.out.mono ?_;rintro e w1 ⟨k1,h1,h2⟩;rcases A with _|⟨jN,r1⟩
 ·obtain rfl:=h1 rfl;have HZ:=HX.out;go_wp2;go_ret;exact aZ.no k1 HZ
 obtain⟨rfl,s1,fA,fK⟩:=h2 _ rfl;have tm:=BR.out _ rfl;simp only[HS.out] at tm;simp only at fA fK;have kz:s1.size=r1.length:=by rw[<-oK,fA]
 obtain⟨R,hR⟩:∃R,bW atom ((ae s1).length+1) (jN,ae s1)=R:=⟨_,rfl⟩
 have HZ:Hid (O=R):=by show _=_;rw[HX.out,<-hR,fA]
 have HR:=hid hR;have P1:=hid fK;have K1:=hid k1;have nw:s1.size+1<=s.size:=by omega
 have pR:jN.length+2*s1.size<=9000:=by omega
 clear hR fK k1 HX BR h1 h2 tm fA kz;go_wp2;go_loopw [11] (fun _ wr=>∃(f:Nat) (dY:List Pc) (s':ByteArray),(ae s').length<f/\Hid (bW atom f (dY,ae s')=R)/\s'.size<=s1.size/\dY.length+2*s'.size<=9000/\Hid (ea base b dY s' d wr)/\Hid (aH base b w wr)) (fun _ wr=>eC wr ⟨b,0,none⟩)
 ·exact⟨_,jN,s1,lt_succ_self _,HR,le_refl _,pR,P1,K1⟩
 clear P1 K1 HR;obtain⟨f,dY,s',hf,HQ,da,tx,P2,K2⟩:=hrel;rcases hk:aI 124 (ae s') with _|r
 ·have HK:=hid hk;have HF:Hid (O=some (dY,ae s')):=by
   show _=_;rw[HZ.out,<-HQ.out,zgC atom f (dY,ae s') hf hk]
  clear hk HQ;go_wp2_with fail;refine (nO base b dY s' d 124 _ P2.out HK.out).mono ?_;rintro e w2 ⟨rfl,rfl⟩;go_wp2;go_ret;exact aZ.yes K2.out HF.out rfl P2.out
 have HK:=hid hk;have kO:=P2.out.eC;rcases hr:dR atom (dY,r) with _|⟨uA,r2⟩
 ·have HF:Hid (O=none):=by
   show _=_;rw[HZ.out,<-HQ.out,ziw atom f (dY,ae s') r hf hk hr]
  have Ds:=hid hr;clear hk hr HQ;go_wp2_with fail;refine (tN base b dY s' d 124 r _ P2.out HK.out (by omega)).mono ?_;rintro e w2 ⟨rfl,k2,s2,dj,cW,fj⟩;have hA:=uE.out base b dY s2 _ fj (by omega) (by omega);rw[dj,Ds.out] at hA;have mj:=hid hA;have K3:=hid (K2.out.trans k2);clear hA k2 fj dj;go_wp2_with fail;refine mj.out.mono ?_;rintro e w3 ⟨k3,h1,-⟩;obtain rfl:=h1 rfl;go_wp2;go_ret;exact aZ.no (K3.out.trans k3) HF.out
 have tm:=HD.out _ _ hr;obtain⟨f2,nD,ji⟩:=zfD atom f (dY,ae s') (uA,r2) r Nl.out hf hk hr;have um:Hid (bW atom f2 (uA++[⟨3,bE⟩],r2)=R):=by show _=_;rw[<-ji];exact HQ.out
 have Ds:=hid hr;clear hk hr HQ ji;go_wp2_with fail;refine (tN base b dY s' d 124 r _ P2.out HK.out (by omega)).mono ?_;rintro e w2 ⟨rfl,k2,s2,dj,cW,fj⟩;have hrz:s2.size=r.length:=by rw[<-oK,dj]
 have hA:=uE.out base b dY s2 _ fj (by omega) (by omega);rw[dj,Ds.out] at hA;have mj:=hid hA;have K3:=hid (K2.out.trans k2);clear hA k2 fj dj;go_wp2_with fail;refine mj.out.mono ?_;rintro e w3 ⟨k3,-,h2⟩;obtain⟨rfl,s3,mN,gK⟩:=h2 _ rfl;simp only at mN gK nD tm;have pq:s3.size=r2.length:=by rw[<-oK,mN]
 have vU:=hid mN;have P3:=hid gK;have K4:=hid (K3.out.trans k3);clear k3 h2 mN gK;go_wp2_with fail;refine (ML base b uA s3 d _ _ P3.out (by omega)).mono ?_;rintro e w4 ⟨rfl,yx,k4⟩;have P4:=hid yx;have K5:=hid (K4.out.trans k4);have gu:=yx.eC;clear yx k4;go_wp2;go_roundw
 ·exact⟨f2,_,s3,by rw[vU.out];exact nD,by show bW _ _ _=_;rw[vU.out];exact um.out,by omega,by simp;omega,P4,K5⟩
 first|(simp only[kO,gu];omega)|(rw[kO,gu];omega)
theorem zma:uD 195 (fun _=>none) 99:=by
 intro base b acc s w h hs hl;obtain⟨c2,f2⟩:=h.depth;have ey:=h.lt;have K1:=hid ((aH.refl base b w).set h.1 2 (.int .i64 (100:Int)));clear h;go_enter func195,ntmps195;go_wp2;go_ret;exact aZ.no K1.out rfl
theorem zmb(atom:bJ->Option bJ)(d:Nat)(hd99:d<99)(hd:px atom)(ha:uD 111 (dd atom) (d+1)):uD 195 (fB atom) d:=by
 intro base b acc s w h hs hl;obtain⟨c2,f2⟩:=h.depth;have ey:=h.lt;have hB:=h.1;have K1:=hid ((aH.refl base b w).set h.1 2 (.int .i64 ((d+1:Nat):Int)));have fK:=h.qu (d+1);have HX:Hid (fB atom (acc,ae s)=match dd atom (acc,ae s) with
  | none=>none
  | some x=>match aI 41 x.2 with
   | none=>none
   | some r=>some (x.1,r)):=by show _=_;unfold fB;rfl
 have HD:=hid (fun x=>YH hd (acc,ae s) x);have HS:=hid (oK s);generalize fB atom (acc,ae s)=O at HX⊢;have hA:=ha base b acc s _ fK hs hl;generalize dd atom (acc,ae s)=A at HX HD hA;have HA:=hid hA;have e1:(d:Int)+1=((d+1:Nat):Int):=by omega
 obtain⟨m,hm⟩:∃m,d+1=m:=⟨_,rfl⟩
 have hm99:m<=99:=by omega
 have nc:1<=m:=by omega
 have ed:(m:Int)-1=(d:Int):=by omega
 rw[hm] at e1 HA K1 fK;have P1:=hid fK;obtain⟨d2,g2⟩:=fK.depth;clear h hA ha fK hm hd;go_enter func195,ntmps195;go_wp2_with fail;refine HA.out.mono ?_;rintro e w1 ⟨k1,h1,h2⟩;have K2:=hid (K1.out.trans k1);rcases A with _|⟨jN,r1⟩
 ·obtain rfl:=h1 rfl;have HZ:=HX.out;clear HA K1 P1 k1 h1 h2;go_wp2;go_ret;exact aZ.no K2.out HZ
 obtain⟨rfl,s1,fA,fK⟩:=h2 _ rfl;have tm:=HD.out _ rfl;simp only[HS.out] at tm;simp only at fA fK;have kz:s1.size=r1.length:=by rw[<-oK,fA]
 have P2:=hid fK;clear HA K1 P1 k1 h1 h2 fK d2 g2;rcases hk:aI 41 (ae s1) with _|r
 ·have HF:Hid (O=none):=by show _=_;rw[HX.out];simp only[<-fA,hk]
  have HK:=hid hk;clear hk;go_wp2_with fail;refine (nO base b jN s1 m 41 _ P2.out HK.out).mono ?_;rintro e w2 ⟨rfl,rfl⟩;go_wp2;go_ret;exact aZ.no K2.out HF.out
 have HF:Hid (O=some (jN,r)):=by show _=_;rw[HX.out];simp only[<-fA,hk]
 have HK:=hid hk;clear hk;go_wp2_with fail;refine (tN base b jN s1 m 41 r _ P2.out HK.out (by omega)).mono ?_;rintro e w2 ⟨rfl,k2,s2,dj,cW,fj⟩;obtain⟨d3,g3⟩:=fj.depth;have P3:=hid (fj.qu d);have K3:=hid ((K2.out.trans k2).set hB 2 (.int .i64 (d:Int)));have nQ:=hid dj;clear k2 fj dj;go_wp2;go_ret;exact aZ.yes K3.out HF.out nQ.out P3.out
theorem A0(c:Nat)(hc:c<256)(w:World):GW (w.alloc (.cells #[.int .u8 (c:Int)] 5)) (some ⟨w.heap.size,0,none⟩) 1 (fun _=>c):=by
 intro _;refine⟨w.heap.size,0,rfl,by simp,fun j hj=>?_⟩;obtain rfl:j=0:=by omega
 refine⟨?_,hc⟩;have h:(w.alloc (.cells #[.int .u8 (c:Int)] 5)).heap[w.heap.size]?=some (.cells #[.int .u8 (c:Int)] 5 (0,0)):=St.new w _ _;rw[Nat.zero_add,cell_of_heap h];rfl
theorem V9(group:bJ->Option bJ)(d:Nat)(ha:uD 195 group d):uD 187 (fP group) d:=by
 intro base b acc s w h hs hl;have hB:=h.1;have di:=h.low;have P0:=hid h;have uE:=hid ha;have HX:Hid (fP group (acc,ae s)=fP group (acc,ae s)):=rfl;obtain⟨O,hO⟩:∃O,fP group (acc,ae s)=O:=⟨_,rfl⟩
 rw[hO];unfold fP at hO;simp only at hO;clear ha h HX;rcases h1:aI 46 (ae s) with _|r
 ·rw[h1] at hO;simp only at hO;have H1:=hid h1;clear h1;rcases h2:aI 126 (ae s) with _|r
  ·rw[h2] at hO;simp only at hO;have H2:=hid h2;clear h2;rcases h3:aI 40 (ae s) with _|r
   ·rw[h3] at hO;simp only at hO;have H3:=hid h3;clear h3;rcases h4:aI 91 (ae s) with _|r
    ·rw[h4] at hO;simp only at hO;have H4:=hid h4;clear h4;rcases h5:bw uR (ae s) with _|⟨c,r⟩
     ·rw[h5] at hO;simp only at hO;have H5:=hid h5;have HF:=hid hO.symm;clear h5 hO;go_enter func187,ntmps187;go_wp2_with fail;refine (nO base b acc s d 46 _ P0.out H1.out).mono ?_;rintro e w2 ⟨rfl,rfl⟩;go_wp2_with fail;refine (nO base b acc s d 126 _ P0.out H2.out).mono ?_;rintro e w2 ⟨rfl,rfl⟩;go_wp2_with fail;refine (nO base b acc s d 40 _ P0.out H3.out).mono ?_;rintro e w2 ⟨rfl,rfl⟩;go_wp2_with fail;refine (nO base b acc s d 91 _ P0.out H4.out).mono ?_;rintro e w2 ⟨rfl,rfl⟩;go_wp2_with fail;refine (NG base b acc s uR d _ P0.out (by omega) H5.out).mono ?_;rintro e w2 ⟨rfl,b2⟩;have K2:=hid ((aH.refl base b w).below di b2);have P2:=hid (P0.out.aa b2);have rk:=P2.out.low;clear b2;go_wp2_with fail;refine (SJ _ 1 1 (fun _=>0) _ (A0 0 (by decide) w2) (by decide)).mono ?_;rintro e w3 ⟨rfl,b3⟩;have vh:Below w2.heap.size w2 w3:=((Below.refl _ w2).alloc (le_refl _) _).trans (b3.mono (by simp));have K3:=hid (K2.out.below rk vh);have P3:=hid (P2.out.aa vh);clear b3 vh;go_wp2_with fail;refine (Ev base b acc s d 1 _ _ P3.out (by omega)).mono ?_;rintro e w4 ⟨rfl,yx,k4⟩;go_wp2;go_ret;exact aZ.no (K3.out.trans k4) HF.out
     rw[h5] at hO;simp only at hO;have H5:=hid h5;have HF:=hid hO.symm;clear h5 hO;go_enter func187,ntmps187;go_wp2_with fail;refine (nO base b acc s d 46 _ P0.out H1.out).mono ?_;rintro e w2 ⟨rfl,rfl⟩;go_wp2_with fail;refine (nO base b acc s d 126 _ P0.out H2.out).mono ?_;rintro e w2 ⟨rfl,rfl⟩;go_wp2_with fail;refine (nO base b acc s d 40 _ P0.out H3.out).mono ?_;rintro e w2 ⟨rfl,rfl⟩;go_wp2_with fail;refine (nO base b acc s d 91 _ P0.out H4.out).mono ?_;rintro e w2 ⟨rfl,rfl⟩;go_wp2_with fail;refine (Ck base b acc s uR d c r _ P0.out (by omega) H5.out).mono ?_;rintro e w2 ⟨rfl,hc,k2,s2,dj,cW,fj⟩;have K2:=hid k2;have P2:=hid fj;have nQ:=hid dj;have rk:=fj.low;clear k2 fj dj;go_wp2_with fail;refine (SJ _ 1 1 (fun _=>c) _ (A0 c hc w2) (by decide)).mono ?_;rintro e w3 ⟨rfl,b3⟩;have vh:Below w2.heap.size w2 w3:=((Below.refl _ w2).alloc (le_refl _) _).trans (b3.mono (by simp));have K3:=hid (K2.out.below rk vh);have P3:=hid (P2.out.aa vh);clear b3 vh;go_wp2_with fail;refine (Ev base b acc s2 d 1 _ _ P3.out (by omega)).mono ?_;rintro e w4 ⟨rfl,yx,k4⟩;go_wp2;go_ret;exact aZ.yes (K3.out.trans k4) HF.out nQ.out yx
    rw[h4] at hO;simp only at hO;have H4:=hid h4;have HSR:Hid (∀s2,ae s2=r->ae s2=r):=(fun _ h=>h);clear h4;have HO:=hid hO;clear hO;go_enter func187,ntmps187;go_wp2_with fail;refine (nO base b acc s d 46 _ P0.out H1.out).mono ?_;rintro e w2 ⟨rfl,rfl⟩;go_wp2_with fail;refine (nO base b acc s d 126 _ P0.out H2.out).mono ?_;rintro e w2 ⟨rfl,rfl⟩;go_wp2_with fail;refine (nO base b acc s d 40 _ P0.out H3.out).mono ?_;rintro e w2 ⟨rfl,rfl⟩;go_wp2_with fail;refine (tN base b acc s d 91 r _ P0.out H4.out (by omega)).mono ?_;rintro e w2 ⟨rfl,k2,s2,dj,cW,fj⟩;have rh:=zop base b acc s2 d _ fj (by omega) (by omega);rw[dj] at rh;have O7:=hid rh;clear rh;go_wp2_with fail;refine O7.out.mono ?_;rintro e w3 ⟨k3,g1,g2⟩;have hO:=HO.out;rcases h5:eW r with _|⟨q,r1⟩
    ·rw[h5] at hO;simp only at hO;obtain rfl:=g1 h5;have HF:=hid hO.symm;clear hO h5 HO;go_wp2;go_ret;exact aZ.no (k2.trans k3) HF.out
    rw[h5] at hO;simp only at hO;obtain⟨rfl,s3,mN,gK⟩:=g2 _ _ h5;have HF:=hid hO.symm;clear hO h5 HO;go_wp2;go_ret;exact aZ.yes (k2.trans k3) HF.out mN gK
   rw[h3] at hO;simp only at hO;have H3:=hid h3;have HO:=hid hO;clear h3 hO;go_enter func187,ntmps187;go_wp2_with fail;refine (nO base b acc s d 46 _ P0.out H1.out).mono ?_;rintro e w2 ⟨rfl,rfl⟩;go_wp2_with fail;refine (nO base b acc s d 126 _ P0.out H2.out).mono ?_;rintro e w2 ⟨rfl,rfl⟩;go_wp2_with fail;refine (tN base b acc s d 40 r _ P0.out H3.out (by omega)).mono ?_;rintro e w2 ⟨rfl,k2,s2,dj,cW,fj⟩;have hA:=uE.out base b acc s2 _ fj (by omega) (by omega);rw[dj,HO.out] at hA;have HA:=hid hA;clear hA;go_wp2_with fail;refine HA.out.mono ?_;rintro e w3 ⟨k3,g1,g2⟩;rcases O with _|⟨acc3,r3⟩
   ·obtain rfl:=g1 rfl;go_wp2;go_ret;exact aZ.no (k2.trans k3) rfl
   obtain⟨rfl,s3,mN,gK⟩:=g2 _ rfl;go_wp2;go_ret;exact aZ.yes (k2.trans k3) rfl mN gK
  rw[h2] at hO;simp only at hO;have H2:=hid h2;have HF:=hid hO.symm;clear h2 hO;go_enter func187,ntmps187;go_wp2_with fail;refine (nO base b acc s d 46 _ P0.out H1.out).mono ?_;rintro e w2 ⟨rfl,rfl⟩;go_wp2_with fail;refine (tN base b acc s d 126 r _ P0.out H2.out (by omega)).mono ?_;rintro e w2 ⟨rfl,k2,s2,dj,cW,fj⟩;have P2:=hid fj;clear fj;go_wp2_with fail;refine (ML base b acc s2 d 0 _ P2.out (by omega)).mono ?_;rintro e w4 ⟨rfl,yx,k4⟩;go_wp2;go_ret;exact aZ.yes (k2.trans k4) HF.out dj yx
 rw[h1] at hO;simp only at hO;have H1:=hid h1;have HF:=hid hO.symm;clear h1 hO;go_enter func187,ntmps187;go_wp2_with fail;refine (tN base b acc s d 46 r _ P0.out H1.out (by omega)).mono ?_;rintro e w2 ⟨rfl,k2,s2,dj,cW,fj⟩;have P2:=hid fj;have rk:=fj.low;clear fj;go_wp2_with fail;refine (zlX _).mono ?_;rintro e w3 ⟨rfl,b3⟩;have P3:=hid (P2.out.aa b3);have K3:=hid (k2.below rk b3);go_wp2_with fail;refine (Ev base b acc s2 d 1 (fun _=>true) _ P3.out (by omega)).mono ?_;rintro e w4 ⟨rfl,yx,k4⟩;go_wp2;go_ret;exact aZ.yes (K3.out.trans k4) HF.out dj yx
theorem zmc(D d:Nat)(h:d+D=99):uD 187 (eZ D) d:=by
 induction D generalizing d with
 | zero=>
  obtain rfl:d=99:=by omega
  exact V9 _ 99 zma
 | succ D ih=>
  have h1:=ih (d+1) (by omega);exact V9 _ d (zmb (eZ D) d (by omega) (Ch D) (VZ _ _ (Ch D) (XA _ _ (Ch D) (X8 _ _ (Ch D) h1))))
theorem MZ:uD 111 (dd (eZ 99)) 0:=
 VZ _ _ (Ch 99) (XA _ _ (Ch 99) (X8 _ _ (Ch 99) (zmc 99 0 rfl)))
theorem E5(s:ByteArray)(w:World)(hs:1600<s.size)(hm:s.size<=maxLen):
  Calls prog 93 #[.string s] w fun e w'=>e=.returned (.tuple #[.slice none 0 0,.int .i64 6])/\w=w':=by
 unfold maxLen at hm;go_enter func93,ntmps93;go_wp2;go_ret2;exact⟨rfl,rfl⟩
theorem ea.new(s:ByteArray)(w:World):ea w.heap.size w.heap.size [] s 0 (w.alloc (.cells #[.string s,.slice none 0 0,.int .i64 0] 154)):=
 ⟨le_refl _,.slice none 0 0,St.new w _ _,World.ownsRow_nil _ _ _ _,by simp[Value.ownBlock]⟩
theorem zmd(s:ByteArray)(w:World)(hs:s.size<=1600)(h:∀l,dd (eZ 99) ([],ae s)≠some (l,[])):
  Calls prog 93 #[.string s] w fun e w'=>e=.returned (.tuple #[.slice none 0 0,.int .i64 5])/\Below w.heap.size w w':=by
 have hA:=MZ w.heap.size w.heap.size [] s _ (ea.new s w) (by omega) (by simp;omega);have bc:Below w.heap.size w (w.alloc (.cells #[.string s,.slice none 0 0,.int .i64 0] 154)):=(Below.refl _ _).alloc (le_refl _) _;generalize dd (eZ 99) ([],ae s)=O at hA h;have HA:=hid hA;have H:=hid h;clear hA h;go_enter func93,ntmps93;go_wp2_with fail;refine HA.out.mono ?_;rintro e w1 ⟨k1,h1,h2⟩;have fw:=bc.trans k1.1;rcases O with _|⟨l,r⟩
 ·obtain rfl:=h1 rfl;go_wp2;go_ret2;exact⟨rfl,fw⟩
 obtain⟨rfl,s',hn,hp⟩:=h2 _ rfl;obtain⟨c0,-⟩:=hp.rest;have hne:r≠[]:=fun e=>H.out l (by rw[e])
 have hz:0<s'.size:=by
  rcases eq_zero_or_pos s'.size with hz|hz
  ·exact absurd (by simp only at hn;rw[<-hn];exact La s' hz) hne
  exact hz
 have lg:s'.toList.isEmpty=false:=Ac s' hz;have iE:(!s'.toList.isEmpty)=true:=by rw[lg];rfl
 go_wp2;go_ret2;exact⟨rfl,fw⟩
theorem zix(s:ByteArray)(w:World)(hs:s.size<=1600)(l:List Pc)(h:dd (eZ 99) ([],ae s)=some (l,[]))(hl:400<l.length):
  Calls prog 93 #[.string s] w fun e w'=>e=.returned (.tuple #[.slice none 0 0,.int .i64 6])/\Below w.heap.size w w':=by
 have hA:=MZ w.heap.size w.heap.size [] s _ (ea.new s w) (by omega) (by simp;omega);have bc:Below w.heap.size w (w.alloc (.cells #[.string s,.slice none 0 0,.int .i64 0] 154)):=(Below.refl _ _).alloc (le_refl _) _;rw[h] at hA;have HA:=hid hA;clear hA h;go_enter func93,ntmps93;go_wp2_with fail;refine HA.out.mono ?_;rintro e w1 ⟨k1,h1,h2⟩;have fw:=bc.trans k1.1;obtain⟨rfl,s',hn,hp⟩:=h2 _ rfl;obtain⟨c0,-⟩:=hp.rest;simp only at hn hp;have hz:s'.size=0:=by rw[<-oK,hn];rfl
 have lg:s'.toList=[]:=Jg s' hz;have iE:(!s'.toList.isEmpty)=false:=by rw[lg];rfl
 obtain⟨_,v,nZ,aX,_⟩:=hp;obtain⟨a,cap,rfl⟩:=bF aX;have c1:w1.cell? ⟨w.heap.size,1,none⟩=some (.slice a l.length cap):=by rw[cell_of_heap nZ];rfl
 obtain⟨n,CA⟩:∃n,l.length=n:=⟨_,rfl⟩
 rw[CA] at c1 hl;clear lg aX nZ h1 h2 CA;go_wp2;go_ret2;exact⟨rfl,fw⟩
theorem zkd(s:ByteArray)(w:World)(hs:s.size<=1600)(l:List Pc)(h:dd (eZ 99) ([],ae s)=some (l,[]))(hl:l.length<=400):
  Calls prog 93 #[.string s] w fun e w'=>∃a cap,e=.returned (.tuple #[.slice a l.length cap,.int .i64 0])/\w'.ownsRow w.heap.size 148 5 (.slice a l.length cap) l.length (mZ l)/\Below w.heap.size w w':=by
 have hA:=MZ w.heap.size w.heap.size [] s _ (ea.new s w) (by omega) (by simp;omega);have bc:Below w.heap.size w (w.alloc (.cells #[.string s,.slice none 0 0,.int .i64 0] 154)):=(Below.refl _ _).alloc (le_refl _) _;rw[h] at hA;have HA:=hid hA;clear hA h;go_enter func93,ntmps93;go_wp2_with fail;refine HA.out.mono ?_;rintro e w1 ⟨k1,h1,h2⟩;have fw:=bc.trans k1.1;obtain⟨rfl,s',hn,hp⟩:=h2 _ rfl;obtain⟨c0,-⟩:=hp.rest;simp only at hn hp;have hz:s'.size=0:=by rw[<-oK,hn];rfl
 have lg:s'.toList=[]:=Jg s' hz;have iE:(!s'.toList.isEmpty)=false:=by rw[lg];rfl
 obtain⟨_,v,nZ,aX,_⟩:=hp;obtain⟨a,cap,rfl⟩:=bF aX;have c1:w1.cell? ⟨w.heap.size,1,none⟩=some (.slice a l.length cap):=by rw[cell_of_heap nZ];rfl
 have HO:=hid aX;obtain⟨n,CA⟩:∃n,l.length=n:=⟨_,rfl⟩
 have HN:=hid CA;rw[CA] at c1 hl;clear lg aX nZ h1 h2 CA;go_wp2;go_ret2;exact⟨a,cap,by rw[HN.out];rfl,HO.out,fw⟩
end Go.Proofs.YtiijebameffenaaGreat
