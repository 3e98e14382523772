import Derived.Test.YtkkhakmdjinenaaGreatZChk
import Derived.Test.YtkkhakmdjinenaaGreatZOr
import Derived.Test.YtkkhakmdjinenaaGreatZPRead
import Derived.Deep.RegionLaw
set_option linter.all false
set_option maxHeartbeats 4000000
set_option maxRecDepth 100000
open Go.Lib (hid)
namespace Go.Proofs.YtkkhakmdjinenaaGreat
open Go.RowKit Go.Proofs.Tryz
open Lib (OthersKept cell_of_heap)
open Nat (eq_zero_or_pos le_refl le_trans lt_succ_self)
open Below (heap_setCell)
open Or (inl inr)
variable {a w w':World}{acc:List Pc}{cs:Array Value}{d g t:Nat}
theorem St.others{e b:Nat}(h:St w t g cs)(k:OthersKept e (some b) w w')(hb:g≠b)(ht:t≠e):St w' t g cs:=
 k g _ h (by simpa using hb) (by intro c fz h;simp at h;exact ht h.2.1)
theorem zgI{e:TypeId}{b:Option Nat}(h:OthersKept e b a w)(k:Below w.heap.size w w'):OthersKept e b a w':=by
 intro i o hi hb ho;have h1:=h i o hi hb ho;exact (k.block i (Array.getElem?_eq_some_iff.1 h1).1).trans h1
theorem nN:(prog.info? 91).map (fun i=>(i.zero,i.size,i.bytes))=some (some (.agg #[.int .i64 0,.int .u64 0,.int .u64 0,.int .u64 0,.int .u64 0]),5,40):=by kernel_rfl
def eV(base b:Nat)(acc:List Pc)(s:ByteArray)(d:Nat)(w:World):Prop:=
 base<=b/\∃v,w.heap[b]?=some (.cells #[.string s,v,.int .i64 (d:Int)] 133 (0,0))/\w.ownsRow base 91 5 v acc.length (eJ acc)/\v.ownBlock≠some b
theorem eV.lt{base b:Nat}{s:ByteArray}(h:eV base b acc s d w):b<w.heap.size:=by
 obtain⟨_,v,hb,_⟩:=h;exact (Array.getElem?_eq_some_iff.1 hb).1
theorem eV.low{base b:Nat}{s:ByteArray}(h:eV base b acc s d w):base<=w.heap.size:=le_trans h.1 (Nat.le_of_lt h.lt)
theorem eV.ab{base b:Nat}{s:ByteArray}(h:eV base b acc s d w)(k:Below w.heap.size w w'):eV base b acc s d w':=by
 have hl:=h.lt;obtain⟨h1,v,h2,h3,h4⟩:=h;exact⟨h1,v,(k.block b hl).trans h2,db h3 k,h4⟩
theorem eV.rest{base b:Nat}{s:ByteArray}(h:eV base b acc s d w):w.cell? ⟨b,0,none⟩=some (.string s)/\w.frozen? ⟨b,0,none⟩=false:=by
 obtain⟨_,v,hb,_⟩:=h;exact⟨by rw[cell_of_heap hb];rfl,Lib.frozen_of_heap hb 0⟩
theorem eV.depth{base b:Nat}{s:ByteArray}(h:eV base b acc s d w):w.cell? ⟨b,2,none⟩=some (.int .i64 (d:Int))/\w.frozen? ⟨b,2,none⟩=false:=by
 obtain⟨_,v,hb,_⟩:=h;exact⟨by rw[cell_of_heap hb];rfl,Lib.frozen_of_heap hb 2⟩
theorem eV.lh{base b:Nat}{s:ByteArray}(h:eV base b acc s d w)(s':ByteArray):eV base b acc s' d (w.setCell ⟨b,0,none⟩ (.string s')):=by
 obtain⟨hB,v,hb,az,hne⟩:=h;refine⟨hB,v,?_,?_,hne⟩
 ·simp[World.setCell,Array.getElem?_modify,hb]
 exact az.kept (row:=some b) ⟨rfl,rfl,rfl,by simp[World.setCell],fun k _ hk=>heap_setCell _ _ _ _ (fun e=>hk (by simp[e]))⟩ (inr hne)
theorem eV.qT{base b:Nat}{s:ByteArray}(h:eV base b acc s d w)(d':Nat):eV base b acc s d' (w.setCell ⟨b,2,none⟩ (.int .i64 (d':Int))):=by
 obtain⟨hB,v,hb,az,hne⟩:=h;refine⟨hB,v,?_,?_,hne⟩
 ·simp[World.setCell,Array.getElem?_modify,hb]
 exact az.kept (row:=some b) ⟨rfl,rfl,rfl,by simp[World.setCell],fun k _ hk=>heap_setCell _ _ _ _ (fun e=>hk (by simp[e]))⟩ (inr hne)
def aQ(base b:Nat)(w w':World):Prop:=Below base w w'/\OthersKept 91 (some b) w w'
theorem aQ.refl(base b:Nat)(w:World):aQ base b w w:=⟨Below.refl _ _,Lib.OthersKept.refl _ _ _⟩
theorem aQ.trans{base b:Nat}(h:aQ base b a w)(k:aQ base b w w'):aQ base b a w':=⟨h.1.trans k.1,h.2.trans k.2⟩
theorem aQ.below{base b:Nat}(h:aQ base b a w)(hb:base<=w.heap.size)(k:Below w.heap.size w w'):aQ base b a w':=⟨h.1.trans (k.mono hb),zgI h.2 k⟩
theorem aQ.set{base b:Nat}(h:aQ base b a w)(hB:base<=b)(j:Nat)(v:Value):aQ base b a (w.setCell ⟨b,j,none⟩ v):=⟨h.1.setCell (p:=⟨b,j,none⟩) hB v,h.2.setCell ⟨b,j,none⟩ rfl v⟩
theorem aQ.size{base b:Nat}(h:aQ base b w w'):w.heap.size<=w'.heap.size:=h.1.size
theorem St.gu{base b:Nat}(h:St w t g cs)(k:aQ base b w w')(hb:g≠b)(ht:t≠91):St w' t g cs:=h.others k.2 hb ht
theorem FB(base b:Nat)(acc:List Pc)(s:ByteArray)(d:Nat)(k:Int)(p:Nat->Bool)(w:World)(h:eV base b acc s d w)(hl:acc.length<=10000):
  Calls prog 122 #[.pointer (some ⟨b,0,none⟩),.int .i64 k,(.agg #[.int .u64 (wd p 0),.int .u64 (wd p 1),.int .u64 (wd p 2),.int .u64 (wd p 3)])] w fun e w'=>e=.returned (.tuple #[])/\eV base b (acc++[⟨k,p⟩]) s d w'/\aQ base b w w':=by
 obtain⟨i0,hi,dv,cP,cG⟩:=info_parts nN;have H2:=hid (h.ab ((Below.refl _ w).alloc (le_refl _) (.cells #[.int .u64 (wd p 0),.int .u64 (wd p 1),.int .u64 (wd p 2),.int .u64 (wd p 3)] 89)));have HK:=hid ((aQ.refl base b w).below h.low ((Below.refl _ w).alloc (le_refl _) (.cells #[.int .u64 (wd p 0),.int .u64 (wd p 1),.int .u64 (wd p 2),.int .u64 (wd p 3)] 89)));have HS:=hid (St.new w 89 #[.int .u64 (wd p 0),.int .u64 (wd p 1),.int .u64 (wd p 2),.int .u64 (wd p 3)]);have zq:Hid (eJ (acc++[⟨k,p⟩])=eJ acc++[.int .i64 k,.int .u64 (wd p 0),.int .u64 (wd p 1),.int .u64 (wd p 2),.int .u64 (wd p 3)]):=by
  show _=_;rw[ER];rfl
 have FT:Hid ((acc++[(⟨k,p⟩:Pc)]).length=acc.length+1):=by show _=_;simp
 have gE:=h.lt;have vl:(eJ acc).length=acc.length*5:=Gg acc;clear h;go_in;go_wp2_with fail;generalize w.alloc (.cells #[.int .u64 (wd p 0),.int .u64 (wd p 1),.int .u64 (wd p 2),.int .u64 (wd p 3)] 89)=W2 at H2 HK HS⊢;obtain⟨c0,c1,c2,c3,-⟩:=bQ HS.out;have dP:=H2.out.low;have mQ:=H2.out.lt;obtain⟨hB,v,r9,az,hne⟩:=H2.out;have d1:W2.cell? ⟨b,1,none⟩=some v:=by rw[cell_of_heap r9];rfl
 obtain⟨ao,IF,rfl⟩:=bP az;clear HS H2
 go_region_law (
  refine step_append_lies _ (by rfl) _ _ _ (by rfl) base 91 i0 (.agg #[.int .i64 0,.int .u64 0,.int .u64 0,.int .u64 0,.int .u64 0]) 5 40 underlying42 hi dv cP cG (by rfl) (by decide) _ acc.length (eJ acc) (by rfl) (by first|exact az.drew.alloc _|exact (az.alloc _).drew) ⟨W2.heap.size,0,none⟩ 1 1 [.int .i64 k,.int .u64 (wd p 0),.int .u64 (wd p 1),.int .u64 (wd p 2),.int .u64 (wd p 3)] (by rfl) (by rfl) (World.news_of_block (cs:=#[.int .i64 k,.int .u64 (wd p 0),.int .u64 (wd p 1),.int .u64 (wd p 2),.int .u64 (wd p 3)]) (by first|exact heap_alloc_new _ _|exact St.new _ _ _)) (by intro u hu;simp at hu;rcases hu with rfl|rfl|rfl|rfl|rfl <;> rfl) (by omega) (by unfold maxLen;omega) (by omega) (by simp;omega) _ (by rfl) ?_
  intro g cap w1 Kj dy fx Df
  have cv:w1.heap[b]?=some (.cells #[.string s,.slice ao acc.length IF,.int .i64 (d:Int)] 133 (0,0)):=(dy.block b (by simp;omega) (fun e=>hne e.symm)).trans ((Lib.alloc_old _ _ b (by first|exact mQ|(simp;omega))).trans r9)
  have e1:w1.cell? ⟨b,1,none⟩=some (.slice ao acc.length IF):=by (rw[cell_of_heap cv];rfl)
  have f1:w1.frozen? ⟨b,1,none⟩=false:=Lib.frozen_of_heap cv 1)
 all_goals
  go_wp2_with fail
  go_end0
  have rI:(Value.slice (some ⟨g,0,none⟩) (acc.length+1) cap).ownBlock≠some b:=by
   intro e;simp[Value.ownBlock] at e;rcases fx with fx|fx
   ·exact hne (fx.trans (by rw[e]))
   simp at fx;omega
  refine⟨rfl,⟨hB,_,?_,?_,rI⟩,?_⟩
  ·simp[World.setCell,Array.getElem?_modify,cv]
  ·rw[zq.out,FT.out];exact Kj.kept (row:=some b) ⟨rfl,rfl,rfl,by simp[World.setCell],fun k _ hk=>heap_setCell _ _ _ _ (fun e=>hk (by simp[e]))⟩ (inr rI)
  ·refine (HK.out.trans ?_).set hB 1 _;refine⟨?_,?_⟩
   ·refine Below.grown ?_ dy (by simp;omega) (fun k hk=>(az.lt k hk).1)
    first|exact (Below.refl _ _).drew.alloc dP _|exact ((Below.refl _ _).alloc dP _).drew
   refine Lib.OthersKept.grown ?_ dy (Lib.ownsRow_kind (by first|exact az.drew.alloc _|exact (az.alloc _).drew))
   first|exact (Lib.OthersKept.refl _ _ _).drew.alloc _|exact ((Lib.OthersKept.refl _ _ _).alloc _).drew
theorem Gu(s:ByteArray)(h:0<s.size):aa s=s[0].toNat :: (aa s).drop 1:=by
 have:=FU s 0 h;simpa using this
theorem Od(s:ByteArray)(h:s.size=0):aa s=[]:=by
 have:=od s;exact List.length_eq_zero_iff.1 (by omega)
theorem J0(s:ByteArray)(h:s.size=0):s.toList=[]:=by rw[ByteArray.toList_eq];exact List.eq_nil_of_length_eq_zero (by simpa using h)
theorem ow(base b:Nat)(acc:List Pc)(s:ByteArray)(d c:Nat)(w:World)(h:eV base b acc s d w)(hc:aw c (aa s)=none):
  Calls prog 121 #[.pointer (some ⟨b,0,none⟩),.int .u8 c] w fun e w'=>e=.returned (.bool false)/\w=w':=by
 obtain⟨c0,-⟩:=h.rest;clear h;rcases eq_zero_or_pos s.size with hz|hp
 ·have hl:s.toList=[]:=J0 s hz;have gy:s.toList.isEmpty=true:=by rw[hl];rfl
  clear hc hz;go_in;go_wp2;go_ret;exact⟨rfl,rfl⟩
 have hl:s.toList.isEmpty=false:=yS s hp;have gy:(!s.toList.isEmpty)=true:=by rw[hl];rfl
 have hne:s[0].toNat≠c:=by
  intro e;rw[Gu s hp] at hc;simp[aw,e] at hc
 have e0:((s[0].toNat:Int) != (c:Int))=true:=by simp;omega
 clear hc hne;go_in;go_wp2;go_ret;exact⟨rfl,rfl⟩
theorem uJ(base b:Nat)(acc:List Pc)(s:ByteArray)(d c:Nat)(r:List Nat)(w:World)(h:eV base b acc s d w)(hc:aw c (aa s)=some r)(hs:s.size<=10000):
  Calls prog 121 #[.pointer (some ⟨b,0,none⟩),.int .u8 c] w fun e w'=>e=.returned (.bool true)/\aQ base b w w'/\∃s',aa s'=r/\s'.size+1=s.size/\eV base b acc s' d w':=by
 obtain⟨c0,f0⟩:=h.rest;have HP:=hid h;clear h;have e:=uZ hc;have dc:=od s;rw[e] at dc;simp at dc;have hp:0<s.size:=by omega
 have hl:s.toList.isEmpty=false:=yS s hp;have gy:(!s.toList.isEmpty)=true:=by rw[hl];rfl
 have h2:=Gu s hp;rw[e] at h2;simp at h2;have e0:((s[0].toNat:Int) != (c:Int))=false:=by simp;omega
 have HR:Hid (aa (s.extract 1 s.size)=r):=by show _=_;rw[Fu,e];rfl
 have HZ:Hid ((s.extract 1 s.size).size+1=s.size):=by show _=_;rw[ByteArray.size_extract];omega
 clear hc e dc h2;go_in;go_wp2;go_ret;exact⟨rfl,(aQ.refl base b w).set HP.out.1 0 _,_,HR.out,HZ.out,HP.out.lh _⟩
theorem Sh(base b:Nat)(acc:List Pc)(s sp:ByteArray)(d:Nat)(w:World)(h:eV base b acc s d w)(hs:s.size<=10000)(hc:aI sp (aa s)=none):
  Calls prog 163 #[.pointer (some ⟨b,0,none⟩),.string sp] w fun e w'=>e=.returned (.tuple #[.int .u8 0,.bool false])/\Below w.heap.size w w':=by
 obtain⟨c0,f0⟩:=h.rest;clear h;unfold aI at hc;have aq:=Fg (aa s) (A7 s);rcases hr:rd (aa s) with ⟨a,n,o⟩;rw[hr] at hc aq;simp only at hc aq;have HR:=hid hr;have HM:Hid (s.size<=maxLen):=by show _<=_;unfold maxLen;omega
 clear hr;rcases o with _|_
 ·clear hc;go_in;go_wp2_with fail;refine (Kx s HM.out _).mono ?_;rintro e w1 ⟨rfl,b1⟩;rw[HR.out,BU];go_wp2;go_ret2;exact⟨rfl,b1⟩
 have fB:n=1/\fV sp a=true:=by simpa using hc
 obtain⟨rfl,h2⟩:=fB;have h3:=Qm sp a aq.1;rw[h2] at h3;have h4:0<=iE sp a:=by simpa using h3
 clear hc h2 h3 aq;go_in;go_wp2_with fail;refine (Kx s HM.out _).mono ?_;rintro e w1 ⟨rfl,b1⟩;rw[HR.out,BU];go_wp2_with fail;refine (N5 sp a _).mono ?_;rintro e w2 ⟨rfl,rfl⟩;go_wp2;go_ret2;exact⟨rfl,b1⟩
theorem Cr(base b:Nat)(acc:List Pc)(s sp:ByteArray)(d c:Nat)(r:List Nat)(w:World)(h:eV base b acc s d w)(hs:s.size<=10000)(hc:aI sp (aa s)=some (c,r)):
  Calls prog 163 #[.pointer (some ⟨b,0,none⟩),.string sp] w fun e w'=>e=.returned (.tuple #[.int .u8 c,.bool true])/\c<256/\aQ base b w w'/\∃s',aa s'=r/\s'.size<s.size/\eV base b acc s' d w':=by
 obtain⟨c0,f0⟩:=h.rest;have HP:=hid h;have dP:=h.low;have gE:=h.lt;have hlen:=MU hc;clear h;unfold aI at hc;have aq:=Fg (aa s) (A7 s);rcases hr:rd (aa s) with ⟨a,n,o⟩;rw[hr] at hc aq;simp only at hc aq;have HR:=hid hr;have HM:Hid (s.size<=maxLen):=by show _<=_;unfold maxLen;omega
 clear hr;split at hc
 ·rename_i tv;obtain⟨rfl,tv⟩:=tv;simp only[Option.some.injEq,Prod.mk.injEq] at hc;obtain⟨rfl,hc⟩:=hc;have hn:=aq.2 rfl;rw[od] at hn;have ha:=aq.1;have DJ:Hid (aa (s.extract n s.size)=r):=by show _=_;rw[Fu,hc]
  have HZ:Hid ((s.extract n s.size).size<s.size):=by show _<_;rw[ByteArray.size_extract];omega
  have h3:=Qm sp a ha;have h4:n≠1\/iE sp a<0:=by
   by_cases h1:n=1
   ·right;have:fV sp a=false:=by
     rcases h5:fV sp a with _|_
     ·rfl
     exact absurd ⟨h1,h5⟩ tv
    rw[this] at h3;simpa using h3
   left;exact h1
  clear hc aq tv hlen h3;rcases h4 with h4|h4
  ·have e1:((n:Int) == 1)=false:=(by simp;omega);go_in;go_wp2_with fail;refine (Kx s HM.out _).mono ?_;rintro e w1 ⟨rfl,b1⟩;rw[HR.out,BU];have fj:=hid (HP.out.ab b1);obtain⟨d0,g0⟩:=fj.out.rest;have HK:=hid ((aQ.refl base b w).below dP b1);go_wp2;go_ret2;exact⟨rfl,ha,HK.out.set HP.out.1 0 _,_,DJ.out,HZ.out,fj.out.lh _⟩
  by_cases h5:n=1
  ·subst h5;go_in;go_wp2_with fail;refine (Kx s HM.out _).mono ?_;rintro e w1 ⟨rfl,b1⟩;rw[HR.out,BU];have fj:=hid (HP.out.ab b1);obtain⟨d0,g0⟩:=fj.out.rest;have HK:=hid ((aQ.refl base b w).below dP b1);go_wp2_with fail;refine (N5 sp a _).mono ?_;rintro e w2 ⟨rfl,rfl⟩;go_wp2;go_ret2;exact⟨rfl,ha,HK.out.set HP.out.1 0 _,_,DJ.out,HZ.out,fj.out.lh _⟩
  have e1:((n:Int) == 1)=false:=by simp;omega
  go_in;go_wp2_with fail;refine (Kx s HM.out _).mono ?_;rintro e w1 ⟨rfl,b1⟩;rw[HR.out,BU];have fj:=hid (HP.out.ab b1);obtain⟨d0,g0⟩:=fj.out.rest;have HK:=hid ((aQ.refl base b w).below dP b1);go_wp2;go_ret2;exact⟨rfl,ha,HK.out.set HP.out.1 0 _,_,DJ.out,HZ.out,fj.out.lh _⟩
 simp at hc
theorem aQ.im{base b:Nat}{w0:World}(h:aQ base b w0 w)(hg:base<=g)(hs:∃cs fz,w.heap[g]?=some (.cells cs 89 fz))(hgn:w0.heap.size<=g)(d0 d1 d2 d3:Value):
  aQ base b w0 ((((w.setCell ⟨g,0,none⟩ d0).setCell ⟨g,1,none⟩ d1).setCell ⟨g,2,none⟩ d2).setCell ⟨g,3,none⟩ d3):=by
 refine⟨qA h.1 hg _ _ _ _,?_⟩;intro k o hk hb ho;have aq:=(Array.getElem?_eq_some_iff.1 hk).1;have h1:=h.2 k o hk hb ho;rw[heap_setCell _ _ _ _ (by show k≠g;omega),heap_setCell _ _ _ _ (by show k≠g;omega),heap_setCell _ _ _ _ (by show k≠g;omega),heap_setCell _ _ _ _ (by show k≠g;omega)];exact h1
theorem eV.im{base b:Nat}{s:ByteArray}(h:eV base b acc s d w)(hg:g≠b)(hs:∃cs fz,w.heap[g]?=some (.cells cs 89 fz))(d0 d1 d2 d3:Value):
  eV base b acc s d ((((w.setCell ⟨g,0,none⟩ d0).setCell ⟨g,1,none⟩ d1).setCell ⟨g,2,none⟩ d2).setCell ⟨g,3,none⟩ d3):=by
 obtain⟨h1,v,h2,h3,h4⟩:=h;have hv:v.ownBlock≠some g:=by
  intro e;obtain⟨c,fz,hc⟩:=Lib.ownsRow_kind h3 g e;obtain⟨cs,Vq,hs⟩:=hs;rw[hs] at hc;simp at hc
 refine⟨h1,v,?_,?_,h4⟩
 ·rw[heap_setCell _ _ _ _ (by show b≠g;omega),heap_setCell _ _ _ _ (by show b≠g;omega),heap_setCell _ _ _ _ (by show b≠g;omega),heap_setCell _ _ _ _ (by show b≠g;omega)];exact h2
 have step:∀(W:World) (j:Nat) (u:Value),W.ownsRow base 91 5 v acc.length (eJ acc)->(W.setCell ⟨g,j,none⟩ u).ownsRow base 91 5 v acc.length (eJ acc):=fun W j u ho=>ho.kept (row:=some g) ⟨rfl,rfl,rfl,by simp[World.setCell],fun k _ hk=>heap_setCell _ _ _ _ (fun e=>hk (by simp[e]))⟩ (inr hv)
 exact step _ _ _ (step _ _ _ (step _ _ _ (step _ _ _ h3)))
theorem St.is(h:St w t g cs):∃cs fz,w.heap[g]?=some (.cells cs t fz):=⟨cs,(0,0),h⟩
theorem zno(base b:Nat)(acc:List Pc)(s:ByteArray)(d:Nat)(w:World)(h:eV base b acc s d w)(hs:s.size<=10000)(h1:aI du (aa s)=none):
  Calls prog 178 #[.pointer (some ⟨b,0,none⟩)] w fun e w'=>(∃q:Nat->Bool,e=.returned (.tuple #[(.agg #[.int .u64 (wd q 0),.int .u64 (wd q 1),.int .u64 (wd q 2),.int .u64 (wd q 3)]),.bool false]))/\aQ base b w w':=by
 have gE:=h.lt;have dP:=h.low;have HB:=h.1;have dz:=hid (St.new w 89 #[.int .u64 0,.int .u64 0,.int .u64 0,.int .u64 0]);have k0:aQ base b w (w.alloc (.cells #[.int .u64 0,.int .u64 0,.int .u64 0,.int .u64 0] 89)):=(aQ.refl base b w).below dP ((Below.refl _ w).alloc (le_refl _) _);have nf:=hid (h.ab ((Below.refl _ w).alloc (le_refl _) (.cells #[.int .u64 0,.int .u64 0,.int .u64 0,.int .u64 0] 89)));have qn:=hid k0;clear h k0;go_in;go_wp2_with fail;refine (Sh base b acc s du d _ nf.out hs h1).mono ?_;rintro e w1 ⟨rfl,b1⟩;have mT:=hid (qn.out.below nf.out.low b1);have oW:=hid (dz.out.ab b1);clear b1 nf qn dz;go_wp2_with fail;refine (Gq 0 0 (by decide) (by decide) _).mono ?_;rintro e w9 ⟨rfl,b9⟩;have hY:=hid (mT.out.below (le_trans dP mT.out.size) b9);obtain⟨q0,q1,q2,q3,q4,q5,q6,q7⟩:=bQ (oW.out.ab b9);have AO:=hY.out.size;have oJ:=hid (oW.out.ab b9);clear b9;go_wp2_with fail;exact bodyPost_ret (v:=.tuple #[(.agg #[.int .u64 ((wd (ar 0 (0+1-0)) 0:Nat):Int),.int .u64 ((wd (ar 0 (0+1-0)) 1:Nat):Int),.int .u64 ((wd (ar 0 (0+1-0)) 2:Nat):Int),.int .u64 ((wd (ar 0 (0+1-0)) 3:Nat):Int)]),.bool false]) (by first|(simp[results,results178,go_sem,q0,q1,q2,q3];done)|(simp[results,results178,go_sem,q0,q1,q2,q3];omega)) rfl ⟨⟨_,rfl⟩,(hY.out.im dP (oJ.out.is) (le_refl _) _ _ _ _)⟩
theorem znp(base b:Nat)(acc:List Pc)(s:ByteArray)(d:Nat)(a:Nat)(r r1:List Nat)(w:World)(h:eV base b acc s d w)(hs:s.size<=10000)(h1:aI du (aa s)=some (a,r))(h2:aw 45 r=some r1)(h3:aI du r1=none):
  Calls prog 178 #[.pointer (some ⟨b,0,none⟩)] w fun e w'=>(∃q:Nat->Bool,e=.returned (.tuple #[(.agg #[.int .u64 (wd q 0),.int .u64 (wd q 1),.int .u64 (wd q 2),.int .u64 (wd q 3)]),.bool false]))/\aQ base b w w':=by
 have gE:=h.lt;have dP:=h.low;have HB:=h.1;have dz:=hid (St.new w 89 #[.int .u64 0,.int .u64 0,.int .u64 0,.int .u64 0]);have k0:aQ base b w (w.alloc (.cells #[.int .u64 0,.int .u64 0,.int .u64 0,.int .u64 0] 89)):=(aQ.refl base b w).below dP ((Below.refl _ w).alloc (le_refl _) _);have nf:=hid (h.ab ((Below.refl _ w).alloc (le_refl _) (.cells #[.int .u64 0,.int .u64 0,.int .u64 0,.int .u64 0] 89)));have qn:=hid k0;clear h k0;go_in;go_wp2_with fail;refine (Cr base b acc s du d a r _ nf.out hs h1).mono ?_;rintro e w1 ⟨rfl,gZ,k1,s1,da,cP,fQ⟩;have mT:=hid (qn.out.trans k1);have oW:=hid (dz.out.gu k1 (by omega) (by decide));have fj:=hid fQ;have oB:=hid da;clear k1 fQ da nf qn dz;go_wp2_with fail;refine (uJ base b acc s1 d 45 r1 _ fj.out (by rw[oB.out];exact h2) (by omega)).mono ?_;rintro e w2 ⟨rfl,k2,s2,cU,cG,fO⟩;have ug:=hid (mT.out.trans k2);have gY:=hid (oW.out.gu k2 (by omega) (by decide));have lb:=hid fO;have kD:=hid cU;clear k2 fO cU fj mT oW;go_wp2_with fail;refine (Sh base b acc s2 du d _ lb.out (by omega) (by rw[kD.out];exact h3)).mono ?_;rintro e w3 ⟨rfl,b3⟩;have Fh:=hid (ug.out.below lb.out.low b3);have uC:=hid (gY.out.ab b3);clear b3 lb ug gY;go_wp2_with fail;refine (Gq a 0 gZ (by decide) _).mono ?_;rintro e w9 ⟨rfl,b9⟩;have hY:=hid (Fh.out.below (le_trans dP Fh.out.size) b9);obtain⟨q0,q1,q2,q3,q4,q5,q6,q7⟩:=bQ (uC.out.ab b9);have AO:=hY.out.size;have oJ:=hid (uC.out.ab b9);clear b9;go_wp2_with fail;exact bodyPost_ret (v:=.tuple #[(.agg #[.int .u64 ((wd (ar a (0+1-a)) 0:Nat):Int),.int .u64 ((wd (ar a (0+1-a)) 1:Nat):Int),.int .u64 ((wd (ar a (0+1-a)) 2:Nat):Int),.int .u64 ((wd (ar a (0+1-a)) 3:Nat):Int)]),.bool false]) (by first|(simp[results,results178,go_sem,q0,q1,q2,q3];done)|(simp[results,results178,go_sem,q0,q1,q2,q3];omega)) rfl ⟨⟨_,rfl⟩,(hY.out.im dP (oJ.out.is) (le_refl _) _ _ _ _)⟩
theorem znq(base b:Nat)(acc:List Pc)(s:ByteArray)(d:Nat)(a c:Nat)(r r1 r2:List Nat)(w:World)(h:eV base b acc s d w)(hs:s.size<=10000)(h1:aI du (aa s)=some (a,r))(h2:aw 45 r=some r1)(h3:aI du r1=some (c,r2))(h4:c<a):
  Calls prog 178 #[.pointer (some ⟨b,0,none⟩)] w fun e w'=>(∃q:Nat->Bool,e=.returned (.tuple #[(.agg #[.int .u64 (wd q 0),.int .u64 (wd q 1),.int .u64 (wd q 2),.int .u64 (wd q 3)]),.bool false]))/\aQ base b w w':=by
 have gE:=h.lt;have dP:=h.low;have HB:=h.1;have dz:=hid (St.new w 89 #[.int .u64 0,.int .u64 0,.int .u64 0,.int .u64 0]);have k0:aQ base b w (w.alloc (.cells #[.int .u64 0,.int .u64 0,.int .u64 0,.int .u64 0] 89)):=(aQ.refl base b w).below dP ((Below.refl _ w).alloc (le_refl _) _);have nf:=hid (h.ab ((Below.refl _ w).alloc (le_refl _) (.cells #[.int .u64 0,.int .u64 0,.int .u64 0,.int .u64 0] 89)));have qn:=hid k0;clear h k0;go_in;go_wp2_with fail;refine (Cr base b acc s du d a r _ nf.out hs h1).mono ?_;rintro e w1 ⟨rfl,gZ,k1,s1,da,cP,fQ⟩;have mT:=hid (qn.out.trans k1);have oW:=hid (dz.out.gu k1 (by omega) (by decide));have fj:=hid fQ;have oB:=hid da;clear k1 fQ da nf qn dz;go_wp2_with fail;refine (uJ base b acc s1 d 45 r1 _ fj.out (by rw[oB.out];exact h2) (by omega)).mono ?_;rintro e w2 ⟨rfl,k2,s2,cU,cG,fO⟩;have ug:=hid (mT.out.trans k2);have gY:=hid (oW.out.gu k2 (by omega) (by decide));have lb:=hid fO;have kD:=hid cU;clear k2 fO cU fj mT oW;go_wp2_with fail;refine (Cr base b acc s2 du d c r2 _ lb.out (by omega) (by rw[kD.out];exact h3)).mono ?_;rintro e w3 ⟨rfl,tI,k3,s3,lD,zF,ic⟩;have Fh:=hid (ug.out.trans k3);have uC:=hid (gY.out.gu k3 (by omega) (by decide));have AY:=hid ic;have sP:=hid lD;clear k3 ic lD lb ug gY;go_wp2_with fail;refine (Gq a c gZ tI _).mono ?_;rintro e w9 ⟨rfl,b9⟩;have hY:=hid (Fh.out.below AY.out.low b9);have NQ:=hid (AY.out.ab b9);obtain⟨q0,q1,q2,q3,q4,q5,q6,q7⟩:=bQ (uC.out.ab b9);have AO:=hY.out.size;have oJ:=hid (uC.out.ab b9);clear b9;go_wp2_with fail;exact bodyPost_ret (v:=.tuple #[(.agg #[.int .u64 ((wd (ar a (c+1-a)) 0:Nat):Int),.int .u64 ((wd (ar a (c+1-a)) 1:Nat):Int),.int .u64 ((wd (ar a (c+1-a)) 2:Nat):Int),.int .u64 ((wd (ar a (c+1-a)) 3:Nat):Int)]),.bool false]) (by first|(simp[results,results178,go_sem,q0,q1,q2,q3];done)|(simp[results,results178,go_sem,q0,q1,q2,q3];omega)) rfl ⟨⟨_,rfl⟩,(hY.out.im dP (oJ.out.is) (le_refl _) _ _ _ _)⟩
theorem zlB(base b:Nat)(acc:List Pc)(s:ByteArray)(d:Nat)(a:Nat)(r:List Nat)(w:World)(h:eV base b acc s d w)(hs:s.size<=10000)(h1:aI du (aa s)=some (a,r))(h2:aw 45 r=none):
  Calls prog 178 #[.pointer (some ⟨b,0,none⟩)] w fun e w'=>e=.returned (.tuple #[(.agg #[.int .u64 ((wd (ar a (a+1-a)) 0:Nat):Int),.int .u64 ((wd (ar a (a+1-a)) 1:Nat):Int),.int .u64 ((wd (ar a (a+1-a)) 2:Nat):Int),.int .u64 ((wd (ar a (a+1-a)) 3:Nat):Int)]),.bool true])/\aQ base b w w'/\∃s',aa s'=r/\s'.size<s.size/\eV base b acc s' d w':=by
 have gE:=h.lt;have dP:=h.low;have HB:=h.1;have dz:=hid (St.new w 89 #[.int .u64 0,.int .u64 0,.int .u64 0,.int .u64 0]);have k0:aQ base b w (w.alloc (.cells #[.int .u64 0,.int .u64 0,.int .u64 0,.int .u64 0] 89)):=(aQ.refl base b w).below dP ((Below.refl _ w).alloc (le_refl _) _);have nf:=hid (h.ab ((Below.refl _ w).alloc (le_refl _) (.cells #[.int .u64 0,.int .u64 0,.int .u64 0,.int .u64 0] 89)));have qn:=hid k0;clear h k0;go_in;go_wp2_with fail;refine (Cr base b acc s du d a r _ nf.out hs h1).mono ?_;rintro e w1 ⟨rfl,gZ,k1,s1,da,cP,fQ⟩;have mT:=hid (qn.out.trans k1);have oW:=hid (dz.out.gu k1 (by omega) (by decide));have fj:=hid fQ;have oB:=hid da;clear k1 fQ da nf qn dz;go_wp2_with fail;refine (ow base b acc s1 d 45 _ fj.out (by rw[oB.out];exact h2)).mono ?_;rintro e w2 ⟨rfl,rfl⟩;go_wp2_with fail;refine (Gq a a gZ gZ _).mono ?_;rintro e w9 ⟨rfl,b9⟩;have hY:=hid (mT.out.below fj.out.low b9);have NQ:=hid (fj.out.ab b9);obtain⟨q0,q1,q2,q3,q4,q5,q6,q7⟩:=bQ (oW.out.ab b9);have AO:=hY.out.size;have oJ:=hid (oW.out.ab b9);clear b9;go_wp2_with fail;exact bodyPost_ret (v:=.tuple #[(.agg #[.int .u64 ((wd (ar a (a+1-a)) 0:Nat):Int),.int .u64 ((wd (ar a (a+1-a)) 1:Nat):Int),.int .u64 ((wd (ar a (a+1-a)) 2:Nat):Int),.int .u64 ((wd (ar a (a+1-a)) 3:Nat):Int)]),.bool true]) (by first|(simp[results,results178,go_sem,q0,q1,q2,q3];done)|(simp[results,results178,go_sem,q0,q1,q2,q3];omega)) rfl ⟨rfl,(hY.out.im dP (oJ.out.is) (le_refl _) _ _ _ _),s1,oB.out,cP,NQ.out.im (by omega) (oJ.out.is) _ _ _ _⟩
theorem zlC(base b:Nat)(acc:List Pc)(s:ByteArray)(d:Nat)(a c:Nat)(r r1 r2:List Nat)(w:World)(h:eV base b acc s d w)(hs:s.size<=10000)(h1:aI du (aa s)=some (a,r))(h2:aw 45 r=some r1)(h3:aI du r1=some (c,r2))(h4:a<=c):
  Calls prog 178 #[.pointer (some ⟨b,0,none⟩)] w fun e w'=>e=.returned (.tuple #[(.agg #[.int .u64 ((wd (ar a (c+1-a)) 0:Nat):Int),.int .u64 ((wd (ar a (c+1-a)) 1:Nat):Int),.int .u64 ((wd (ar a (c+1-a)) 2:Nat):Int),.int .u64 ((wd (ar a (c+1-a)) 3:Nat):Int)]),.bool true])/\aQ base b w w'/\∃s',aa s'=r2/\s'.size<s.size/\eV base b acc s' d w':=by
 have gE:=h.lt;have dP:=h.low;have HB:=h.1;have dz:=hid (St.new w 89 #[.int .u64 0,.int .u64 0,.int .u64 0,.int .u64 0]);have k0:aQ base b w (w.alloc (.cells #[.int .u64 0,.int .u64 0,.int .u64 0,.int .u64 0] 89)):=(aQ.refl base b w).below dP ((Below.refl _ w).alloc (le_refl _) _);have nf:=hid (h.ab ((Below.refl _ w).alloc (le_refl _) (.cells #[.int .u64 0,.int .u64 0,.int .u64 0,.int .u64 0] 89)));have qn:=hid k0;clear h k0;go_in;go_wp2_with fail;refine (Cr base b acc s du d a r _ nf.out hs h1).mono ?_;rintro e w1 ⟨rfl,gZ,k1,s1,da,cP,fQ⟩;have mT:=hid (qn.out.trans k1);have oW:=hid (dz.out.gu k1 (by omega) (by decide));have fj:=hid fQ;have oB:=hid da;clear k1 fQ da nf qn dz;go_wp2_with fail;refine (uJ base b acc s1 d 45 r1 _ fj.out (by rw[oB.out];exact h2) (by omega)).mono ?_;rintro e w2 ⟨rfl,k2,s2,cU,cG,fO⟩;have ug:=hid (mT.out.trans k2);have gY:=hid (oW.out.gu k2 (by omega) (by decide));have lb:=hid fO;have kD:=hid cU;clear k2 fO cU fj mT oW;go_wp2_with fail;refine (Cr base b acc s2 du d c r2 _ lb.out (by omega) (by rw[kD.out];exact h3)).mono ?_;rintro e w3 ⟨rfl,tI,k3,s3,lD,zF,ic⟩;have Fh:=hid (ug.out.trans k3);have uC:=hid (gY.out.gu k3 (by omega) (by decide));have AY:=hid ic;have sP:=hid lD;clear k3 ic lD lb ug gY;go_wp2_with fail;refine (Gq a c gZ tI _).mono ?_;rintro e w9 ⟨rfl,b9⟩;have hY:=hid (Fh.out.below AY.out.low b9);have NQ:=hid (AY.out.ab b9);obtain⟨q0,q1,q2,q3,q4,q5,q6,q7⟩:=bQ (uC.out.ab b9);have AO:=hY.out.size;have oJ:=hid (uC.out.ab b9);clear b9;go_wp2_with fail;exact bodyPost_ret (v:=.tuple #[(.agg #[.int .u64 ((wd (ar a (c+1-a)) 0:Nat):Int),.int .u64 ((wd (ar a (c+1-a)) 1:Nat):Int),.int .u64 ((wd (ar a (c+1-a)) 2:Nat):Int),.int .u64 ((wd (ar a (c+1-a)) 3:Nat):Int)]),.bool true]) (by first|(simp[results,results178,go_sem,q0,q1,q2,q3];done)|(simp[results,results178,go_sem,q0,q1,q2,q3];omega)) rfl ⟨rfl,(hY.out.im dP (oJ.out.is) (le_refl _) _ _ _ _),s3,sP.out,by omega,NQ.out.im (by omega) (oJ.out.is) _ _ _ _⟩
theorem Xq(base b:Nat)(acc:List Pc)(s:ByteArray)(d:Nat)(w:World)(h:eV base b acc s d w)(hs:s.size<=10000)(hc:cJ (aa s)=none):
  Calls prog 178 #[.pointer (some ⟨b,0,none⟩)] w fun e w'=>(∃q:Nat->Bool,e=.returned (.tuple #[(.agg #[.int .u64 (wd q 0),.int .u64 (wd q 1),.int .u64 (wd q 2),.int .u64 (wd q 3)]),.bool false]))/\aQ base b w w':=by
 unfold cJ at hc;rcases h1:aI du (aa s) with _|⟨a,r⟩
 ·exact zno base b acc s d w h hs h1
 rw[h1] at hc;simp only at hc;rcases h2:aw 45 r with _|r1
 ·simp[h2] at hc
 rw[h2] at hc;simp only at hc;rcases h3:aI du r1 with _|⟨c,r2⟩
 ·exact znp base b acc s d a r r1 w h hs h1 h2 h3
 rw[h3] at hc;simp only at hc;exact znq base b acc s d a c r r1 r2 w h hs h1 h2 h3 (by
  rcases Nat.lt_or_ge c a with h|h
  ·exact h
  ·simp[h] at hc)
theorem Zt(base b:Nat)(acc:List Pc)(s:ByteArray)(d a c:Nat)(r:List Nat)(w:World)(h:eV base b acc s d w)(hs:s.size<=10000)(hc:cJ (aa s)=some (a,c,r)):
  Calls prog 178 #[.pointer (some ⟨b,0,none⟩)] w fun e w'=>e=.returned (.tuple #[(.agg #[.int .u64 ((wd (ar a (c+1-a)) 0:Nat):Int),.int .u64 ((wd (ar a (c+1-a)) 1:Nat):Int),.int .u64 ((wd (ar a (c+1-a)) 2:Nat):Int),.int .u64 ((wd (ar a (c+1-a)) 3:Nat):Int)]),.bool true])/\aQ base b w w'/\∃s',aa s'=r/\s'.size<s.size/\eV base b acc s' d w':=by
 unfold cJ at hc;rcases h1:aI du (aa s) with _|⟨a1,r1⟩
 ·simp[h1] at hc
 rw[h1] at hc;simp only at hc;rcases h2:aw 45 r1 with _|r2
 ·simp[h2] at hc;obtain⟨rfl,rfl,rfl⟩:=hc;exact zlB base b acc s d a1 r1 w h hs h1 h2
 rw[h2] at hc;simp only at hc;rcases h3:aI du r2 with _|⟨c1,r3⟩
 ·simp[h3] at hc
 rw[h3] at hc;simp only at hc;split at hc
 ·rename_i hle;simp at hc;obtain⟨rfl,rfl,rfl⟩:=hc;exact zlC base b acc s d a1 c1 r1 r2 r3 w h hs h1 h2 h3 hle
 simp at hc
def fA(w:World)(a:Addr):Nat:=match w.cell? a with
 | some (.string s)=>s.size
 | _=>0
theorem eV.fA{base b:Nat}{s:ByteArray}(h:eV base b acc s d w):fA w ⟨b,0,none⟩=s.size:=by
 unfold Go.Proofs.YtkkhakmdjinenaaGreat.fA;rw[h.rest.1]
theorem Zn(f:Nat)(q:Nat->Bool)(s:List Nat)(a c:Nat)(r:List Nat)(hf:s.length<f)(h1:aw 93 s=none)(h2:cJ s=some (a,c,r)):
  ∃g,r.length<g/\aD f q s=aD g (fun x=>q x || ar a (c+1-a) x) r:=by
 match f,hf with
 | f+1,hf=>
  have:=(LB h2).1;exact⟨f,by omega,by simp only[aD,h1,h2]⟩
theorem zee(f:Nat)(q:Nat->Bool)(s r:List Nat)(hf:s.length<f)(h1:aw 93 s=some r):aD f q s=some (q,r):=by
 match f,hf with
 | f+1,hf=>simp only[aD,h1]
theorem WB(f:Nat)(q:Nat->Bool)(s:List Nat)(hf:s.length<f)(h1:aw 93 s=none)(h2:cJ s=none):aD f q s=none:=by
 match f,hf with
 | f+1,hf=>simp only[aD,h1,h2]
theorem I7(t:Nat):(#[.int .u64 0,.int .u64 0,.int .u64 0,.int .u64 0]:Array Value)=#[.int .u64 (wd aJ 0),.int .u64 (wd aJ 1),.int .u64 (wd aJ 2),.int .u64 (wd aJ 3)]:=by
 have e:∀j,((wd aJ j:Nat):Int)=0:=fun j=>by unfold aJ;rw[wQ];rfl
 simp only[e]
def JW(base b:Nat)(acc:List Pc)(d:Nat)(o:Option ((Nat->Bool) × List Nat))(w:World)(e:Ending)(w':World):Prop:=
 aQ base b w w'/\(o=none->e=.returned (.bool false))/\∀q r,o=some (q,r)->e=.returned (.bool true)/\∃s',aa s'=r/\eV base b (acc++[⟨1,q⟩]) s' d w'
theorem zpP(base b:Nat)(acc:List Pc)(s:ByteArray)(d:Nat)(h0:aw 94 (aa s)=none)(w:World)(h:eV base b acc s d w)(hs:s.size<=10000)(vf:acc.length<=10000):
  Calls prog 162 #[.pointer (some ⟨b,0,none⟩)] w (JW base b acc d (ec (aa s)) w):=by
 have HX:Hid (ec (aa s)=match aD ((aa s).length+1) aJ (aa s) with
  | none=>none
  | some (q,r1)=>if ew q=true then none else some (q,r1)):=by
  show _=_
  simp only[ec,h0]
  rfl
 generalize ec (aa s)=O at HX⊢;have gE:=h.lt;have dP:=h.low;have hB:=h.1;unfold JW;go_in;go_wp2_with fail;refine (ow base b acc s d 94 _ h h0).mono ?_;rintro e w1 ⟨rfl,rfl⟩;obtain⟨s1,da,cP,fQ⟩:∃s1,aa s1=aa s/\s1.size<=s.size/\eV base b acc s1 d w:=⟨s,rfl,le_refl _,h⟩
 have k1:aQ base b w w:=aQ.refl _ _ _;obtain⟨R,hR⟩:∃R,aD ((aa s).length+1) aJ (aa s)=R:=⟨_,rfl⟩
 rw[hR] at HX;have wC:=hid hR;have K1:=hid (k1.below (le_trans dP k1.size) ((Below.refl _ w).alloc (le_refl _) (.cells #[.int .u64 0,.int .u64 0,.int .u64 0,.int .u64 0] 89)));have P1:=hid (fQ.ab ((Below.refl _ w).alloc (le_refl _) (.cells #[.int .u64 0,.int .u64 0,.int .u64 0,.int .u64 0] 89)));have S1:Hid (St (w.alloc (.cells #[.int .u64 0,.int .u64 0,.int .u64 0,.int .u64 0] 89)) 89 w.heap.size #[.int .u64 (wd aJ 0),.int .u64 (wd aJ 1),.int .u64 (wd aJ 2),.int .u64 (wd aJ 3)]):=by
  have:=St.new w 89 #[.int .u64 0,.int .u64 0,.int .u64 0,.int .u64 0];rw[I7 89] at this;rw[I7 89];exact this
 have Rn:=fQ.lt;have BD:=k1.size;have oB:=hid da;have Ci:w.heap.size≠b:=by omega
 clear hR h k1 fQ da h0;go_wp2;go_loopw [9] (fun _ wr=>∃(f:Nat) (q:Nat->Bool) (s':ByteArray),(aa s').length<f/\Hid (aD f q (aa s')=R)/\s'.size<=s.size/\Hid (eV base b acc s' d wr)/\Hid (St wr 89 w.heap.size #[.int .u64 (wd q 0),.int .u64 (wd q 1),.int .u64 (wd q 2),.int .u64 (wd q 3)])/\Hid (aQ base b w wr)/\w.heap.size<wr.heap.size) (fun _ wr=>fA wr ⟨b,0,none⟩)
 ·exact⟨_,aJ,s1,lt_succ_self _,by show aD _ _ _=_;rw[oB.out];exact wC.out,by omega,P1,S1,K1,by simp⟩
 clear P1 S1 K1 wC;obtain⟨f,q,s',hf,HQ,dc,P2,S2,K2,yE⟩:=hrel;rcases h1:aw 93 (aa s') with _|r
 ·have HK:=hid h1;rcases h2:cJ (aa s') with _|⟨a,c,r⟩
  ·have HZ:Hid (O=none):=by
    have:=HQ.out;rw[WB f q _ hf h1 h2] at this;show _=_;rw[HX.out,<-this]
   have H2:=hid h2;clear h1 h2 HX HQ;go_wp2_with fail;refine (ow base b acc s' d 93 _ P2.out HK.out).mono ?_;rintro e w2 ⟨rfl,rfl⟩;go_wp2_with fail;refine (Xq base b acc s' d _ P2.out (by omega) H2.out).mono ?_;rintro e w3 ⟨⟨q3,rfl⟩,k3⟩;have K3:=K2.out.trans k3;have qo:=K3.size;clear k3;go_wp2;go_ret;exact⟨K3.below (le_trans dP qo) ((Below.refl _ w3).alloc (le_refl _) _),fun _=>rfl,fun q r e=>by rw[HZ.out] at e;simp at e⟩
  obtain⟨f2,nY,jS⟩:=Zn f q _ a c r hf h1 h2;have rb:Hid (aD f2 (fun x=>q x || ar a (c+1-a) x) r=R):=by show _=_;rw[<-jS];exact HQ.out
  have H2:=hid h2;have lA:=P2.out.fA;clear h1 h2 HQ jS;go_wp2_with fail;refine (ow base b acc s' d 93 _ P2.out HK.out).mono ?_;rintro e w2 ⟨rfl,rfl⟩;go_wp2_with fail;refine (Zt base b acc s' d a c r _ P2.out (by omega) H2.out).mono ?_;rintro e w3 ⟨rfl,k3,s3,lD,zF,ic⟩;have Ko:=S2.out.gu k3 Ci (by decide);have qo:=k3.size;have K3:=hid ((K2.out.trans k3).below (le_trans dP (K2.out.trans k3).size) ((Below.refl _ w3).alloc (le_refl _) (.cells #[.int .u64 ((wd (ar a (c+1-a)) 0:Nat):Int),.int .u64 ((wd (ar a (c+1-a)) 1:Nat):Int),.int .u64 ((wd (ar a (c+1-a)) 2:Nat):Int),.int .u64 ((wd (ar a (c+1-a)) 3:Nat):Int)] 89)));have P3:=hid (ic.ab ((Below.refl _ w3).alloc (le_refl _) (.cells #[.int .u64 ((wd (ar a (c+1-a)) 0:Nat):Int),.int .u64 ((wd (ar a (c+1-a)) 1:Nat):Int),.int .u64 ((wd (ar a (c+1-a)) 2:Nat):Int),.int .u64 ((wd (ar a (c+1-a)) 3:Nat):Int)] 89)));have S3:=hid (Ko.alloc (.cells #[.int .u64 ((wd (ar a (c+1-a)) 0:Nat):Int),.int .u64 ((wd (ar a (c+1-a)) 1:Nat):Int),.int .u64 ((wd (ar a (c+1-a)) 2:Nat):Int),.int .u64 ((wd (ar a (c+1-a)) 3:Nat):Int)] 89));have T3:=hid (St.new w3 89 #[.int .u64 ((wd (ar a (c+1-a)) 0:Nat):Int),.int .u64 ((wd (ar a (c+1-a)) 1:Nat):Int),.int .u64 ((wd (ar a (c+1-a)) 2:Nat):Int),.int .u64 ((wd (ar a (c+1-a)) 3:Nat):Int)]);obtain⟨c0,c1,c2,c3,-⟩:=bQ S3.out;obtain⟨d0,d1,d2,d3,-⟩:=bQ T3.out;have sP:=hid lD;clear k3 ic lD Ko P2 S2 K2;go_wp2_with fail;refine (XY q (ar a (c+1-a)) _).mono ?_;rintro e w5 ⟨rfl,b5⟩;have s5:=S3.out.ab b5;have jv:=b5.size;simp at jv;obtain⟨r0,UQ,UL,Zf,Yp,XF,Zg,UJ⟩:=bQ s5;have KK:=hid ((K3.out.below (le_trans dP K3.out.size) b5).im (g:=w.heap.size) (by omega) (s5.is) (by omega) (.int .u64 ((wd (fun x=>q x || ar a (c+1-a) x) 0:Nat):Int)) (.int .u64 ((wd (fun x=>q x || ar a (c+1-a) x) 1:Nat):Int)) (.int .u64 ((wd (fun x=>q x || ar a (c+1-a) x) 2:Nat):Int)) (.int .u64 ((wd (fun x=>q x || ar a (c+1-a) x) 3:Nat):Int)));have PP:=hid ((P3.out.ab b5).im (g:=w.heap.size) (by omega) (s5.is) (.int .u64 ((wd (fun x=>q x || ar a (c+1-a) x) 0:Nat):Int)) (.int .u64 ((wd (fun x=>q x || ar a (c+1-a) x) 1:Nat):Int)) (.int .u64 ((wd (fun x=>q x || ar a (c+1-a) x) 2:Nat):Int)) (.int .u64 ((wd (fun x=>q x || ar a (c+1-a) x) 3:Nat):Int)));have SS:=hid (s5.mG (.int .u64 ((wd (fun x=>q x || ar a (c+1-a) x) 0:Nat):Int)) (.int .u64 ((wd (fun x=>q x || ar a (c+1-a) x) 1:Nat):Int)) (.int .u64 ((wd (fun x=>q x || ar a (c+1-a) x) 2:Nat):Int)) (.int .u64 ((wd (fun x=>q x || ar a (c+1-a) x) 3:Nat):Int)));have iq:=PP.out.fA;clear b5 s5 S3 T3 K3 P3 c0 c1 c2 c3 d0 d1 d2 d3;go_wp2;go_roundw
  ·exact⟨f2,fun x=>q x || ar a (c+1-a) x,s3,by rw[sP.out];exact nY,by show aD _ _ _=_;rw[sP.out];exact rb.out,by omega,PP,SS,KK,by rw[zqA];omega⟩
  first|(simp only[lA,iq];omega)|(rw[lA,iq];omega)
 have HY:Hid (O=if ew q=true then none else some (q,r)):=by
  have:=HQ.out;rw[zee f q _ r hf h1] at this;show _=_;rw[HX.out,<-this]
 have HK:=hid h1;clear h1 HX HQ;go_wp2_with fail;refine (uJ base b acc s' d 93 r _ P2.out HK.out (by omega)).mono ?_;rintro e w2 ⟨rfl,k2,s2,cU,cG,fO⟩;have S3:=hid (S2.out.gu k2 Ci (by decide));have K3:=hid (K2.out.trans k2);have P3:=hid fO;have kD:=hid cU;obtain⟨c0,c1,c2,c3,-⟩:=bQ S3.out;have Pm:=k2.size;clear k2 fO cU S2 K2 P2;go_wp2_with fail;have KK:=K3;have PP:=P3;have SS:=S3;clear K3 P3 S3;obtain⟨c0,c1,c2,c3,-⟩:=bQ SS.out;go_wp2_with fail;refine (FB base b acc s2 d 1 q _ PP.out vf).mono ?_;rintro e w7 ⟨rfl,GM,k7⟩;have s7:=SS.out.gu k7 Ci (by decide);have K7:=hid (KK.out.trans k7);have P7:=hid GM;clear c0 c1 c2 c3 k7 GM KK PP SS;obtain⟨c0,c1,c2,c3,-⟩:=bQ s7;obtain⟨o,ho⟩:∃o,ew q=o:=⟨_,rfl⟩
 have HO:=hid ho;clear ho;go_wp2_with fail;refine (Qf q o HO.out _).mono ?_;rintro e w8 ⟨rfl,b8⟩;have K8:=K7.out.below (le_trans dP K7.out.size) b8;have P8:=P7.out.ab b8;rcases o with _|_
 ·have HZ:Hid (O=some (q,r)):=by show _=_;rw[HY.out,HO.out];rfl
  go_wp2;go_ret;refine⟨K8,fun e=>by rw[HZ.out] at e;simp at e,fun q' r' e=>?_⟩;rw[HZ.out] at e;simp only[Option.some.injEq,Prod.mk.injEq] at e;obtain⟨rfl,rfl⟩:=e;exact⟨rfl,s2,kD.out,P8⟩
 have HZ:Hid (O=none):=by show _=_;rw[HY.out,HO.out];rfl
 go_wp2;go_ret;exact⟨K8,fun _=>rfl,fun q' r' e=>by rw[HZ.out] at e;simp at e⟩
theorem zpQ(base b:Nat)(acc:List Pc)(s:ByteArray)(d:Nat)(rr:List Nat)(h0:aw 94 (aa s)=some rr)(w:World)(h:eV base b acc s d w)(hs:s.size<=10000)(vf:acc.length<=10000):
  Calls prog 162 #[.pointer (some ⟨b,0,none⟩)] w (JW base b acc d (ec (aa s)) w):=by
 have HX:Hid (ec (aa s)=match aD (rr.length+1) aJ rr with
  | none=>none
  | some (q,r1)=>if ew (fun x=>!q x)=true then none else some ((fun x=>!q x),r1)):=by
  show _=_
  simp only[ec,h0]
  rfl
 generalize ec (aa s)=O at HX⊢;have gE:=h.lt;have dP:=h.low;have hB:=h.1;unfold JW;go_in;go_wp2_with fail;refine (uJ base b acc s d 94 rr _ h h0 hs).mono ?_;rintro e w1 ⟨rfl,k1,s1,da,cP,fQ⟩;obtain⟨R,hR⟩:∃R,aD (rr.length+1) aJ rr=R:=⟨_,rfl⟩
 rw[hR] at HX;have wC:=hid hR;have K1:=hid (k1.below (le_trans dP k1.size) ((Below.refl _ w1).alloc (le_refl _) (.cells #[.int .u64 0,.int .u64 0,.int .u64 0,.int .u64 0] 89)));have P1:=hid (fQ.ab ((Below.refl _ w1).alloc (le_refl _) (.cells #[.int .u64 0,.int .u64 0,.int .u64 0,.int .u64 0] 89)));have S1:Hid (St (w1.alloc (.cells #[.int .u64 0,.int .u64 0,.int .u64 0,.int .u64 0] 89)) 89 w1.heap.size #[.int .u64 (wd aJ 0),.int .u64 (wd aJ 1),.int .u64 (wd aJ 2),.int .u64 (wd aJ 3)]):=by
  have:=St.new w1 89 #[.int .u64 0,.int .u64 0,.int .u64 0,.int .u64 0];rw[I7 89] at this;rw[I7 89];exact this
 have Rn:=fQ.lt;have BD:=k1.size;have oB:=hid da;have Ci:w1.heap.size≠b:=by omega
 clear hR h k1 fQ da h0;go_wp2;go_loopw [9] (fun _ wr=>∃(f:Nat) (q:Nat->Bool) (s':ByteArray),(aa s').length<f/\Hid (aD f q (aa s')=R)/\s'.size<=s.size/\Hid (eV base b acc s' d wr)/\Hid (St wr 89 w1.heap.size #[.int .u64 (wd q 0),.int .u64 (wd q 1),.int .u64 (wd q 2),.int .u64 (wd q 3)])/\Hid (aQ base b w wr)/\w1.heap.size<wr.heap.size) (fun _ wr=>fA wr ⟨b,0,none⟩)
 ·exact⟨_,aJ,s1,lt_succ_self _,by show aD _ _ _=_;rw[oB.out];exact wC.out,by omega,P1,S1,K1,by simp⟩
 clear P1 S1 K1 wC;obtain⟨f,q,s',hf,HQ,dc,P2,S2,K2,yE⟩:=hrel;rcases h1:aw 93 (aa s') with _|r
 ·have HK:=hid h1;rcases h2:cJ (aa s') with _|⟨a,c,r⟩
  ·have HZ:Hid (O=none):=by
    have:=HQ.out;rw[WB f q _ hf h1 h2] at this;show _=_;rw[HX.out,<-this]
   have H2:=hid h2;clear h1 h2 HX HQ;go_wp2_with fail;refine (ow base b acc s' d 93 _ P2.out HK.out).mono ?_;rintro e w2 ⟨rfl,rfl⟩;go_wp2_with fail;refine (Xq base b acc s' d _ P2.out (by omega) H2.out).mono ?_;rintro e w3 ⟨⟨q3,rfl⟩,k3⟩;have K3:=K2.out.trans k3;have qo:=K3.size;clear k3;go_wp2;go_ret;exact⟨K3.below (le_trans dP qo) ((Below.refl _ w3).alloc (le_refl _) _),fun _=>rfl,fun q r e=>by rw[HZ.out] at e;simp at e⟩
  obtain⟨f2,nY,jS⟩:=Zn f q _ a c r hf h1 h2;have rb:Hid (aD f2 (fun x=>q x || ar a (c+1-a) x) r=R):=by show _=_;rw[<-jS];exact HQ.out
  have H2:=hid h2;have lA:=P2.out.fA;clear h1 h2 HQ jS;go_wp2_with fail;refine (ow base b acc s' d 93 _ P2.out HK.out).mono ?_;rintro e w2 ⟨rfl,rfl⟩;go_wp2_with fail;refine (Zt base b acc s' d a c r _ P2.out (by omega) H2.out).mono ?_;rintro e w3 ⟨rfl,k3,s3,lD,zF,ic⟩;have Ko:=S2.out.gu k3 Ci (by decide);have qo:=k3.size;have K3:=hid ((K2.out.trans k3).below (le_trans dP (K2.out.trans k3).size) ((Below.refl _ w3).alloc (le_refl _) (.cells #[.int .u64 ((wd (ar a (c+1-a)) 0:Nat):Int),.int .u64 ((wd (ar a (c+1-a)) 1:Nat):Int),.int .u64 ((wd (ar a (c+1-a)) 2:Nat):Int),.int .u64 ((wd (ar a (c+1-a)) 3:Nat):Int)] 89)));have P3:=hid (ic.ab ((Below.refl _ w3).alloc (le_refl _) (.cells #[.int .u64 ((wd (ar a (c+1-a)) 0:Nat):Int),.int .u64 ((wd (ar a (c+1-a)) 1:Nat):Int),.int .u64 ((wd (ar a (c+1-a)) 2:Nat):Int),.int .u64 ((wd (ar a (c+1-a)) 3:Nat):Int)] 89)));have S3:=hid (Ko.alloc (.cells #[.int .u64 ((wd (ar a (c+1-a)) 0:Nat):Int),.int .u64 ((wd (ar a (c+1-a)) 1:Nat):Int),.int .u64 ((wd (ar a (c+1-a)) 2:Nat):Int),.int .u64 ((wd (ar a (c+1-a)) 3:Nat):Int)] 89));have T3:=hid (St.new w3 89 #[.int .u64 ((wd (ar a (c+1-a)) 0:Nat):Int),.int .u64 ((wd (ar a (c+1-a)) 1:Nat):Int),.int .u64 ((wd (ar a (c+1-a)) 2:Nat):Int),.int .u64 ((wd (ar a (c+1-a)) 3:Nat):Int)]);obtain⟨c0,c1,c2,c3,-⟩:=bQ S3.out;obtain⟨d0,d1,d2,d3,-⟩:=bQ T3.out;have sP:=hid lD;clear k3 ic lD Ko P2 S2 K2;go_wp2_with fail;refine (XY q (ar a (c+1-a)) _).mono ?_;rintro e w5 ⟨rfl,b5⟩;have s5:=S3.out.ab b5;have jv:=b5.size;simp at jv;obtain⟨r0,UQ,UL,Zf,Yp,XF,Zg,UJ⟩:=bQ s5;have KK:=hid ((K3.out.below (le_trans dP K3.out.size) b5).im (g:=w1.heap.size) (by omega) (s5.is) (by omega) (.int .u64 ((wd (fun x=>q x || ar a (c+1-a) x) 0:Nat):Int)) (.int .u64 ((wd (fun x=>q x || ar a (c+1-a) x) 1:Nat):Int)) (.int .u64 ((wd (fun x=>q x || ar a (c+1-a) x) 2:Nat):Int)) (.int .u64 ((wd (fun x=>q x || ar a (c+1-a) x) 3:Nat):Int)));have PP:=hid ((P3.out.ab b5).im (g:=w1.heap.size) (by omega) (s5.is) (.int .u64 ((wd (fun x=>q x || ar a (c+1-a) x) 0:Nat):Int)) (.int .u64 ((wd (fun x=>q x || ar a (c+1-a) x) 1:Nat):Int)) (.int .u64 ((wd (fun x=>q x || ar a (c+1-a) x) 2:Nat):Int)) (.int .u64 ((wd (fun x=>q x || ar a (c+1-a) x) 3:Nat):Int)));have SS:=hid (s5.mG (.int .u64 ((wd (fun x=>q x || ar a (c+1-a) x) 0:Nat):Int)) (.int .u64 ((wd (fun x=>q x || ar a (c+1-a) x) 1:Nat):Int)) (.int .u64 ((wd (fun x=>q x || ar a (c+1-a) x) 2:Nat):Int)) (.int .u64 ((wd (fun x=>q x || ar a (c+1-a) x) 3:Nat):Int)));have iq:=PP.out.fA;clear b5 s5 S3 T3 K3 P3 c0 c1 c2 c3 d0 d1 d2 d3;go_wp2;go_roundw
  ·exact⟨f2,fun x=>q x || ar a (c+1-a) x,s3,by rw[sP.out];exact nY,by show aD _ _ _=_;rw[sP.out];exact rb.out,by omega,PP,SS,KK,by rw[zqA];omega⟩
  first|(simp only[lA,iq];omega)|(rw[lA,iq];omega)
 have HY:Hid (O=if ew (fun x=>!q x)=true then none else some ((fun x=>!q x),r)):=by
  have:=HQ.out;rw[zee f q _ r hf h1] at this;show _=_;rw[HX.out,<-this]
 have HK:=hid h1;clear h1 HX HQ;go_wp2_with fail;refine (uJ base b acc s' d 93 r _ P2.out HK.out (by omega)).mono ?_;rintro e w2 ⟨rfl,k2,s2,cU,cG,fO⟩;have S3:=hid (S2.out.gu k2 Ci (by decide));have K3:=hid (K2.out.trans k2);have P3:=hid fO;have kD:=hid cU;obtain⟨c0,c1,c2,c3,-⟩:=bQ S3.out;have Pm:=k2.size;clear k2 fO cU S2 K2 P2;go_wp2_with fail;refine (YA q _).mono ?_;rintro e w5 ⟨rfl,b5⟩;have s5:=S3.out.ab b5;obtain⟨r0,UQ,UL,Zf,Yp,XF,Zg,UJ⟩:=bQ s5;have KK:=hid ((K3.out.below (le_trans dP K3.out.size) b5).im (g:=w1.heap.size) (by omega) (s5.is) (by omega) (.int .u64 ((wd (fun x=>!q x) 0:Nat):Int)) (.int .u64 ((wd (fun x=>!q x) 1:Nat):Int)) (.int .u64 ((wd (fun x=>!q x) 2:Nat):Int)) (.int .u64 ((wd (fun x=>!q x) 3:Nat):Int)));have PP:=hid ((P3.out.ab b5).im (g:=w1.heap.size) (by omega) (s5.is) (.int .u64 ((wd (fun x=>!q x) 0:Nat):Int)) (.int .u64 ((wd (fun x=>!q x) 1:Nat):Int)) (.int .u64 ((wd (fun x=>!q x) 2:Nat):Int)) (.int .u64 ((wd (fun x=>!q x) 3:Nat):Int)));have SS:=hid (s5.mG (.int .u64 ((wd (fun x=>!q x) 0:Nat):Int)) (.int .u64 ((wd (fun x=>!q x) 1:Nat):Int)) (.int .u64 ((wd (fun x=>!q x) 2:Nat):Int)) (.int .u64 ((wd (fun x=>!q x) 3:Nat):Int)));clear b5 s5 S3 K3 P3 c0 c1 c2 c3;go_wp2_with fail;generalize ((((w5.setCell _ _).setCell _ _).setCell _ _).setCell _ _)=w6 at KK PP SS⊢;obtain⟨c0,c1,c2,c3,-⟩:=bQ SS.out;go_wp2_with fail;refine (FB base b acc s2 d 1 (fun x=>!q x) _ PP.out vf).mono ?_;rintro e w7 ⟨rfl,GM,k7⟩;have s7:=SS.out.gu k7 Ci (by decide);have K7:=hid (KK.out.trans k7);have P7:=hid GM;clear c0 c1 c2 c3 k7 GM KK PP SS;obtain⟨c0,c1,c2,c3,-⟩:=bQ s7;obtain⟨o,ho⟩:∃o,ew (fun x=>!q x)=o:=⟨_,rfl⟩
 have HO:=hid ho;clear ho;go_wp2_with fail;refine (Qf (fun x=>!q x) o HO.out _).mono ?_;rintro e w8 ⟨rfl,b8⟩;have K8:=K7.out.below (le_trans dP K7.out.size) b8;have P8:=P7.out.ab b8;rcases o with _|_
 ·have HZ:Hid (O=some ((fun x=>!q x),r)):=by show _=_;rw[HY.out,HO.out];rfl
  go_wp2;go_ret;refine⟨K8,fun e=>by rw[HZ.out] at e;simp at e,fun q' r' e=>?_⟩;rw[HZ.out] at e;simp only[Option.some.injEq,Prod.mk.injEq] at e;obtain⟨rfl,rfl⟩:=e;exact⟨rfl,s2,kD.out,P8⟩
 have HZ:Hid (O=none):=by show _=_;rw[HY.out,HO.out];rfl
 go_wp2;go_ret;exact⟨K8,fun _=>rfl,fun q' r' e=>by rw[HZ.out] at e;simp at e⟩
theorem zpR(base b:Nat)(acc:List Pc)(s:ByteArray)(d:Nat)(w:World)(h:eV base b acc s d w)(hs:s.size<=10000)(vf:acc.length<=10000):
  Calls prog 162 #[.pointer (some ⟨b,0,none⟩)] w (JW base b acc d (ec (aa s)) w):=by
 rcases h0:aw 94 (aa s) with _|rr
 ·exact zpP base b acc s d h0 w h hs vf
 exact zpQ base b acc s d rr h0 w h hs vf
def bB(base b d:Nat)(o:Option bf)(w:World)(e:Ending)(w':World):Prop:=
 aQ base b w w'/\(o=none->e=.returned (.bool false))/\∀x,o=some x->e=.returned (.bool true)/\∃s',aa s'=x.2/\eV base b x.1 s' d w'
def vn(f:Nat)(g:bf->Option bf)(d:Nat):Prop:=∀(base b:Nat) (acc:List Pc) (s:ByteArray) (w:World),eV base b acc s d w->s.size<=2000->acc.length+2*s.size<=9000->
 Calls prog f #[.pointer (some ⟨b,0,none⟩)] w (bB base b d (g (acc,aa s)) w)
theorem bB.no{base b:Nat}{o:Option bf}(k:aQ base b w w')(h:o=none):bB base b d o w (.returned (.bool false)) w':=⟨k,fun _=>rfl,fun x e=>by rw[h] at e;simp at e⟩
theorem bB.yes{base b:Nat}{o:Option bf}{x:bf}{s':ByteArray}(k:aQ base b w w')(h:o=some x)(hn:aa s'=x.2)(hp:eV base b x.1 s' d w'):bB base b d o w (.returned (.bool true)) w':=
 ⟨k,fun e=>by rw[h] at e;simp at e,fun y e=>by rw[h] at e;simp at e;subst e;exact⟨rfl,s',hn,hp⟩⟩
theorem zpS:(Value.agg #[.int .u64 0,.int .u64 0,.int .u64 0,.int .u64 0])=(.agg #[.int .u64 (wd aJ 0),.int .u64 (wd aJ 1),.int .u64 (wd aJ 2),.int .u64 (wd aJ 3)]):=by rw[I7 89]
theorem Mq(base b:Nat)(acc:List Pc)(s:ByteArray)(d:Nat)(k:Int)(w:World)(h:eV base b acc s d w)(hl:acc.length<=10000):
  Calls prog 122 #[.pointer (some ⟨b,0,none⟩),.int .i64 k,.agg #[.int .u64 0,.int .u64 0,.int .u64 0,.int .u64 0]] w fun e w'=>e=.returned (.tuple #[])/\eV base b (acc++[⟨k,aJ⟩]) s d w'/\aQ base b w w':=by
 rw[zpS];exact FB base b acc s d k aJ w h hl
theorem KV(c:Nat)(hc:c<256):(c=42/\iE ⟨#[42,43,63]⟩ c=0/\eH c=some 4)\/(c=43/\iE ⟨#[42,43,63]⟩ c=1/\eH c=some 5)\/(c=63/\iE ⟨#[42,43,63]⟩ c=2/\eH c=some 6)\/(iE ⟨#[42,43,63]⟩ c<0/\eH c=none):=by
 by_cases h1:c=42
 ·subst h1;exact inl ⟨rfl,by decide,by decide⟩
 by_cases h2:c=43
 ·subst h2;exact inr (inl ⟨rfl,by decide,by decide⟩)
 by_cases h3:c=63
 ·subst h3;exact inr (inr (inl ⟨rfl,by decide,by decide⟩))
 refine inr (inr (inr ⟨?_,by simp[eH,h1,h2,h3]⟩));have:=Qm ⟨#[42,43,63]⟩ c hc;have e:fV ⟨#[42,43,63]⟩ c=false:=by
  unfold fV;simp;omega
 rw[e] at this;simpa using this
theorem zgN(c:Nat)(r:List Nat)(acc:List Pc)(k:Int)(h:eH c=some k):bx (c :: r) acc=bx r (acc++[⟨k,aJ⟩]):=by simp only[bx,h]
theorem zhT(c:Nat)(r:List Nat)(acc:List Pc)(h:eH c=none):bx (c :: r) acc=(acc,c :: r):=by simp only[bx,h]
theorem Yx(atom:bf->Option bf)(d:Nat)(hd:mK atom)(ha:vn 154 atom d):vn 145 (cr atom) d:=by
 intro base b acc s w h hs hl;have HX:Hid (cr atom (acc,aa s)=match atom (acc,aa s) with
  | none=>none
  | some x=>some (bx x.2 x.1)):=by show _=_;unfold cr;rfl
 have HD:=hid (fun x=>hd (acc,aa s) x);generalize cr atom (acc,aa s)=O at HX⊢;have hA:=ha base b acc s w h hs hl;have HS:=hid (od s);have hB:=h.1;clear ha hd;generalize atom (acc,aa s)=A at HX HD hA;have HA:=hid hA;clear hA h;go_in;go_wp2_with fail;refine HA.out.mono ?_;rintro e w1 ⟨k1,h1,h2⟩;rcases A with _|⟨ki,r1⟩
 ·obtain rfl:=h1 rfl;have HZ:=HX.out;go_wp2;go_ret;exact bB.no k1 HZ
 obtain⟨rfl,s1,da,fQ⟩:=h2 _ rfl;have tG:=HD.out _ rfl;simp only[HS.out] at tG;simp only at da fQ;have lf:s1.size=r1.length:=by rw[<-od,da]
 have HZ:Hid (O=some (bx (aa s1) ki)):=by show _=_;rw[HX.out,da]
 obtain⟨R,hR⟩:∃R,bx (aa s1) ki=R:=⟨_,rfl⟩
 rw[hR] at HZ;have HR:=hid hR;have P1:=hid fQ;have K1:=hid k1;have oh:s1.size+1<=s.size:=by omega
 have jD:ki.length+2*s1.size<=9000:=by omega
 clear hR fQ k1 HX HD h1 h2 tG da lf;go_wp2;go_loopw [3] (fun _ wr=>∃(eR:List Pc) (s':ByteArray),Hid (bx (aa s') eR=R)/\s'.size<=s1.size/\eR.length+2*s'.size<=9000/\Hid (eV base b eR s' d wr)/\Hid (aQ base b w wr)) (fun _ wr=>fA wr ⟨b,0,none⟩)
 ·exact⟨ki,s1,HR,le_refl _,jD,P1,K1⟩
 clear P1 K1 HR;obtain⟨eR,s',HQ,dc,uu,P2,K2⟩:=hrel;obtain⟨c0,f0⟩:=P2.out.rest;rcases eq_zero_or_pos s'.size with hz|hp
 ·have kB:s'.toList=[]:=J0 s' hz;have gy:(!s'.toList.isEmpty)=false:=by rw[kB];rfl
  have HF:Hid (O=some (eR,[])):=by
   show _=_;have:=HQ.out;rw[Od s' hz] at this;rw[HZ,<-this];rfl
  have HN:Hid (aa s'=[]):=Od s' hz;clear hz kB HQ;go_wp2;go_ret;exact bB.yes K2.out HF.out HN.out P2.out
 have kB:s'.toList.isEmpty=false:=yS s' hp;have gy:(!s'.toList.isEmpty)=true:=by rw[kB];rfl
 have hc:=UInt8.toNat_lt s'[0];have BC:=Gu s' hp;have HE:Hid (aa (s'.extract 1 s'.size)=(aa s').drop 1):=by show _=_;rw[Fu]
 have hez:(s'.extract 1 s'.size).size+1=s'.size:=by rw[ByteArray.size_extract];omega
 have lA:=P2.out.fA;have P3:=hid (P2.out.lh (s'.extract 1 s'.size));have K3:=hid (K2.out.set hB 0 (.string (s'.extract 1 s'.size)));rcases KV s'[0].toNat hc with ⟨e,hw,hk⟩|⟨e,hw,hk⟩|⟨e,hw,hk⟩|⟨hw,hk⟩
 all_goals
  have HW:=hid hw
  have HK:=hid hk
  have HC:=hid BC
  first|clear e|skip
  clear hw hk BC
 rotate_right
 ·have HF:Hid (O=some (eR,aa s')):=by
   show _=_;have:=HQ.out;rw[HC.out,zhT _ _ _ HK.out] at this;rw[HZ,<-this,<-HC.out]
  obtain⟨x,hx⟩:∃x,iE ⟨#[42,43,63]⟩ s'[0].toNat=x:=⟨_,rfl⟩
  have nU:x<0:=by rw[<-hx];exact HW.out
  have HXX:=hid hx;clear hx HQ;go_wp2_with fail;refine (N5 _ _ _).mono ?_;rintro e w2 ⟨rfl,rfl⟩;rw[HXX.out];go_wp2;go_ret;exact bB.yes K2.out HF.out rfl P2.out
 all_goals
  go_wp2_with fail
  refine (N5 _ _ _).mono ?_
  rintro e w2 ⟨rfl,rfl⟩
  rw[HW.out]
  go_wp2_with fail
  refine (Mq base b eR (s'.extract 1 s'.size) d _ _ P3.out (by omega)).mono ?_
  rintro e w3 ⟨rfl,ic,k3⟩
  have P4:=hid ic
  have K4:=hid (K3.out.trans k3)
  have iq:=ic.fA
  clear ic k3
  go_wp2
  go_roundw
  case rel=>exact⟨_,s'.extract 1 s'.size,by show bx _ _=_;rw[HE.out,<-zgN _ _ _ _ HK.out,<-HC.out];exact HQ.out,by omega,by simp;omega,P4,K4⟩
  case measure=>first|(simp only[lA,iq];omega)|(rw[lA,iq];omega)
theorem zhU(atom:bf->Option bf)(f:Nat)(s:bf)(hf:s.2.length<f)(h:gK s.2=true):aY atom f s=some s:=by
 match f,hf with
 | f+1,hf=>unfold aY;rw[if_pos h]
theorem zjY(atom:bf->Option bf)(f:Nat)(s:bf)(hf:s.2.length<f)(h:gK s.2=false)(h1:cr atom s=none):aY atom f s=none:=by
 match f,hf with
 | f+1,hf=>simp[aY,h,h1]
theorem zgO(atom:bf->Option bf)(f:Nat)(s x:bf)(hd:mK atom)(hf:s.2.length<f)(h:gK s.2=false)(h1:cr atom s=some x):∃g,x.2.length<g/\aY atom f s=aY atom g (x.1++[⟨2,aJ⟩],x.2):=by
 match f,hf with
 | f+1,hf=>
  have:=(Da hd s x h1).1;exact⟨f,by omega,by simp[aY,h,h1]⟩
theorem Yu(atom:bf->Option bf)(d:Nat)(hd:mK atom)(ha:vn 145 (cr atom) d):vn 120 (cq atom) d:=by
 intro base b acc s w h hs hl;have HX:Hid (cq atom (acc,aa s)=match cr atom (acc,aa s) with
  | none=>none
  | some x=>aY atom (x.2.length+1) x):=by show _=_;unfold cq;rfl
 have HD:=hid (fun s x=>Da hd s x);have Sz:=hid hd;generalize cq atom (acc,aa s)=O at HX⊢;have hA:=ha base b acc s w h hs hl;have HS:=hid (od s);have hB:=h.1;have vm:=hid ha;have EF:=hid (fun x=>HD.out (acc,aa s) x);clear ha hd;generalize cr atom (acc,aa s)=A at HX EF hA;have HA:=hid hA;clear hA h;go_in;go_wp2_with fail;refine HA.out.mono ?_;rintro e w1 ⟨k1,h1,h2⟩;rcases A with _|⟨ki,r1⟩
 ·obtain rfl:=h1 rfl;have HZ:=HX.out;go_wp2;go_ret;exact bB.no k1 HZ
 obtain⟨rfl,s1,da,fQ⟩:=h2 _ rfl;have tG:=EF.out _ rfl;simp only[HS.out] at tG;simp only at da fQ;have lf:s1.size=r1.length:=by rw[<-od,da]
 obtain⟨R,hR⟩:∃R,aY atom ((aa s1).length+1) (ki,aa s1)=R:=⟨_,rfl⟩
 have HZ:Hid (O=R):=by show _=_;rw[HX.out,<-hR,da]
 have HR:=hid hR;have P1:=hid fQ;have K1:=hid k1;have oh:s1.size+1<=s.size:=by omega
 have jD:ki.length+2*s1.size<=9000:=by omega
 clear hR fQ k1 HX EF h1 h2 tG da lf;go_wp2;go_loopw [30] (fun _ wr=>∃(f:Nat) (eR:List Pc) (s':ByteArray),(aa s').length<f/\Hid (aY atom f (eR,aa s')=R)/\s'.size<=s1.size/\eR.length+2*s'.size<=9000/\Hid (eV base b eR s' d wr)/\Hid (aQ base b w wr)) (fun _ wr=>fA wr ⟨b,0,none⟩)
 ·exact⟨_,ki,s1,lt_succ_self _,HR,le_refl _,jD,P1,K1⟩
 clear P1 K1 HR;obtain⟨f,eR,s',hf,HQ,dc,uu,P2,K2⟩:=hrel;obtain⟨c0,f0⟩:=P2.out.rest;have lB:gK (aa s')=true\/(gK (aa s')=false/\∃h:0<s'.size,s'[0].toNat≠124/\s'[0].toNat≠41):=by
  rcases eq_zero_or_pos s'.size with hz|hp
  ·left;rw[Od s' hz];rfl
  rw[Gu s' hp];by_cases h1:s'[0].toNat=124
  ·left;simp[gK,h1]
  by_cases h2:s'[0].toNat=41
  ·left;simp[gK,h2]
  right;exact⟨by simp[gK,h1,h2],hp,h1,h2⟩
 rcases lB with lB|⟨lB,hp,h1,h2⟩
 ·have HF:Hid (O=some (eR,aa s')):=by
   show _=_;rw[HZ.out,<-HQ.out,zhU atom f _ hf lB]
  rcases eq_zero_or_pos s'.size with hz|hp
  ·have kB:s'.toList=[]:=J0 s' hz;have gy:(!s'.toList.isEmpty)=false:=(by rw[kB];rfl);clear hz kB HQ lB;go_wp2;go_ret;exact bB.yes K2.out HF.out rfl P2.out
  have kB:s'.toList.isEmpty=false:=yS s' hp;have gy:(!s'.toList.isEmpty)=true:=by rw[kB];rfl
  rw[Gu s' hp] at lB;by_cases h1:s'[0].toNat=124
  ·have e1:((s'[0].toNat:Int) != 124)=false:=(by simp;omega);clear HQ lB h1;go_wp2;go_ret;exact bB.yes K2.out HF.out rfl P2.out
  have h2:s'[0].toNat=41:=by simpa [gK,h1] using lB
  have e1:((s'[0].toNat:Int) != 124)=true:=by simp;omega
  have e2:((s'[0].toNat:Int) != 41)=false:=by simp;omega
  clear HQ lB h1 h2;go_wp2;go_ret;exact bB.yes K2.out HF.out rfl P2.out
 have kB:s'.toList.isEmpty=false:=yS s' hp;have gy:(!s'.toList.isEmpty)=true:=by rw[kB];rfl
 have e1:((s'[0].toNat:Int) != 124)=true:=by simp;omega
 have e2:((s'[0].toNat:Int) != 41)=true:=by simp;omega
 have HEnd:=hid lB;have HS':=hid (od s');have lA:=P2.out.fA;have hA:=vm.out base b eR s' _ P2.out (by omega) uu;rcases hr:cr atom (eR,aa s') with _|⟨uQ,r2⟩
 ·rw[hr] at hA;have iX:=hid hA;have HF:Hid (O=none):=by
   show _=_;rw[HZ.out,<-HQ.out,zjY atom f _ hf lB hr]
  clear hA hr lB h1 h2 HQ;go_wp2_with fail;refine iX.out.mono ?_;rintro e w2 ⟨k2,h1,-⟩;obtain rfl:=h1 rfl;go_wp2;go_ret;exact bB.no (K2.out.trans k2) HF.out
 have tG:=HD.out _ _ hr;simp only[HS'.out] at tG;obtain⟨f2,nY,jS⟩:=zgO atom f _ _ Sz.out hf lB hr;have rb:Hid (aY atom f2 (uQ++[⟨2,aJ⟩],r2)=R):=by show _=_;rw[<-jS];exact HQ.out
 rw[hr] at hA;have iX:=hid hA;clear hA hr lB h1 h2 HQ jS;go_wp2_with fail;refine iX.out.mono ?_;rintro e w2 ⟨k2,-,h2⟩;obtain⟨rfl,s2,cU,fO⟩:=h2 _ rfl;simp only at cU fO nY;have tH:s2.size=r2.length:=by rw[<-od,cU]
 have kD:=hid cU;have P3:=hid fO;have K3:=hid (K2.out.trans k2);clear k2 h2 cU fO;go_wp2_with fail;refine (Mq base b uQ s2 d _ _ P3.out (by omega)).mono ?_;rintro e w3 ⟨rfl,ic,k3⟩;have P4:=hid ic;have K4:=hid (K3.out.trans k3);have iq:=ic.fA;clear ic k3;go_wp2;go_roundw
 ·exact⟨f2,_,s2,by rw[kD.out];exact nY,by show aY _ _ _=_;rw[kD.out];exact rb.out,by omega,by simp;omega,P4,K4⟩
 first|(simp only[lA,iq];omega)|(rw[lA,iq];omega)
theorem zhV(atom:bf->Option bf)(f:Nat)(s:bf)(hf:s.2.length<f)(h:aw 124 s.2=none):aX atom f s=some s:=by
 match f,hf with
 | f+1,hf=>simp only[aX,h]
theorem zjZ(atom:bf->Option bf)(f:Nat)(s:bf)(r:List Nat)(hf:s.2.length<f)(h:aw 124 s.2=some r)(h1:cq atom (s.1,r)=none):aX atom f s=none:=by
 match f,hf with
 | f+1,hf=>simp only[aX,h,h1]
theorem zgP(atom:bf->Option bf)(f:Nat)(s x:bf)(r:List Nat)(hd:mK atom)(hf:s.2.length<f)(h:aw 124 s.2=some r)(h1:cq atom (s.1,r)=some x):∃g,x.2.length<g/\aX atom f s=aX atom g (x.1++[⟨3,aJ⟩],x.2):=by
 match f,hf with
 | f+1,hf=>
  have h2:=(C8 hd _ x h1).1;have h3:=uZ h;rw[h3] at hf;simp at h2 hf;exact⟨f,by omega,by simp only[aX,h,h1]⟩
theorem Xw(atom:bf->Option bf)(d:Nat)(hd:mK atom)(ha:vn 120 (cq atom) d):vn 83 (bh atom) d:=by
 intro base b acc s w h hs hl;have HX:Hid (bh atom (acc,aa s)=match cq atom (acc,aa s) with
  | none=>none
  | some x=>aX atom (x.2.length+1) x):=by show _=_;unfold bh;rfl
 have HD:=hid (fun s x=>C8 hd s x);have Sz:=hid hd;generalize bh atom (acc,aa s)=O at HX⊢;have hA:=ha base b acc s w h hs hl;have HS:=hid (od s);have hB:=h.1;have vm:=hid ha;have EF:=hid (fun x=>HD.out (acc,aa s) x);clear ha hd;generalize cq atom (acc,aa s)=A at HX EF hA;have HA:=hid hA;clear hA h;go_in;go_wp2_with fail;refine HA.out.mono ?_;rintro e w1 ⟨k1,h1,h2⟩;rcases A with _|⟨ki,r1⟩
 ·obtain rfl:=h1 rfl;have HZ:=HX.out;go_wp2;go_ret;exact bB.no k1 HZ
 obtain⟨rfl,s1,da,fQ⟩:=h2 _ rfl;have tG:=EF.out _ rfl;simp only[HS.out] at tG;simp only at da fQ;have lf:s1.size=r1.length:=by rw[<-od,da]
 obtain⟨R,hR⟩:∃R,aX atom ((aa s1).length+1) (ki,aa s1)=R:=⟨_,rfl⟩
 have HZ:Hid (O=R):=by show _=_;rw[HX.out,<-hR,da]
 have HR:=hid hR;have P1:=hid fQ;have K1:=hid k1;have oh:s1.size+1<=s.size:=by omega
 have jD:ki.length+2*s1.size<=9000:=by omega
 clear hR fQ k1 HX EF h1 h2 tG da lf;go_wp2;go_loopw [11] (fun _ wr=>∃(f:Nat) (eR:List Pc) (s':ByteArray),(aa s').length<f/\Hid (aX atom f (eR,aa s')=R)/\s'.size<=s1.size/\eR.length+2*s'.size<=9000/\Hid (eV base b eR s' d wr)/\Hid (aQ base b w wr)) (fun _ wr=>fA wr ⟨b,0,none⟩)
 ·exact⟨_,ki,s1,lt_succ_self _,HR,le_refl _,jD,P1,K1⟩
 clear P1 K1 HR;obtain⟨f,eR,s',hf,HQ,dc,uu,P2,K2⟩:=hrel;rcases hk:aw 124 (aa s') with _|r
 ·have HK:=hid hk;have HF:Hid (O=some (eR,aa s')):=by
   show _=_;rw[HZ.out,<-HQ.out,zhV atom f (eR,aa s') hf hk]
  clear hk HQ;go_wp2_with fail;refine (ow base b eR s' d 124 _ P2.out HK.out).mono ?_;rintro e w2 ⟨rfl,rfl⟩;go_wp2;go_ret;exact bB.yes K2.out HF.out rfl P2.out
 have HK:=hid hk;have lA:=P2.out.fA;rcases hr:cq atom (eR,r) with _|⟨uQ,r2⟩
 ·have HF:Hid (O=none):=by
   show _=_;rw[HZ.out,<-HQ.out,zjZ atom f (eR,aa s') r hf hk hr]
  have DJ:=hid hr;clear hk hr HQ;go_wp2_with fail;refine (uJ base b eR s' d 124 r _ P2.out HK.out (by omega)).mono ?_;rintro e w2 ⟨rfl,k2,s2,cU,cG,fO⟩;have hA:=vm.out base b eR s2 _ fO (by omega) (by omega);rw[cU,DJ.out] at hA;have iX:=hid hA;have K3:=hid (K2.out.trans k2);clear hA k2 fO cU;go_wp2_with fail;refine iX.out.mono ?_;rintro e w3 ⟨k3,h1,-⟩;obtain rfl:=h1 rfl;go_wp2;go_ret;exact bB.no (K3.out.trans k3) HF.out
 have tG:=HD.out _ _ hr;obtain⟨f2,nY,jS⟩:=zgP atom f (eR,aa s') (uQ,r2) r Sz.out hf hk hr;have rb:Hid (aX atom f2 (uQ++[⟨3,aJ⟩],r2)=R):=by show _=_;rw[<-jS];exact HQ.out
 have DJ:=hid hr;clear hk hr HQ jS;go_wp2_with fail;refine (uJ base b eR s' d 124 r _ P2.out HK.out (by omega)).mono ?_;rintro e w2 ⟨rfl,k2,s2,cU,cG,fO⟩;have hrz:s2.size=r.length:=by rw[<-od,cU]
 have hA:=vm.out base b eR s2 _ fO (by omega) (by omega);rw[cU,DJ.out] at hA;have iX:=hid hA;have K3:=hid (K2.out.trans k2);clear hA k2 fO cU;go_wp2_with fail;refine iX.out.mono ?_;rintro e w3 ⟨k3,-,h2⟩;obtain⟨rfl,s3,lD,ic⟩:=h2 _ rfl;simp only at lD ic nY tG;have qo:s3.size=r2.length:=by rw[<-od,lD]
 have sP:=hid lD;have P3:=hid ic;have K4:=hid (K3.out.trans k3);clear k3 h2 lD ic;go_wp2_with fail;refine (Mq base b uQ s3 d _ _ P3.out (by omega)).mono ?_;rintro e w4 ⟨rfl,y9,k4⟩;have P4:=hid y9;have K5:=hid (K4.out.trans k4);have iq:=y9.fA;clear y9 k4;go_wp2;go_roundw
 ·exact⟨f2,_,s3,by rw[sP.out];exact nY,by show aX _ _ _=_;rw[sP.out];exact rb.out,by omega,by simp;omega,P4,K5⟩
 first|(simp only[lA,iq];omega)|(rw[lA,iq];omega)
theorem znr:vn 161 (fun _=>none) 99:=by
 intro base b acc s w h hs hl;obtain⟨c2,f2⟩:=h.depth;have gE:=h.lt;have K1:=hid ((aQ.refl base b w).set h.1 2 (.int .i64 (100:Int)));clear h;go_in;go_wp2;go_ret;exact bB.no K1.out rfl
theorem zns(atom:bf->Option bf)(d:Nat)(hd99:d<99)(hd:mK atom)(ha:vn 83 (bh atom) (d+1)):vn 161 (eh atom) d:=by
 intro base b acc s w h hs hl;obtain⟨c2,f2⟩:=h.depth;have gE:=h.lt;have hB:=h.1;have K1:=hid ((aQ.refl base b w).set h.1 2 (.int .i64 ((d+1:Nat):Int)));have fQ:=h.qT (d+1);have HX:Hid (eh atom (acc,aa s)=match bh atom (acc,aa s) with
  | none=>none
  | some x=>match aw 41 x.2 with
   | none=>none
   | some r=>some (x.1,r)):=by show _=_;unfold eh;rfl
 have HD:=hid (fun x=>QA hd (acc,aa s) x);have HS:=hid (od s);generalize eh atom (acc,aa s)=O at HX⊢;have hA:=ha base b acc s _ fQ hs hl;generalize bh atom (acc,aa s)=A at HX HD hA;have HA:=hid hA;have e1:(d:Int)+1=((d+1:Nat):Int):=by omega
 obtain⟨m,hm⟩:∃m,d+1=m:=⟨_,rfl⟩
 have hm99:m<=99:=by omega
 have jd:1<=m:=by omega
 have ed:(m:Int)-1=(d:Int):=by omega
 rw[hm] at e1 HA K1 fQ;have P1:=hid fQ;obtain⟨d2,g2⟩:=fQ.depth;clear h hA ha fQ hm hd;go_in;go_wp2_with fail;refine HA.out.mono ?_;rintro e w1 ⟨k1,h1,h2⟩;have K2:=hid (K1.out.trans k1);rcases A with _|⟨ki,r1⟩
 ·obtain rfl:=h1 rfl;have HZ:=HX.out;clear HA K1 P1 k1 h1 h2;go_wp2;go_ret;exact bB.no K2.out HZ
 obtain⟨rfl,s1,da,fQ⟩:=h2 _ rfl;have tG:=HD.out _ rfl;simp only[HS.out] at tG;simp only at da fQ;have lf:s1.size=r1.length:=by rw[<-od,da]
 have P2:=hid fQ;clear HA K1 P1 k1 h1 h2 fQ d2 g2;rcases hk:aw 41 (aa s1) with _|r
 ·have HF:Hid (O=none):=by show _=_;rw[HX.out];simp only[<-da,hk]
  have HK:=hid hk;clear hk;go_wp2_with fail;refine (ow base b ki s1 m 41 _ P2.out HK.out).mono ?_;rintro e w2 ⟨rfl,rfl⟩;go_wp2;go_ret;exact bB.no K2.out HF.out
 have HF:Hid (O=some (ki,r)):=by show _=_;rw[HX.out];simp only[<-da,hk]
 have HK:=hid hk;clear hk;go_wp2_with fail;refine (uJ base b ki s1 m 41 r _ P2.out HK.out (by omega)).mono ?_;rintro e w2 ⟨rfl,k2,s2,cU,cG,fO⟩;obtain⟨d3,g3⟩:=fO.depth;have P3:=hid (fO.qT d);have K3:=hid ((K2.out.trans k2).set hB 2 (.int .i64 (d:Int)));have kD:=hid cU;clear k2 fO cU;go_wp2;go_ret;exact bB.yes K3.out HF.out kD.out P3.out
theorem BY(c:Nat)(hc:c<256)(w:World):GI (w.alloc (.cells #[.int .u8 (c:Int)] 5)) (some ⟨w.heap.size,0,none⟩) 1 (fun _=>c):=by
 intro _;refine⟨w.heap.size,0,rfl,by simp,fun j hj=>?_⟩;obtain rfl:j=0:=by omega
 refine⟨?_,hc⟩;have h:(w.alloc (.cells #[.int .u8 (c:Int)] 5)).heap[w.heap.size]?=some (.cells #[.int .u8 (c:Int)] 5 (0,0)):=St.new w _ _;rw[Nat.zero_add,cell_of_heap h];rfl
theorem zlE(group:bf->Option bf)(d:Nat)(ha:vn 161 group d):vn 154 (aW group) d:=by
 intro base b acc s w h hs hl;have hB:=h.1;have dP:=h.low;have P0:=hid h;have vm:=hid ha;have HX:Hid (aW group (acc,aa s)=aW group (acc,aa s)):=rfl;obtain⟨O,hO⟩:∃O,aW group (acc,aa s)=O:=⟨_,rfl⟩
 rw[hO];unfold aW at hO;simp only at hO;clear ha h HX;rcases h1:aw 46 (aa s) with _|r
 ·rw[h1] at hO;simp only at hO;have H1:=hid h1;clear h1;rcases h2:aw 126 (aa s) with _|r
  ·rw[h2] at hO;simp only at hO;have H2:=hid h2;clear h2;rcases h3:aw 40 (aa s) with _|r
   ·rw[h3] at hO;simp only at hO;have H3:=hid h3;clear h3;rcases h4:aw 91 (aa s) with _|r
    ·rw[h4] at hO;simp only at hO;have H4:=hid h4;clear h4;rcases h5:aI nC (aa s) with _|⟨c,r⟩
     ·rw[h5] at hO;simp only at hO;have H5:=hid h5;have HF:=hid hO.symm;clear h5 hO;go_in;go_wp2_with fail;refine (ow base b acc s d 46 _ P0.out H1.out).mono ?_;rintro e w2 ⟨rfl,rfl⟩;go_wp2_with fail;refine (ow base b acc s d 126 _ P0.out H2.out).mono ?_;rintro e w2 ⟨rfl,rfl⟩;go_wp2_with fail;refine (ow base b acc s d 40 _ P0.out H3.out).mono ?_;rintro e w2 ⟨rfl,rfl⟩;go_wp2_with fail;refine (ow base b acc s d 91 _ P0.out H4.out).mono ?_;rintro e w2 ⟨rfl,rfl⟩;go_wp2_with fail;refine (Sh base b acc s nC d _ P0.out (by omega) H5.out).mono ?_;rintro e w2 ⟨rfl,b2⟩;have K2:=hid ((aQ.refl base b w).below dP b2);have P2:=hid (P0.out.ab b2);have rK:=P2.out.low;clear b2;go_wp2_with fail;refine (YB _ 1 1 (fun _=>0) _ (BY 0 (by decide) w2) (by decide)).mono ?_;rintro e w3 ⟨rfl,b3⟩;have wP:Below w2.heap.size w2 w3:=((Below.refl _ w2).alloc (le_refl _) _).trans (b3.mono (by simp));have K3:=hid (K2.out.below rK wP);have P3:=hid (P2.out.ab wP);clear b3 wP;go_wp2_with fail;refine (FB base b acc s d 1 _ _ P3.out (by omega)).mono ?_;rintro e w4 ⟨rfl,y9,k4⟩;go_wp2;go_ret;exact bB.no (K3.out.trans k4) HF.out
     rw[h5] at hO;simp only at hO;have H5:=hid h5;have HF:=hid hO.symm;clear h5 hO;go_in;go_wp2_with fail;refine (ow base b acc s d 46 _ P0.out H1.out).mono ?_;rintro e w2 ⟨rfl,rfl⟩;go_wp2_with fail;refine (ow base b acc s d 126 _ P0.out H2.out).mono ?_;rintro e w2 ⟨rfl,rfl⟩;go_wp2_with fail;refine (ow base b acc s d 40 _ P0.out H3.out).mono ?_;rintro e w2 ⟨rfl,rfl⟩;go_wp2_with fail;refine (ow base b acc s d 91 _ P0.out H4.out).mono ?_;rintro e w2 ⟨rfl,rfl⟩;go_wp2_with fail;refine (Cr base b acc s nC d c r _ P0.out (by omega) H5.out).mono ?_;rintro e w2 ⟨rfl,hc,k2,s2,cU,cG,fO⟩;have K2:=hid k2;have P2:=hid fO;have kD:=hid cU;have rK:=fO.low;clear k2 fO cU;go_wp2_with fail;refine (YB _ 1 1 (fun _=>c) _ (BY c hc w2) (by decide)).mono ?_;rintro e w3 ⟨rfl,b3⟩;have wP:Below w2.heap.size w2 w3:=((Below.refl _ w2).alloc (le_refl _) _).trans (b3.mono (by simp));have K3:=hid (K2.out.below rK wP);have P3:=hid (P2.out.ab wP);clear b3 wP;go_wp2_with fail;refine (FB base b acc s2 d 1 _ _ P3.out (by omega)).mono ?_;rintro e w4 ⟨rfl,y9,k4⟩;go_wp2;go_ret;exact bB.yes (K3.out.trans k4) HF.out kD.out y9
    rw[h4] at hO;simp only at hO;have H4:=hid h4;have HSR:Hid (∀s2,aa s2=r->aa s2=r):=(fun _ h=>h);clear h4;have HO:=hid hO;clear hO;go_in;go_wp2_with fail;refine (ow base b acc s d 46 _ P0.out H1.out).mono ?_;rintro e w2 ⟨rfl,rfl⟩;go_wp2_with fail;refine (ow base b acc s d 126 _ P0.out H2.out).mono ?_;rintro e w2 ⟨rfl,rfl⟩;go_wp2_with fail;refine (ow base b acc s d 40 _ P0.out H3.out).mono ?_;rintro e w2 ⟨rfl,rfl⟩;go_wp2_with fail;refine (uJ base b acc s d 91 r _ P0.out H4.out (by omega)).mono ?_;rintro e w2 ⟨rfl,k2,s2,cU,cG,fO⟩;have qS:=zpR base b acc s2 d _ fO (by omega) (by omega);rw[cU] at qS;have Qr:=hid qS;clear qS;go_wp2_with fail;refine Qr.out.mono ?_;rintro e w3 ⟨k3,g1,g2⟩;have hO:=HO.out;rcases h5:ec r with _|⟨q,r1⟩
    ·rw[h5] at hO;simp only at hO;obtain rfl:=g1 h5;have HF:=hid hO.symm;clear hO h5 HO;go_wp2;go_ret;exact bB.no (k2.trans k3) HF.out
    rw[h5] at hO;simp only at hO;obtain⟨rfl,s3,lD,ic⟩:=g2 _ _ h5;have HF:=hid hO.symm;clear hO h5 HO;go_wp2;go_ret;exact bB.yes (k2.trans k3) HF.out lD ic
   rw[h3] at hO;simp only at hO;have H3:=hid h3;have HO:=hid hO;clear h3 hO;go_in;go_wp2_with fail;refine (ow base b acc s d 46 _ P0.out H1.out).mono ?_;rintro e w2 ⟨rfl,rfl⟩;go_wp2_with fail;refine (ow base b acc s d 126 _ P0.out H2.out).mono ?_;rintro e w2 ⟨rfl,rfl⟩;go_wp2_with fail;refine (uJ base b acc s d 40 r _ P0.out H3.out (by omega)).mono ?_;rintro e w2 ⟨rfl,k2,s2,cU,cG,fO⟩;have hA:=vm.out base b acc s2 _ fO (by omega) (by omega);rw[cU,HO.out] at hA;have HA:=hid hA;clear hA;go_wp2_with fail;refine HA.out.mono ?_;rintro e w3 ⟨k3,g1,g2⟩;rcases O with _|⟨acc3,r3⟩
   ·obtain rfl:=g1 rfl;go_wp2;go_ret;exact bB.no (k2.trans k3) rfl
   obtain⟨rfl,s3,lD,ic⟩:=g2 _ rfl;go_wp2;go_ret;exact bB.yes (k2.trans k3) rfl lD ic
  rw[h2] at hO;simp only at hO;have H2:=hid h2;have HF:=hid hO.symm;clear h2 hO;go_in;go_wp2_with fail;refine (ow base b acc s d 46 _ P0.out H1.out).mono ?_;rintro e w2 ⟨rfl,rfl⟩;go_wp2_with fail;refine (uJ base b acc s d 126 r _ P0.out H2.out (by omega)).mono ?_;rintro e w2 ⟨rfl,k2,s2,cU,cG,fO⟩;have P2:=hid fO;clear fO;go_wp2_with fail;refine (Mq base b acc s2 d 0 _ P2.out (by omega)).mono ?_;rintro e w4 ⟨rfl,y9,k4⟩;go_wp2;go_ret;exact bB.yes (k2.trans k4) HF.out cU y9
 rw[h1] at hO;simp only at hO;have H1:=hid h1;have HF:=hid hO.symm;clear h1 hO;go_in;go_wp2_with fail;refine (uJ base b acc s d 46 r _ P0.out H1.out (by omega)).mono ?_;rintro e w2 ⟨rfl,k2,s2,cU,cG,fO⟩;have P2:=hid fO;have rK:=fO.low;clear fO;go_wp2_with fail;refine (znd _).mono ?_;rintro e w3 ⟨rfl,b3⟩;have P3:=hid (P2.out.ab b3);have K3:=hid (k2.below rK b3);go_wp2_with fail;refine (FB base b acc s2 d 1 (fun _=>true) _ P3.out (by omega)).mono ?_;rintro e w4 ⟨rfl,y9,k4⟩;go_wp2;go_ret;exact bB.yes (K3.out.trans k4) HF.out cU y9
theorem znt(D d:Nat)(h:d+D=99):vn 154 (dA D) d:=by
 induction D generalizing d with
 | zero=>
  obtain rfl:d=99:=by omega
  exact zlE _ 99 znr
 | succ D ih=>
  have h1:=ih (d+1) (by omega);exact zlE _ d (zns (dA D) d (by omega) (yP D) (Xw _ _ (yP D) (Yu _ _ (yP D) (Yx _ _ (yP D) h1))))
theorem Tc:vn 83 (bh (dA 99)) 0:=
 Xw _ _ (yP 99) (Yu _ _ (yP 99) (Yx _ _ (yP 99) (znt 99 0 rfl)))
theorem F6(s:ByteArray)(w:World)(hs:1600<s.size)(hm:s.size<=maxLen):
  Calls prog 47 #[.string s] w fun e w'=>e=.returned (.tuple #[.slice none 0 0,.int .i64 6])/\w=w':=by
 unfold maxLen at hm;go_in;go_wp2;go_ret2;exact⟨rfl,rfl⟩
theorem eV.new(s:ByteArray)(w:World):eV w.heap.size w.heap.size [] s 0 (w.alloc (.cells #[.string s,.slice none 0 0,.int .i64 0] 133)):=
 ⟨le_refl _,.slice none 0 0,St.new w _ _,World.ownsRow_nil _ _ _ _,by simp[Value.ownBlock]⟩
theorem znu(s:ByteArray)(w:World)(hs:s.size<=1600)(h:∀l,bh (dA 99) ([],aa s)≠some (l,[])):
  Calls prog 47 #[.string s] w fun e w'=>e=.returned (.tuple #[.slice none 0 0,.int .i64 5])/\Below w.heap.size w w':=by
 have hA:=Tc w.heap.size w.heap.size [] s _ (eV.new s w) (by omega) (by simp;omega);have ay:Below w.heap.size w (w.alloc (.cells #[.string s,.slice none 0 0,.int .i64 0] 133)):=(Below.refl _ _).alloc (le_refl _) _;generalize bh (dA 99) ([],aa s)=O at hA h;have HA:=hid hA;have H:=hid h;clear hA h;go_in;go_wp2_with fail;refine HA.out.mono ?_;rintro e w1 ⟨k1,h1,h2⟩;have eQ:=ay.trans k1.1;rcases O with _|⟨l,r⟩
 ·obtain rfl:=h1 rfl;go_wp2;go_ret2;exact⟨rfl,eQ⟩
 obtain⟨rfl,s',hn,hp⟩:=h2 _ rfl;obtain⟨c0,-⟩:=hp.rest;have hne:r≠[]:=fun e=>H.out l (by rw[e])
 have hz:0<s'.size:=by
  rcases eq_zero_or_pos s'.size with hz|hz
  ·exact absurd (by simp only at hn;rw[<-hn];exact Od s' hz) hne
  exact hz
 have kB:s'.toList.isEmpty=false:=yS s' hz;have gy:(!s'.toList.isEmpty)=true:=by rw[kB];rfl
 go_wp2;go_ret2;exact⟨rfl,eQ⟩
theorem zj0(s:ByteArray)(w:World)(hs:s.size<=1600)(l:List Pc)(h:bh (dA 99) ([],aa s)=some (l,[]))(hl:400<l.length):
  Calls prog 47 #[.string s] w fun e w'=>e=.returned (.tuple #[.slice none 0 0,.int .i64 6])/\Below w.heap.size w w':=by
 have hA:=Tc w.heap.size w.heap.size [] s _ (eV.new s w) (by omega) (by simp;omega);have ay:Below w.heap.size w (w.alloc (.cells #[.string s,.slice none 0 0,.int .i64 0] 133)):=(Below.refl _ _).alloc (le_refl _) _;rw[h] at hA;have HA:=hid hA;clear hA h;go_in;go_wp2_with fail;refine HA.out.mono ?_;rintro e w1 ⟨k1,h1,h2⟩;have eQ:=ay.trans k1.1;obtain⟨rfl,s',hn,hp⟩:=h2 _ rfl;obtain⟨c0,-⟩:=hp.rest;simp only at hn hp;have hz:s'.size=0:=by rw[<-od,hn];rfl
 have kB:s'.toList=[]:=J0 s' hz;have gy:(!s'.toList.isEmpty)=false:=by rw[kB];rfl
 obtain⟨_,v,r9,az,_⟩:=hp;obtain⟨a,cap,rfl⟩:=bP az;have c1:w1.cell? ⟨w.heap.size,1,none⟩=some (.slice a l.length cap):=by rw[cell_of_heap r9];rfl
 obtain⟨n,Cn⟩:∃n,l.length=n:=⟨_,rfl⟩
 rw[Cn] at c1 hl;clear kB az r9 h1 h2 Cn;go_wp2;go_ret2;exact⟨rfl,eQ⟩
theorem zlF(s:ByteArray)(w:World)(hs:s.size<=1600)(l:List Pc)(h:bh (dA 99) ([],aa s)=some (l,[]))(hl:l.length<=400):
  Calls prog 47 #[.string s] w fun e w'=>∃a cap,e=.returned (.tuple #[.slice a l.length cap,.int .i64 0])/\w'.ownsRow w.heap.size 91 5 (.slice a l.length cap) l.length (eJ l)/\Below w.heap.size w w':=by
 have hA:=Tc w.heap.size w.heap.size [] s _ (eV.new s w) (by omega) (by simp;omega);have ay:Below w.heap.size w (w.alloc (.cells #[.string s,.slice none 0 0,.int .i64 0] 133)):=(Below.refl _ _).alloc (le_refl _) _;rw[h] at hA;have HA:=hid hA;clear hA h;go_in;go_wp2_with fail;refine HA.out.mono ?_;rintro e w1 ⟨k1,h1,h2⟩;have eQ:=ay.trans k1.1;obtain⟨rfl,s',hn,hp⟩:=h2 _ rfl;obtain⟨c0,-⟩:=hp.rest;simp only at hn hp;have hz:s'.size=0:=by rw[<-od,hn];rfl
 have kB:s'.toList=[]:=J0 s' hz;have gy:(!s'.toList.isEmpty)=false:=by rw[kB];rfl
 obtain⟨_,v,r9,az,_⟩:=hp;obtain⟨a,cap,rfl⟩:=bP az;have c1:w1.cell? ⟨w.heap.size,1,none⟩=some (.slice a l.length cap):=by rw[cell_of_heap r9];rfl
 have HO:=hid az;obtain⟨n,Cn⟩:∃n,l.length=n:=⟨_,rfl⟩
 have HN:=hid Cn;rw[Cn] at c1 hl;clear kB az r9 h1 h2 Cn;go_wp2;go_ret2;exact⟨a,cap,by rw[HN.out];rfl,HO.out,eQ⟩
