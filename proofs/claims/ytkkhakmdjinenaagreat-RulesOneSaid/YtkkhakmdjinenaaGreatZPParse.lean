import Derived.Test.YtkkhakmdjinenaaGreatZChk
import Derived.Test.YtkkhakmdjinenaaGreatZOr
import Derived.Test.YtkkhakmdjinenaaGreatZPRead
import Derived.Deep.RegionLaw
set_option linter.all false
set_option maxHeartbeats 4000000
set_option maxRecDepth 100000
open Go.Lib (hid)
namespace Go.Proofs.YtkkhakmdjinenaaGreat
open Go.RowKit Go.Proofs.Tryz
open Lib (OthersKept cell_of_heap)
open Nat (eq_zero_or_pos le_refl le_trans lt_succ_self)
open Below (heap_setCell)
open Or (inl inr)
variable {a w w':World}{acc:List Pc}{cs:Array Value}{d g t:Nat}
theorem St.others{e b:Nat}(h:St w t g cs)(k:OthersKept e (some b) w w')(hb:g≠b)(ht:t≠e):St w' t g cs:=
 k g _ h (by simpa using hb) (by intro c fz h;simp at h;exact ht h.2.1)
theorem zgA{e:TypeId}{b:Option Nat}(h:OthersKept e b a w)(k:Below w.heap.size w w'):OthersKept e b a w':=by
 intro i o hi hb ho;have h1:=h i o hi hb ho;exact (k.block i (Array.getElem?_eq_some_iff.1 h1).1).trans h1
theorem nD:(prog.info? 91).map (fun i=>(i.zero,i.size,i.bytes))=some (some (.agg #[.int .i64 0,.int .u64 0,.int .u64 0,.int .u64 0,.int .u64 0]),5,40):=by kernel_rfl
def eP(base b:Nat)(acc:List Pc)(s:ByteArray)(d:Nat)(w:World):Prop:=
 base<=b/\∃v,w.heap[b]?=some (.cells #[.string s,v,.int .i64 (d:Int)] 133 (0,0))/\w.ownsRow base 91 5 v acc.length (eK acc)/\v.ownBlock≠some b
theorem eP.lt{base b:Nat}{s:ByteArray}(h:eP base b acc s d w):b<w.heap.size:=by
 obtain⟨_,v,hb,_⟩:=h;exact (Array.getElem?_eq_some_iff.1 hb).1
theorem eP.low{base b:Nat}{s:ByteArray}(h:eP base b acc s d w):base<=w.heap.size:=le_trans h.1 (Nat.le_of_lt h.lt)
theorem eP.ab{base b:Nat}{s:ByteArray}(h:eP base b acc s d w)(k:Below w.heap.size w w'):eP base b acc s d w':=by
 have hl:=h.lt;obtain⟨h1,v,h2,h3,h4⟩:=h;exact⟨h1,v,(k.block b hl).trans h2,cY h3 k,h4⟩
theorem eP.rest{base b:Nat}{s:ByteArray}(h:eP base b acc s d w):w.cell? ⟨b,0,none⟩=some (.string s)/\w.frozen? ⟨b,0,none⟩=false:=by
 obtain⟨_,v,hb,_⟩:=h;exact⟨by rw[cell_of_heap hb];rfl,Lib.frozen_of_heap hb 0⟩
theorem eP.depth{base b:Nat}{s:ByteArray}(h:eP base b acc s d w):w.cell? ⟨b,2,none⟩=some (.int .i64 (d:Int))/\w.frozen? ⟨b,2,none⟩=false:=by
 obtain⟨_,v,hb,_⟩:=h;exact⟨by rw[cell_of_heap hb];rfl,Lib.frozen_of_heap hb 2⟩
theorem eP.kY{base b:Nat}{s:ByteArray}(h:eP base b acc s d w)(s':ByteArray):eP base b acc s' d (w.setCell ⟨b,0,none⟩ (.string s')):=by
 obtain⟨hB,v,hb,az,hne⟩:=h;refine⟨hB,v,?_,?_,hne⟩
 ·simp[World.setCell,Array.getElem?_modify,hb]
 exact az.kept (row:=some b) ⟨rfl,rfl,rfl,by simp[World.setCell],fun k _ hk=>heap_setCell _ _ _ _ (fun e=>hk (by simp[e]))⟩ (inr hne)
theorem eP.rn{base b:Nat}{s:ByteArray}(h:eP base b acc s d w)(d':Nat):eP base b acc s d' (w.setCell ⟨b,2,none⟩ (.int .i64 (d':Int))):=by
 obtain⟨hB,v,hb,az,hne⟩:=h;refine⟨hB,v,?_,?_,hne⟩
 ·simp[World.setCell,Array.getElem?_modify,hb]
 exact az.kept (row:=some b) ⟨rfl,rfl,rfl,by simp[World.setCell],fun k _ hk=>heap_setCell _ _ _ _ (fun e=>hk (by simp[e]))⟩ (inr hne)
def aU(base b:Nat)(w w':World):Prop:=Below base w w'/\OthersKept 91 (some b) w w'
theorem aU.refl(base b:Nat)(w:World):aU base b w w:=⟨Below.refl _ _,Lib.OthersKept.refl _ _ _⟩
theorem aU.trans{base b:Nat}(h:aU base b a w)(k:aU base b w w'):aU base b a w':=⟨h.1.trans k.1,h.2.trans k.2⟩
theorem aU.below{base b:Nat}(h:aU base b a w)(hb:base<=w.heap.size)(k:Below w.heap.size w w'):aU base b a w':=⟨h.1.trans (k.mono hb),zgA h.2 k⟩
theorem aU.set{base b:Nat}(h:aU base b a w)(hB:base<=b)(j:Nat)(v:Value):aU base b a (w.setCell ⟨b,j,none⟩ v):=⟨h.1.setCell (p:=⟨b,j,none⟩) hB v,h.2.setCell ⟨b,j,none⟩ rfl v⟩
theorem aU.size{base b:Nat}(h:aU base b w w'):w.heap.size<=w'.heap.size:=h.1.size
theorem St.gw{base b:Nat}(h:St w t g cs)(k:aU base b w w')(hb:g≠b)(ht:t≠91):St w' t g cs:=h.others k.2 hb ht
theorem E8(base b:Nat)(acc:List Pc)(s:ByteArray)(d:Nat)(k:Int)(p:Nat->Bool)(w:World)(h:eP base b acc s d w)(hl:acc.length<=10000):
  Calls prog 122 #[.pointer (some ⟨b,0,none⟩),.int .i64 k,(.agg #[.int .u64 ((wd p 0:Nat):Int),.int .u64 ((wd p 1:Nat):Int),.int .u64 ((wd p 2:Nat):Int),.int .u64 ((wd p 3:Nat):Int)])] w fun e w'=>e=.returned (.tuple #[])/\eP base b (acc++[⟨k,p⟩]) s d w'/\aU base b w w':=by
 obtain⟨i0,hi,dy,cJ,cv⟩:=info_parts nD;have H2:=hid (h.ab ((Below.refl _ w).alloc (le_refl _) (.cells #[.int .u64 ((wd p 0:Nat):Int),.int .u64 ((wd p 1:Nat):Int),.int .u64 ((wd p 2:Nat):Int),.int .u64 ((wd p 3:Nat):Int)] 89)));have HK:=hid ((aU.refl base b w).below h.low ((Below.refl _ w).alloc (le_refl _) (.cells #[.int .u64 ((wd p 0:Nat):Int),.int .u64 ((wd p 1:Nat):Int),.int .u64 ((wd p 2:Nat):Int),.int .u64 ((wd p 3:Nat):Int)] 89)));have HS:=hid (St.new w 89 #[.int .u64 ((wd p 0:Nat):Int),.int .u64 ((wd p 1:Nat):Int),.int .u64 ((wd p 2:Nat):Int),.int .u64 ((wd p 3:Nat):Int)]);have yw:Hid (eK (acc++[⟨k,p⟩])=eK acc++[.int .i64 k,.int .u64 ((wd p 0:Nat):Int),.int .u64 ((wd p 1:Nat):Int),.int .u64 ((wd p 2:Nat):Int),.int .u64 ((wd p 3:Nat):Int)]):=by
  show _=_;rw[FT];rfl
 have Fe:Hid ((acc++[(⟨k,p⟩:Pc)]).length=acc.length+1):=by show _=_;simp
 have gp:=h.lt;have um:(eK acc).length=acc.length*5:=E5 acc;clear h;go_in;go_wp2_with fail;generalize w.alloc (.cells #[.int .u64 ((wd p 0:Nat):Int),.int .u64 ((wd p 1:Nat):Int),.int .u64 ((wd p 2:Nat):Int),.int .u64 ((wd p 3:Nat):Int)] 89)=W2 at H2 HK HS⊢;obtain⟨c0,c1,c2,c3,-⟩:=bS HS.out;have dO:=H2.out.low;have mA:=H2.out.lt;obtain⟨hB,v,sf,az,hne⟩:=H2.out;have d1:W2.cell? ⟨b,1,none⟩=some v:=by rw[cell_of_heap sf];rfl
 obtain⟨ao,J3,rfl⟩:=bP az;clear HS H2
 go_region_law (
  refine step_append_lies _ (by rfl) _ _ _ (by rfl) base 91 i0 (.agg #[.int .i64 0,.int .u64 0,.int .u64 0,.int .u64 0,.int .u64 0]) 5 40 underlying42 hi dy cJ cv (by rfl) (by decide) _ acc.length (eK acc) (by rfl) (by first|exact az.drew.alloc _|exact (az.alloc _).drew) ⟨W2.heap.size,0,none⟩ 1 1 [.int .i64 k,.int .u64 ((wd p 0:Nat):Int),.int .u64 ((wd p 1:Nat):Int),.int .u64 ((wd p 2:Nat):Int),.int .u64 ((wd p 3:Nat):Int)] (by rfl) (by rfl) (World.news_of_block (cs:=#[.int .i64 k,.int .u64 ((wd p 0:Nat):Int),.int .u64 ((wd p 1:Nat):Int),.int .u64 ((wd p 2:Nat):Int),.int .u64 ((wd p 3:Nat):Int)]) (by first|exact heap_alloc_new _ _|exact St.new _ _ _)) (by intro u hu;simp at hu;rcases hu with rfl|rfl|rfl|rfl|rfl <;> rfl) (by omega) (by unfold maxLen;omega) (by omega) (by simp;omega) _ (by rfl) ?_
  intro g cap w1 JN dv fu Dv
  have cr:w1.heap[b]?=some (.cells #[.string s,.slice ao acc.length J3,.int .i64 (d:Int)] 133 (0,0)):=(dv.block b (by simp;omega) (fun e=>hne e.symm)).trans ((Lib.alloc_old _ _ b (by first|exact mA|(simp;omega))).trans sf)
  have e1:w1.cell? ⟨b,1,none⟩=some (.slice ao acc.length J3):=by (rw[cell_of_heap cr];rfl)
  have f1:w1.frozen? ⟨b,1,none⟩=false:=Lib.frozen_of_heap cr 1)
 all_goals
  go_wp2_with fail
  go_end0
  have rk:(Value.slice (some ⟨g,0,none⟩) (acc.length+1) cap).ownBlock≠some b:=by
   intro e;simp[Value.ownBlock] at e;rcases fu with fu|fu
   ·exact hne (fu.trans (by rw[e]))
   simp at fu;omega
  refine⟨rfl,⟨hB,_,?_,?_,rk⟩,?_⟩
  ·simp[World.setCell,Array.getElem?_modify,cr]
  ·rw[yw.out,Fe.out];exact JN.kept (row:=some b) ⟨rfl,rfl,rfl,by simp[World.setCell],fun k _ hk=>heap_setCell _ _ _ _ (fun e=>hk (by simp[e]))⟩ (inr rk)
  ·refine (HK.out.trans ?_).set hB 1 _;refine⟨?_,?_⟩
   ·refine Below.grown ?_ dv (by simp;omega) (fun k hk=>(az.lt k hk).1)
    first|exact (Below.refl _ _).drew.alloc dO _|exact ((Below.refl _ _).alloc dO _).drew
   refine Lib.OthersKept.grown ?_ dv (Lib.ownsRow_kind (by first|exact az.drew.alloc _|exact (az.alloc _).drew))
   first|exact (Lib.OthersKept.refl _ _ _).drew.alloc _|exact ((Lib.OthersKept.refl _ _ _).alloc _).drew
theorem JT(s:ByteArray)(h:0<s.size):aa s=s[0].toNat :: (aa s).drop 1:=by
 have:=Fg s 0 h;simpa using this
theorem MC(s:ByteArray)(h:s.size=0):aa s=[]:=by
 have:=nZ s;exact List.length_eq_zero_iff.1 (by omega)
theorem Kr(s:ByteArray)(h:s.size=0):s.toList=[]:=by rw[ByteArray.toList_eq];exact List.eq_nil_of_length_eq_zero (by simpa using h)
theorem nN(base b:Nat)(acc:List Pc)(s:ByteArray)(d c:Nat)(w:World)(h:eP base b acc s d w)(hc:aw c (aa s)=none):
  Calls prog 121 #[.pointer (some ⟨b,0,none⟩),.int .u8 c] w fun e w'=>e=.returned (.bool false)/\w=w':=by
 obtain⟨c0,-⟩:=h.rest;clear h;rcases eq_zero_or_pos s.size with hz|hp
 ·have hl:s.toList=[]:=Kr s hz;have gy:s.toList.isEmpty=true:=by rw[hl];rfl
  clear hc hz;go_in;go_wp2;go_ret;exact⟨rfl,rfl⟩
 have hl:s.toList.isEmpty=false:=yY s hp;have gy:(!s.toList.isEmpty)=true:=by rw[hl];rfl
 have hne:s[0].toNat≠c:=by
  intro e;rw[JT s hp] at hc;simp[aw,e] at hc
 have e0:((s[0].toNat:Int) != (c:Int))=true:=by simp;omega
 clear hc hne;go_in;go_wp2;go_ret;exact⟨rfl,rfl⟩
theorem vo(base b:Nat)(acc:List Pc)(s:ByteArray)(d c:Nat)(r:List Nat)(w:World)(h:eP base b acc s d w)(hc:aw c (aa s)=some r)(hs:s.size<=10000):
  Calls prog 121 #[.pointer (some ⟨b,0,none⟩),.int .u8 c] w fun e w'=>e=.returned (.bool true)/\aU base b w w'/\∃s',aa s'=r/\s'.size+1=s.size/\eP base b acc s' d w':=by
 obtain⟨c0,f0⟩:=h.rest;have HP:=hid h;clear h;have e:=vf hc;have cZ:=nZ s;rw[e] at cZ;simp at cZ;have hp:0<s.size:=by omega
 have hl:s.toList.isEmpty=false:=yY s hp;have gy:(!s.toList.isEmpty)=true:=by rw[hl];rfl
 have h2:=JT s hp;rw[e] at h2;simp at h2;have e0:((s[0].toNat:Int) != (c:Int))=false:=by simp;omega
 have HR:Hid (aa (s.extract 1 s.size)=r):=by show _=_;rw[EU,e];rfl
 have HZ:Hid ((s.extract 1 s.size).size+1=s.size):=by show _=_;rw[ByteArray.size_extract];omega
 clear hc e cZ h2;go_in;go_wp2;go_ret;exact⟨rfl,(aU.refl base b w).set HP.out.1 0 _,_,HR.out,HZ.out,HP.out.kY _⟩
theorem O5(base b:Nat)(acc:List Pc)(s sp:ByteArray)(d:Nat)(w:World)(h:eP base b acc s d w)(hs:s.size<=10000)(hc:aI sp (aa s)=none):
  Calls prog 163 #[.pointer (some ⟨b,0,none⟩),.string sp] w fun e w'=>e=.returned (.tuple #[.int .u8 0,.bool false])/\Below w.heap.size w w':=by
 obtain⟨c0,f0⟩:=h.rest;clear h;unfold aI at hc;have aq:=Fc (aa s) (BH s);rcases hr:rd (aa s) with ⟨a,n,o⟩;rw[hr] at hc aq;simp only at hc aq;have HR:=hid hr;have HM:Hid (s.size<=maxLen):=by show _<=_;unfold maxLen;omega
 clear hr;rcases o with _|_
 ·clear hc;go_in;go_wp2_with fail;refine (Ie s HM.out _).mono ?_;rintro e w1 ⟨rfl,b1⟩;rw[HR.out,A8];go_wp2;go_ret2;exact⟨rfl,b1⟩
 have fp:n=1/\fW sp a=true:=by simpa using hc
 obtain⟨rfl,h2⟩:=fp;have h3:=TM sp a aq.1;rw[h2] at h3;have h4:0<=ig sp a:=by simpa using h3
 clear hc h2 h3 aq;go_in;go_wp2_with fail;refine (Ie s HM.out _).mono ?_;rintro e w1 ⟨rfl,b1⟩;rw[HR.out,A8];go_wp2_with fail;refine (LP sp a _).mono ?_;rintro e w2 ⟨rfl,rfl⟩;go_wp2;go_ret2;exact⟨rfl,b1⟩
theorem CH(base b:Nat)(acc:List Pc)(s sp:ByteArray)(d c:Nat)(r:List Nat)(w:World)(h:eP base b acc s d w)(hs:s.size<=10000)(hc:aI sp (aa s)=some (c,r)):
  Calls prog 163 #[.pointer (some ⟨b,0,none⟩),.string sp] w fun e w'=>e=.returned (.tuple #[.int .u8 c,.bool true])/\c<256/\aU base b w w'/\∃s',aa s'=r/\s'.size<s.size/\eP base b acc s' d w':=by
 obtain⟨c0,f0⟩:=h.rest;have HP:=hid h;have dO:=h.low;have gp:=h.lt;have hlen:=LF hc;clear h;unfold aI at hc;have aq:=Fc (aa s) (BH s);rcases hr:rd (aa s) with ⟨a,n,o⟩;rw[hr] at hc aq;simp only at hc aq;have HR:=hid hr;have HM:Hid (s.size<=maxLen):=by show _<=_;unfold maxLen;omega
 clear hr;split at hc
 ·rename_i tp;obtain⟨rfl,tp⟩:=tp;simp only[Option.some.injEq,Prod.mk.injEq] at hc;obtain⟨rfl,hc⟩:=hc;have hn:=aq.2 rfl;rw[nZ] at hn;have ha:=aq.1;have D9:Hid (aa (s.extract n s.size)=r):=by show _=_;rw[EU,hc]
  have HZ:Hid ((s.extract n s.size).size<s.size):=by show _<_;rw[ByteArray.size_extract];omega
  have h3:=TM sp a ha;have h4:n≠1\/ig sp a<0:=by
   by_cases h1:n=1
   ·right;have:fW sp a=false:=by
     rcases h5:fW sp a with _|_
     ·rfl
     exact absurd ⟨h1,h5⟩ tp
    rw[this] at h3;simpa using h3
   left;exact h1
  clear hc aq tp hlen h3;rcases h4 with h4|h4
  ·have e1:((n:Int) == 1)=false:=(by simp;omega);go_in;go_wp2_with fail;refine (Ie s HM.out _).mono ?_;rintro e w1 ⟨rfl,b1⟩;rw[HR.out,A8];have eV:=hid (HP.out.ab b1);obtain⟨d0,g0⟩:=eV.out.rest;have HK:=hid ((aU.refl base b w).below dO b1);go_wp2;go_ret2;exact⟨rfl,ha,HK.out.set HP.out.1 0 _,_,D9.out,HZ.out,eV.out.kY _⟩
  by_cases h5:n=1
  ·subst h5;go_in;go_wp2_with fail;refine (Ie s HM.out _).mono ?_;rintro e w1 ⟨rfl,b1⟩;rw[HR.out,A8];have eV:=hid (HP.out.ab b1);obtain⟨d0,g0⟩:=eV.out.rest;have HK:=hid ((aU.refl base b w).below dO b1);go_wp2_with fail;refine (LP sp a _).mono ?_;rintro e w2 ⟨rfl,rfl⟩;go_wp2;go_ret2;exact⟨rfl,ha,HK.out.set HP.out.1 0 _,_,D9.out,HZ.out,eV.out.kY _⟩
  have e1:((n:Int) == 1)=false:=by simp;omega
  go_in;go_wp2_with fail;refine (Ie s HM.out _).mono ?_;rintro e w1 ⟨rfl,b1⟩;rw[HR.out,A8];have eV:=hid (HP.out.ab b1);obtain⟨d0,g0⟩:=eV.out.rest;have HK:=hid ((aU.refl base b w).below dO b1);go_wp2;go_ret2;exact⟨rfl,ha,HK.out.set HP.out.1 0 _,_,D9.out,HZ.out,eV.out.kY _⟩
 simp at hc
theorem aU.ib{base b:Nat}{w0:World}(h:aU base b w0 w)(hg:base<=g)(hs:∃cs fz,w.heap[g]?=some (.cells cs 89 fz))(hgn:w0.heap.size<=g)(d0 d1 d2 d3:Value):
  aU base b w0 ((((w.setCell ⟨g,0,none⟩ d0).setCell ⟨g,1,none⟩ d1).setCell ⟨g,2,none⟩ d2).setCell ⟨g,3,none⟩ d3):=by
 refine⟨qy h.1 hg _ _ _ _,?_⟩;intro k o hk hb ho;have aq:=(Array.getElem?_eq_some_iff.1 hk).1;have h1:=h.2 k o hk hb ho;rw[heap_setCell _ _ _ _ (by show k≠g;omega),heap_setCell _ _ _ _ (by show k≠g;omega),heap_setCell _ _ _ _ (by show k≠g;omega),heap_setCell _ _ _ _ (by show k≠g;omega)];exact h1
theorem eP.ib{base b:Nat}{s:ByteArray}(h:eP base b acc s d w)(hg:g≠b)(hs:∃cs fz,w.heap[g]?=some (.cells cs 89 fz))(d0 d1 d2 d3:Value):
  eP base b acc s d ((((w.setCell ⟨g,0,none⟩ d0).setCell ⟨g,1,none⟩ d1).setCell ⟨g,2,none⟩ d2).setCell ⟨g,3,none⟩ d3):=by
 obtain⟨h1,v,h2,h3,h4⟩:=h;have hv:v.ownBlock≠some g:=by
  intro e;obtain⟨c,fz,hc⟩:=Lib.ownsRow_kind h3 g e;obtain⟨cs,Vx,hs⟩:=hs;rw[hs] at hc;simp at hc
 refine⟨h1,v,?_,?_,h4⟩
 ·rw[heap_setCell _ _ _ _ (by show b≠g;omega),heap_setCell _ _ _ _ (by show b≠g;omega),heap_setCell _ _ _ _ (by show b≠g;omega),heap_setCell _ _ _ _ (by show b≠g;omega)];exact h2
 have step:∀(W:World) (j:Nat) (u:Value),W.ownsRow base 91 5 v acc.length (eK acc)->(W.setCell ⟨g,j,none⟩ u).ownsRow base 91 5 v acc.length (eK acc):=fun W j u ho=>ho.kept (row:=some g) ⟨rfl,rfl,rfl,by simp[World.setCell],fun k _ hk=>heap_setCell _ _ _ _ (fun e=>hk (by simp[e]))⟩ (inr hv)
 exact step _ _ _ (step _ _ _ (step _ _ _ (step _ _ _ h3)))
theorem St.is(h:St w t g cs):∃cs fz,w.heap[g]?=some (.cells cs t fz):=⟨cs,(0,0),h⟩
theorem zm9(base b:Nat)(acc:List Pc)(s:ByteArray)(d:Nat)(w:World)(h:eP base b acc s d w)(hs:s.size<=10000)(h1:aI du (aa s)=none):
  Calls prog 178 #[.pointer (some ⟨b,0,none⟩)] w fun e w'=>(∃q:Nat->Bool,e=.returned (.tuple #[(.agg #[.int .u64 ((wd q 0:Nat):Int),.int .u64 ((wd q 1:Nat):Int),.int .u64 ((wd q 2:Nat):Int),.int .u64 ((wd q 3:Nat):Int)]),.bool false]))/\aU base b w w':=by
 have gp:=h.lt;have dO:=h.low;have HB:=h.1;have dz:=hid (St.new w 89 #[.int .u64 0,.int .u64 0,.int .u64 0,.int .u64 0]);have k0:aU base b w (w.alloc (.cells #[.int .u64 0,.int .u64 0,.int .u64 0,.int .u64 0] 89)):=(aU.refl base b w).below dO ((Below.refl _ w).alloc (le_refl _) _);have mS:=hid (h.ab ((Below.refl _ w).alloc (le_refl _) (.cells #[.int .u64 0,.int .u64 0,.int .u64 0,.int .u64 0] 89)));have pO:=hid k0;clear h k0;go_in;go_wp2_with fail;refine (O5 base b acc s du d _ mS.out hs h1).mono ?_;rintro e w1 ⟨rfl,b1⟩;have mw:=hid (pO.out.below mS.out.low b1);have oO:=hid (dz.out.ab b1);clear b1 mS pO dz;go_wp2_with fail;refine (GA 0 0 (by decide) (by decide) _).mono ?_;rintro e w9 ⟨rfl,b9⟩;have gH:=hid (mw.out.below (le_trans dO mw.out.size) b9);obtain⟨q0,q1,q2,q3,q4,q5,q6,q7⟩:=bS (oO.out.ab b9);have zH:=gH.out.size;have oJ:=hid (oO.out.ab b9);clear b9;go_wp2_with fail;exact bodyPost_ret (v:=.tuple #[(.agg #[.int .u64 ((wd (ar 0 (0+1-0)) 0:Nat):Int),.int .u64 ((wd (ar 0 (0+1-0)) 1:Nat):Int),.int .u64 ((wd (ar 0 (0+1-0)) 2:Nat):Int),.int .u64 ((wd (ar 0 (0+1-0)) 3:Nat):Int)]),.bool false]) (by first|(simp[results,results178,go_sem,q0,q1,q2,q3];done)|(simp[results,results178,go_sem,q0,q1,q2,q3];omega)) rfl ⟨⟨_,rfl⟩,(gH.out.ib dO (oJ.out.is) (le_refl _) _ _ _ _)⟩
theorem zna(base b:Nat)(acc:List Pc)(s:ByteArray)(d:Nat)(a:Nat)(r r1:List Nat)(w:World)(h:eP base b acc s d w)(hs:s.size<=10000)(h1:aI du (aa s)=some (a,r))(h2:aw 45 r=some r1)(h3:aI du r1=none):
  Calls prog 178 #[.pointer (some ⟨b,0,none⟩)] w fun e w'=>(∃q:Nat->Bool,e=.returned (.tuple #[(.agg #[.int .u64 ((wd q 0:Nat):Int),.int .u64 ((wd q 1:Nat):Int),.int .u64 ((wd q 2:Nat):Int),.int .u64 ((wd q 3:Nat):Int)]),.bool false]))/\aU base b w w':=by
 have gp:=h.lt;have dO:=h.low;have HB:=h.1;have dz:=hid (St.new w 89 #[.int .u64 0,.int .u64 0,.int .u64 0,.int .u64 0]);have k0:aU base b w (w.alloc (.cells #[.int .u64 0,.int .u64 0,.int .u64 0,.int .u64 0] 89)):=(aU.refl base b w).below dO ((Below.refl _ w).alloc (le_refl _) _);have mS:=hid (h.ab ((Below.refl _ w).alloc (le_refl _) (.cells #[.int .u64 0,.int .u64 0,.int .u64 0,.int .u64 0] 89)));have pO:=hid k0;clear h k0;go_in;go_wp2_with fail;refine (CH base b acc s du d a r _ mS.out hs h1).mono ?_;rintro e w1 ⟨rfl,gE,k1,s1,da,cJ,fK⟩;have mw:=hid (pO.out.trans k1);have oO:=hid (dz.out.gw k1 (by omega) (by decide));have eV:=hid fK;have ob:=hid da;clear k1 fK da mS pO dz;go_wp2_with fail;refine (vo base b acc s1 d 45 r1 _ eV.out (by rw[ob.out];exact h2) (by omega)).mono ?_;rintro e w2 ⟨rfl,k2,s2,cU,cv,fF⟩;have tU:=hid (mw.out.trans k2);have gJ:=hid (oO.out.gw k2 (by omega) (by decide));have kO:=hid fF;have kh:=hid cU;clear k2 fF cU eV mw oO;go_wp2_with fail;refine (O5 base b acc s2 du d _ kO.out (by omega) (by rw[kh.out];exact h3)).mono ?_;rintro e w3 ⟨rfl,b3⟩;have FK:=hid (tU.out.below kO.out.low b3);have uS:=hid (gJ.out.ab b3);clear b3 kO tU gJ;go_wp2_with fail;refine (GA a 0 gE (by decide) _).mono ?_;rintro e w9 ⟨rfl,b9⟩;have gH:=hid (FK.out.below (le_trans dO FK.out.size) b9);obtain⟨q0,q1,q2,q3,q4,q5,q6,q7⟩:=bS (uS.out.ab b9);have zH:=gH.out.size;have oJ:=hid (uS.out.ab b9);clear b9;go_wp2_with fail;exact bodyPost_ret (v:=.tuple #[(.agg #[.int .u64 ((wd (ar a (0+1-a)) 0:Nat):Int),.int .u64 ((wd (ar a (0+1-a)) 1:Nat):Int),.int .u64 ((wd (ar a (0+1-a)) 2:Nat):Int),.int .u64 ((wd (ar a (0+1-a)) 3:Nat):Int)]),.bool false]) (by first|(simp[results,results178,go_sem,q0,q1,q2,q3];done)|(simp[results,results178,go_sem,q0,q1,q2,q3];omega)) rfl ⟨⟨_,rfl⟩,(gH.out.ib dO (oJ.out.is) (le_refl _) _ _ _ _)⟩
theorem znb(base b:Nat)(acc:List Pc)(s:ByteArray)(d:Nat)(a c:Nat)(r r1 r2:List Nat)(w:World)(h:eP base b acc s d w)(hs:s.size<=10000)(h1:aI du (aa s)=some (a,r))(h2:aw 45 r=some r1)(h3:aI du r1=some (c,r2))(h4:c<a):
  Calls prog 178 #[.pointer (some ⟨b,0,none⟩)] w fun e w'=>(∃q:Nat->Bool,e=.returned (.tuple #[(.agg #[.int .u64 ((wd q 0:Nat):Int),.int .u64 ((wd q 1:Nat):Int),.int .u64 ((wd q 2:Nat):Int),.int .u64 ((wd q 3:Nat):Int)]),.bool false]))/\aU base b w w':=by
 have gp:=h.lt;have dO:=h.low;have HB:=h.1;have dz:=hid (St.new w 89 #[.int .u64 0,.int .u64 0,.int .u64 0,.int .u64 0]);have k0:aU base b w (w.alloc (.cells #[.int .u64 0,.int .u64 0,.int .u64 0,.int .u64 0] 89)):=(aU.refl base b w).below dO ((Below.refl _ w).alloc (le_refl _) _);have mS:=hid (h.ab ((Below.refl _ w).alloc (le_refl _) (.cells #[.int .u64 0,.int .u64 0,.int .u64 0,.int .u64 0] 89)));have pO:=hid k0;clear h k0;go_in;go_wp2_with fail;refine (CH base b acc s du d a r _ mS.out hs h1).mono ?_;rintro e w1 ⟨rfl,gE,k1,s1,da,cJ,fK⟩;have mw:=hid (pO.out.trans k1);have oO:=hid (dz.out.gw k1 (by omega) (by decide));have eV:=hid fK;have ob:=hid da;clear k1 fK da mS pO dz;go_wp2_with fail;refine (vo base b acc s1 d 45 r1 _ eV.out (by rw[ob.out];exact h2) (by omega)).mono ?_;rintro e w2 ⟨rfl,k2,s2,cU,cv,fF⟩;have tU:=hid (mw.out.trans k2);have gJ:=hid (oO.out.gw k2 (by omega) (by decide));have kO:=hid fF;have kh:=hid cU;clear k2 fF cU eV mw oO;go_wp2_with fail;refine (CH base b acc s2 du d c r2 _ kO.out (by omega) (by rw[kh.out];exact h3)).mono ?_;rintro e w3 ⟨rfl,ue,k3,s3,mq,zK,iy⟩;have FK:=hid (tU.out.trans k3);have uS:=hid (gJ.out.gw k3 (by omega) (by decide));have BR:=hid iy;have tm:=hid mq;clear k3 iy mq kO tU gJ;go_wp2_with fail;refine (GA a c gE ue _).mono ?_;rintro e w9 ⟨rfl,b9⟩;have gH:=hid (FK.out.below BR.out.low b9);have Lg:=hid (BR.out.ab b9);obtain⟨q0,q1,q2,q3,q4,q5,q6,q7⟩:=bS (uS.out.ab b9);have zH:=gH.out.size;have oJ:=hid (uS.out.ab b9);clear b9;go_wp2_with fail;exact bodyPost_ret (v:=.tuple #[(.agg #[.int .u64 ((wd (ar a (c+1-a)) 0:Nat):Int),.int .u64 ((wd (ar a (c+1-a)) 1:Nat):Int),.int .u64 ((wd (ar a (c+1-a)) 2:Nat):Int),.int .u64 ((wd (ar a (c+1-a)) 3:Nat):Int)]),.bool false]) (by first|(simp[results,results178,go_sem,q0,q1,q2,q3];done)|(simp[results,results178,go_sem,q0,q1,q2,q3];omega)) rfl ⟨⟨_,rfl⟩,(gH.out.ib dO (oJ.out.is) (le_refl _) _ _ _ _)⟩
theorem zln(base b:Nat)(acc:List Pc)(s:ByteArray)(d:Nat)(a:Nat)(r:List Nat)(w:World)(h:eP base b acc s d w)(hs:s.size<=10000)(h1:aI du (aa s)=some (a,r))(h2:aw 45 r=none):
  Calls prog 178 #[.pointer (some ⟨b,0,none⟩)] w fun e w'=>e=.returned (.tuple #[(.agg #[.int .u64 ((wd (ar a (a+1-a)) 0:Nat):Int),.int .u64 ((wd (ar a (a+1-a)) 1:Nat):Int),.int .u64 ((wd (ar a (a+1-a)) 2:Nat):Int),.int .u64 ((wd (ar a (a+1-a)) 3:Nat):Int)]),.bool true])/\aU base b w w'/\∃s',aa s'=r/\s'.size<s.size/\eP base b acc s' d w':=by
 have gp:=h.lt;have dO:=h.low;have HB:=h.1;have dz:=hid (St.new w 89 #[.int .u64 0,.int .u64 0,.int .u64 0,.int .u64 0]);have k0:aU base b w (w.alloc (.cells #[.int .u64 0,.int .u64 0,.int .u64 0,.int .u64 0] 89)):=(aU.refl base b w).below dO ((Below.refl _ w).alloc (le_refl _) _);have mS:=hid (h.ab ((Below.refl _ w).alloc (le_refl _) (.cells #[.int .u64 0,.int .u64 0,.int .u64 0,.int .u64 0] 89)));have pO:=hid k0;clear h k0;go_in;go_wp2_with fail;refine (CH base b acc s du d a r _ mS.out hs h1).mono ?_;rintro e w1 ⟨rfl,gE,k1,s1,da,cJ,fK⟩;have mw:=hid (pO.out.trans k1);have oO:=hid (dz.out.gw k1 (by omega) (by decide));have eV:=hid fK;have ob:=hid da;clear k1 fK da mS pO dz;go_wp2_with fail;refine (nN base b acc s1 d 45 _ eV.out (by rw[ob.out];exact h2)).mono ?_;rintro e w2 ⟨rfl,rfl⟩;go_wp2_with fail;refine (GA a a gE gE _).mono ?_;rintro e w9 ⟨rfl,b9⟩;have gH:=hid (mw.out.below eV.out.low b9);have Lg:=hid (eV.out.ab b9);obtain⟨q0,q1,q2,q3,q4,q5,q6,q7⟩:=bS (oO.out.ab b9);have zH:=gH.out.size;have oJ:=hid (oO.out.ab b9);clear b9;go_wp2_with fail;exact bodyPost_ret (v:=.tuple #[(.agg #[.int .u64 ((wd (ar a (a+1-a)) 0:Nat):Int),.int .u64 ((wd (ar a (a+1-a)) 1:Nat):Int),.int .u64 ((wd (ar a (a+1-a)) 2:Nat):Int),.int .u64 ((wd (ar a (a+1-a)) 3:Nat):Int)]),.bool true]) (by first|(simp[results,results178,go_sem,q0,q1,q2,q3];done)|(simp[results,results178,go_sem,q0,q1,q2,q3];omega)) rfl ⟨rfl,(gH.out.ib dO (oJ.out.is) (le_refl _) _ _ _ _),s1,ob.out,cJ,Lg.out.ib (by omega) (oJ.out.is) _ _ _ _⟩
theorem zlo(base b:Nat)(acc:List Pc)(s:ByteArray)(d:Nat)(a c:Nat)(r r1 r2:List Nat)(w:World)(h:eP base b acc s d w)(hs:s.size<=10000)(h1:aI du (aa s)=some (a,r))(h2:aw 45 r=some r1)(h3:aI du r1=some (c,r2))(h4:a<=c):
  Calls prog 178 #[.pointer (some ⟨b,0,none⟩)] w fun e w'=>e=.returned (.tuple #[(.agg #[.int .u64 ((wd (ar a (c+1-a)) 0:Nat):Int),.int .u64 ((wd (ar a (c+1-a)) 1:Nat):Int),.int .u64 ((wd (ar a (c+1-a)) 2:Nat):Int),.int .u64 ((wd (ar a (c+1-a)) 3:Nat):Int)]),.bool true])/\aU base b w w'/\∃s',aa s'=r2/\s'.size<s.size/\eP base b acc s' d w':=by
 have gp:=h.lt;have dO:=h.low;have HB:=h.1;have dz:=hid (St.new w 89 #[.int .u64 0,.int .u64 0,.int .u64 0,.int .u64 0]);have k0:aU base b w (w.alloc (.cells #[.int .u64 0,.int .u64 0,.int .u64 0,.int .u64 0] 89)):=(aU.refl base b w).below dO ((Below.refl _ w).alloc (le_refl _) _);have mS:=hid (h.ab ((Below.refl _ w).alloc (le_refl _) (.cells #[.int .u64 0,.int .u64 0,.int .u64 0,.int .u64 0] 89)));have pO:=hid k0;clear h k0;go_in;go_wp2_with fail;refine (CH base b acc s du d a r _ mS.out hs h1).mono ?_;rintro e w1 ⟨rfl,gE,k1,s1,da,cJ,fK⟩;have mw:=hid (pO.out.trans k1);have oO:=hid (dz.out.gw k1 (by omega) (by decide));have eV:=hid fK;have ob:=hid da;clear k1 fK da mS pO dz;go_wp2_with fail;refine (vo base b acc s1 d 45 r1 _ eV.out (by rw[ob.out];exact h2) (by omega)).mono ?_;rintro e w2 ⟨rfl,k2,s2,cU,cv,fF⟩;have tU:=hid (mw.out.trans k2);have gJ:=hid (oO.out.gw k2 (by omega) (by decide));have kO:=hid fF;have kh:=hid cU;clear k2 fF cU eV mw oO;go_wp2_with fail;refine (CH base b acc s2 du d c r2 _ kO.out (by omega) (by rw[kh.out];exact h3)).mono ?_;rintro e w3 ⟨rfl,ue,k3,s3,mq,zK,iy⟩;have FK:=hid (tU.out.trans k3);have uS:=hid (gJ.out.gw k3 (by omega) (by decide));have BR:=hid iy;have tm:=hid mq;clear k3 iy mq kO tU gJ;go_wp2_with fail;refine (GA a c gE ue _).mono ?_;rintro e w9 ⟨rfl,b9⟩;have gH:=hid (FK.out.below BR.out.low b9);have Lg:=hid (BR.out.ab b9);obtain⟨q0,q1,q2,q3,q4,q5,q6,q7⟩:=bS (uS.out.ab b9);have zH:=gH.out.size;have oJ:=hid (uS.out.ab b9);clear b9;go_wp2_with fail;exact bodyPost_ret (v:=.tuple #[(.agg #[.int .u64 ((wd (ar a (c+1-a)) 0:Nat):Int),.int .u64 ((wd (ar a (c+1-a)) 1:Nat):Int),.int .u64 ((wd (ar a (c+1-a)) 2:Nat):Int),.int .u64 ((wd (ar a (c+1-a)) 3:Nat):Int)]),.bool true]) (by first|(simp[results,results178,go_sem,q0,q1,q2,q3];done)|(simp[results,results178,go_sem,q0,q1,q2,q3];omega)) rfl ⟨rfl,(gH.out.ib dO (oJ.out.is) (le_refl _) _ _ _ _),s3,tm.out,by omega,Lg.out.ib (by omega) (oJ.out.is) _ _ _ _⟩
theorem zlp(base b:Nat)(acc:List Pc)(s:ByteArray)(d:Nat)(w:World)(h:eP base b acc s d w)(hs:s.size<=10000)(hc:cH (aa s)=none):
  Calls prog 178 #[.pointer (some ⟨b,0,none⟩)] w fun e w'=>(∃q:Nat->Bool,e=.returned (.tuple #[(.agg #[.int .u64 ((wd q 0:Nat):Int),.int .u64 ((wd q 1:Nat):Int),.int .u64 ((wd q 2:Nat):Int),.int .u64 ((wd q 3:Nat):Int)]),.bool false]))/\aU base b w w':=by
 unfold cH at hc;rcases h1:aI du (aa s) with _|⟨a,r⟩
 ·exact zm9 base b acc s d w h hs h1
 rw[h1] at hc;simp only at hc;rcases h2:aw 45 r with _|r1
 ·simp[h2] at hc
 rw[h2] at hc;simp only at hc;rcases h3:aI du r1 with _|⟨c,r2⟩
 ·exact zna base b acc s d a r r1 w h hs h1 h2 h3
 rw[h3] at hc;simp only at hc;exact znb base b acc s d a c r r1 r2 w h hs h1 h2 h3 (by
  rcases Nat.lt_or_ge c a with h|h
  ·exact h
  ·simp[h] at hc)
theorem VE(base b:Nat)(acc:List Pc)(s:ByteArray)(d a c:Nat)(r:List Nat)(w:World)(h:eP base b acc s d w)(hs:s.size<=10000)(hc:cH (aa s)=some (a,c,r)):
  Calls prog 178 #[.pointer (some ⟨b,0,none⟩)] w fun e w'=>e=.returned (.tuple #[(.agg #[.int .u64 ((wd (ar a (c+1-a)) 0:Nat):Int),.int .u64 ((wd (ar a (c+1-a)) 1:Nat):Int),.int .u64 ((wd (ar a (c+1-a)) 2:Nat):Int),.int .u64 ((wd (ar a (c+1-a)) 3:Nat):Int)]),.bool true])/\aU base b w w'/\∃s',aa s'=r/\s'.size<s.size/\eP base b acc s' d w':=by
 unfold cH at hc;rcases h1:aI du (aa s) with _|⟨a1,r1⟩
 ·simp[h1] at hc
 rw[h1] at hc;simp only at hc;rcases h2:aw 45 r1 with _|r2
 ·simp[h2] at hc;obtain⟨rfl,rfl,rfl⟩:=hc;exact zln base b acc s d a1 r1 w h hs h1 h2
 rw[h2] at hc;simp only at hc;rcases h3:aI du r2 with _|⟨c1,r3⟩
 ·simp[h3] at hc
 rw[h3] at hc;simp only at hc;split at hc
 ·rename_i hle;simp at hc;obtain⟨rfl,rfl,rfl⟩:=hc;exact zlo base b acc s d a1 c1 r1 r2 r3 w h hs h1 h2 h3 hle
 simp at hc
def fq(w:World)(a:Addr):Nat:=match w.cell? a with
 | some (.string s)=>s.size
 | _=>0
theorem eP.fq{base b:Nat}{s:ByteArray}(h:eP base b acc s d w):fq w ⟨b,0,none⟩=s.size:=by
 unfold Go.Proofs.YtkkhakmdjinenaaGreat.fq;rw[h.rest.1]
theorem Vg(f:Nat)(q:Nat->Bool)(s:List Nat)(a c:Nat)(r:List Nat)(hf:s.length<f)(h1:aw 93 s=none)(h2:cH s=some (a,c,r)):
  ∃g,r.length<g/\aD f q s=aD g (fun x=>q x || ar a (c+1-a) x) r:=by
 match f,hf with
 | f+1,hf=>
  have:=(LN h2).1;exact⟨f,by omega,by simp only[aD,h1,h2]⟩
theorem V9(f:Nat)(q:Nat->Bool)(s r:List Nat)(hf:s.length<f)(h1:aw 93 s=some r):aD f q s=some (q,r):=by
 match f,hf with
 | f+1,hf=>simp only[aD,h1]
theorem ZW(f:Nat)(q:Nat->Bool)(s:List Nat)(hf:s.length<f)(h1:aw 93 s=none)(h2:cH s=none):aD f q s=none:=by
 match f,hf with
 | f+1,hf=>simp only[aD,h1,h2]
theorem KA(t:Nat):(#[.int .u64 0,.int .u64 0,.int .u64 0,.int .u64 0]:Array Value)=#[.int .u64 ((wd aJ 0:Nat):Int),.int .u64 ((wd aJ 1:Nat):Int),.int .u64 ((wd aJ 2:Nat):Int),.int .u64 ((wd aJ 3:Nat):Int)]:=by
 have e:∀j,((wd aJ j:Nat):Int)=0:=fun j=>by unfold aJ;rw[vJ];rfl
 simp only[e]
def Jh(base b:Nat)(acc:List Pc)(d:Nat)(o:Option ((Nat->Bool) × List Nat))(w:World)(e:Ending)(w':World):Prop:=
 aU base b w w'/\(o=none->e=.returned (.bool false))/\∀q r,o=some (q,r)->e=.returned (.bool true)/\∃s',aa s'=r/\eP base b (acc++[⟨1,q⟩]) s' d w'
theorem zpv(base b:Nat)(acc:List Pc)(s:ByteArray)(d:Nat)(h0:aw 94 (aa s)=none)(w:World)(h:eP base b acc s d w)(hs:s.size<=10000)(uA:acc.length<=10000):
  Calls prog 162 #[.pointer (some ⟨b,0,none⟩)] w (Jh base b acc d (dW (aa s)) w):=by
 have HX:Hid (dW (aa s)=match aD ((aa s).length+1) aJ (aa s) with
  | none=>none
  | some (q,r1)=>if ep q=true then none else some (q,r1)):=by
  show _=_
  simp only[dW,h0]
  rfl
 generalize dW (aa s)=O at HX⊢;have gp:=h.lt;have dO:=h.low;have hB:=h.1;unfold Jh;go_in;go_wp2_with fail;refine (nN base b acc s d 94 _ h h0).mono ?_;rintro e w1 ⟨rfl,rfl⟩;obtain⟨s1,da,cJ,fK⟩:∃s1,aa s1=aa s/\s1.size<=s.size/\eP base b acc s1 d w:=⟨s,rfl,le_refl _,h⟩
 have k1:aU base b w w:=aU.refl _ _ _;obtain⟨R,hR⟩:∃R,aD ((aa s).length+1) aJ (aa s)=R:=⟨_,rfl⟩
 rw[hR] at HX;have vQ:=hid hR;have K1:=hid (k1.below (le_trans dO k1.size) ((Below.refl _ w).alloc (le_refl _) (.cells #[.int .u64 0,.int .u64 0,.int .u64 0,.int .u64 0] 89)));have P1:=hid (fK.ab ((Below.refl _ w).alloc (le_refl _) (.cells #[.int .u64 0,.int .u64 0,.int .u64 0,.int .u64 0] 89)));have S1:Hid (St (w.alloc (.cells #[.int .u64 0,.int .u64 0,.int .u64 0,.int .u64 0] 89)) 89 w.heap.size #[.int .u64 ((wd aJ 0:Nat):Int),.int .u64 ((wd aJ 1:Nat):Int),.int .u64 ((wd aJ 2:Nat):Int),.int .u64 ((wd aJ 3:Nat):Int)]):=by
  have:=St.new w 89 #[.int .u64 0,.int .u64 0,.int .u64 0,.int .u64 0];rw[KA 89] at this;rw[KA 89];exact this
 have RW:=fK.lt;have Bc:=k1.size;have ob:=hid da;have BZ:w.heap.size≠b:=by omega
 clear hR h k1 fK da h0;go_wp2;go_loopw [9] (fun _ wr=>∃(f:Nat) (q:Nat->Bool) (s':ByteArray),(aa s').length<f/\Hid (aD f q (aa s')=R)/\s'.size<=s.size/\Hid (eP base b acc s' d wr)/\Hid (St wr 89 w.heap.size #[.int .u64 ((wd q 0:Nat):Int),.int .u64 ((wd q 1:Nat):Int),.int .u64 ((wd q 2:Nat):Int),.int .u64 ((wd q 3:Nat):Int)])/\Hid (aU base b w wr)/\w.heap.size<wr.heap.size) (fun _ wr=>fq wr ⟨b,0,none⟩)
 ·exact⟨_,aJ,s1,lt_succ_self _,by show aD _ _ _=_;rw[ob.out];exact vQ.out,by omega,P1,S1,K1,by simp⟩
 clear P1 S1 K1 vQ;obtain⟨f,q,s',hf,HQ,cZ,P2,S2,K2,zR⟩:=hrel;rcases h1:aw 93 (aa s') with _|r
 ·have HK:=hid h1;rcases h2:cH (aa s') with _|⟨a,c,r⟩
  ·have HZ:Hid (O=none):=by
    have:=HQ.out;rw[ZW f q _ hf h1 h2] at this;show _=_;rw[HX.out,<-this]
   have H2:=hid h2;clear h1 h2 HX HQ;go_wp2_with fail;refine (nN base b acc s' d 93 _ P2.out HK.out).mono ?_;rintro e w2 ⟨rfl,rfl⟩;go_wp2_with fail;refine (zlp base b acc s' d _ P2.out (by omega) H2.out).mono ?_;rintro e w3 ⟨⟨q3,rfl⟩,k3⟩;have K3:=K2.out.trans k3;have qe:=K3.size;clear k3;go_wp2;go_ret;exact⟨K3.below (le_trans dO qe) ((Below.refl _ w3).alloc (le_refl _) _),fun _=>rfl,fun q r e=>by rw[HZ.out] at e;simp at e⟩
  obtain⟨f2,nV,jO⟩:=Vg f q _ a c r hf h1 h2;have qS:Hid (aD f2 (fun x=>q x || ar a (c+1-a) x) r=R):=by show _=_;rw[<-jO];exact HQ.out
  have H2:=hid h2;have ld:=P2.out.fq;clear h1 h2 HQ jO;go_wp2_with fail;refine (nN base b acc s' d 93 _ P2.out HK.out).mono ?_;rintro e w2 ⟨rfl,rfl⟩;go_wp2_with fail;refine (VE base b acc s' d a c r _ P2.out (by omega) H2.out).mono ?_;rintro e w3 ⟨rfl,k3,s3,mq,zK,iy⟩;have IL:=S2.out.gw k3 BZ (by decide);have qe:=k3.size;have K3:=hid ((K2.out.trans k3).below (le_trans dO (K2.out.trans k3).size) ((Below.refl _ w3).alloc (le_refl _) (.cells #[.int .u64 ((wd (ar a (c+1-a)) 0:Nat):Int),.int .u64 ((wd (ar a (c+1-a)) 1:Nat):Int),.int .u64 ((wd (ar a (c+1-a)) 2:Nat):Int),.int .u64 ((wd (ar a (c+1-a)) 3:Nat):Int)] 89)));have P3:=hid (iy.ab ((Below.refl _ w3).alloc (le_refl _) (.cells #[.int .u64 ((wd (ar a (c+1-a)) 0:Nat):Int),.int .u64 ((wd (ar a (c+1-a)) 1:Nat):Int),.int .u64 ((wd (ar a (c+1-a)) 2:Nat):Int),.int .u64 ((wd (ar a (c+1-a)) 3:Nat):Int)] 89)));have S3:=hid (IL.alloc (.cells #[.int .u64 ((wd (ar a (c+1-a)) 0:Nat):Int),.int .u64 ((wd (ar a (c+1-a)) 1:Nat):Int),.int .u64 ((wd (ar a (c+1-a)) 2:Nat):Int),.int .u64 ((wd (ar a (c+1-a)) 3:Nat):Int)] 89));have T3:=hid (St.new w3 89 #[.int .u64 ((wd (ar a (c+1-a)) 0:Nat):Int),.int .u64 ((wd (ar a (c+1-a)) 1:Nat):Int),.int .u64 ((wd (ar a (c+1-a)) 2:Nat):Int),.int .u64 ((wd (ar a (c+1-a)) 3:Nat):Int)]);obtain⟨c0,c1,c2,c3,-⟩:=bS S3.out;obtain⟨d0,d1,d2,d3,-⟩:=bS T3.out;have tm:=hid mq;clear k3 iy mq IL P2 S2 K2;go_wp2_with fail;refine (zow q (ar a (c+1-a)) _).mono ?_;rintro e w5 ⟨rfl,b5⟩;have s5:=S3.out.ab b5;have jn:=b5.size;simp at jn;obtain⟨r0,UR,Z5,U0,ZK,VQ,UC,VD⟩:=bS s5;have KK:=hid ((K3.out.below (le_trans dO K3.out.size) b5).ib (g:=w.heap.size) (by omega) (s5.is) (by omega) (.int .u64 ((wd (fun x=>q x || ar a (c+1-a) x) 0:Nat):Int)) (.int .u64 ((wd (fun x=>q x || ar a (c+1-a) x) 1:Nat):Int)) (.int .u64 ((wd (fun x=>q x || ar a (c+1-a) x) 2:Nat):Int)) (.int .u64 ((wd (fun x=>q x || ar a (c+1-a) x) 3:Nat):Int)));have PP:=hid ((P3.out.ab b5).ib (g:=w.heap.size) (by omega) (s5.is) (.int .u64 ((wd (fun x=>q x || ar a (c+1-a) x) 0:Nat):Int)) (.int .u64 ((wd (fun x=>q x || ar a (c+1-a) x) 1:Nat):Int)) (.int .u64 ((wd (fun x=>q x || ar a (c+1-a) x) 2:Nat):Int)) (.int .u64 ((wd (fun x=>q x || ar a (c+1-a) x) 3:Nat):Int)));have SS:=hid (s5.mo (.int .u64 ((wd (fun x=>q x || ar a (c+1-a) x) 0:Nat):Int)) (.int .u64 ((wd (fun x=>q x || ar a (c+1-a) x) 1:Nat):Int)) (.int .u64 ((wd (fun x=>q x || ar a (c+1-a) x) 2:Nat):Int)) (.int .u64 ((wd (fun x=>q x || ar a (c+1-a) x) 3:Nat):Int)));have ie:=PP.out.fq;clear b5 s5 S3 T3 K3 P3 c0 c1 c2 c3 d0 d1 d2 d3;go_wp2;go_roundw
  ·exact⟨f2,fun x=>q x || ar a (c+1-a) x,s3,by rw[tm.out];exact nV,by show aD _ _ _=_;rw[tm.out];exact qS.out,by omega,PP,SS,KK,by rw[ZR];omega⟩
  first|(simp only[ld,ie];omega)|(rw[ld,ie];omega)
 have HY:Hid (O=if ep q=true then none else some (q,r)):=by
  have:=HQ.out;rw[V9 f q _ r hf h1] at this;show _=_;rw[HX.out,<-this]
 have HK:=hid h1;clear h1 HX HQ;go_wp2_with fail;refine (vo base b acc s' d 93 r _ P2.out HK.out (by omega)).mono ?_;rintro e w2 ⟨rfl,k2,s2,cU,cv,fF⟩;have S3:=hid (S2.out.gw k2 BZ (by decide));have K3:=hid (K2.out.trans k2);have P3:=hid fF;have kh:=hid cU;obtain⟨c0,c1,c2,c3,-⟩:=bS S3.out;have RS:=k2.size;clear k2 fF cU S2 K2 P2;go_wp2_with fail;have KK:=K3;have PP:=P3;have SS:=S3;clear K3 P3 S3;obtain⟨c0,c1,c2,c3,-⟩:=bS SS.out;go_wp2_with fail;refine (E8 base b acc s2 d 1 q _ PP.out uA).mono ?_;rintro e w7 ⟨rfl,F6,k7⟩;have s7:=SS.out.gw k7 BZ (by decide);have K7:=hid (KK.out.trans k7);have P7:=hid F6;clear c0 c1 c2 c3 k7 F6 KK PP SS;obtain⟨c0,c1,c2,c3,-⟩:=bS s7;obtain⟨o,ho⟩:∃o,ep q=o:=⟨_,rfl⟩
 have HO:=hid ho;clear ho;go_wp2_with fail;refine (QE q o HO.out _).mono ?_;rintro e w8 ⟨rfl,b8⟩;have K8:=K7.out.below (le_trans dO K7.out.size) b8;have P8:=P7.out.ab b8;rcases o with _|_
 ·have HZ:Hid (O=some (q,r)):=by show _=_;rw[HY.out,HO.out];rfl
  go_wp2;go_ret;refine⟨K8,fun e=>by rw[HZ.out] at e;simp at e,fun q' r' e=>?_⟩;rw[HZ.out] at e;simp only[Option.some.injEq,Prod.mk.injEq] at e;obtain⟨rfl,rfl⟩:=e;exact⟨rfl,s2,kh.out,P8⟩
 have HZ:Hid (O=none):=by show _=_;rw[HY.out,HO.out];rfl
 go_wp2;go_ret;exact⟨K8,fun _=>rfl,fun q' r' e=>by rw[HZ.out] at e;simp at e⟩
theorem zpw(base b:Nat)(acc:List Pc)(s:ByteArray)(d:Nat)(rr:List Nat)(h0:aw 94 (aa s)=some rr)(w:World)(h:eP base b acc s d w)(hs:s.size<=10000)(uA:acc.length<=10000):
  Calls prog 162 #[.pointer (some ⟨b,0,none⟩)] w (Jh base b acc d (dW (aa s)) w):=by
 have HX:Hid (dW (aa s)=match aD (rr.length+1) aJ rr with
  | none=>none
  | some (q,r1)=>if ep (fun x=>!q x)=true then none else some ((fun x=>!q x),r1)):=by
  show _=_
  simp only[dW,h0]
  rfl
 generalize dW (aa s)=O at HX⊢;have gp:=h.lt;have dO:=h.low;have hB:=h.1;unfold Jh;go_in;go_wp2_with fail;refine (vo base b acc s d 94 rr _ h h0 hs).mono ?_;rintro e w1 ⟨rfl,k1,s1,da,cJ,fK⟩;obtain⟨R,hR⟩:∃R,aD (rr.length+1) aJ rr=R:=⟨_,rfl⟩
 rw[hR] at HX;have vQ:=hid hR;have K1:=hid (k1.below (le_trans dO k1.size) ((Below.refl _ w1).alloc (le_refl _) (.cells #[.int .u64 0,.int .u64 0,.int .u64 0,.int .u64 0] 89)));have P1:=hid (fK.ab ((Below.refl _ w1).alloc (le_refl _) (.cells #[.int .u64 0,.int .u64 0,.int .u64 0,.int .u64 0] 89)));have S1:Hid (St (w1.alloc (.cells #[.int .u64 0,.int .u64 0,.int .u64 0,.int .u64 0] 89)) 89 w1.heap.size #[.int .u64 ((wd aJ 0:Nat):Int),.int .u64 ((wd aJ 1:Nat):Int),.int .u64 ((wd aJ 2:Nat):Int),.int .u64 ((wd aJ 3:Nat):Int)]):=by
  have:=St.new w1 89 #[.int .u64 0,.int .u64 0,.int .u64 0,.int .u64 0];rw[KA 89] at this;rw[KA 89];exact this
 have RW:=fK.lt;have Bc:=k1.size;have ob:=hid da;have BZ:w1.heap.size≠b:=by omega
 clear hR h k1 fK da h0;go_wp2;go_loopw [9] (fun _ wr=>∃(f:Nat) (q:Nat->Bool) (s':ByteArray),(aa s').length<f/\Hid (aD f q (aa s')=R)/\s'.size<=s.size/\Hid (eP base b acc s' d wr)/\Hid (St wr 89 w1.heap.size #[.int .u64 ((wd q 0:Nat):Int),.int .u64 ((wd q 1:Nat):Int),.int .u64 ((wd q 2:Nat):Int),.int .u64 ((wd q 3:Nat):Int)])/\Hid (aU base b w wr)/\w1.heap.size<wr.heap.size) (fun _ wr=>fq wr ⟨b,0,none⟩)
 ·exact⟨_,aJ,s1,lt_succ_self _,by show aD _ _ _=_;rw[ob.out];exact vQ.out,by omega,P1,S1,K1,by simp⟩
 clear P1 S1 K1 vQ;obtain⟨f,q,s',hf,HQ,cZ,P2,S2,K2,zR⟩:=hrel;rcases h1:aw 93 (aa s') with _|r
 ·have HK:=hid h1;rcases h2:cH (aa s') with _|⟨a,c,r⟩
  ·have HZ:Hid (O=none):=by
    have:=HQ.out;rw[ZW f q _ hf h1 h2] at this;show _=_;rw[HX.out,<-this]
   have H2:=hid h2;clear h1 h2 HX HQ;go_wp2_with fail;refine (nN base b acc s' d 93 _ P2.out HK.out).mono ?_;rintro e w2 ⟨rfl,rfl⟩;go_wp2_with fail;refine (zlp base b acc s' d _ P2.out (by omega) H2.out).mono ?_;rintro e w3 ⟨⟨q3,rfl⟩,k3⟩;have K3:=K2.out.trans k3;have qe:=K3.size;clear k3;go_wp2;go_ret;exact⟨K3.below (le_trans dO qe) ((Below.refl _ w3).alloc (le_refl _) _),fun _=>rfl,fun q r e=>by rw[HZ.out] at e;simp at e⟩
  obtain⟨f2,nV,jO⟩:=Vg f q _ a c r hf h1 h2;have qS:Hid (aD f2 (fun x=>q x || ar a (c+1-a) x) r=R):=by show _=_;rw[<-jO];exact HQ.out
  have H2:=hid h2;have ld:=P2.out.fq;clear h1 h2 HQ jO;go_wp2_with fail;refine (nN base b acc s' d 93 _ P2.out HK.out).mono ?_;rintro e w2 ⟨rfl,rfl⟩;go_wp2_with fail;refine (VE base b acc s' d a c r _ P2.out (by omega) H2.out).mono ?_;rintro e w3 ⟨rfl,k3,s3,mq,zK,iy⟩;have IL:=S2.out.gw k3 BZ (by decide);have qe:=k3.size;have K3:=hid ((K2.out.trans k3).below (le_trans dO (K2.out.trans k3).size) ((Below.refl _ w3).alloc (le_refl _) (.cells #[.int .u64 ((wd (ar a (c+1-a)) 0:Nat):Int),.int .u64 ((wd (ar a (c+1-a)) 1:Nat):Int),.int .u64 ((wd (ar a (c+1-a)) 2:Nat):Int),.int .u64 ((wd (ar a (c+1-a)) 3:Nat):Int)] 89)));have P3:=hid (iy.ab ((Below.refl _ w3).alloc (le_refl _) (.cells #[.int .u64 ((wd (ar a (c+1-a)) 0:Nat):Int),.int .u64 ((wd (ar a (c+1-a)) 1:Nat):Int),.int .u64 ((wd (ar a (c+1-a)) 2:Nat):Int),.int .u64 ((wd (ar a (c+1-a)) 3:Nat):Int)] 89)));have S3:=hid (IL.alloc (.cells #[.int .u64 ((wd (ar a (c+1-a)) 0:Nat):Int),.int .u64 ((wd (ar a (c+1-a)) 1:Nat):Int),.int .u64 ((wd (ar a (c+1-a)) 2:Nat):Int),.int .u64 ((wd (ar a (c+1-a)) 3:Nat):Int)] 89));have T3:=hid (St.new w3 89 #[.int .u64 ((wd (ar a (c+1-a)) 0:Nat):Int),.int .u64 ((wd (ar a (c+1-a)) 1:Nat):Int),.int .u64 ((wd (ar a (c+1-a)) 2:Nat):Int),.int .u64 ((wd (ar a (c+1-a)) 3:Nat):Int)]);obtain⟨c0,c1,c2,c3,-⟩:=bS S3.out;obtain⟨d0,d1,d2,d3,-⟩:=bS T3.out;have tm:=hid mq;clear k3 iy mq IL P2 S2 K2;go_wp2_with fail;refine (zow q (ar a (c+1-a)) _).mono ?_;rintro e w5 ⟨rfl,b5⟩;have s5:=S3.out.ab b5;have jn:=b5.size;simp at jn;obtain⟨r0,UR,Z5,U0,ZK,VQ,UC,VD⟩:=bS s5;have KK:=hid ((K3.out.below (le_trans dO K3.out.size) b5).ib (g:=w1.heap.size) (by omega) (s5.is) (by omega) (.int .u64 ((wd (fun x=>q x || ar a (c+1-a) x) 0:Nat):Int)) (.int .u64 ((wd (fun x=>q x || ar a (c+1-a) x) 1:Nat):Int)) (.int .u64 ((wd (fun x=>q x || ar a (c+1-a) x) 2:Nat):Int)) (.int .u64 ((wd (fun x=>q x || ar a (c+1-a) x) 3:Nat):Int)));have PP:=hid ((P3.out.ab b5).ib (g:=w1.heap.size) (by omega) (s5.is) (.int .u64 ((wd (fun x=>q x || ar a (c+1-a) x) 0:Nat):Int)) (.int .u64 ((wd (fun x=>q x || ar a (c+1-a) x) 1:Nat):Int)) (.int .u64 ((wd (fun x=>q x || ar a (c+1-a) x) 2:Nat):Int)) (.int .u64 ((wd (fun x=>q x || ar a (c+1-a) x) 3:Nat):Int)));have SS:=hid (s5.mo (.int .u64 ((wd (fun x=>q x || ar a (c+1-a) x) 0:Nat):Int)) (.int .u64 ((wd (fun x=>q x || ar a (c+1-a) x) 1:Nat):Int)) (.int .u64 ((wd (fun x=>q x || ar a (c+1-a) x) 2:Nat):Int)) (.int .u64 ((wd (fun x=>q x || ar a (c+1-a) x) 3:Nat):Int)));have ie:=PP.out.fq;clear b5 s5 S3 T3 K3 P3 c0 c1 c2 c3 d0 d1 d2 d3;go_wp2;go_roundw
  ·exact⟨f2,fun x=>q x || ar a (c+1-a) x,s3,by rw[tm.out];exact nV,by show aD _ _ _=_;rw[tm.out];exact qS.out,by omega,PP,SS,KK,by rw[ZR];omega⟩
  first|(simp only[ld,ie];omega)|(rw[ld,ie];omega)
 have HY:Hid (O=if ep (fun x=>!q x)=true then none else some ((fun x=>!q x),r)):=by
  have:=HQ.out;rw[V9 f q _ r hf h1] at this;show _=_;rw[HX.out,<-this]
 have HK:=hid h1;clear h1 HX HQ;go_wp2_with fail;refine (vo base b acc s' d 93 r _ P2.out HK.out (by omega)).mono ?_;rintro e w2 ⟨rfl,k2,s2,cU,cv,fF⟩;have S3:=hid (S2.out.gw k2 BZ (by decide));have K3:=hid (K2.out.trans k2);have P3:=hid fF;have kh:=hid cU;obtain⟨c0,c1,c2,c3,-⟩:=bS S3.out;have RS:=k2.size;clear k2 fF cU S2 K2 P2;go_wp2_with fail;refine (Z8 q _).mono ?_;rintro e w5 ⟨rfl,b5⟩;have s5:=S3.out.ab b5;obtain⟨r0,UR,Z5,U0,ZK,VQ,UC,VD⟩:=bS s5;have KK:=hid ((K3.out.below (le_trans dO K3.out.size) b5).ib (g:=w1.heap.size) (by omega) (s5.is) (by omega) (.int .u64 ((wd (fun x=>!q x) 0:Nat):Int)) (.int .u64 ((wd (fun x=>!q x) 1:Nat):Int)) (.int .u64 ((wd (fun x=>!q x) 2:Nat):Int)) (.int .u64 ((wd (fun x=>!q x) 3:Nat):Int)));have PP:=hid ((P3.out.ab b5).ib (g:=w1.heap.size) (by omega) (s5.is) (.int .u64 ((wd (fun x=>!q x) 0:Nat):Int)) (.int .u64 ((wd (fun x=>!q x) 1:Nat):Int)) (.int .u64 ((wd (fun x=>!q x) 2:Nat):Int)) (.int .u64 ((wd (fun x=>!q x) 3:Nat):Int)));have SS:=hid (s5.mo (.int .u64 ((wd (fun x=>!q x) 0:Nat):Int)) (.int .u64 ((wd (fun x=>!q x) 1:Nat):Int)) (.int .u64 ((wd (fun x=>!q x) 2:Nat):Int)) (.int .u64 ((wd (fun x=>!q x) 3:Nat):Int)));clear b5 s5 S3 K3 P3 c0 c1 c2 c3;go_wp2_with fail;generalize ((((w5.setCell _ _).setCell _ _).setCell _ _).setCell _ _)=w6 at KK PP SS⊢;obtain⟨c0,c1,c2,c3,-⟩:=bS SS.out;go_wp2_with fail;refine (E8 base b acc s2 d 1 (fun x=>!q x) _ PP.out uA).mono ?_;rintro e w7 ⟨rfl,F6,k7⟩;have s7:=SS.out.gw k7 BZ (by decide);have K7:=hid (KK.out.trans k7);have P7:=hid F6;clear c0 c1 c2 c3 k7 F6 KK PP SS;obtain⟨c0,c1,c2,c3,-⟩:=bS s7;obtain⟨o,ho⟩:∃o,ep (fun x=>!q x)=o:=⟨_,rfl⟩
 have HO:=hid ho;clear ho;go_wp2_with fail;refine (QE (fun x=>!q x) o HO.out _).mono ?_;rintro e w8 ⟨rfl,b8⟩;have K8:=K7.out.below (le_trans dO K7.out.size) b8;have P8:=P7.out.ab b8;rcases o with _|_
 ·have HZ:Hid (O=some ((fun x=>!q x),r)):=by show _=_;rw[HY.out,HO.out];rfl
  go_wp2;go_ret;refine⟨K8,fun e=>by rw[HZ.out] at e;simp at e,fun q' r' e=>?_⟩;rw[HZ.out] at e;simp only[Option.some.injEq,Prod.mk.injEq] at e;obtain⟨rfl,rfl⟩:=e;exact⟨rfl,s2,kh.out,P8⟩
 have HZ:Hid (O=none):=by show _=_;rw[HY.out,HO.out];rfl
 go_wp2;go_ret;exact⟨K8,fun _=>rfl,fun q' r' e=>by rw[HZ.out] at e;simp at e⟩
theorem zpx(base b:Nat)(acc:List Pc)(s:ByteArray)(d:Nat)(w:World)(h:eP base b acc s d w)(hs:s.size<=10000)(uA:acc.length<=10000):
  Calls prog 162 #[.pointer (some ⟨b,0,none⟩)] w (Jh base b acc d (dW (aa s)) w):=by
 rcases h0:aw 94 (aa s) with _|rr
 ·exact zpv base b acc s d h0 w h hs uA
 exact zpw base b acc s d rr h0 w h hs uA
def bu(base b d:Nat)(o:Option bc)(w:World)(e:Ending)(w':World):Prop:=
 aU base b w w'/\(o=none->e=.returned (.bool false))/\∀x,o=some x->e=.returned (.bool true)/\∃s',aa s'=x.2/\eP base b x.1 s' d w'
def uG(f:Nat)(g:bc->Option bc)(d:Nat):Prop:=∀(base b:Nat) (acc:List Pc) (s:ByteArray) (w:World),eP base b acc s d w->s.size<=2000->acc.length+2*s.size<=9000->
 Calls prog f #[.pointer (some ⟨b,0,none⟩)] w (bu base b d (g (acc,aa s)) w)
theorem bu.no{base b:Nat}{o:Option bc}(k:aU base b w w')(h:o=none):bu base b d o w (.returned (.bool false)) w':=⟨k,fun _=>rfl,fun x e=>by rw[h] at e;simp at e⟩
theorem bu.yes{base b:Nat}{o:Option bc}{x:bc}{s':ByteArray}(k:aU base b w w')(h:o=some x)(hn:aa s'=x.2)(hp:eP base b x.1 s' d w'):bu base b d o w (.returned (.bool true)) w':=
 ⟨k,fun e=>by rw[h] at e;simp at e,fun y e=>by rw[h] at e;simp at e;subst e;exact⟨rfl,s',hn,hp⟩⟩
theorem zpy:(Value.agg #[.int .u64 0,.int .u64 0,.int .u64 0,.int .u64 0])=(.agg #[.int .u64 ((wd aJ 0:Nat):Int),.int .u64 ((wd aJ 1:Nat):Int),.int .u64 ((wd aJ 2:Nat):Int),.int .u64 ((wd aJ 3:Nat):Int)]):=by rw[KA 89]
theorem NO(base b:Nat)(acc:List Pc)(s:ByteArray)(d:Nat)(k:Int)(w:World)(h:eP base b acc s d w)(hl:acc.length<=10000):
  Calls prog 122 #[.pointer (some ⟨b,0,none⟩),.int .i64 k,.agg #[.int .u64 0,.int .u64 0,.int .u64 0,.int .u64 0]] w fun e w'=>e=.returned (.tuple #[])/\eP base b (acc++[⟨k,aJ⟩]) s d w'/\aU base b w w':=by
 rw[zpy];exact E8 base b acc s d k aJ w h hl
theorem F4(c:Nat)(hc:c<256):(c=42/\ig ⟨#[42,43,63]⟩ c=0/\eC c=some 4)\/(c=43/\ig ⟨#[42,43,63]⟩ c=1/\eC c=some 5)\/(c=63/\ig ⟨#[42,43,63]⟩ c=2/\eC c=some 6)\/(ig ⟨#[42,43,63]⟩ c<0/\eC c=none):=by
 by_cases h1:c=42
 ·subst h1;exact inl ⟨rfl,by decide,by decide⟩
 by_cases h2:c=43
 ·subst h2;exact inr (inl ⟨rfl,by decide,by decide⟩)
 by_cases h3:c=63
 ·subst h3;exact inr (inr (inl ⟨rfl,by decide,by decide⟩))
 refine inr (inr (inr ⟨?_,by simp[eC,h1,h2,h3]⟩));have:=TM ⟨#[42,43,63]⟩ c hc;have e:fW ⟨#[42,43,63]⟩ c=false:=by
  unfold fW;simp;omega
 rw[e] at this;simpa using this
theorem zgF(c:Nat)(r:List Nat)(acc:List Pc)(k:Int)(h:eC c=some k):bx (c :: r) acc=bx r (acc++[⟨k,aJ⟩]):=by simp only[bx,h]
theorem zhK(c:Nat)(r:List Nat)(acc:List Pc)(h:eC c=none):bx (c :: r) acc=(acc,c :: r):=by simp only[bx,h]
theorem Wm(atom:bc->Option bc)(d:Nat)(hd:ml atom)(ha:uG 154 atom d):uG 145 (cq atom) d:=by
 intro base b acc s w h hs hl;have HX:Hid (cq atom (acc,aa s)=match atom (acc,aa s) with
  | none=>none
  | some x=>some (bx x.2 x.1)):=by show _=_;unfold cq;rfl
 have HD:=hid (fun x=>hd (acc,aa s) x);generalize cq atom (acc,aa s)=O at HX⊢;have hA:=ha base b acc s w h hs hl;have HS:=hid (nZ s);have hB:=h.1;clear ha hd;generalize atom (acc,aa s)=A at HX HD hA;have HA:=hid hA;clear hA h;go_in;go_wp2_with fail;refine HA.out.mono ?_;rintro e w1 ⟨k1,h1,h2⟩;rcases A with _|⟨j8,r1⟩
 ·obtain rfl:=h1 rfl;have HZ:=HX.out;go_wp2;go_ret;exact bu.no k1 HZ
 obtain⟨rfl,s1,da,fK⟩:=h2 _ rfl;have tP:=HD.out _ rfl;simp only[HS.out] at tP;simp only at da fK;have kM:s1.size=r1.length:=by rw[<-nZ,da]
 have HZ:Hid (O=some (bx (aa s1) j8)):=by show _=_;rw[HX.out,da]
 obtain⟨R,hR⟩:∃R,bx (aa s1) j8=R:=⟨_,rfl⟩
 rw[hR] at HZ;have HR:=hid hR;have P1:=hid fK;have K1:=hid k1;have mC:s1.size+1<=s.size:=by omega
 have jv:j8.length+2*s1.size<=9000:=by omega
 clear hR fK k1 HX HD h1 h2 tP da kM;go_wp2;go_loopw [3] (fun _ wr=>∃(eD:List Pc) (s':ByteArray),Hid (bx (aa s') eD=R)/\s'.size<=s1.size/\eD.length+2*s'.size<=9000/\Hid (eP base b eD s' d wr)/\Hid (aU base b w wr)) (fun _ wr=>fq wr ⟨b,0,none⟩)
 ·exact⟨j8,s1,HR,le_refl _,jv,P1,K1⟩
 clear P1 K1 HR;obtain⟨eD,s',HQ,cZ,tu,P2,K2⟩:=hrel;obtain⟨c0,f0⟩:=P2.out.rest;rcases eq_zero_or_pos s'.size with hz|hp
 ·have ko:s'.toList=[]:=Kr s' hz;have gy:(!s'.toList.isEmpty)=false:=by rw[ko];rfl
  have HF:Hid (O=some (eD,[])):=by
   show _=_;have:=HQ.out;rw[MC s' hz] at this;rw[HZ,<-this];rfl
  have HN:Hid (aa s'=[]):=MC s' hz;clear hz ko HQ;go_wp2;go_ret;exact bu.yes K2.out HF.out HN.out P2.out
 have ko:s'.toList.isEmpty=false:=yY s' hp;have gy:(!s'.toList.isEmpty)=true:=by rw[ko];rfl
 have hc:=UInt8.toNat_lt s'[0];have A3:=JT s' hp;have HE:Hid (aa (s'.extract 1 s'.size)=(aa s').drop 1):=by show _=_;rw[EU]
 have hez:(s'.extract 1 s'.size).size+1=s'.size:=by rw[ByteArray.size_extract];omega
 have ld:=P2.out.fq;have P3:=hid (P2.out.kY (s'.extract 1 s'.size));have K3:=hid (K2.out.set hB 0 (.string (s'.extract 1 s'.size)));rcases F4 s'[0].toNat hc with ⟨e,hw,hk⟩|⟨e,hw,hk⟩|⟨e,hw,hk⟩|⟨hw,hk⟩
 all_goals
  have HW:=hid hw
  have HK:=hid hk
  have HC:=hid A3
  first|clear e|skip
  clear hw hk A3
 rotate_right
 ·have HF:Hid (O=some (eD,aa s')):=by
   show _=_;have:=HQ.out;rw[HC.out,zhK _ _ _ HK.out] at this;rw[HZ,<-this,<-HC.out]
  obtain⟨x,hx⟩:∃x,ig ⟨#[42,43,63]⟩ s'[0].toNat=x:=⟨_,rfl⟩
  have nh:x<0:=by rw[<-hx];exact HW.out
  have HXX:=hid hx;clear hx HQ;go_wp2_with fail;refine (LP _ _ _).mono ?_;rintro e w2 ⟨rfl,rfl⟩;rw[HXX.out];go_wp2;go_ret;exact bu.yes K2.out HF.out rfl P2.out
 all_goals
  go_wp2_with fail
  refine (LP _ _ _).mono ?_
  rintro e w2 ⟨rfl,rfl⟩
  rw[HW.out]
  go_wp2_with fail
  refine (NO base b eD (s'.extract 1 s'.size) d _ _ P3.out (by omega)).mono ?_
  rintro e w3 ⟨rfl,iy,k3⟩
  have P4:=hid iy
  have K4:=hid (K3.out.trans k3)
  have ie:=iy.fq
  clear iy k3
  go_wp2
  go_roundw
  case rel=>exact⟨_,s'.extract 1 s'.size,by show bx _ _=_;rw[HE.out,<-zgF _ _ _ _ HK.out,<-HC.out];exact HQ.out,by omega,by simp;omega,P4,K4⟩
  case measure=>first|(simp only[ld,ie];omega)|(rw[ld,ie];omega)
theorem zhL(atom:bc->Option bc)(f:Nat)(s:bc)(hf:s.2.length<f)(h:gm s.2=true):aY atom f s=some s:=by
 match f,hf with
 | f+1,hf=>unfold aY;rw[if_pos h]
theorem zjL(atom:bc->Option bc)(f:Nat)(s:bc)(hf:s.2.length<f)(h:gm s.2=false)(h1:cq atom s=none):aY atom f s=none:=by
 match f,hf with
 | f+1,hf=>simp[aY,h,h1]
theorem zgG(atom:bc->Option bc)(f:Nat)(s x:bc)(hd:ml atom)(hf:s.2.length<f)(h:gm s.2=false)(h1:cq atom s=some x):∃g,x.2.length<g/\aY atom f s=aY atom g (x.1++[⟨2,aJ⟩],x.2):=by
 match f,hf with
 | f+1,hf=>
  have:=(CN hd s x h1).1;exact⟨f,by omega,by simp[aY,h,h1]⟩
theorem XT(atom:bc->Option bc)(d:Nat)(hd:ml atom)(ha:uG 145 (cq atom) d):uG 120 (cm atom) d:=by
 intro base b acc s w h hs hl;have HX:Hid (cm atom (acc,aa s)=match cq atom (acc,aa s) with
  | none=>none
  | some x=>aY atom (x.2.length+1) x):=by show _=_;unfold cm;rfl
 have HD:=hid (fun s x=>CN hd s x);have PL:=hid hd;generalize cm atom (acc,aa s)=O at HX⊢;have hA:=ha base b acc s w h hs hl;have HS:=hid (nZ s);have hB:=h.1;have ux:=hid ha;have CB:=hid (fun x=>HD.out (acc,aa s) x);clear ha hd;generalize cq atom (acc,aa s)=A at HX CB hA;have HA:=hid hA;clear hA h;go_in;go_wp2_with fail;refine HA.out.mono ?_;rintro e w1 ⟨k1,h1,h2⟩;rcases A with _|⟨j8,r1⟩
 ·obtain rfl:=h1 rfl;have HZ:=HX.out;go_wp2;go_ret;exact bu.no k1 HZ
 obtain⟨rfl,s1,da,fK⟩:=h2 _ rfl;have tP:=CB.out _ rfl;simp only[HS.out] at tP;simp only at da fK;have kM:s1.size=r1.length:=by rw[<-nZ,da]
 obtain⟨R,hR⟩:∃R,aY atom ((aa s1).length+1) (j8,aa s1)=R:=⟨_,rfl⟩
 have HZ:Hid (O=R):=by show _=_;rw[HX.out,<-hR,da]
 have HR:=hid hR;have P1:=hid fK;have K1:=hid k1;have mC:s1.size+1<=s.size:=by omega
 have jv:j8.length+2*s1.size<=9000:=by omega
 clear hR fK k1 HX CB h1 h2 tP da kM;go_wp2;go_loopw [30] (fun _ wr=>∃(f:Nat) (eD:List Pc) (s':ByteArray),(aa s').length<f/\Hid (aY atom f (eD,aa s')=R)/\s'.size<=s1.size/\eD.length+2*s'.size<=9000/\Hid (eP base b eD s' d wr)/\Hid (aU base b w wr)) (fun _ wr=>fq wr ⟨b,0,none⟩)
 ·exact⟨_,j8,s1,lt_succ_self _,HR,le_refl _,jv,P1,K1⟩
 clear P1 K1 HR;obtain⟨f,eD,s',hf,HQ,cZ,tu,P2,K2⟩:=hrel;obtain⟨c0,f0⟩:=P2.out.rest;have lj:gm (aa s')=true\/(gm (aa s')=false/\∃h:0<s'.size,s'[0].toNat≠124/\s'[0].toNat≠41):=by
  rcases eq_zero_or_pos s'.size with hz|hp
  ·left;rw[MC s' hz];rfl
  rw[JT s' hp];by_cases h1:s'[0].toNat=124
  ·left;simp[gm,h1]
  by_cases h2:s'[0].toNat=41
  ·left;simp[gm,h2]
  right;exact⟨by simp[gm,h1,h2],hp,h1,h2⟩
 rcases lj with lj|⟨lj,hp,h1,h2⟩
 ·have HF:Hid (O=some (eD,aa s')):=by
   show _=_;rw[HZ.out,<-HQ.out,zhL atom f _ hf lj]
  rcases eq_zero_or_pos s'.size with hz|hp
  ·have ko:s'.toList=[]:=Kr s' hz;have gy:(!s'.toList.isEmpty)=false:=(by rw[ko];rfl);clear hz ko HQ lj;go_wp2;go_ret;exact bu.yes K2.out HF.out rfl P2.out
  have ko:s'.toList.isEmpty=false:=yY s' hp;have gy:(!s'.toList.isEmpty)=true:=by rw[ko];rfl
  rw[JT s' hp] at lj;by_cases h1:s'[0].toNat=124
  ·have e1:((s'[0].toNat:Int) != 124)=false:=(by simp;omega);clear HQ lj h1;go_wp2;go_ret;exact bu.yes K2.out HF.out rfl P2.out
  have h2:s'[0].toNat=41:=by simpa [gm,h1] using lj
  have e1:((s'[0].toNat:Int) != 124)=true:=by simp;omega
  have e2:((s'[0].toNat:Int) != 41)=false:=by simp;omega
  clear HQ lj h1 h2;go_wp2;go_ret;exact bu.yes K2.out HF.out rfl P2.out
 have ko:s'.toList.isEmpty=false:=yY s' hp;have gy:(!s'.toList.isEmpty)=true:=by rw[ko];rfl
 have e1:((s'[0].toNat:Int) != 124)=true:=by simp;omega
 have e2:((s'[0].toNat:Int) != 41)=true:=by simp;omega
 have HEnd:=hid lj;have HS':=hid (nZ s');have ld:=P2.out.fq;have hA:=ux.out base b eD s' _ P2.out (by omega) tu;rcases hr:cq atom (eD,aa s') with _|⟨ve,r2⟩
 ·rw[hr] at hA;have iD:=hid hA;have HF:Hid (O=none):=by
   show _=_;rw[HZ.out,<-HQ.out,zjL atom f _ hf lj hr]
  clear hA hr lj h1 h2 HQ;go_wp2_with fail;refine iD.out.mono ?_;rintro e w2 ⟨k2,h1,-⟩;obtain rfl:=h1 rfl;go_wp2;go_ret;exact bu.no (K2.out.trans k2) HF.out
 have tP:=HD.out _ _ hr;simp only[HS'.out] at tP;obtain⟨f2,nV,jO⟩:=zgG atom f _ _ PL.out hf lj hr;have qS:Hid (aY atom f2 (ve++[⟨2,aJ⟩],r2)=R):=by show _=_;rw[<-jO];exact HQ.out
 rw[hr] at hA;have iD:=hid hA;clear hA hr lj h1 h2 HQ jO;go_wp2_with fail;refine iD.out.mono ?_;rintro e w2 ⟨k2,-,h2⟩;obtain⟨rfl,s2,cU,fF⟩:=h2 _ rfl;simp only at cU fF nV;have tN:s2.size=r2.length:=by rw[<-nZ,cU]
 have kh:=hid cU;have P3:=hid fF;have K3:=hid (K2.out.trans k2);clear k2 h2 cU fF;go_wp2_with fail;refine (NO base b ve s2 d _ _ P3.out (by omega)).mono ?_;rintro e w3 ⟨rfl,iy,k3⟩;have P4:=hid iy;have K4:=hid (K3.out.trans k3);have ie:=iy.fq;clear iy k3;go_wp2;go_roundw
 ·exact⟨f2,_,s2,by rw[kh.out];exact nV,by show aY _ _ _=_;rw[kh.out];exact qS.out,by omega,by simp;omega,P4,K4⟩
 first|(simp only[ld,ie];omega)|(rw[ld,ie];omega)
theorem zhM(atom:bc->Option bc)(f:Nat)(s:bc)(hf:s.2.length<f)(h:aw 124 s.2=none):aX atom f s=some s:=by
 match f,hf with
 | f+1,hf=>simp only[aX,h]
theorem zjM(atom:bc->Option bc)(f:Nat)(s:bc)(r:List Nat)(hf:s.2.length<f)(h:aw 124 s.2=some r)(h1:cm atom (s.1,r)=none):aX atom f s=none:=by
 match f,hf with
 | f+1,hf=>simp only[aX,h,h1]
theorem zgH(atom:bc->Option bc)(f:Nat)(s x:bc)(r:List Nat)(hd:ml atom)(hf:s.2.length<f)(h:aw 124 s.2=some r)(h1:cm atom (s.1,r)=some x):∃g,x.2.length<g/\aX atom f s=aX atom g (x.1++[⟨3,aJ⟩],x.2):=by
 match f,hf with
 | f+1,hf=>
  have h2:=(D5 hd _ x h1).1;have h3:=vf h;rw[h3] at hf;simp at h2 hf;exact⟨f,by omega,by simp only[aX,h,h1]⟩
theorem ZP(atom:bc->Option bc)(d:Nat)(hd:ml atom)(ha:uG 120 (cm atom) d):uG 83 (bh atom) d:=by
 intro base b acc s w h hs hl;have HX:Hid (bh atom (acc,aa s)=match cm atom (acc,aa s) with
  | none=>none
  | some x=>aX atom (x.2.length+1) x):=by show _=_;unfold bh;rfl
 have HD:=hid (fun s x=>D5 hd s x);have PL:=hid hd;generalize bh atom (acc,aa s)=O at HX⊢;have hA:=ha base b acc s w h hs hl;have HS:=hid (nZ s);have hB:=h.1;have ux:=hid ha;have CB:=hid (fun x=>HD.out (acc,aa s) x);clear ha hd;generalize cm atom (acc,aa s)=A at HX CB hA;have HA:=hid hA;clear hA h;go_in;go_wp2_with fail;refine HA.out.mono ?_;rintro e w1 ⟨k1,h1,h2⟩;rcases A with _|⟨j8,r1⟩
 ·obtain rfl:=h1 rfl;have HZ:=HX.out;go_wp2;go_ret;exact bu.no k1 HZ
 obtain⟨rfl,s1,da,fK⟩:=h2 _ rfl;have tP:=CB.out _ rfl;simp only[HS.out] at tP;simp only at da fK;have kM:s1.size=r1.length:=by rw[<-nZ,da]
 obtain⟨R,hR⟩:∃R,aX atom ((aa s1).length+1) (j8,aa s1)=R:=⟨_,rfl⟩
 have HZ:Hid (O=R):=by show _=_;rw[HX.out,<-hR,da]
 have HR:=hid hR;have P1:=hid fK;have K1:=hid k1;have mC:s1.size+1<=s.size:=by omega
 have jv:j8.length+2*s1.size<=9000:=by omega
 clear hR fK k1 HX CB h1 h2 tP da kM;go_wp2;go_loopw [11] (fun _ wr=>∃(f:Nat) (eD:List Pc) (s':ByteArray),(aa s').length<f/\Hid (aX atom f (eD,aa s')=R)/\s'.size<=s1.size/\eD.length+2*s'.size<=9000/\Hid (eP base b eD s' d wr)/\Hid (aU base b w wr)) (fun _ wr=>fq wr ⟨b,0,none⟩)
 ·exact⟨_,j8,s1,lt_succ_self _,HR,le_refl _,jv,P1,K1⟩
 clear P1 K1 HR;obtain⟨f,eD,s',hf,HQ,cZ,tu,P2,K2⟩:=hrel;rcases hk:aw 124 (aa s') with _|r
 ·have HK:=hid hk;have HF:Hid (O=some (eD,aa s')):=by
   show _=_;rw[HZ.out,<-HQ.out,zhM atom f (eD,aa s') hf hk]
  clear hk HQ;go_wp2_with fail;refine (nN base b eD s' d 124 _ P2.out HK.out).mono ?_;rintro e w2 ⟨rfl,rfl⟩;go_wp2;go_ret;exact bu.yes K2.out HF.out rfl P2.out
 have HK:=hid hk;have ld:=P2.out.fq;rcases hr:cm atom (eD,r) with _|⟨ve,r2⟩
 ·have HF:Hid (O=none):=by
   show _=_;rw[HZ.out,<-HQ.out,zjM atom f (eD,aa s') r hf hk hr]
  have D9:=hid hr;clear hk hr HQ;go_wp2_with fail;refine (vo base b eD s' d 124 r _ P2.out HK.out (by omega)).mono ?_;rintro e w2 ⟨rfl,k2,s2,cU,cv,fF⟩;have hA:=ux.out base b eD s2 _ fF (by omega) (by omega);rw[cU,D9.out] at hA;have iD:=hid hA;have K3:=hid (K2.out.trans k2);clear hA k2 fF cU;go_wp2_with fail;refine iD.out.mono ?_;rintro e w3 ⟨k3,h1,-⟩;obtain rfl:=h1 rfl;go_wp2;go_ret;exact bu.no (K3.out.trans k3) HF.out
 have tP:=HD.out _ _ hr;obtain⟨f2,nV,jO⟩:=zgH atom f (eD,aa s') (ve,r2) r PL.out hf hk hr;have qS:Hid (aX atom f2 (ve++[⟨3,aJ⟩],r2)=R):=by show _=_;rw[<-jO];exact HQ.out
 have D9:=hid hr;clear hk hr HQ jO;go_wp2_with fail;refine (vo base b eD s' d 124 r _ P2.out HK.out (by omega)).mono ?_;rintro e w2 ⟨rfl,k2,s2,cU,cv,fF⟩;have hrz:s2.size=r.length:=by rw[<-nZ,cU]
 have hA:=ux.out base b eD s2 _ fF (by omega) (by omega);rw[cU,D9.out] at hA;have iD:=hid hA;have K3:=hid (K2.out.trans k2);clear hA k2 fF cU;go_wp2_with fail;refine iD.out.mono ?_;rintro e w3 ⟨k3,-,h2⟩;obtain⟨rfl,s3,mq,iy⟩:=h2 _ rfl;simp only at mq iy nV tP;have qe:s3.size=r2.length:=by rw[<-nZ,mq]
 have tm:=hid mq;have P3:=hid iy;have K4:=hid (K3.out.trans k3);clear k3 h2 mq iy;go_wp2_with fail;refine (NO base b ve s3 d _ _ P3.out (by omega)).mono ?_;rintro e w4 ⟨rfl,yE,k4⟩;have P4:=hid yE;have K5:=hid (K4.out.trans k4);have ie:=yE.fq;clear yE k4;go_wp2;go_roundw
 ·exact⟨f2,_,s3,by rw[tm.out];exact nV,by show aX _ _ _=_;rw[tm.out];exact qS.out,by omega,by simp;omega,P4,K5⟩
 first|(simp only[ld,ie];omega)|(rw[ld,ie];omega)
theorem znc:uG 161 (fun _=>none) 99:=by
 intro base b acc s w h hs hl;obtain⟨c2,f2⟩:=h.depth;have gp:=h.lt;have K1:=hid ((aU.refl base b w).set h.1 2 (.int .i64 (100:Int)));clear h;go_in;go_wp2;go_ret;exact bu.no K1.out rfl
theorem znd(atom:bc->Option bc)(d:Nat)(hd99:d<99)(hd:ml atom)(ha:uG 83 (bh atom) (d+1)):uG 161 (dZ atom) d:=by
 intro base b acc s w h hs hl;obtain⟨c2,f2⟩:=h.depth;have gp:=h.lt;have hB:=h.1;have K1:=hid ((aU.refl base b w).set h.1 2 (.int .i64 ((d+1:Nat):Int)));have fK:=h.rn (d+1);have HX:Hid (dZ atom (acc,aa s)=match bh atom (acc,aa s) with
  | none=>none
  | some x=>match aw 41 x.2 with
   | none=>none
   | some r=>some (x.1,r)):=by show _=_;unfold dZ;rfl
 have HD:=hid (fun x=>Oe hd (acc,aa s) x);have HS:=hid (nZ s);generalize dZ atom (acc,aa s)=O at HX⊢;have hA:=ha base b acc s _ fK hs hl;generalize bh atom (acc,aa s)=A at HX HD hA;have HA:=hid hA;have e1:(d:Int)+1=((d+1:Nat):Int):=by omega
 obtain⟨m,hm⟩:∃m,d+1=m:=⟨_,rfl⟩
 have hm99:m<=99:=by omega
 have iF:1<=m:=by omega
 have ed:(m:Int)-1=(d:Int):=by omega
 rw[hm] at e1 HA K1 fK;have P1:=hid fK;obtain⟨d2,g2⟩:=fK.depth;clear h hA ha fK hm hd;go_in;go_wp2_with fail;refine HA.out.mono ?_;rintro e w1 ⟨k1,h1,h2⟩;have K2:=hid (K1.out.trans k1);rcases A with _|⟨j8,r1⟩
 ·obtain rfl:=h1 rfl;have HZ:=HX.out;clear HA K1 P1 k1 h1 h2;go_wp2;go_ret;exact bu.no K2.out HZ
 obtain⟨rfl,s1,da,fK⟩:=h2 _ rfl;have tP:=HD.out _ rfl;simp only[HS.out] at tP;simp only at da fK;have kM:s1.size=r1.length:=by rw[<-nZ,da]
 have P2:=hid fK;clear HA K1 P1 k1 h1 h2 fK d2 g2;rcases hk:aw 41 (aa s1) with _|r
 ·have HF:Hid (O=none):=by show _=_;rw[HX.out];simp only[<-da,hk]
  have HK:=hid hk;clear hk;go_wp2_with fail;refine (nN base b j8 s1 m 41 _ P2.out HK.out).mono ?_;rintro e w2 ⟨rfl,rfl⟩;go_wp2;go_ret;exact bu.no K2.out HF.out
 have HF:Hid (O=some (j8,r)):=by show _=_;rw[HX.out];simp only[<-da,hk]
 have HK:=hid hk;clear hk;go_wp2_with fail;refine (vo base b j8 s1 m 41 r _ P2.out HK.out (by omega)).mono ?_;rintro e w2 ⟨rfl,k2,s2,cU,cv,fF⟩;obtain⟨d3,g3⟩:=fF.depth;have P3:=hid (fF.rn d);have K3:=hid ((K2.out.trans k2).set hB 2 (.int .i64 (d:Int)));have kh:=hid cU;clear k2 fF cU;go_wp2;go_ret;exact bu.yes K3.out HF.out kh.out P3.out
theorem AP(c:Nat)(hc:c<256)(w:World):Kv (w.alloc (.cells #[.int .u8 (c:Int)] 5)) (some ⟨w.heap.size,0,none⟩) 1 (fun _=>c):=by
 intro _;refine⟨w.heap.size,0,rfl,by simp,fun j hj=>?_⟩;obtain rfl:j=0:=by omega
 refine⟨?_,hc⟩;have h:(w.alloc (.cells #[.int .u8 (c:Int)] 5)).heap[w.heap.size]?=some (.cells #[.int .u8 (c:Int)] 5 (0,0)):=St.new w _ _;rw[Nat.zero_add,cell_of_heap h];rfl
theorem Vw(group:bc->Option bc)(d:Nat)(ha:uG 161 group d):uG 154 (aW group) d:=by
 intro base b acc s w h hs hl;have hB:=h.1;have dO:=h.low;have P0:=hid h;have ux:=hid ha;have HX:Hid (aW group (acc,aa s)=aW group (acc,aa s)):=rfl;obtain⟨O,hO⟩:∃O,aW group (acc,aa s)=O:=⟨_,rfl⟩
 rw[hO];unfold aW at hO;simp only at hO;clear ha h HX;rcases h1:aw 46 (aa s) with _|r
 ·rw[h1] at hO;simp only at hO;have H1:=hid h1;clear h1;rcases h2:aw 126 (aa s) with _|r
  ·rw[h2] at hO;simp only at hO;have H2:=hid h2;clear h2;rcases h3:aw 40 (aa s) with _|r
   ·rw[h3] at hO;simp only at hO;have H3:=hid h3;clear h3;rcases h4:aw 91 (aa s) with _|r
    ·rw[h4] at hO;simp only at hO;have H4:=hid h4;clear h4;rcases h5:aI nC (aa s) with _|⟨c,r⟩
     ·rw[h5] at hO;simp only at hO;have H5:=hid h5;have HF:=hid hO.symm;clear h5 hO;go_in;go_wp2_with fail;refine (nN base b acc s d 46 _ P0.out H1.out).mono ?_;rintro e w2 ⟨rfl,rfl⟩;go_wp2_with fail;refine (nN base b acc s d 126 _ P0.out H2.out).mono ?_;rintro e w2 ⟨rfl,rfl⟩;go_wp2_with fail;refine (nN base b acc s d 40 _ P0.out H3.out).mono ?_;rintro e w2 ⟨rfl,rfl⟩;go_wp2_with fail;refine (nN base b acc s d 91 _ P0.out H4.out).mono ?_;rintro e w2 ⟨rfl,rfl⟩;go_wp2_with fail;refine (O5 base b acc s nC d _ P0.out (by omega) H5.out).mono ?_;rintro e w2 ⟨rfl,b2⟩;have K2:=hid ((aU.refl base b w).below dO b2);have P2:=hid (P0.out.ab b2);have rm:=P2.out.low;clear b2;go_wp2_with fail;refine (Wt _ 1 1 (fun _=>0) _ (AP 0 (by decide) w2) (by decide)).mono ?_;rintro e w3 ⟨rfl,b3⟩;have vI:Below w2.heap.size w2 w3:=((Below.refl _ w2).alloc (le_refl _) _).trans (b3.mono (by simp));have K3:=hid (K2.out.below rm vI);have P3:=hid (P2.out.ab vI);clear b3 vI;go_wp2_with fail;refine (E8 base b acc s d 1 _ _ P3.out (by omega)).mono ?_;rintro e w4 ⟨rfl,yE,k4⟩;go_wp2;go_ret;exact bu.no (K3.out.trans k4) HF.out
     rw[h5] at hO;simp only at hO;have H5:=hid h5;have HF:=hid hO.symm;clear h5 hO;go_in;go_wp2_with fail;refine (nN base b acc s d 46 _ P0.out H1.out).mono ?_;rintro e w2 ⟨rfl,rfl⟩;go_wp2_with fail;refine (nN base b acc s d 126 _ P0.out H2.out).mono ?_;rintro e w2 ⟨rfl,rfl⟩;go_wp2_with fail;refine (nN base b acc s d 40 _ P0.out H3.out).mono ?_;rintro e w2 ⟨rfl,rfl⟩;go_wp2_with fail;refine (nN base b acc s d 91 _ P0.out H4.out).mono ?_;rintro e w2 ⟨rfl,rfl⟩;go_wp2_with fail;refine (CH base b acc s nC d c r _ P0.out (by omega) H5.out).mono ?_;rintro e w2 ⟨rfl,hc,k2,s2,cU,cv,fF⟩;have K2:=hid k2;have P2:=hid fF;have kh:=hid cU;have rm:=fF.low;clear k2 fF cU;go_wp2_with fail;refine (Wt _ 1 1 (fun _=>c) _ (AP c hc w2) (by decide)).mono ?_;rintro e w3 ⟨rfl,b3⟩;have vI:Below w2.heap.size w2 w3:=((Below.refl _ w2).alloc (le_refl _) _).trans (b3.mono (by simp));have K3:=hid (K2.out.below rm vI);have P3:=hid (P2.out.ab vI);clear b3 vI;go_wp2_with fail;refine (E8 base b acc s2 d 1 _ _ P3.out (by omega)).mono ?_;rintro e w4 ⟨rfl,yE,k4⟩;go_wp2;go_ret;exact bu.yes (K3.out.trans k4) HF.out kh.out yE
    rw[h4] at hO;simp only at hO;have H4:=hid h4;have HSR:Hid (∀s2,aa s2=r->aa s2=r):=(fun _ h=>h);clear h4;have HO:=hid hO;clear hO;go_in;go_wp2_with fail;refine (nN base b acc s d 46 _ P0.out H1.out).mono ?_;rintro e w2 ⟨rfl,rfl⟩;go_wp2_with fail;refine (nN base b acc s d 126 _ P0.out H2.out).mono ?_;rintro e w2 ⟨rfl,rfl⟩;go_wp2_with fail;refine (nN base b acc s d 40 _ P0.out H3.out).mono ?_;rintro e w2 ⟨rfl,rfl⟩;go_wp2_with fail;refine (vo base b acc s d 91 r _ P0.out H4.out (by omega)).mono ?_;rintro e w2 ⟨rfl,k2,s2,cU,cv,fF⟩;have rq:=zpx base b acc s2 d _ fF (by omega) (by omega);rw[cU] at rq;have Te:=hid rq;clear rq;go_wp2_with fail;refine Te.out.mono ?_;rintro e w3 ⟨k3,g1,g2⟩;have hO:=HO.out;rcases h5:dW r with _|⟨q,r1⟩
    ·rw[h5] at hO;simp only at hO;obtain rfl:=g1 h5;have HF:=hid hO.symm;clear hO h5 HO;go_wp2;go_ret;exact bu.no (k2.trans k3) HF.out
    rw[h5] at hO;simp only at hO;obtain⟨rfl,s3,mq,iy⟩:=g2 _ _ h5;have HF:=hid hO.symm;clear hO h5 HO;go_wp2;go_ret;exact bu.yes (k2.trans k3) HF.out mq iy
   rw[h3] at hO;simp only at hO;have H3:=hid h3;have HO:=hid hO;clear h3 hO;go_in;go_wp2_with fail;refine (nN base b acc s d 46 _ P0.out H1.out).mono ?_;rintro e w2 ⟨rfl,rfl⟩;go_wp2_with fail;refine (nN base b acc s d 126 _ P0.out H2.out).mono ?_;rintro e w2 ⟨rfl,rfl⟩;go_wp2_with fail;refine (vo base b acc s d 40 r _ P0.out H3.out (by omega)).mono ?_;rintro e w2 ⟨rfl,k2,s2,cU,cv,fF⟩;have hA:=ux.out base b acc s2 _ fF (by omega) (by omega);rw[cU,HO.out] at hA;have HA:=hid hA;clear hA;go_wp2_with fail;refine HA.out.mono ?_;rintro e w3 ⟨k3,g1,g2⟩;rcases O with _|⟨acc3,r3⟩
   ·obtain rfl:=g1 rfl;go_wp2;go_ret;exact bu.no (k2.trans k3) rfl
   obtain⟨rfl,s3,mq,iy⟩:=g2 _ rfl;go_wp2;go_ret;exact bu.yes (k2.trans k3) rfl mq iy
  rw[h2] at hO;simp only at hO;have H2:=hid h2;have HF:=hid hO.symm;clear h2 hO;go_in;go_wp2_with fail;refine (nN base b acc s d 46 _ P0.out H1.out).mono ?_;rintro e w2 ⟨rfl,rfl⟩;go_wp2_with fail;refine (vo base b acc s d 126 r _ P0.out H2.out (by omega)).mono ?_;rintro e w2 ⟨rfl,k2,s2,cU,cv,fF⟩;have P2:=hid fF;clear fF;go_wp2_with fail;refine (NO base b acc s2 d 0 _ P2.out (by omega)).mono ?_;rintro e w4 ⟨rfl,yE,k4⟩;go_wp2;go_ret;exact bu.yes (k2.trans k4) HF.out cU yE
 rw[h1] at hO;simp only at hO;have H1:=hid h1;have HF:=hid hO.symm;clear h1 hO;go_in;go_wp2_with fail;refine (vo base b acc s d 46 r _ P0.out H1.out (by omega)).mono ?_;rintro e w2 ⟨rfl,k2,s2,cU,cv,fF⟩;have P2:=hid fF;have rm:=fF.low;clear fF;go_wp2_with fail;refine (zm0 _).mono ?_;rintro e w3 ⟨rfl,b3⟩;have P3:=hid (P2.out.ab b3);have K3:=hid (k2.below rm b3);go_wp2_with fail;refine (E8 base b acc s2 d 1 (fun _=>true) _ P3.out (by omega)).mono ?_;rintro e w4 ⟨rfl,yE,k4⟩;go_wp2;go_ret;exact bu.yes (K3.out.trans k4) HF.out cU yE
theorem zne(D d:Nat)(h:d+D=99):uG 154 (dB D) d:=by
 induction D generalizing d with
 | zero=>
  obtain rfl:d=99:=by omega
  exact Vw _ 99 znc
 | succ D ih=>
  have h1:=ih (d+1) (by omega);exact Vw _ d (znd (dB D) d (by omega) (yN D) (ZP _ _ (yN D) (XT _ _ (yN D) (Wm _ _ (yN D) h1))))
theorem Rc:uG 83 (bh (dB 99)) 0:=
 ZP _ _ (yN 99) (XT _ _ (yN 99) (Wm _ _ (yN 99) (zne 99 0 rfl)))
theorem FP(s:ByteArray)(w:World)(hs:1600<s.size)(hm:s.size<=maxLen):
  Calls prog 47 #[.string s] w fun e w'=>e=.returned (.tuple #[.slice none 0 0,.int .i64 6])/\w=w':=by
 unfold maxLen at hm;go_in;go_wp2;go_ret2;exact⟨rfl,rfl⟩
theorem eP.new(s:ByteArray)(w:World):eP w.heap.size w.heap.size [] s 0 (w.alloc (.cells #[.string s,.slice none 0 0,.int .i64 0] 133)):=
 ⟨le_refl _,.slice none 0 0,St.new w _ _,World.ownsRow_nil _ _ _ _,by simp[Value.ownBlock]⟩
theorem znf(s:ByteArray)(w:World)(hs:s.size<=1600)(h:∀l,bh (dB 99) ([],aa s)≠some (l,[])):
  Calls prog 47 #[.string s] w fun e w'=>e=.returned (.tuple #[.slice none 0 0,.int .i64 5])/\Below w.heap.size w w':=by
 have hA:=Rc w.heap.size w.heap.size [] s _ (eP.new s w) (by omega) (by simp;omega);have ay:Below w.heap.size w (w.alloc (.cells #[.string s,.slice none 0 0,.int .i64 0] 133)):=(Below.refl _ _).alloc (le_refl _) _;generalize bh (dB 99) ([],aa s)=O at hA h;have HA:=hid hA;have H:=hid h;clear hA h;go_in;go_wp2_with fail;refine HA.out.mono ?_;rintro e w1 ⟨k1,h1,h2⟩;have eG:=ay.trans k1.1;rcases O with _|⟨l,r⟩
 ·obtain rfl:=h1 rfl;go_wp2;go_ret2;exact⟨rfl,eG⟩
 obtain⟨rfl,s',hn,hp⟩:=h2 _ rfl;obtain⟨c0,-⟩:=hp.rest;have hne:r≠[]:=fun e=>H.out l (by rw[e])
 have hz:0<s'.size:=by
  rcases eq_zero_or_pos s'.size with hz|hz
  ·exact absurd (by simp only at hn;rw[<-hn];exact MC s' hz) hne
  exact hz
 have ko:s'.toList.isEmpty=false:=yY s' hz;have gy:(!s'.toList.isEmpty)=true:=by rw[ko];rfl
 go_wp2;go_ret2;exact⟨rfl,eG⟩
theorem zjN(s:ByteArray)(w:World)(hs:s.size<=1600)(l:List Pc)(h:bh (dB 99) ([],aa s)=some (l,[]))(hl:400<l.length):
  Calls prog 47 #[.string s] w fun e w'=>e=.returned (.tuple #[.slice none 0 0,.int .i64 6])/\Below w.heap.size w w':=by
 have hA:=Rc w.heap.size w.heap.size [] s _ (eP.new s w) (by omega) (by simp;omega);have ay:Below w.heap.size w (w.alloc (.cells #[.string s,.slice none 0 0,.int .i64 0] 133)):=(Below.refl _ _).alloc (le_refl _) _;rw[h] at hA;have HA:=hid hA;clear hA h;go_in;go_wp2_with fail;refine HA.out.mono ?_;rintro e w1 ⟨k1,h1,h2⟩;have eG:=ay.trans k1.1;obtain⟨rfl,s',hn,hp⟩:=h2 _ rfl;obtain⟨c0,-⟩:=hp.rest;simp only at hn hp;have hz:s'.size=0:=by rw[<-nZ,hn];rfl
 have ko:s'.toList=[]:=Kr s' hz;have gy:(!s'.toList.isEmpty)=false:=by rw[ko];rfl
 obtain⟨_,v,sf,az,_⟩:=hp;obtain⟨a,cap,rfl⟩:=bP az;have c1:w1.cell? ⟨w.heap.size,1,none⟩=some (.slice a l.length cap):=by rw[cell_of_heap sf];rfl
 obtain⟨n,CG⟩:∃n,l.length=n:=⟨_,rfl⟩
 rw[CG] at c1 hl;clear ko az sf h1 h2 CG;go_wp2;go_ret2;exact⟨rfl,eG⟩
theorem zlr(s:ByteArray)(w:World)(hs:s.size<=1600)(l:List Pc)(h:bh (dB 99) ([],aa s)=some (l,[]))(hl:l.length<=400):
  Calls prog 47 #[.string s] w fun e w'=>∃a cap,e=.returned (.tuple #[.slice a l.length cap,.int .i64 0])/\w'.ownsRow w.heap.size 91 5 (.slice a l.length cap) l.length (eK l)/\Below w.heap.size w w':=by
 have hA:=Rc w.heap.size w.heap.size [] s _ (eP.new s w) (by omega) (by simp;omega);have ay:Below w.heap.size w (w.alloc (.cells #[.string s,.slice none 0 0,.int .i64 0] 133)):=(Below.refl _ _).alloc (le_refl _) _;rw[h] at hA;have HA:=hid hA;clear hA h;go_in;go_wp2_with fail;refine HA.out.mono ?_;rintro e w1 ⟨k1,h1,h2⟩;have eG:=ay.trans k1.1;obtain⟨rfl,s',hn,hp⟩:=h2 _ rfl;obtain⟨c0,-⟩:=hp.rest;simp only at hn hp;have hz:s'.size=0:=by rw[<-nZ,hn];rfl
 have ko:s'.toList=[]:=Kr s' hz;have gy:(!s'.toList.isEmpty)=false:=by rw[ko];rfl
 obtain⟨_,v,sf,az,_⟩:=hp;obtain⟨a,cap,rfl⟩:=bP az;have c1:w1.cell? ⟨w.heap.size,1,none⟩=some (.slice a l.length cap):=by rw[cell_of_heap sf];rfl
 have HO:=hid az;obtain⟨n,CG⟩:∃n,l.length=n:=⟨_,rfl⟩
 have HN:=hid CG;rw[CG] at c1 hl;clear ko az sf h1 h2 CG;go_wp2;go_ret2;exact⟨a,cap,by rw[HN.out];rfl,HO.out,eG⟩
