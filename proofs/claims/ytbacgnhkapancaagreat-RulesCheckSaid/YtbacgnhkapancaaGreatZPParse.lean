import Derived.Test.YtbacgnhkapancaaGreatZChk
import Derived.Test.YtbacgnhkapancaaGreatZOr
import Derived.Test.YtbacgnhkapancaaGreatZPRead
import Derived.Deep.RegionLaw
set_option linter.all false
set_option maxHeartbeats 4000000
set_option maxRecDepth 100000
open Go.Lib (hid)
namespace Go.Proofs.YtbacgnhkapancaaGreat
open Go.RowKit Go.Proofs.Tryz
open Or (inl inr)
open Below (heap_setCell)
open Nat (eq_zero_or_pos le_refl le_trans lt_succ_self)
open Lib (OthersKept cell_of_heap)
variable {acc:List Pc}{d:Nat}
theorem St.others{w w':World}{t g e b:Nat}{cs:Array Value}(h:St w t g cs)(k:OthersKept e (some b) w w')(hb:g≠b)(ht:t≠e):St w' t g cs:=
 k g _ h (by simpa using hb) (by intro c fz h;simp at h;exact ht h.2.1)
theorem zgz{e:TypeId}{b:Option Nat}{a w w':World}(h:OthersKept e b a w)(k:Below w.heap.size w w'):OthersKept e b a w':=by
 intro i o hi hb ho;have h1:=h i o hi hb ho;exact (k.block i (Array.getElem?_eq_some_iff.1 h1).1).trans h1
theorem ni:(prog.info? 104).map (fun i=>(i.zero,i.size,i.bytes))=some (some (.agg #[.int .i64 0,.int .u64 0,.int .u64 0,.int .u64 0,.int .u64 0]),5,40):=by kernel_rfl
def eI(base b:Nat)(acc:List Pc)(s:ByteArray)(d:Nat)(w:World):Prop:=
 base<=b/\∃v,w.heap[b]?=some (.cells #[.string s,v,.int .i64 (d:Int)] 143 (0,0))/\w.ownsRow base 104 5 v acc.length (eC acc)/\v.ownBlock≠some b
theorem eI.lt{base b:Nat}{s:ByteArray}{w:World}(h:eI base b acc s d w):b<w.heap.size:=by
 obtain⟨_,v,hb,_⟩:=h;exact (Array.getElem?_eq_some_iff.1 hb).1
theorem eI.low{base b:Nat}{s:ByteArray}{w:World}(h:eI base b acc s d w):base<=w.heap.size:=le_trans h.1 (Nat.le_of_lt h.lt)
theorem eI.ab{base b:Nat}{s:ByteArray}{w w':World}(h:eI base b acc s d w)(k:Below w.heap.size w w'):eI base b acc s d w':=by
 have hl:=h.lt;obtain⟨h1,v,h2,h3,h4⟩:=h;exact⟨h1,v,(k.block b hl).trans h2,cW h3 k,h4⟩
theorem eI.rest{base b:Nat}{s:ByteArray}{w:World}(h:eI base b acc s d w):w.cell? ⟨b,0,none⟩=some (.string s)/\w.frozen? ⟨b,0,none⟩=false:=by
 obtain⟨_,v,hb,_⟩:=h;exact⟨by rw[cell_of_heap hb];rfl,Lib.frozen_of_heap hb 0⟩
theorem eI.depth{base b:Nat}{s:ByteArray}{w:World}(h:eI base b acc s d w):w.cell? ⟨b,2,none⟩=some (.int .i64 (d:Int))/\w.frozen? ⟨b,2,none⟩=false:=by
 obtain⟨_,v,hb,_⟩:=h;exact⟨by rw[cell_of_heap hb];rfl,Lib.frozen_of_heap hb 2⟩
theorem eI.kT{base b:Nat}{s:ByteArray}{w:World}(h:eI base b acc s d w)(s':ByteArray):eI base b acc s' d (w.setCell ⟨b,0,none⟩ (.string s')):=by
 obtain⟨hB,v,hb,ay,hne⟩:=h;refine⟨hB,v,?_,?_,hne⟩
 ·simp[World.setCell,Array.getElem?_modify,hb]
 exact ay.kept (row:=some b) ⟨rfl,rfl,rfl,by simp[World.setCell],fun k _ hk=>heap_setCell _ _ _ _ (fun e=>hk (by simp[e]))⟩ (inr hne)
theorem eI.qo{base b:Nat}{s:ByteArray}{w:World}(h:eI base b acc s d w)(d':Nat):eI base b acc s d' (w.setCell ⟨b,2,none⟩ (.int .i64 (d':Int))):=by
 obtain⟨hB,v,hb,ay,hne⟩:=h;refine⟨hB,v,?_,?_,hne⟩
 ·simp[World.setCell,Array.getElem?_modify,hb]
 exact ay.kept (row:=some b) ⟨rfl,rfl,rfl,by simp[World.setCell],fun k _ hk=>heap_setCell _ _ _ _ (fun e=>hk (by simp[e]))⟩ (inr hne)
def aQ(base b:Nat)(w w':World):Prop:=Below base w w'/\OthersKept 104 (some b) w w'
theorem aQ.refl(base b:Nat)(w:World):aQ base b w w:=⟨Below.refl _ _,Lib.OthersKept.refl _ _ _⟩
theorem aQ.trans{base b:Nat}{a w w':World}(h:aQ base b a w)(k:aQ base b w w'):aQ base b a w':=⟨h.1.trans k.1,h.2.trans k.2⟩
theorem aQ.below{base b:Nat}{a w w':World}(h:aQ base b a w)(hb:base<=w.heap.size)(k:Below w.heap.size w w'):aQ base b a w':=⟨h.1.trans (k.mono hb),zgz h.2 k⟩
theorem aQ.set{base b:Nat}{a w:World}(h:aQ base b a w)(hB:base<=b)(j:Nat)(v:Value):aQ base b a (w.setCell ⟨b,j,none⟩ v):=⟨h.1.setCell (p:=⟨b,j,none⟩) hB v,h.2.setCell ⟨b,j,none⟩ rfl v⟩
theorem aQ.size{base b:Nat}{w w':World}(h:aQ base b w w'):w.heap.size<=w'.heap.size:=h.1.size
theorem St.gd{base b:Nat}{w w':World}{t g:Nat}{cs:Array Value}(h:St w t g cs)(k:aQ base b w w')(hb:g≠b)(ht:t≠104):St w' t g cs:=h.others k.2 hb ht
theorem Fi(base b:Nat)(acc:List Pc)(s:ByteArray)(d:Nat)(k:Int)(p:Nat->Bool)(w:World)(h:eI base b acc s d w)(hl:acc.length<=10000):
  Calls prog 132 #[.pointer (some ⟨b,0,none⟩),.int .i64 k,(.agg #[.int .u64 ((wd p 0:Nat):Int),.int .u64 ((wd p 1:Nat):Int),.int .u64 ((wd p 2:Nat):Int),.int .u64 ((wd p 3:Nat):Int)])] w fun e w'=>e=.returned (.tuple #[])/\eI base b (acc++[⟨k,p⟩]) s d w'/\aQ base b w w':=by
 obtain⟨i0,hi,du,cH,ct⟩:=info_parts ni;have H2:=hid (h.ab ((Below.refl _ w).alloc (le_refl _) (.cells #[.int .u64 ((wd p 0:Nat):Int),.int .u64 ((wd p 1:Nat):Int),.int .u64 ((wd p 2:Nat):Int),.int .u64 ((wd p 3:Nat):Int)] 57)));have HK:=hid ((aQ.refl base b w).below h.low ((Below.refl _ w).alloc (le_refl _) (.cells #[.int .u64 ((wd p 0:Nat):Int),.int .u64 ((wd p 1:Nat):Int),.int .u64 ((wd p 2:Nat):Int),.int .u64 ((wd p 3:Nat):Int)] 57)));have HS:=hid (St.new w 57 #[.int .u64 ((wd p 0:Nat):Int),.int .u64 ((wd p 1:Nat):Int),.int .u64 ((wd p 2:Nat):Int),.int .u64 ((wd p 3:Nat):Int)]);have yk:Hid (eC (acc++[⟨k,p⟩])=eC acc++[.int .i64 k,.int .u64 ((wd p 0:Nat):Int),.int .u64 ((wd p 1:Nat):Int),.int .u64 ((wd p 2:Nat):Int),.int .u64 ((wd p 3:Nat):Int)]):=by
  show _=_;rw[Fu];rfl
 have Eb:Hid ((acc++[(⟨k,p⟩:Pc)]).length=acc.length+1):=by show _=_;simp
 have gk:=h.lt;have uG:(eC acc).length=acc.length*5:=Fb acc;clear h;go_enter func132,ntmps132;go_wp2_with fail;generalize w.alloc (.cells #[.int .u64 ((wd p 0:Nat):Int),.int .u64 ((wd p 1:Nat):Int),.int .u64 ((wd p 2:Nat):Int),.int .u64 ((wd p 3:Nat):Int)] 57)=W2 at H2 HK HS⊢;obtain⟨c0,c1,c2,c3,-⟩:=bK HS.out;have dJ:=H2.out.low;have ml:=H2.out.lt;obtain⟨hB,v,rJ,ay,hne⟩:=H2.out;have d1:W2.cell? ⟨b,1,none⟩=some v:=by rw[cell_of_heap rJ];rfl
 obtain⟨ao,G1,rfl⟩:=bJ ay;clear HS H2
 go_region_law (
  refine step_append_lies _ (by rfl) _ _ _ (by rfl) base 104 i0 (.agg #[.int .i64 0,.int .u64 0,.int .u64 0,.int .u64 0,.int .u64 0]) 5 40 underlying47 hi du cH ct (by rfl) (by decide) _ acc.length (eC acc) (by rfl) (by first|exact ay.drew.alloc _|exact (ay.alloc _).drew) ⟨W2.heap.size,0,none⟩ 1 1 [.int .i64 k,.int .u64 ((wd p 0:Nat):Int),.int .u64 ((wd p 1:Nat):Int),.int .u64 ((wd p 2:Nat):Int),.int .u64 ((wd p 3:Nat):Int)] (by rfl) (by rfl) (World.news_of_block (cs:=#[.int .i64 k,.int .u64 ((wd p 0:Nat):Int),.int .u64 ((wd p 1:Nat):Int),.int .u64 ((wd p 2:Nat):Int),.int .u64 ((wd p 3:Nat):Int)]) (by first|exact heap_alloc_new _ _|exact St.new _ _ _)) (by intro u hu;simp at hu;rcases hu with rfl|rfl|rfl|rfl|rfl <;> rfl) (by omega) (by unfold maxLen;omega) (by omega) (by simp;omega) _ (by rfl) ?_
  intro g cap w1 Gq dp eZ DQ
  have cr:w1.heap[b]?=some (.cells #[.string s,.slice ao acc.length G1,.int .i64 (d:Int)] 143 (0,0)):=(dp.block b (by simp;omega) (fun e=>hne e.symm)).trans ((Lib.alloc_old _ _ b (by first|exact ml|(simp;omega))).trans rJ)
  have e1:w1.cell? ⟨b,1,none⟩=some (.slice ao acc.length G1):=by (rw[cell_of_heap cr];rfl)
  have f1:w1.frozen? ⟨b,1,none⟩=false:=Lib.frozen_of_heap cr 1)
 all_goals
  go_wp2_with fail
  go_end0
  have qy:(Value.slice (some ⟨g,0,none⟩) (acc.length+1) cap).ownBlock≠some b:=by
   intro e;simp[Value.ownBlock] at e;rcases eZ with eZ|eZ
   ·exact hne (eZ.trans (by rw[e]))
   simp at eZ;omega
  refine⟨rfl,⟨hB,_,?_,?_,qy⟩,?_⟩
  ·simp[World.setCell,Array.getElem?_modify,cr]
  ·rw[yk.out,Eb.out];exact Gq.kept (row:=some b) ⟨rfl,rfl,rfl,by simp[World.setCell],fun k _ hk=>heap_setCell _ _ _ _ (fun e=>hk (by simp[e]))⟩ (inr qy)
  ·refine (HK.out.trans ?_).set hB 1 _;refine⟨?_,?_⟩
   ·refine Below.grown ?_ dp (by simp;omega) (fun k hk=>(ay.lt k hk).1)
    first|exact (Below.refl _ _).drew.alloc dJ _|exact ((Below.refl _ _).alloc dJ _).drew
   refine Lib.OthersKept.grown ?_ dp (Lib.ownsRow_kind (by first|exact ay.drew.alloc _|exact (ay.alloc _).drew))
   first|exact (Lib.OthersKept.refl _ _ _).drew.alloc _|exact ((Lib.OthersKept.refl _ _ _).alloc _).drew
theorem Ia(s:ByteArray)(h:0<s.size):aa s=s[0].toNat :: (aa s).drop 1:=by
 have:=Fl s 0 h;simpa using this
theorem Lb(s:ByteArray)(h:s.size=0):aa s=[]:=by
 have:=nY s;exact List.length_eq_zero_iff.1 (by omega)
theorem JB(s:ByteArray)(h:s.size=0):s.toList=[]:=by rw[ByteArray.toList_eq];exact List.eq_nil_of_length_eq_zero (by simpa using h)
theorem nR(base b:Nat)(acc:List Pc)(s:ByteArray)(d c:Nat)(w:World)(h:eI base b acc s d w)(hc:aw c (aa s)=none):
  Calls prog 131 #[.pointer (some ⟨b,0,none⟩),.int .u8 c] w fun e w'=>e=.returned (.bool false)/\w=w':=by
 obtain⟨c0,-⟩:=h.rest;clear h;rcases eq_zero_or_pos s.size with hz|hp
 ·have hl:s.toList=[]:=JB s hz;have fY:s.toList.isEmpty=true:=by rw[hl];rfl
  clear hc hz;go_enter func131,ntmps131;go_wp2;go_ret;exact⟨rfl,rfl⟩
 have hl:s.toList.isEmpty=false:=yi s hp;have fY:(!s.toList.isEmpty)=true:=by rw[hl];rfl
 have hne:s[0].toNat≠c:=by
  intro e;rw[Ia s hp] at hc;simp[aw,e] at hc
 have e0:((s[0].toNat:Int) != (c:Int))=true:=by simp;omega
 clear hc hne;go_enter func131,ntmps131;go_wp2;go_ret;exact⟨rfl,rfl⟩
theorem uK(base b:Nat)(acc:List Pc)(s:ByteArray)(d c:Nat)(r:List Nat)(w:World)(h:eI base b acc s d w)(hc:aw c (aa s)=some r)(hs:s.size<=10000):
  Calls prog 131 #[.pointer (some ⟨b,0,none⟩),.int .u8 c] w fun e w'=>e=.returned (.bool true)/\aQ base b w w'/\∃s',aa s'=r/\s'.size+1=s.size/\eI base b acc s' d w':=by
 obtain⟨c0,f0⟩:=h.rest;have HP:=hid h;clear h;have e:=uB hc;have cU:=nY s;rw[e] at cU;simp at cU;have hp:0<s.size:=by omega
 have hl:s.toList.isEmpty=false:=yi s hp;have fY:(!s.toList.isEmpty)=true:=by rw[hl];rfl
 have h2:=Ia s hp;rw[e] at h2;simp at h2;have e0:((s[0].toNat:Int) != (c:Int))=false:=by simp;omega
 have HR:Hid (aa (s.extract 1 s.size)=r):=by show _=_;rw[Eh,e];rfl
 have HZ:Hid ((s.extract 1 s.size).size+1=s.size):=by show _=_;rw[ByteArray.size_extract];omega
 clear hc e cU h2;go_enter func131,ntmps131;go_wp2;go_ret;exact⟨rfl,(aQ.refl base b w).set HP.out.1 0 _,_,HR.out,HZ.out,HP.out.kT _⟩
theorem Q8(base b:Nat)(acc:List Pc)(s sp:ByteArray)(d:Nat)(w:World)(h:eI base b acc s d w)(hs:s.size<=10000)(hc:aI sp (aa s)=none):
  Calls prog 171 #[.pointer (some ⟨b,0,none⟩),.string sp] w fun e w'=>e=.returned (.tuple #[.int .u8 0,.bool false])/\Below w.heap.size w w':=by
 obtain⟨c0,f0⟩:=h.rest;clear h;unfold aI at hc;have an:=EI (aa s) (Bk s);rcases hr:rd (aa s) with ⟨a,n,o⟩;rw[hr] at hc an;simp only at hc an;have HR:=hid hr;have HM:Hid (s.size<=maxLen):=by show _<=_;unfold maxLen;omega
 clear hr;rcases o with _|_
 ·clear hc;go_enter func171,ntmps171;go_wp2_with fail;refine (IZ s HM.out _).mono ?_;rintro e w1 ⟨rfl,b1⟩;rw[HR.out,AR];go_wp2;go_ret2;exact⟨rfl,b1⟩
 have fH:n=1/\fE sp a=true:=by simpa using hc
 obtain⟨rfl,h2⟩:=fH;have h3:=Td sp a an.1;rw[h2] at h3;have h4:0<=ie sp a:=by simpa using h3
 clear hc h2 h3 an;go_enter func171,ntmps171;go_wp2_with fail;refine (IZ s HM.out _).mono ?_;rintro e w1 ⟨rfl,b1⟩;rw[HR.out,AR];go_wp2_with fail;refine (Nk sp a _).mono ?_;rintro e w2 ⟨rfl,rfl⟩;go_wp2;go_ret2;exact⟨rfl,b1⟩
theorem BG(base b:Nat)(acc:List Pc)(s sp:ByteArray)(d c:Nat)(r:List Nat)(w:World)(h:eI base b acc s d w)(hs:s.size<=10000)(hc:aI sp (aa s)=some (c,r)):
  Calls prog 171 #[.pointer (some ⟨b,0,none⟩),.string sp] w fun e w'=>e=.returned (.tuple #[.int .u8 c,.bool true])/\c<256/\aQ base b w w'/\∃s',aa s'=r/\s'.size<s.size/\eI base b acc s' d w':=by
 obtain⟨c0,f0⟩:=h.rest;have HP:=hid h;have dJ:=h.low;have gk:=h.lt;have hlen:=K9 hc;clear h;unfold aI at hc;have an:=EI (aa s) (Bk s);rcases hr:rd (aa s) with ⟨a,n,o⟩;rw[hr] at hc an;simp only at hc an;have HR:=hid hr;have HM:Hid (s.size<=maxLen):=by show _<=_;unfold maxLen;omega
 clear hr;split at hc
 ·rename_i sL;obtain⟨rfl,sL⟩:=sL;simp only[Option.some.injEq,Prod.mk.injEq] at hc;obtain⟨rfl,hc⟩:=hc;have hn:=an.2 rfl;rw[nY] at hn;have ha:=an.1;have Dv:Hid (aa (s.extract n s.size)=r):=by show _=_;rw[Eh,hc]
  have HZ:Hid ((s.extract n s.size).size<s.size):=by show _<_;rw[ByteArray.size_extract];omega
  have h3:=Td sp a ha;have h4:n≠1\/ie sp a<0:=by
   by_cases h1:n=1
   ·right;have:fE sp a=false:=by
     rcases h5:fE sp a with _|_
     ·rfl
     exact absurd ⟨h1,h5⟩ sL
    rw[this] at h3;simpa using h3
   left;exact h1
  clear hc an sL hlen h3;rcases h4 with h4|h4
  ·have e1:((n:Int) == 1)=false:=(by simp;omega);go_enter func171,ntmps171;go_wp2_with fail;refine (IZ s HM.out _).mono ?_;rintro e w1 ⟨rfl,b1⟩;rw[HR.out,AR];have fo:=hid (HP.out.ab b1);obtain⟨d0,g0⟩:=fo.out.rest;have HK:=hid ((aQ.refl base b w).below dJ b1);go_wp2;go_ret2;exact⟨rfl,ha,HK.out.set HP.out.1 0 _,_,Dv.out,HZ.out,fo.out.kT _⟩
  by_cases h5:n=1
  ·subst h5;go_enter func171,ntmps171;go_wp2_with fail;refine (IZ s HM.out _).mono ?_;rintro e w1 ⟨rfl,b1⟩;rw[HR.out,AR];have fo:=hid (HP.out.ab b1);obtain⟨d0,g0⟩:=fo.out.rest;have HK:=hid ((aQ.refl base b w).below dJ b1);go_wp2_with fail;refine (Nk sp a _).mono ?_;rintro e w2 ⟨rfl,rfl⟩;go_wp2;go_ret2;exact⟨rfl,ha,HK.out.set HP.out.1 0 _,_,Dv.out,HZ.out,fo.out.kT _⟩
  have e1:((n:Int) == 1)=false:=by simp;omega
  go_enter func171,ntmps171;go_wp2_with fail;refine (IZ s HM.out _).mono ?_;rintro e w1 ⟨rfl,b1⟩;rw[HR.out,AR];have fo:=hid (HP.out.ab b1);obtain⟨d0,g0⟩:=fo.out.rest;have HK:=hid ((aQ.refl base b w).below dJ b1);go_wp2;go_ret2;exact⟨rfl,ha,HK.out.set HP.out.1 0 _,_,Dv.out,HZ.out,fo.out.kT _⟩
 simp at hc
theorem aQ.ia{base b:Nat}{w0 w:World}{g:Nat}(h:aQ base b w0 w)(hg:base<=g)(hs:∃cs fz,w.heap[g]?=some (.cells cs 57 fz))(hgn:w0.heap.size<=g)(d0 d1 d2 d3:Value):
  aQ base b w0 ((((w.setCell ⟨g,0,none⟩ d0).setCell ⟨g,1,none⟩ d1).setCell ⟨g,2,none⟩ d2).setCell ⟨g,3,none⟩ d3):=by
 refine⟨p5 h.1 hg _ _ _ _,?_⟩;intro k o hk hb ho;have an:=(Array.getElem?_eq_some_iff.1 hk).1;have h1:=h.2 k o hk hb ho;rw[heap_setCell _ _ _ _ (by show k≠g;omega),heap_setCell _ _ _ _ (by show k≠g;omega),heap_setCell _ _ _ _ (by show k≠g;omega),heap_setCell _ _ _ _ (by show k≠g;omega)];exact h1
theorem eI.ia{base b:Nat}{s:ByteArray}{w:World}{g:Nat}(h:eI base b acc s d w)(hg:g≠b)(hs:∃cs fz,w.heap[g]?=some (.cells cs 57 fz))(d0 d1 d2 d3:Value):
  eI base b acc s d ((((w.setCell ⟨g,0,none⟩ d0).setCell ⟨g,1,none⟩ d1).setCell ⟨g,2,none⟩ d2).setCell ⟨g,3,none⟩ d3):=by
 obtain⟨h1,v,h2,h3,h4⟩:=h;have hv:v.ownBlock≠some g:=by
  intro e;obtain⟨c,fz,hc⟩:=Lib.ownsRow_kind h3 g e;obtain⟨cs,Vn,hs⟩:=hs;rw[hs] at hc;simp at hc
 refine⟨h1,v,?_,?_,h4⟩
 ·rw[heap_setCell _ _ _ _ (by show b≠g;omega),heap_setCell _ _ _ _ (by show b≠g;omega),heap_setCell _ _ _ _ (by show b≠g;omega),heap_setCell _ _ _ _ (by show b≠g;omega)];exact h2
 have step:∀(W:World) (j:Nat) (u:Value),W.ownsRow base 104 5 v acc.length (eC acc)->(W.setCell ⟨g,j,none⟩ u).ownsRow base 104 5 v acc.length (eC acc):=fun W j u ho=>ho.kept (row:=some g) ⟨rfl,rfl,rfl,by simp[World.setCell],fun k _ hk=>heap_setCell _ _ _ _ (fun e=>hk (by simp[e]))⟩ (inr hv)
 exact step _ _ _ (step _ _ _ (step _ _ _ (step _ _ _ h3)))
theorem St.is{w:World}{t g:Nat}{cs:Array Value}(h:St w t g cs):∃cs fz,w.heap[g]?=some (.cells cs t fz):=⟨cs,(0,0),h⟩
theorem zm8(base b:Nat)(acc:List Pc)(s:ByteArray)(d:Nat)(w:World)(h:eI base b acc s d w)(hs:s.size<=10000)(h1:aI dq (aa s)=none):
  Calls prog 185 #[.pointer (some ⟨b,0,none⟩)] w fun e w'=>(∃q:Nat->Bool,e=.returned (.tuple #[(.agg #[.int .u64 ((wd q 0:Nat):Int),.int .u64 ((wd q 1:Nat):Int),.int .u64 ((wd q 2:Nat):Int),.int .u64 ((wd q 3:Nat):Int)]),.bool false]))/\aQ base b w w':=by
 have gk:=h.lt;have dJ:=h.low;have HB:=h.1;have dt:=hid (St.new w 57 #[.int .u64 0,.int .u64 0,.int .u64 0,.int .u64 0]);have k0:aQ base b w (w.alloc (.cells #[.int .u64 0,.int .u64 0,.int .u64 0,.int .u64 0] 57)):=(aQ.refl base b w).below dJ ((Below.refl _ w).alloc (le_refl _) _);have mH:=hid (h.ab ((Below.refl _ w).alloc (le_refl _) (.cells #[.int .u64 0,.int .u64 0,.int .u64 0,.int .u64 0] 57)));have pN:=hid k0;clear h k0;go_enter func185,ntmps185;go_wp2_with fail;refine (Q8 base b acc s dq d _ mH.out hs h1).mono ?_;rintro e w1 ⟨rfl,b1⟩;have mj:=hid (pN.out.below mH.out.low b1);have oq:=hid (dt.out.ab b1);clear b1 mH pN dt;go_wp2_with fail;refine (Kl 0 0 (by decide) (by decide) _).mono ?_;rintro e w9 ⟨rfl,b9⟩;have gv:=hid (mj.out.below (le_trans dJ mj.out.size) b9);obtain⟨q0,q1,q2,q3,q4,q5,q6,q7⟩:=bK (oq.out.ab b9);have zk:=gv.out.size;have oc:=hid (oq.out.ab b9);clear b9;go_wp2_with fail;exact bodyPost_ret (v:=.tuple #[(.agg #[.int .u64 ((wd (aq 0 (0+1-0)) 0:Nat):Int),.int .u64 ((wd (aq 0 (0+1-0)) 1:Nat):Int),.int .u64 ((wd (aq 0 (0+1-0)) 2:Nat):Int),.int .u64 ((wd (aq 0 (0+1-0)) 3:Nat):Int)]),.bool false]) (by first|(simp[results,results185,go_sem,q0,q1,q2,q3];done)|(simp[results,results185,go_sem,q0,q1,q2,q3];omega)) rfl ⟨⟨_,rfl⟩,(gv.out.ia dJ (oc.out.is) (le_refl _) _ _ _ _)⟩
theorem zm9(base b:Nat)(acc:List Pc)(s:ByteArray)(d:Nat)(a:Nat)(r r1:List Nat)(w:World)(h:eI base b acc s d w)(hs:s.size<=10000)(h1:aI dq (aa s)=some (a,r))(h2:aw 45 r=some r1)(h3:aI dq r1=none):
  Calls prog 185 #[.pointer (some ⟨b,0,none⟩)] w fun e w'=>(∃q:Nat->Bool,e=.returned (.tuple #[(.agg #[.int .u64 ((wd q 0:Nat):Int),.int .u64 ((wd q 1:Nat):Int),.int .u64 ((wd q 2:Nat):Int),.int .u64 ((wd q 3:Nat):Int)]),.bool false]))/\aQ base b w w':=by
 have gk:=h.lt;have dJ:=h.low;have HB:=h.1;have dt:=hid (St.new w 57 #[.int .u64 0,.int .u64 0,.int .u64 0,.int .u64 0]);have k0:aQ base b w (w.alloc (.cells #[.int .u64 0,.int .u64 0,.int .u64 0,.int .u64 0] 57)):=(aQ.refl base b w).below dJ ((Below.refl _ w).alloc (le_refl _) _);have mH:=hid (h.ab ((Below.refl _ w).alloc (le_refl _) (.cells #[.int .u64 0,.int .u64 0,.int .u64 0,.int .u64 0] 57)));have pN:=hid k0;clear h k0;go_enter func185,ntmps185;go_wp2_with fail;refine (BG base b acc s dq d a r _ mH.out hs h1).mono ?_;rintro e w1 ⟨rfl,gz,k1,s1,cZ,cH,fI⟩;have mj:=hid (pN.out.trans k1);have oq:=hid (dt.out.gd k1 (by omega) (by decide));have fo:=hid fI;have nV:=hid cZ;clear k1 fI cZ mH pN dt;go_wp2_with fail;refine (uK base b acc s1 d 45 r1 _ fo.out (by rw[nV.out];exact h2) (by omega)).mono ?_;rintro e w2 ⟨rfl,k2,s2,cQ,ct,fw⟩;have tp:=hid (mj.out.trans k2);have gD:=hid (oq.out.gd k2 (by omega) (by decide));have kD:=hid fw;have kd:=hid cQ;clear k2 fw cQ fo mj oq;go_wp2_with fail;refine (Q8 base b acc s2 dq d _ kD.out (by omega) (by rw[kd.out];exact h3)).mono ?_;rintro e w3 ⟨rfl,b3⟩;have Fq:=hid (tp.out.below kD.out.low b3);have ua:=hid (gD.out.ab b3);clear b3 kD tp gD;go_wp2_with fail;refine (Kl a 0 gz (by decide) _).mono ?_;rintro e w9 ⟨rfl,b9⟩;have gv:=hid (Fq.out.below (le_trans dJ Fq.out.size) b9);obtain⟨q0,q1,q2,q3,q4,q5,q6,q7⟩:=bK (ua.out.ab b9);have zk:=gv.out.size;have oc:=hid (ua.out.ab b9);clear b9;go_wp2_with fail;exact bodyPost_ret (v:=.tuple #[(.agg #[.int .u64 ((wd (aq a (0+1-a)) 0:Nat):Int),.int .u64 ((wd (aq a (0+1-a)) 1:Nat):Int),.int .u64 ((wd (aq a (0+1-a)) 2:Nat):Int),.int .u64 ((wd (aq a (0+1-a)) 3:Nat):Int)]),.bool false]) (by first|(simp[results,results185,go_sem,q0,q1,q2,q3];done)|(simp[results,results185,go_sem,q0,q1,q2,q3];omega)) rfl ⟨⟨_,rfl⟩,(gv.out.ia dJ (oc.out.is) (le_refl _) _ _ _ _)⟩
theorem zna(base b:Nat)(acc:List Pc)(s:ByteArray)(d:Nat)(a c:Nat)(r r1 r2:List Nat)(w:World)(h:eI base b acc s d w)(hs:s.size<=10000)(h1:aI dq (aa s)=some (a,r))(h2:aw 45 r=some r1)(h3:aI dq r1=some (c,r2))(h4:c<a):
  Calls prog 185 #[.pointer (some ⟨b,0,none⟩)] w fun e w'=>(∃q:Nat->Bool,e=.returned (.tuple #[(.agg #[.int .u64 ((wd q 0:Nat):Int),.int .u64 ((wd q 1:Nat):Int),.int .u64 ((wd q 2:Nat):Int),.int .u64 ((wd q 3:Nat):Int)]),.bool false]))/\aQ base b w w':=by
 have gk:=h.lt;have dJ:=h.low;have HB:=h.1;have dt:=hid (St.new w 57 #[.int .u64 0,.int .u64 0,.int .u64 0,.int .u64 0]);have k0:aQ base b w (w.alloc (.cells #[.int .u64 0,.int .u64 0,.int .u64 0,.int .u64 0] 57)):=(aQ.refl base b w).below dJ ((Below.refl _ w).alloc (le_refl _) _);have mH:=hid (h.ab ((Below.refl _ w).alloc (le_refl _) (.cells #[.int .u64 0,.int .u64 0,.int .u64 0,.int .u64 0] 57)));have pN:=hid k0;clear h k0;go_enter func185,ntmps185;go_wp2_with fail;refine (BG base b acc s dq d a r _ mH.out hs h1).mono ?_;rintro e w1 ⟨rfl,gz,k1,s1,cZ,cH,fI⟩;have mj:=hid (pN.out.trans k1);have oq:=hid (dt.out.gd k1 (by omega) (by decide));have fo:=hid fI;have nV:=hid cZ;clear k1 fI cZ mH pN dt;go_wp2_with fail;refine (uK base b acc s1 d 45 r1 _ fo.out (by rw[nV.out];exact h2) (by omega)).mono ?_;rintro e w2 ⟨rfl,k2,s2,cQ,ct,fw⟩;have tp:=hid (mj.out.trans k2);have gD:=hid (oq.out.gd k2 (by omega) (by decide));have kD:=hid fw;have kd:=hid cQ;clear k2 fw cQ fo mj oq;go_wp2_with fail;refine (BG base b acc s2 dq d c r2 _ kD.out (by omega) (by rw[kd.out];exact h3)).mono ?_;rintro e w3 ⟨rfl,tJ,k3,s3,lq,zq,gP⟩;have Fq:=hid (tp.out.trans k3);have ua:=hid (gD.out.gd k3 (by omega) (by decide));have Au:=hid gP;have sH:=hid lq;clear k3 gP lq kD tp gD;go_wp2_with fail;refine (Kl a c gz tJ _).mono ?_;rintro e w9 ⟨rfl,b9⟩;have gv:=hid (Fq.out.below Au.out.low b9);have MH:=hid (Au.out.ab b9);obtain⟨q0,q1,q2,q3,q4,q5,q6,q7⟩:=bK (ua.out.ab b9);have zk:=gv.out.size;have oc:=hid (ua.out.ab b9);clear b9;go_wp2_with fail;exact bodyPost_ret (v:=.tuple #[(.agg #[.int .u64 ((wd (aq a (c+1-a)) 0:Nat):Int),.int .u64 ((wd (aq a (c+1-a)) 1:Nat):Int),.int .u64 ((wd (aq a (c+1-a)) 2:Nat):Int),.int .u64 ((wd (aq a (c+1-a)) 3:Nat):Int)]),.bool false]) (by first|(simp[results,results185,go_sem,q0,q1,q2,q3];done)|(simp[results,results185,go_sem,q0,q1,q2,q3];omega)) rfl ⟨⟨_,rfl⟩,(gv.out.ia dJ (oc.out.is) (le_refl _) _ _ _ _)⟩
theorem zlm(base b:Nat)(acc:List Pc)(s:ByteArray)(d:Nat)(a:Nat)(r:List Nat)(w:World)(h:eI base b acc s d w)(hs:s.size<=10000)(h1:aI dq (aa s)=some (a,r))(h2:aw 45 r=none):
  Calls prog 185 #[.pointer (some ⟨b,0,none⟩)] w fun e w'=>e=.returned (.tuple #[(.agg #[.int .u64 ((wd (aq a (a+1-a)) 0:Nat):Int),.int .u64 ((wd (aq a (a+1-a)) 1:Nat):Int),.int .u64 ((wd (aq a (a+1-a)) 2:Nat):Int),.int .u64 ((wd (aq a (a+1-a)) 3:Nat):Int)]),.bool true])/\aQ base b w w'/\∃s',aa s'=r/\s'.size<s.size/\eI base b acc s' d w':=by
 have gk:=h.lt;have dJ:=h.low;have HB:=h.1;have dt:=hid (St.new w 57 #[.int .u64 0,.int .u64 0,.int .u64 0,.int .u64 0]);have k0:aQ base b w (w.alloc (.cells #[.int .u64 0,.int .u64 0,.int .u64 0,.int .u64 0] 57)):=(aQ.refl base b w).below dJ ((Below.refl _ w).alloc (le_refl _) _);have mH:=hid (h.ab ((Below.refl _ w).alloc (le_refl _) (.cells #[.int .u64 0,.int .u64 0,.int .u64 0,.int .u64 0] 57)));have pN:=hid k0;clear h k0;go_enter func185,ntmps185;go_wp2_with fail;refine (BG base b acc s dq d a r _ mH.out hs h1).mono ?_;rintro e w1 ⟨rfl,gz,k1,s1,cZ,cH,fI⟩;have mj:=hid (pN.out.trans k1);have oq:=hid (dt.out.gd k1 (by omega) (by decide));have fo:=hid fI;have nV:=hid cZ;clear k1 fI cZ mH pN dt;go_wp2_with fail;refine (nR base b acc s1 d 45 _ fo.out (by rw[nV.out];exact h2)).mono ?_;rintro e w2 ⟨rfl,rfl⟩;go_wp2_with fail;refine (Kl a a gz gz _).mono ?_;rintro e w9 ⟨rfl,b9⟩;have gv:=hid (mj.out.below fo.out.low b9);have MH:=hid (fo.out.ab b9);obtain⟨q0,q1,q2,q3,q4,q5,q6,q7⟩:=bK (oq.out.ab b9);have zk:=gv.out.size;have oc:=hid (oq.out.ab b9);clear b9;go_wp2_with fail;exact bodyPost_ret (v:=.tuple #[(.agg #[.int .u64 ((wd (aq a (a+1-a)) 0:Nat):Int),.int .u64 ((wd (aq a (a+1-a)) 1:Nat):Int),.int .u64 ((wd (aq a (a+1-a)) 2:Nat):Int),.int .u64 ((wd (aq a (a+1-a)) 3:Nat):Int)]),.bool true]) (by first|(simp[results,results185,go_sem,q0,q1,q2,q3];done)|(simp[results,results185,go_sem,q0,q1,q2,q3];omega)) rfl ⟨rfl,(gv.out.ia dJ (oc.out.is) (le_refl _) _ _ _ _),s1,nV.out,cH,MH.out.ia (by omega) (oc.out.is) _ _ _ _⟩
theorem zln(base b:Nat)(acc:List Pc)(s:ByteArray)(d:Nat)(a c:Nat)(r r1 r2:List Nat)(w:World)(h:eI base b acc s d w)(hs:s.size<=10000)(h1:aI dq (aa s)=some (a,r))(h2:aw 45 r=some r1)(h3:aI dq r1=some (c,r2))(h4:a<=c):
  Calls prog 185 #[.pointer (some ⟨b,0,none⟩)] w fun e w'=>e=.returned (.tuple #[(.agg #[.int .u64 ((wd (aq a (c+1-a)) 0:Nat):Int),.int .u64 ((wd (aq a (c+1-a)) 1:Nat):Int),.int .u64 ((wd (aq a (c+1-a)) 2:Nat):Int),.int .u64 ((wd (aq a (c+1-a)) 3:Nat):Int)]),.bool true])/\aQ base b w w'/\∃s',aa s'=r2/\s'.size<s.size/\eI base b acc s' d w':=by
 have gk:=h.lt;have dJ:=h.low;have HB:=h.1;have dt:=hid (St.new w 57 #[.int .u64 0,.int .u64 0,.int .u64 0,.int .u64 0]);have k0:aQ base b w (w.alloc (.cells #[.int .u64 0,.int .u64 0,.int .u64 0,.int .u64 0] 57)):=(aQ.refl base b w).below dJ ((Below.refl _ w).alloc (le_refl _) _);have mH:=hid (h.ab ((Below.refl _ w).alloc (le_refl _) (.cells #[.int .u64 0,.int .u64 0,.int .u64 0,.int .u64 0] 57)));have pN:=hid k0;clear h k0;go_enter func185,ntmps185;go_wp2_with fail;refine (BG base b acc s dq d a r _ mH.out hs h1).mono ?_;rintro e w1 ⟨rfl,gz,k1,s1,cZ,cH,fI⟩;have mj:=hid (pN.out.trans k1);have oq:=hid (dt.out.gd k1 (by omega) (by decide));have fo:=hid fI;have nV:=hid cZ;clear k1 fI cZ mH pN dt;go_wp2_with fail;refine (uK base b acc s1 d 45 r1 _ fo.out (by rw[nV.out];exact h2) (by omega)).mono ?_;rintro e w2 ⟨rfl,k2,s2,cQ,ct,fw⟩;have tp:=hid (mj.out.trans k2);have gD:=hid (oq.out.gd k2 (by omega) (by decide));have kD:=hid fw;have kd:=hid cQ;clear k2 fw cQ fo mj oq;go_wp2_with fail;refine (BG base b acc s2 dq d c r2 _ kD.out (by omega) (by rw[kd.out];exact h3)).mono ?_;rintro e w3 ⟨rfl,tJ,k3,s3,lq,zq,gP⟩;have Fq:=hid (tp.out.trans k3);have ua:=hid (gD.out.gd k3 (by omega) (by decide));have Au:=hid gP;have sH:=hid lq;clear k3 gP lq kD tp gD;go_wp2_with fail;refine (Kl a c gz tJ _).mono ?_;rintro e w9 ⟨rfl,b9⟩;have gv:=hid (Fq.out.below Au.out.low b9);have MH:=hid (Au.out.ab b9);obtain⟨q0,q1,q2,q3,q4,q5,q6,q7⟩:=bK (ua.out.ab b9);have zk:=gv.out.size;have oc:=hid (ua.out.ab b9);clear b9;go_wp2_with fail;exact bodyPost_ret (v:=.tuple #[(.agg #[.int .u64 ((wd (aq a (c+1-a)) 0:Nat):Int),.int .u64 ((wd (aq a (c+1-a)) 1:Nat):Int),.int .u64 ((wd (aq a (c+1-a)) 2:Nat):Int),.int .u64 ((wd (aq a (c+1-a)) 3:Nat):Int)]),.bool true]) (by first|(simp[results,results185,go_sem,q0,q1,q2,q3];done)|(simp[results,results185,go_sem,q0,q1,q2,q3];omega)) rfl ⟨rfl,(gv.out.ia dJ (oc.out.is) (le_refl _) _ _ _ _),s3,sH.out,by omega,MH.out.ia (by omega) (oc.out.is) _ _ _ _⟩
theorem Zt(base b:Nat)(acc:List Pc)(s:ByteArray)(d:Nat)(w:World)(h:eI base b acc s d w)(hs:s.size<=10000)(hc:cy (aa s)=none):
  Calls prog 185 #[.pointer (some ⟨b,0,none⟩)] w fun e w'=>(∃q:Nat->Bool,e=.returned (.tuple #[(.agg #[.int .u64 ((wd q 0:Nat):Int),.int .u64 ((wd q 1:Nat):Int),.int .u64 ((wd q 2:Nat):Int),.int .u64 ((wd q 3:Nat):Int)]),.bool false]))/\aQ base b w w':=by
 unfold cy at hc;rcases h1:aI dq (aa s) with _|⟨a,r⟩
 ·exact zm8 base b acc s d w h hs h1
 rw[h1] at hc;simp only at hc;rcases h2:aw 45 r with _|r1
 ·simp[h2] at hc
 rw[h2] at hc;simp only at hc;rcases h3:aI dq r1 with _|⟨c,r2⟩
 ·exact zm9 base b acc s d a r r1 w h hs h1 h2 h3
 rw[h3] at hc;simp only at hc;exact zna base b acc s d a c r r1 r2 w h hs h1 h2 h3 (by
  rcases Nat.lt_or_ge c a with h|h
  ·exact h
  ·simp[h] at hc)
theorem Ty(base b:Nat)(acc:List Pc)(s:ByteArray)(d a c:Nat)(r:List Nat)(w:World)(h:eI base b acc s d w)(hs:s.size<=10000)(hc:cy (aa s)=some (a,c,r)):
  Calls prog 185 #[.pointer (some ⟨b,0,none⟩)] w fun e w'=>e=.returned (.tuple #[(.agg #[.int .u64 ((wd (aq a (c+1-a)) 0:Nat):Int),.int .u64 ((wd (aq a (c+1-a)) 1:Nat):Int),.int .u64 ((wd (aq a (c+1-a)) 2:Nat):Int),.int .u64 ((wd (aq a (c+1-a)) 3:Nat):Int)]),.bool true])/\aQ base b w w'/\∃s',aa s'=r/\s'.size<s.size/\eI base b acc s' d w':=by
 unfold cy at hc;rcases h1:aI dq (aa s) with _|⟨a1,r1⟩
 ·simp[h1] at hc
 rw[h1] at hc;simp only at hc;rcases h2:aw 45 r1 with _|r2
 ·simp[h2] at hc;obtain⟨rfl,rfl,rfl⟩:=hc;exact zlm base b acc s d a1 r1 w h hs h1 h2
 rw[h2] at hc;simp only at hc;rcases h3:aI dq r2 with _|⟨c1,r3⟩
 ·simp[h3] at hc
 rw[h3] at hc;simp only at hc;split at hc
 ·rename_i hle;simp at hc;obtain⟨rfl,rfl,rfl⟩:=hc;exact zln base b acc s d a1 c1 r1 r2 r3 w h hs h1 h2 h3 hle
 simp at hc
def fa(w:World)(a:Addr):Nat:=match w.cell? a with
 | some (.string s)=>s.size
 | _=>0
theorem eI.fa{base b:Nat}{s:ByteArray}{w:World}(h:eI base b acc s d w):fa w ⟨b,0,none⟩=s.size:=by
 unfold Go.Proofs.YtbacgnhkapancaaGreat.fa;rw[h.rest.1]
theorem WB(f:Nat)(q:Nat->Bool)(s:List Nat)(a c:Nat)(r:List Nat)(hf:s.length<f)(h1:aw 93 s=none)(h2:cy s=some (a,c,r)):
  ∃g,r.length<g/\aG f q s=aG g (fun x=>q x || aq a (c+1-a) x) r:=by
 match f,hf with
 | f+1,hf=>
  have:=(MN h2).1;exact⟨f,by omega,by simp only[aG,h1,h2]⟩
theorem Zv(f:Nat)(q:Nat->Bool)(s r:List Nat)(hf:s.length<f)(h1:aw 93 s=some r):aG f q s=some (q,r):=by
 match f,hf with
 | f+1,hf=>simp only[aG,h1]
theorem TE(f:Nat)(q:Nat->Bool)(s:List Nat)(hf:s.length<f)(h1:aw 93 s=none)(h2:cy s=none):aG f q s=none:=by
 match f,hf with
 | f+1,hf=>simp only[aG,h1,h2]
theorem GV(t:Nat):(#[.int .u64 0,.int .u64 0,.int .u64 0,.int .u64 0]:Array Value)=#[.int .u64 ((wd aJ 0:Nat):Int),.int .u64 ((wd aJ 1:Nat):Int),.int .u64 ((wd aJ 2:Nat):Int),.int .u64 ((wd aJ 3:Nat):Int)]:=by
 have e:∀j,((wd aJ j:Nat):Int)=0:=fun j=>by unfold aJ;rw[vb];rfl
 simp only[e]
def Kc(base b:Nat)(acc:List Pc)(d:Nat)(o:Option ((Nat->Bool) × List Nat))(w:World)(e:Ending)(w':World):Prop:=
 aQ base b w w'/\(o=none->e=.returned (.bool false))/\∀q r,o=some (q,r)->e=.returned (.bool true)/\∃s',aa s'=r/\eI base b (acc++[⟨1,q⟩]) s' d w'
theorem zpu(base b:Nat)(acc:List Pc)(s:ByteArray)(d:Nat)(h0:aw 94 (aa s)=none)(w:World)(h:eI base b acc s d w)(hs:s.size<=10000)(ug:acc.length<=10000):
  Calls prog 170 #[.pointer (some ⟨b,0,none⟩)] w (Kc base b acc d (dW (aa s)) w):=by
 have HX:Hid (dW (aa s)=match aG ((aa s).length+1) aJ (aa s) with
  | none=>none
  | some (q,r1)=>if eh q=true then none else some (q,r1)):=by
  show _=_
  simp only[dW,h0]
  rfl
 generalize dW (aa s)=O at HX⊢;have gk:=h.lt;have dJ:=h.low;have hB:=h.1;unfold Kc;go_enter func170,ntmps170;go_wp2_with fail;refine (nR base b acc s d 94 _ h h0).mono ?_;rintro e w1 ⟨rfl,rfl⟩;obtain⟨s1,cZ,cH,fI⟩:∃s1,aa s1=aa s/\s1.size<=s.size/\eI base b acc s1 d w:=⟨s,rfl,le_refl _,h⟩
 have k1:aQ base b w w:=aQ.refl _ _ _;obtain⟨R,hR⟩:∃R,aG ((aa s).length+1) aJ (aa s)=R:=⟨_,rfl⟩
 rw[hR] at HX;have vo:=hid hR;have K1:=hid (k1.below (le_trans dJ k1.size) ((Below.refl _ w).alloc (le_refl _) (.cells #[.int .u64 0,.int .u64 0,.int .u64 0,.int .u64 0] 57)));have P1:=hid (fI.ab ((Below.refl _ w).alloc (le_refl _) (.cells #[.int .u64 0,.int .u64 0,.int .u64 0,.int .u64 0] 57)));have S1:Hid (St (w.alloc (.cells #[.int .u64 0,.int .u64 0,.int .u64 0,.int .u64 0] 57)) 57 w.heap.size #[.int .u64 ((wd aJ 0:Nat):Int),.int .u64 ((wd aJ 1:Nat):Int),.int .u64 ((wd aJ 2:Nat):Int),.int .u64 ((wd aJ 3:Nat):Int)]):=by
  have:=St.new w 57 #[.int .u64 0,.int .u64 0,.int .u64 0,.int .u64 0];rw[GV 57] at this;rw[GV 57];exact this
 have Re:=fI.lt;have Bb:=k1.size;have nV:=hid cZ;have Dr:w.heap.size≠b:=by omega
 clear hR h k1 fI cZ h0;go_wp2_with fail;go_loopw [9] (fun _ wr=>∃(f:Nat) (q:Nat->Bool) (s':ByteArray),(aa s').length<f/\Hid (aG f q (aa s')=R)/\s'.size<=s.size/\Hid (eI base b acc s' d wr)/\Hid (St wr 57 w.heap.size #[.int .u64 ((wd q 0:Nat):Int),.int .u64 ((wd q 1:Nat):Int),.int .u64 ((wd q 2:Nat):Int),.int .u64 ((wd q 3:Nat):Int)])/\Hid (aQ base b w wr)/\w.heap.size<wr.heap.size) (fun _ wr=>fa wr ⟨b,0,none⟩)
 ·exact⟨_,aJ,s1,lt_succ_self _,by show aG _ _ _=_;rw[nV.out];exact vo.out,by omega,P1,S1,K1,by simp⟩
 clear P1 S1 K1 vo;obtain⟨f,q,s',hf,HQ,cU,P2,S2,K2,uY⟩:=hrel;rcases h1:aw 93 (aa s') with _|r
 ·have HK:=hid h1;rcases h2:cy (aa s') with _|⟨a,c,r⟩
  ·have HZ:Hid (O=none):=by
    have:=HQ.out;rw[TE f q _ hf h1 h2] at this;show _=_;rw[HX.out,<-this]
   have H2:=hid h2;clear h1 h2 HX HQ;go_wp2_with fail;refine (nR base b acc s' d 93 _ P2.out HK.out).mono ?_;rintro e w2 ⟨rfl,rfl⟩;go_wp2_with fail;refine (Zt base b acc s' d _ P2.out (by omega) H2.out).mono ?_;rintro e w3 ⟨⟨q3,rfl⟩,k3⟩;have K3:=K2.out.trans k3;have pO:=K3.size;clear k3;go_wp2;go_ret;exact⟨K3.below (le_trans dJ pO) ((Below.refl _ w3).alloc (le_refl _) _),fun _=>rfl,fun q r e=>by rw[HZ.out] at e;simp at e⟩
  obtain⟨f2,nU,jP⟩:=WB f q _ a c r hf h1 h2;have uH:Hid (aG f2 (fun x=>q x || aq a (c+1-a) x) r=R):=by show _=_;rw[<-jP];exact HQ.out
  have H2:=hid h2;have kU:=P2.out.fa;clear h1 h2 HQ jP;go_wp2_with fail;refine (nR base b acc s' d 93 _ P2.out HK.out).mono ?_;rintro e w2 ⟨rfl,rfl⟩;go_wp2_with fail;refine (Ty base b acc s' d a c r _ P2.out (by omega) H2.out).mono ?_;rintro e w3 ⟨rfl,k3,s3,lq,zq,gP⟩;have G5:=S2.out.gd k3 Dr (by decide);have pO:=k3.size;have K3:=hid ((K2.out.trans k3).below (le_trans dJ (K2.out.trans k3).size) ((Below.refl _ w3).alloc (le_refl _) (.cells #[.int .u64 ((wd (aq a (c+1-a)) 0:Nat):Int),.int .u64 ((wd (aq a (c+1-a)) 1:Nat):Int),.int .u64 ((wd (aq a (c+1-a)) 2:Nat):Int),.int .u64 ((wd (aq a (c+1-a)) 3:Nat):Int)] 57)));have P3:=hid (gP.ab ((Below.refl _ w3).alloc (le_refl _) (.cells #[.int .u64 ((wd (aq a (c+1-a)) 0:Nat):Int),.int .u64 ((wd (aq a (c+1-a)) 1:Nat):Int),.int .u64 ((wd (aq a (c+1-a)) 2:Nat):Int),.int .u64 ((wd (aq a (c+1-a)) 3:Nat):Int)] 57)));have S3:=hid (G5.alloc (.cells #[.int .u64 ((wd (aq a (c+1-a)) 0:Nat):Int),.int .u64 ((wd (aq a (c+1-a)) 1:Nat):Int),.int .u64 ((wd (aq a (c+1-a)) 2:Nat):Int),.int .u64 ((wd (aq a (c+1-a)) 3:Nat):Int)] 57));have T3:=hid (St.new w3 57 #[.int .u64 ((wd (aq a (c+1-a)) 0:Nat):Int),.int .u64 ((wd (aq a (c+1-a)) 1:Nat):Int),.int .u64 ((wd (aq a (c+1-a)) 2:Nat):Int),.int .u64 ((wd (aq a (c+1-a)) 3:Nat):Int)]);obtain⟨c0,c1,c2,c3,-⟩:=bK S3.out;obtain⟨d0,d1,d2,d3,-⟩:=bK T3.out;have sH:=hid lq;clear k3 gP lq G5 P2 S2 K2;go_wp2_with fail;refine (YP q (aq a (c+1-a)) _).mono ?_;rintro e w5 ⟨rfl,b5⟩;have s5:=S3.out.ab b5;have je:=b5.size;simp at je;obtain⟨r0,U8,WI,VB,XT,U6,Xf,Vv⟩:=bK s5;have KK:=hid ((K3.out.below (le_trans dJ K3.out.size) b5).ia (g:=w.heap.size) (by omega) (s5.is) (by omega) (.int .u64 ((wd (fun x=>q x || aq a (c+1-a) x) 0:Nat):Int)) (.int .u64 ((wd (fun x=>q x || aq a (c+1-a) x) 1:Nat):Int)) (.int .u64 ((wd (fun x=>q x || aq a (c+1-a) x) 2:Nat):Int)) (.int .u64 ((wd (fun x=>q x || aq a (c+1-a) x) 3:Nat):Int)));have PP:=hid ((P3.out.ab b5).ia (g:=w.heap.size) (by omega) (s5.is) (.int .u64 ((wd (fun x=>q x || aq a (c+1-a) x) 0:Nat):Int)) (.int .u64 ((wd (fun x=>q x || aq a (c+1-a) x) 1:Nat):Int)) (.int .u64 ((wd (fun x=>q x || aq a (c+1-a) x) 2:Nat):Int)) (.int .u64 ((wd (fun x=>q x || aq a (c+1-a) x) 3:Nat):Int)));have SS:=hid (s5.ma (.int .u64 ((wd (fun x=>q x || aq a (c+1-a) x) 0:Nat):Int)) (.int .u64 ((wd (fun x=>q x || aq a (c+1-a) x) 1:Nat):Int)) (.int .u64 ((wd (fun x=>q x || aq a (c+1-a) x) 2:Nat):Int)) (.int .u64 ((wd (fun x=>q x || aq a (c+1-a) x) 3:Nat):Int)));have gZ:=PP.out.fa;clear b5 s5 S3 T3 K3 P3 c0 c1 c2 c3 d0 d1 d2 d3;go_wp2;go_roundw
  ·exact⟨f2,fun x=>q x || aq a (c+1-a) x,s3,by rw[sH.out];exact nU,by show aG _ _ _=_;rw[sH.out];exact uH.out,by omega,PP,SS,KK,by rw[VN];omega⟩
  first|(simp only[kU,gZ];omega)|(rw[kU,gZ];omega)
 have HY:Hid (O=if eh q=true then none else some (q,r)):=by
  have:=HQ.out;rw[Zv f q _ r hf h1] at this;show _=_;rw[HX.out,<-this]
 have HK:=hid h1;clear h1 HX HQ;go_wp2_with fail;refine (uK base b acc s' d 93 r _ P2.out HK.out (by omega)).mono ?_;rintro e w2 ⟨rfl,k2,s2,cQ,ct,fw⟩;have S3:=hid (S2.out.gd k2 Dr (by decide));have K3:=hid (K2.out.trans k2);have P3:=hid fw;have kd:=hid cQ;obtain⟨c0,c1,c2,c3,-⟩:=bK S3.out;have R2:=k2.size;clear k2 fw cQ S2 K2 P2;go_wp2_with fail;have KK:=K3;have PP:=P3;have SS:=S3;clear K3 P3 S3;obtain⟨c0,c1,c2,c3,-⟩:=bK SS.out;go_wp2_with fail;refine (Fi base b acc s2 d 1 q _ PP.out ug).mono ?_;rintro e w7 ⟨rfl,JG,k7⟩;have s7:=SS.out.gd k7 Dr (by decide);have K7:=hid (KK.out.trans k7);have P7:=hid JG;clear c0 c1 c2 c3 k7 JG KK PP SS;obtain⟨c0,c1,c2,c3,-⟩:=bK s7;obtain⟨o,ho⟩:∃o,eh q=o:=⟨_,rfl⟩
 have HO:=hid ho;clear ho;go_wp2_with fail;refine (QM q o HO.out _).mono ?_;rintro e w8 ⟨rfl,b8⟩;have K8:=K7.out.below (le_trans dJ K7.out.size) b8;have P8:=P7.out.ab b8;rcases o with _|_
 ·have HZ:Hid (O=some (q,r)):=by show _=_;rw[HY.out,HO.out];rfl
  go_wp2;go_ret;refine⟨K8,fun e=>by rw[HZ.out] at e;simp at e,fun q' r' e=>?_⟩;rw[HZ.out] at e;simp only[Option.some.injEq,Prod.mk.injEq] at e;obtain⟨rfl,rfl⟩:=e;exact⟨rfl,s2,kd.out,P8⟩
 have HZ:Hid (O=none):=by show _=_;rw[HY.out,HO.out];rfl
 go_wp2;go_ret;exact⟨K8,fun _=>rfl,fun q' r' e=>by rw[HZ.out] at e;simp at e⟩
theorem zpv(base b:Nat)(acc:List Pc)(s:ByteArray)(d:Nat)(rr:List Nat)(h0:aw 94 (aa s)=some rr)(w:World)(h:eI base b acc s d w)(hs:s.size<=10000)(ug:acc.length<=10000):
  Calls prog 170 #[.pointer (some ⟨b,0,none⟩)] w (Kc base b acc d (dW (aa s)) w):=by
 have HX:Hid (dW (aa s)=match aG (rr.length+1) aJ rr with
  | none=>none
  | some (q,r1)=>if eh (fun x=>!q x)=true then none else some ((fun x=>!q x),r1)):=by
  show _=_
  simp only[dW,h0]
  rfl
 generalize dW (aa s)=O at HX⊢;have gk:=h.lt;have dJ:=h.low;have hB:=h.1;unfold Kc;go_enter func170,ntmps170;go_wp2_with fail;refine (uK base b acc s d 94 rr _ h h0 hs).mono ?_;rintro e w1 ⟨rfl,k1,s1,cZ,cH,fI⟩;obtain⟨R,hR⟩:∃R,aG (rr.length+1) aJ rr=R:=⟨_,rfl⟩
 rw[hR] at HX;have vo:=hid hR;have K1:=hid (k1.below (le_trans dJ k1.size) ((Below.refl _ w1).alloc (le_refl _) (.cells #[.int .u64 0,.int .u64 0,.int .u64 0,.int .u64 0] 57)));have P1:=hid (fI.ab ((Below.refl _ w1).alloc (le_refl _) (.cells #[.int .u64 0,.int .u64 0,.int .u64 0,.int .u64 0] 57)));have S1:Hid (St (w1.alloc (.cells #[.int .u64 0,.int .u64 0,.int .u64 0,.int .u64 0] 57)) 57 w1.heap.size #[.int .u64 ((wd aJ 0:Nat):Int),.int .u64 ((wd aJ 1:Nat):Int),.int .u64 ((wd aJ 2:Nat):Int),.int .u64 ((wd aJ 3:Nat):Int)]):=by
  have:=St.new w1 57 #[.int .u64 0,.int .u64 0,.int .u64 0,.int .u64 0];rw[GV 57] at this;rw[GV 57];exact this
 have Re:=fI.lt;have Bb:=k1.size;have nV:=hid cZ;have Dr:w1.heap.size≠b:=by omega
 clear hR h k1 fI cZ h0;go_wp2_with fail;go_loopw [9] (fun _ wr=>∃(f:Nat) (q:Nat->Bool) (s':ByteArray),(aa s').length<f/\Hid (aG f q (aa s')=R)/\s'.size<=s.size/\Hid (eI base b acc s' d wr)/\Hid (St wr 57 w1.heap.size #[.int .u64 ((wd q 0:Nat):Int),.int .u64 ((wd q 1:Nat):Int),.int .u64 ((wd q 2:Nat):Int),.int .u64 ((wd q 3:Nat):Int)])/\Hid (aQ base b w wr)/\w1.heap.size<wr.heap.size) (fun _ wr=>fa wr ⟨b,0,none⟩)
 ·exact⟨_,aJ,s1,lt_succ_self _,by show aG _ _ _=_;rw[nV.out];exact vo.out,by omega,P1,S1,K1,by simp⟩
 clear P1 S1 K1 vo;obtain⟨f,q,s',hf,HQ,cU,P2,S2,K2,uY⟩:=hrel;rcases h1:aw 93 (aa s') with _|r
 ·have HK:=hid h1;rcases h2:cy (aa s') with _|⟨a,c,r⟩
  ·have HZ:Hid (O=none):=by
    have:=HQ.out;rw[TE f q _ hf h1 h2] at this;show _=_;rw[HX.out,<-this]
   have H2:=hid h2;clear h1 h2 HX HQ;go_wp2_with fail;refine (nR base b acc s' d 93 _ P2.out HK.out).mono ?_;rintro e w2 ⟨rfl,rfl⟩;go_wp2_with fail;refine (Zt base b acc s' d _ P2.out (by omega) H2.out).mono ?_;rintro e w3 ⟨⟨q3,rfl⟩,k3⟩;have K3:=K2.out.trans k3;have pO:=K3.size;clear k3;go_wp2;go_ret;exact⟨K3.below (le_trans dJ pO) ((Below.refl _ w3).alloc (le_refl _) _),fun _=>rfl,fun q r e=>by rw[HZ.out] at e;simp at e⟩
  obtain⟨f2,nU,jP⟩:=WB f q _ a c r hf h1 h2;have uH:Hid (aG f2 (fun x=>q x || aq a (c+1-a) x) r=R):=by show _=_;rw[<-jP];exact HQ.out
  have H2:=hid h2;have kU:=P2.out.fa;clear h1 h2 HQ jP;go_wp2_with fail;refine (nR base b acc s' d 93 _ P2.out HK.out).mono ?_;rintro e w2 ⟨rfl,rfl⟩;go_wp2_with fail;refine (Ty base b acc s' d a c r _ P2.out (by omega) H2.out).mono ?_;rintro e w3 ⟨rfl,k3,s3,lq,zq,gP⟩;have G5:=S2.out.gd k3 Dr (by decide);have pO:=k3.size;have K3:=hid ((K2.out.trans k3).below (le_trans dJ (K2.out.trans k3).size) ((Below.refl _ w3).alloc (le_refl _) (.cells #[.int .u64 ((wd (aq a (c+1-a)) 0:Nat):Int),.int .u64 ((wd (aq a (c+1-a)) 1:Nat):Int),.int .u64 ((wd (aq a (c+1-a)) 2:Nat):Int),.int .u64 ((wd (aq a (c+1-a)) 3:Nat):Int)] 57)));have P3:=hid (gP.ab ((Below.refl _ w3).alloc (le_refl _) (.cells #[.int .u64 ((wd (aq a (c+1-a)) 0:Nat):Int),.int .u64 ((wd (aq a (c+1-a)) 1:Nat):Int),.int .u64 ((wd (aq a (c+1-a)) 2:Nat):Int),.int .u64 ((wd (aq a (c+1-a)) 3:Nat):Int)] 57)));have S3:=hid (G5.alloc (.cells #[.int .u64 ((wd (aq a (c+1-a)) 0:Nat):Int),.int .u64 ((wd (aq a (c+1-a)) 1:Nat):Int),.int .u64 ((wd (aq a (c+1-a)) 2:Nat):Int),.int .u64 ((wd (aq a (c+1-a)) 3:Nat):Int)] 57));have T3:=hid (St.new w3 57 #[.int .u64 ((wd (aq a (c+1-a)) 0:Nat):Int),.int .u64 ((wd (aq a (c+1-a)) 1:Nat):Int),.int .u64 ((wd (aq a (c+1-a)) 2:Nat):Int),.int .u64 ((wd (aq a (c+1-a)) 3:Nat):Int)]);obtain⟨c0,c1,c2,c3,-⟩:=bK S3.out;obtain⟨d0,d1,d2,d3,-⟩:=bK T3.out;have sH:=hid lq;clear k3 gP lq G5 P2 S2 K2;go_wp2_with fail;refine (YP q (aq a (c+1-a)) _).mono ?_;rintro e w5 ⟨rfl,b5⟩;have s5:=S3.out.ab b5;have je:=b5.size;simp at je;obtain⟨r0,U8,WI,VB,XT,U6,Xf,Vv⟩:=bK s5;have KK:=hid ((K3.out.below (le_trans dJ K3.out.size) b5).ia (g:=w1.heap.size) (by omega) (s5.is) (by omega) (.int .u64 ((wd (fun x=>q x || aq a (c+1-a) x) 0:Nat):Int)) (.int .u64 ((wd (fun x=>q x || aq a (c+1-a) x) 1:Nat):Int)) (.int .u64 ((wd (fun x=>q x || aq a (c+1-a) x) 2:Nat):Int)) (.int .u64 ((wd (fun x=>q x || aq a (c+1-a) x) 3:Nat):Int)));have PP:=hid ((P3.out.ab b5).ia (g:=w1.heap.size) (by omega) (s5.is) (.int .u64 ((wd (fun x=>q x || aq a (c+1-a) x) 0:Nat):Int)) (.int .u64 ((wd (fun x=>q x || aq a (c+1-a) x) 1:Nat):Int)) (.int .u64 ((wd (fun x=>q x || aq a (c+1-a) x) 2:Nat):Int)) (.int .u64 ((wd (fun x=>q x || aq a (c+1-a) x) 3:Nat):Int)));have SS:=hid (s5.ma (.int .u64 ((wd (fun x=>q x || aq a (c+1-a) x) 0:Nat):Int)) (.int .u64 ((wd (fun x=>q x || aq a (c+1-a) x) 1:Nat):Int)) (.int .u64 ((wd (fun x=>q x || aq a (c+1-a) x) 2:Nat):Int)) (.int .u64 ((wd (fun x=>q x || aq a (c+1-a) x) 3:Nat):Int)));have gZ:=PP.out.fa;clear b5 s5 S3 T3 K3 P3 c0 c1 c2 c3 d0 d1 d2 d3;go_wp2;go_roundw
  ·exact⟨f2,fun x=>q x || aq a (c+1-a) x,s3,by rw[sH.out];exact nU,by show aG _ _ _=_;rw[sH.out];exact uH.out,by omega,PP,SS,KK,by rw[VN];omega⟩
  first|(simp only[kU,gZ];omega)|(rw[kU,gZ];omega)
 have HY:Hid (O=if eh (fun x=>!q x)=true then none else some ((fun x=>!q x),r)):=by
  have:=HQ.out;rw[Zv f q _ r hf h1] at this;show _=_;rw[HX.out,<-this]
 have HK:=hid h1;clear h1 HX HQ;go_wp2_with fail;refine (uK base b acc s' d 93 r _ P2.out HK.out (by omega)).mono ?_;rintro e w2 ⟨rfl,k2,s2,cQ,ct,fw⟩;have S3:=hid (S2.out.gd k2 Dr (by decide));have K3:=hid (K2.out.trans k2);have P3:=hid fw;have kd:=hid cQ;obtain⟨c0,c1,c2,c3,-⟩:=bK S3.out;have R2:=k2.size;clear k2 fw cQ S2 K2 P2;go_wp2_with fail;refine (WT q _).mono ?_;rintro e w5 ⟨rfl,b5⟩;have s5:=S3.out.ab b5;obtain⟨r0,U8,WI,VB,XT,U6,Xf,Vv⟩:=bK s5;have KK:=hid ((K3.out.below (le_trans dJ K3.out.size) b5).ia (g:=w1.heap.size) (by omega) (s5.is) (by omega) (.int .u64 ((wd (fun x=>!q x) 0:Nat):Int)) (.int .u64 ((wd (fun x=>!q x) 1:Nat):Int)) (.int .u64 ((wd (fun x=>!q x) 2:Nat):Int)) (.int .u64 ((wd (fun x=>!q x) 3:Nat):Int)));have PP:=hid ((P3.out.ab b5).ia (g:=w1.heap.size) (by omega) (s5.is) (.int .u64 ((wd (fun x=>!q x) 0:Nat):Int)) (.int .u64 ((wd (fun x=>!q x) 1:Nat):Int)) (.int .u64 ((wd (fun x=>!q x) 2:Nat):Int)) (.int .u64 ((wd (fun x=>!q x) 3:Nat):Int)));have SS:=hid (s5.ma (.int .u64 ((wd (fun x=>!q x) 0:Nat):Int)) (.int .u64 ((wd (fun x=>!q x) 1:Nat):Int)) (.int .u64 ((wd (fun x=>!q x) 2:Nat):Int)) (.int .u64 ((wd (fun x=>!q x) 3:Nat):Int)));clear b5 s5 S3 K3 P3 c0 c1 c2 c3;go_wp2_with fail;generalize ((((w5.setCell _ _).setCell _ _).setCell _ _).setCell _ _)=w6 at KK PP SS⊢;obtain⟨c0,c1,c2,c3,-⟩:=bK SS.out;go_wp2_with fail;refine (Fi base b acc s2 d 1 (fun x=>!q x) _ PP.out ug).mono ?_;rintro e w7 ⟨rfl,JG,k7⟩;have s7:=SS.out.gd k7 Dr (by decide);have K7:=hid (KK.out.trans k7);have P7:=hid JG;clear c0 c1 c2 c3 k7 JG KK PP SS;obtain⟨c0,c1,c2,c3,-⟩:=bK s7;obtain⟨o,ho⟩:∃o,eh (fun x=>!q x)=o:=⟨_,rfl⟩
 have HO:=hid ho;clear ho;go_wp2_with fail;refine (QM (fun x=>!q x) o HO.out _).mono ?_;rintro e w8 ⟨rfl,b8⟩;have K8:=K7.out.below (le_trans dJ K7.out.size) b8;have P8:=P7.out.ab b8;rcases o with _|_
 ·have HZ:Hid (O=some ((fun x=>!q x),r)):=by show _=_;rw[HY.out,HO.out];rfl
  go_wp2;go_ret;refine⟨K8,fun e=>by rw[HZ.out] at e;simp at e,fun q' r' e=>?_⟩;rw[HZ.out] at e;simp only[Option.some.injEq,Prod.mk.injEq] at e;obtain⟨rfl,rfl⟩:=e;exact⟨rfl,s2,kd.out,P8⟩
 have HZ:Hid (O=none):=by show _=_;rw[HY.out,HO.out];rfl
 go_wp2;go_ret;exact⟨K8,fun _=>rfl,fun q' r' e=>by rw[HZ.out] at e;simp at e⟩
theorem zpw(base b:Nat)(acc:List Pc)(s:ByteArray)(d:Nat)(w:World)(h:eI base b acc s d w)(hs:s.size<=10000)(ug:acc.length<=10000):
  Calls prog 170 #[.pointer (some ⟨b,0,none⟩)] w (Kc base b acc d (dW (aa s)) w):=by
 rcases h0:aw 94 (aa s) with _|rr
 ·exact zpu base b acc s d h0 w h hs ug
 exact zpv base b acc s d rr h0 w h hs ug
def bh(base b d:Nat)(o:Option bc)(w:World)(e:Ending)(w':World):Prop:=
 aQ base b w w'/\(o=none->e=.returned (.bool false))/\∀x,o=some x->e=.returned (.bool true)/\∃s',aa s'=x.2/\eI base b x.1 s' d w'
def uF(f:Nat)(g:bc->Option bc)(d:Nat):Prop:=∀(base b:Nat) (acc:List Pc) (s:ByteArray) (w:World),eI base b acc s d w->s.size<=2000->acc.length+2*s.size<=9000->
 Calls prog f #[.pointer (some ⟨b,0,none⟩)] w (bh base b d (g (acc,aa s)) w)
theorem bh.no{base b:Nat}{o:Option bc}{w w':World}(k:aQ base b w w')(h:o=none):bh base b d o w (.returned (.bool false)) w':=⟨k,fun _=>rfl,fun x e=>by rw[h] at e;simp at e⟩
theorem bh.yes{base b:Nat}{o:Option bc}{x:bc}{w w':World}{s':ByteArray}(k:aQ base b w w')(h:o=some x)(hn:aa s'=x.2)(hp:eI base b x.1 s' d w'):bh base b d o w (.returned (.bool true)) w':=
 ⟨k,fun e=>by rw[h] at e;simp at e,fun y e=>by rw[h] at e;simp at e;subst e;exact⟨rfl,s',hn,hp⟩⟩
theorem zpx:(Value.agg #[.int .u64 0,.int .u64 0,.int .u64 0,.int .u64 0])=(.agg #[.int .u64 ((wd aJ 0:Nat):Int),.int .u64 ((wd aJ 1:Nat):Int),.int .u64 ((wd aJ 2:Nat):Int),.int .u64 ((wd aJ 3:Nat):Int)]):=by rw[GV 57]
theorem MT(base b:Nat)(acc:List Pc)(s:ByteArray)(d:Nat)(k:Int)(w:World)(h:eI base b acc s d w)(hl:acc.length<=10000):
  Calls prog 132 #[.pointer (some ⟨b,0,none⟩),.int .i64 k,.agg #[.int .u64 0,.int .u64 0,.int .u64 0,.int .u64 0]] w fun e w'=>e=.returned (.tuple #[])/\eI base b (acc++[⟨k,aJ⟩]) s d w'/\aQ base b w w':=by
 rw[zpx];exact Fi base b acc s d k aJ w h hl
theorem Ig(c:Nat)(hc:c<256):(c=42/\ie ⟨#[42,43,63]⟩ c=0/\ey c=some 4)\/(c=43/\ie ⟨#[42,43,63]⟩ c=1/\ey c=some 5)\/(c=63/\ie ⟨#[42,43,63]⟩ c=2/\ey c=some 6)\/(ie ⟨#[42,43,63]⟩ c<0/\ey c=none):=by
 by_cases h1:c=42
 ·subst h1;exact inl ⟨rfl,by decide,by decide⟩
 by_cases h2:c=43
 ·subst h2;exact inr (inl ⟨rfl,by decide,by decide⟩)
 by_cases h3:c=63
 ·subst h3;exact inr (inr (inl ⟨rfl,by decide,by decide⟩))
 refine inr (inr (inr ⟨?_,by simp[ey,h1,h2,h3]⟩));have:=Td ⟨#[42,43,63]⟩ c hc;have e:fE ⟨#[42,43,63]⟩ c=false:=by
  unfold fE;simp;omega
 rw[e] at this;simpa using this
theorem zgE(c:Nat)(r:List Nat)(acc:List Pc)(k:Int)(h:ey c=some k):bp (c :: r) acc=bp r (acc++[⟨k,aJ⟩]):=by simp only[bp,h]
theorem zhG(c:Nat)(r:List Nat)(acc:List Pc)(h:ey c=none):bp (c :: r) acc=(acc,c :: r):=by simp only[bp,h]
theorem Wo(atom:bc->Option bc)(d:Nat)(hd:mh atom)(ha:uF 162 atom d):uF 154 (ca atom) d:=by
 intro base b acc s w h hs hl;have HX:Hid (ca atom (acc,aa s)=match atom (acc,aa s) with
  | none=>none
  | some x=>some (bp x.2 x.1)):=by show _=_;unfold ca;rfl
 have HD:=hid (fun x=>hd (acc,aa s) x);generalize ca atom (acc,aa s)=O at HX⊢;have hA:=ha base b acc s w h hs hl;have HS:=hid (nY s);have hB:=h.1;clear ha hd;generalize atom (acc,aa s)=A at HX HD hA;have HA:=hid hA;clear hA h;go_enter func154,ntmps154;go_wp2_with fail;refine HA.out.mono ?_;rintro e w1 ⟨k1,h1,h2⟩;rcases A with _|⟨jW,r1⟩
 ·obtain rfl:=h1 rfl;have HZ:=HX.out;go_wp2;go_ret;exact bh.no k1 HZ
 obtain⟨rfl,s1,cZ,fI⟩:=h2 _ rfl;have tx:=HD.out _ rfl;simp only[HS.out] at tx;simp only at cZ fI;have kI:s1.size=r1.length:=by rw[<-nY,cZ]
 have HZ:Hid (O=some (bp (aa s1) jW)):=by show _=_;rw[HX.out,cZ]
 obtain⟨R,hR⟩:∃R,bp (aa s1) jW=R:=⟨_,rfl⟩
 rw[hR] at HZ;have HR:=hid hR;have P1:=hid fI;have K1:=hid k1;have nJ:s1.size+1<=s.size:=by omega
 have jo:jW.length+2*s1.size<=9000:=by omega
 clear hR fI k1 HX HD h1 h2 tx cZ kI;go_wp2_with fail;go_loopw [3] (fun _ wr=>∃(eD:List Pc) (s':ByteArray),Hid (bp (aa s') eD=R)/\s'.size<=s1.size/\eD.length+2*s'.size<=9000/\Hid (eI base b eD s' d wr)/\Hid (aQ base b w wr)) (fun _ wr=>fa wr ⟨b,0,none⟩)
 ·exact⟨jW,s1,HR,le_refl _,jo,P1,K1⟩
 clear P1 K1 HR;obtain⟨eD,s',HQ,cU,tH,P2,K2⟩:=hrel;obtain⟨c0,f0⟩:=P2.out.rest;rcases eq_zero_or_pos s'.size with hz|hp
 ·have ka:s'.toList=[]:=JB s' hz;have fY:(!s'.toList.isEmpty)=false:=by rw[ka];rfl
  have HF:Hid (O=some (eD,[])):=by
   show _=_;have:=HQ.out;rw[Lb s' hz] at this;rw[HZ,<-this];rfl
  have HN:Hid (aa s'=[]):=Lb s' hz;clear hz ka HQ;go_wp2;go_ret;exact bh.yes K2.out HF.out HN.out P2.out
 have ka:s'.toList.isEmpty=false:=yi s' hp;have fY:(!s'.toList.isEmpty)=true:=by rw[ka];rfl
 have hc:=UInt8.toNat_lt s'[0];have Bi:=Ia s' hp;have HE:Hid (aa (s'.extract 1 s'.size)=(aa s').drop 1):=by show _=_;rw[Eh]
 have hez:(s'.extract 1 s'.size).size+1=s'.size:=by rw[ByteArray.size_extract];omega
 have kU:=P2.out.fa;have P3:=hid (P2.out.kT (s'.extract 1 s'.size));have K3:=hid (K2.out.set hB 0 (.string (s'.extract 1 s'.size)));rcases Ig s'[0].toNat hc with ⟨e,hw,hk⟩|⟨e,hw,hk⟩|⟨e,hw,hk⟩|⟨hw,hk⟩
 all_goals
  have HW:=hid hw
  have HK:=hid hk
  have HC:=hid Bi
  first|clear e|skip
  clear hw hk Bi
 rotate_right
 ·have HF:Hid (O=some (eD,aa s')):=by
   show _=_;have:=HQ.out;rw[HC.out,zhG _ _ _ HK.out] at this;rw[HZ,<-this,<-HC.out]
  obtain⟨x,hx⟩:∃x,ie ⟨#[42,43,63]⟩ s'[0].toNat=x:=⟨_,rfl⟩
  have mP:x<0:=by rw[<-hx];exact HW.out
  have HXX:=hid hx;clear hx HQ;go_wp2_with fail;refine (Nk _ _ _).mono ?_;rintro e w2 ⟨rfl,rfl⟩;rw[HXX.out];go_wp2;go_ret;exact bh.yes K2.out HF.out rfl P2.out
 all_goals
  go_wp2_with fail
  refine (Nk _ _ _).mono ?_
  rintro e w2 ⟨rfl,rfl⟩
  rw[HW.out]
  go_wp2_with fail
  refine (MT base b eD (s'.extract 1 s'.size) d _ _ P3.out (by omega)).mono ?_
  rintro e w3 ⟨rfl,gP,k3⟩
  have P4:=hid gP
  have K4:=hid (K3.out.trans k3)
  have gZ:=gP.fa
  clear gP k3
  go_wp2_with fail
  go_roundw
  case rel=>exact⟨_,s'.extract 1 s'.size,by show bp _ _=_;rw[HE.out,<-zgE _ _ _ _ HK.out,<-HC.out];exact HQ.out,by omega,by simp;omega,P4,K4⟩
  case measure=>first|(simp only[kU,gZ];omega)|(rw[kU,gZ];omega)
theorem zhH(atom:bc->Option bc)(f:Nat)(s:bc)(hf:s.2.length<f)(h:fZ s.2=true):aX atom f s=some s:=by
 match f,hf with
 | f+1,hf=>unfold aX;rw[if_pos h]
theorem zjI(atom:bc->Option bc)(f:Nat)(s:bc)(hf:s.2.length<f)(h:fZ s.2=false)(h1:ca atom s=none):aX atom f s=none:=by
 match f,hf with
 | f+1,hf=>simp[aX,h,h1]
theorem zgF(atom:bc->Option bc)(f:Nat)(s x:bc)(hd:mh atom)(hf:s.2.length<f)(h:fZ s.2=false)(h1:ca atom s=some x):∃g,x.2.length<g/\aX atom f s=aX atom g (x.1++[⟨2,aJ⟩],x.2):=by
 match f,hf with
 | f+1,hf=>
  have:=(Du hd s x h1).1;exact⟨f,by omega,by simp[aX,h,h1]⟩
theorem Zu(atom:bc->Option bc)(d:Nat)(hd:mh atom)(ha:uF 154 (ca atom) d):uF 130 (cb atom) d:=by
 intro base b acc s w h hs hl;have HX:Hid (cb atom (acc,aa s)=match ca atom (acc,aa s) with
  | none=>none
  | some x=>aX atom (x.2.length+1) x):=by show _=_;unfold cb;rfl
 have HD:=hid (fun s x=>Du hd s x);have Rw:=hid hd;generalize cb atom (acc,aa s)=O at HX⊢;have hA:=ha base b acc s w h hs hl;have HS:=hid (nY s);have hB:=h.1;have uq:=hid ha;have CH:=hid (fun x=>HD.out (acc,aa s) x);clear ha hd;generalize ca atom (acc,aa s)=A at HX CH hA;have HA:=hid hA;clear hA h;go_enter func130,ntmps130;go_wp2_with fail;refine HA.out.mono ?_;rintro e w1 ⟨k1,h1,h2⟩;rcases A with _|⟨jW,r1⟩
 ·obtain rfl:=h1 rfl;have HZ:=HX.out;go_wp2;go_ret;exact bh.no k1 HZ
 obtain⟨rfl,s1,cZ,fI⟩:=h2 _ rfl;have tx:=CH.out _ rfl;simp only[HS.out] at tx;simp only at cZ fI;have kI:s1.size=r1.length:=by rw[<-nY,cZ]
 obtain⟨R,hR⟩:∃R,aX atom ((aa s1).length+1) (jW,aa s1)=R:=⟨_,rfl⟩
 have HZ:Hid (O=R):=by show _=_;rw[HX.out,<-hR,cZ]
 have HR:=hid hR;have P1:=hid fI;have K1:=hid k1;have nJ:s1.size+1<=s.size:=by omega
 have jo:jW.length+2*s1.size<=9000:=by omega
 clear hR fI k1 HX CH h1 h2 tx cZ kI;go_wp2_with fail;go_loopw [30] (fun _ wr=>∃(f:Nat) (eD:List Pc) (s':ByteArray),(aa s').length<f/\Hid (aX atom f (eD,aa s')=R)/\s'.size<=s1.size/\eD.length+2*s'.size<=9000/\Hid (eI base b eD s' d wr)/\Hid (aQ base b w wr)) (fun _ wr=>fa wr ⟨b,0,none⟩)
 ·exact⟨_,jW,s1,lt_succ_self _,HR,le_refl _,jo,P1,K1⟩
 clear P1 K1 HR;obtain⟨f,eD,s',hf,HQ,cU,tH,P2,K2⟩:=hrel;obtain⟨c0,f0⟩:=P2.out.rest;have kP:fZ (aa s')=true\/(fZ (aa s')=false/\∃h:0<s'.size,s'[0].toNat≠124/\s'[0].toNat≠41):=by
  rcases eq_zero_or_pos s'.size with hz|hp
  ·left;rw[Lb s' hz];rfl
  rw[Ia s' hp];by_cases h1:s'[0].toNat=124
  ·left;simp[fZ,h1]
  by_cases h2:s'[0].toNat=41
  ·left;simp[fZ,h2]
  right;exact⟨by simp[fZ,h1,h2],hp,h1,h2⟩
 rcases kP with kP|⟨kP,hp,h1,h2⟩
 ·have HF:Hid (O=some (eD,aa s')):=by
   show _=_;rw[HZ.out,<-HQ.out,zhH atom f _ hf kP]
  rcases eq_zero_or_pos s'.size with hz|hp
  ·have ka:s'.toList=[]:=JB s' hz;have fY:(!s'.toList.isEmpty)=false:=(by rw[ka];rfl);clear hz ka HQ kP;go_wp2;go_ret;exact bh.yes K2.out HF.out rfl P2.out
  have ka:s'.toList.isEmpty=false:=yi s' hp;have fY:(!s'.toList.isEmpty)=true:=by rw[ka];rfl
  rw[Ia s' hp] at kP;by_cases h1:s'[0].toNat=124
  ·have e1:((s'[0].toNat:Int) != 124)=false:=(by simp;omega);clear HQ kP h1;go_wp2;go_ret;exact bh.yes K2.out HF.out rfl P2.out
  have h2:s'[0].toNat=41:=by simpa [fZ,h1] using kP
  have e1:((s'[0].toNat:Int) != 124)=true:=by simp;omega
  have e2:((s'[0].toNat:Int) != 41)=false:=by simp;omega
  clear HQ kP h1 h2;go_wp2;go_ret;exact bh.yes K2.out HF.out rfl P2.out
 have ka:s'.toList.isEmpty=false:=yi s' hp;have fY:(!s'.toList.isEmpty)=true:=by rw[ka];rfl
 have e1:((s'[0].toNat:Int) != 124)=true:=by simp;omega
 have e2:((s'[0].toNat:Int) != 41)=true:=by simp;omega
 have HEnd:=hid kP;have HS':=hid (nY s');have kU:=P2.out.fa;have hA:=uq.out base b eD s' _ P2.out (by omega) tH;rcases hr:ca atom (eD,aa s') with _|⟨uy,r2⟩
 ·rw[hr] at hA;have iZ:=hid hA;have HF:Hid (O=none):=by
   show _=_;rw[HZ.out,<-HQ.out,zjI atom f _ hf kP hr]
  clear hA hr kP h1 h2 HQ;go_wp2_with fail;refine iZ.out.mono ?_;rintro e w2 ⟨k2,h1,-⟩;obtain rfl:=h1 rfl;go_wp2;go_ret;exact bh.no (K2.out.trans k2) HF.out
 have tx:=HD.out _ _ hr;simp only[HS'.out] at tx;obtain⟨f2,nU,jP⟩:=zgF atom f _ _ Rw.out hf kP hr;have uH:Hid (aX atom f2 (uy++[⟨2,aJ⟩],r2)=R):=by show _=_;rw[<-jP];exact HQ.out
 rw[hr] at hA;have iZ:=hid hA;clear hA hr kP h1 h2 HQ jP;go_wp2_with fail;refine iZ.out.mono ?_;rintro e w2 ⟨k2,-,h2⟩;obtain⟨rfl,s2,cQ,fw⟩:=h2 _ rfl;simp only at cQ fw nU;have td:s2.size=r2.length:=by rw[<-nY,cQ]
 have kd:=hid cQ;have P3:=hid fw;have K3:=hid (K2.out.trans k2);clear k2 h2 cQ fw;go_wp2_with fail;refine (MT base b uy s2 d _ _ P3.out (by omega)).mono ?_;rintro e w3 ⟨rfl,gP,k3⟩;have P4:=hid gP;have K4:=hid (K3.out.trans k3);have gZ:=gP.fa;clear gP k3;go_wp2;go_roundw
 ·exact⟨f2,_,s2,by rw[kd.out];exact nU,by show aX _ _ _=_;rw[kd.out];exact uH.out,by omega,by simp;omega,P4,K4⟩
 first|(simp only[kU,gZ];omega)|(rw[kU,gZ];omega)
theorem zhI(atom:bc->Option bc)(f:Nat)(s:bc)(hf:s.2.length<f)(h:aw 124 s.2=none):aW atom f s=some s:=by
 match f,hf with
 | f+1,hf=>simp only[aW,h]
theorem zjJ(atom:bc->Option bc)(f:Nat)(s:bc)(r:List Nat)(hf:s.2.length<f)(h:aw 124 s.2=some r)(h1:cb atom (s.1,r)=none):aW atom f s=none:=by
 match f,hf with
 | f+1,hf=>simp only[aW,h,h1]
theorem zgG(atom:bc->Option bc)(f:Nat)(s x:bc)(r:List Nat)(hd:mh atom)(hf:s.2.length<f)(h:aw 124 s.2=some r)(h1:cb atom (s.1,r)=some x):∃g,x.2.length<g/\aW atom f s=aW atom g (x.1++[⟨3,aJ⟩],x.2):=by
 match f,hf with
 | f+1,hf=>
  have h2:=(Ch hd _ x h1).1;have h3:=uB h;rw[h3] at hf;simp at h2 hf;exact⟨f,by omega,by simp only[aW,h,h1]⟩
theorem X8(atom:bc->Option bc)(d:Nat)(hd:mh atom)(ha:uF 130 (cb atom) d):uF 95 (bf atom) d:=by
 intro base b acc s w h hs hl;have HX:Hid (bf atom (acc,aa s)=match cb atom (acc,aa s) with
  | none=>none
  | some x=>aW atom (x.2.length+1) x):=by show _=_;unfold bf;rfl
 have HD:=hid (fun s x=>Ch hd s x);have Rw:=hid hd;generalize bf atom (acc,aa s)=O at HX⊢;have hA:=ha base b acc s w h hs hl;have HS:=hid (nY s);have hB:=h.1;have uq:=hid ha;have CH:=hid (fun x=>HD.out (acc,aa s) x);clear ha hd;generalize cb atom (acc,aa s)=A at HX CH hA;have HA:=hid hA;clear hA h;go_enter func95,ntmps95;go_wp2_with fail;refine HA.out.mono ?_;rintro e w1 ⟨k1,h1,h2⟩;rcases A with _|⟨jW,r1⟩
 ·obtain rfl:=h1 rfl;have HZ:=HX.out;go_wp2;go_ret;exact bh.no k1 HZ
 obtain⟨rfl,s1,cZ,fI⟩:=h2 _ rfl;have tx:=CH.out _ rfl;simp only[HS.out] at tx;simp only at cZ fI;have kI:s1.size=r1.length:=by rw[<-nY,cZ]
 obtain⟨R,hR⟩:∃R,aW atom ((aa s1).length+1) (jW,aa s1)=R:=⟨_,rfl⟩
 have HZ:Hid (O=R):=by show _=_;rw[HX.out,<-hR,cZ]
 have HR:=hid hR;have P1:=hid fI;have K1:=hid k1;have nJ:s1.size+1<=s.size:=by omega
 have jo:jW.length+2*s1.size<=9000:=by omega
 clear hR fI k1 HX CH h1 h2 tx cZ kI;go_wp2_with fail;go_loopw [11] (fun _ wr=>∃(f:Nat) (eD:List Pc) (s':ByteArray),(aa s').length<f/\Hid (aW atom f (eD,aa s')=R)/\s'.size<=s1.size/\eD.length+2*s'.size<=9000/\Hid (eI base b eD s' d wr)/\Hid (aQ base b w wr)) (fun _ wr=>fa wr ⟨b,0,none⟩)
 ·exact⟨_,jW,s1,lt_succ_self _,HR,le_refl _,jo,P1,K1⟩
 clear P1 K1 HR;obtain⟨f,eD,s',hf,HQ,cU,tH,P2,K2⟩:=hrel;rcases hk:aw 124 (aa s') with _|r
 ·have HK:=hid hk;have HF:Hid (O=some (eD,aa s')):=by
   show _=_;rw[HZ.out,<-HQ.out,zhI atom f (eD,aa s') hf hk]
  clear hk HQ;go_wp2_with fail;refine (nR base b eD s' d 124 _ P2.out HK.out).mono ?_;rintro e w2 ⟨rfl,rfl⟩;go_wp2;go_ret;exact bh.yes K2.out HF.out rfl P2.out
 have HK:=hid hk;have kU:=P2.out.fa;rcases hr:cb atom (eD,r) with _|⟨uy,r2⟩
 ·have HF:Hid (O=none):=by
   show _=_;rw[HZ.out,<-HQ.out,zjJ atom f (eD,aa s') r hf hk hr]
  have Dv:=hid hr;clear hk hr HQ;go_wp2_with fail;refine (uK base b eD s' d 124 r _ P2.out HK.out (by omega)).mono ?_;rintro e w2 ⟨rfl,k2,s2,cQ,ct,fw⟩;have hA:=uq.out base b eD s2 _ fw (by omega) (by omega);rw[cQ,Dv.out] at hA;have iZ:=hid hA;have K3:=hid (K2.out.trans k2);clear hA k2 fw cQ;go_wp2_with fail;refine iZ.out.mono ?_;rintro e w3 ⟨k3,h1,-⟩;obtain rfl:=h1 rfl;go_wp2;go_ret;exact bh.no (K3.out.trans k3) HF.out
 have tx:=HD.out _ _ hr;obtain⟨f2,nU,jP⟩:=zgG atom f (eD,aa s') (uy,r2) r Rw.out hf hk hr;have uH:Hid (aW atom f2 (uy++[⟨3,aJ⟩],r2)=R):=by show _=_;rw[<-jP];exact HQ.out
 have Dv:=hid hr;clear hk hr HQ jP;go_wp2_with fail;refine (uK base b eD s' d 124 r _ P2.out HK.out (by omega)).mono ?_;rintro e w2 ⟨rfl,k2,s2,cQ,ct,fw⟩;have hrz:s2.size=r.length:=by rw[<-nY,cQ]
 have hA:=uq.out base b eD s2 _ fw (by omega) (by omega);rw[cQ,Dv.out] at hA;have iZ:=hid hA;have K3:=hid (K2.out.trans k2);clear hA k2 fw cQ;go_wp2_with fail;refine iZ.out.mono ?_;rintro e w3 ⟨k3,-,h2⟩;obtain⟨rfl,s3,lq,gP⟩:=h2 _ rfl;simp only at lq gP nU tx;have pO:s3.size=r2.length:=by rw[<-nY,lq]
 have sH:=hid lq;have P3:=hid gP;have K4:=hid (K3.out.trans k3);clear k3 h2 lq gP;go_wp2_with fail;refine (MT base b uy s3 d _ _ P3.out (by omega)).mono ?_;rintro e w4 ⟨rfl,yw,k4⟩;have P4:=hid yw;have K5:=hid (K4.out.trans k4);have gZ:=yw.fa;clear yw k4;go_wp2;go_roundw
 ·exact⟨f2,_,s3,by rw[sH.out];exact nU,by show aW _ _ _=_;rw[sH.out];exact uH.out,by omega,by simp;omega,P4,K5⟩
 first|(simp only[kU,gZ];omega)|(rw[kU,gZ];omega)
theorem znb:uF 169 (fun _=>none) 99:=by
 intro base b acc s w h hs hl;obtain⟨c2,f2⟩:=h.depth;have gk:=h.lt;have K1:=hid ((aQ.refl base b w).set h.1 2 (.int .i64 (100:Int)));clear h;go_enter func169,ntmps169;go_wp2;go_ret;exact bh.no K1.out rfl
theorem znc(atom:bc->Option bc)(d:Nat)(hd99:d<99)(hd:mh atom)(ha:uF 95 (bf atom) (d+1)):uF 169 (ea atom) d:=by
 intro base b acc s w h hs hl;obtain⟨c2,f2⟩:=h.depth;have gk:=h.lt;have hB:=h.1;have K1:=hid ((aQ.refl base b w).set h.1 2 (.int .i64 ((d+1:Nat):Int)));have fI:=h.qo (d+1);have HX:Hid (ea atom (acc,aa s)=match bf atom (acc,aa s) with
  | none=>none
  | some x=>match aw 41 x.2 with
   | none=>none
   | some r=>some (x.1,r)):=by show _=_;unfold ea;rfl
 have HD:=hid (fun x=>QT hd (acc,aa s) x);have HS:=hid (nY s);generalize ea atom (acc,aa s)=O at HX⊢;have hA:=ha base b acc s _ fI hs hl;generalize bf atom (acc,aa s)=A at HX HD hA;have HA:=hid hA;have e1:(d:Int)+1=((d+1:Nat):Int):=by omega
 obtain⟨m,hm⟩:∃m,d+1=m:=⟨_,rfl⟩
 have hm99:m<=99:=by omega
 have iD:1<=m:=by omega
 have ed:(m:Int)-1=(d:Int):=by omega
 rw[hm] at e1 HA K1 fI;have P1:=hid fI;obtain⟨d2,g2⟩:=fI.depth;clear h hA ha fI hm hd;go_enter func169,ntmps169;go_wp2_with fail;refine HA.out.mono ?_;rintro e w1 ⟨k1,h1,h2⟩;have K2:=hid (K1.out.trans k1);rcases A with _|⟨jW,r1⟩
 ·obtain rfl:=h1 rfl;have HZ:=HX.out;clear HA K1 P1 k1 h1 h2;go_wp2;go_ret;exact bh.no K2.out HZ
 obtain⟨rfl,s1,cZ,fI⟩:=h2 _ rfl;have tx:=HD.out _ rfl;simp only[HS.out] at tx;simp only at cZ fI;have kI:s1.size=r1.length:=by rw[<-nY,cZ]
 have P2:=hid fI;clear HA K1 P1 k1 h1 h2 fI d2 g2;rcases hk:aw 41 (aa s1) with _|r
 ·have HF:Hid (O=none):=by show _=_;rw[HX.out];simp only[<-cZ,hk]
  have HK:=hid hk;clear hk;go_wp2_with fail;refine (nR base b jW s1 m 41 _ P2.out HK.out).mono ?_;rintro e w2 ⟨rfl,rfl⟩;go_wp2;go_ret;exact bh.no K2.out HF.out
 have HF:Hid (O=some (jW,r)):=by show _=_;rw[HX.out];simp only[<-cZ,hk]
 have HK:=hid hk;clear hk;go_wp2_with fail;refine (uK base b jW s1 m 41 r _ P2.out HK.out (by omega)).mono ?_;rintro e w2 ⟨rfl,k2,s2,cQ,ct,fw⟩;obtain⟨d3,g3⟩:=fw.depth;have P3:=hid (fw.qo d);have K3:=hid ((K2.out.trans k2).set hB 2 (.int .i64 (d:Int)));have kd:=hid cQ;clear k2 fw cQ;go_wp2;go_ret;exact bh.yes K3.out HF.out kd.out P3.out
theorem AI(c:Nat)(hc:c<256)(w:World):FW (w.alloc (.cells #[.int .u8 (c:Int)] 5)) (some ⟨w.heap.size,0,none⟩) 1 (fun _=>c):=by
 intro _;refine⟨w.heap.size,0,rfl,by simp,fun j hj=>?_⟩;obtain rfl:j=0:=by omega
 refine⟨?_,hc⟩;have h:(w.alloc (.cells #[.int .u8 (c:Int)] 5)).heap[w.heap.size]?=some (.cells #[.int .u8 (c:Int)] 5 (0,0)):=St.new w _ _;rw[Nat.zero_add,cell_of_heap h];rfl
theorem WQ(group:bc->Option bc)(d:Nat)(ha:uF 169 group d):uF 162 (aU group) d:=by
 intro base b acc s w h hs hl;have hB:=h.1;have dJ:=h.low;have P0:=hid h;have uq:=hid ha;have HX:Hid (aU group (acc,aa s)=aU group (acc,aa s)):=rfl;obtain⟨O,hO⟩:∃O,aU group (acc,aa s)=O:=⟨_,rfl⟩
 rw[hO];unfold aU at hO;simp only at hO;clear ha h HX;rcases h1:aw 46 (aa s) with _|r
 ·rw[h1] at hO;simp only at hO;have H1:=hid h1;clear h1;rcases h2:aw 126 (aa s) with _|r
  ·rw[h2] at hO;simp only at hO;have H2:=hid h2;clear h2;rcases h3:aw 40 (aa s) with _|r
   ·rw[h3] at hO;simp only at hO;have H3:=hid h3;clear h3;rcases h4:aw 91 (aa s) with _|r
    ·rw[h4] at hO;simp only at hO;have H4:=hid h4;clear h4;rcases h5:aI mU (aa s) with _|⟨c,r⟩
     ·rw[h5] at hO;simp only at hO;have H5:=hid h5;have HF:=hid hO.symm;clear h5 hO;go_enter func162,ntmps162;go_wp2_with fail;refine (nR base b acc s d 46 _ P0.out H1.out).mono ?_;rintro e w2 ⟨rfl,rfl⟩;go_wp2_with fail;refine (nR base b acc s d 126 _ P0.out H2.out).mono ?_;rintro e w2 ⟨rfl,rfl⟩;go_wp2_with fail;refine (nR base b acc s d 40 _ P0.out H3.out).mono ?_;rintro e w2 ⟨rfl,rfl⟩;go_wp2_with fail;refine (nR base b acc s d 91 _ P0.out H4.out).mono ?_;rintro e w2 ⟨rfl,rfl⟩;go_wp2_with fail;refine (Q8 base b acc s mU d _ P0.out (by omega) H5.out).mono ?_;rintro e w2 ⟨rfl,b2⟩;have K2:=hid ((aQ.refl base b w).below dJ b2);have P2:=hid (P0.out.ab b2);have rk:=P2.out.low;clear b2;go_wp2_with fail;refine (Ze _ 1 1 (fun _=>0) _ (AI 0 (by decide) w2) (by decide)).mono ?_;rintro e w3 ⟨rfl,b3⟩;have vQ:Below w2.heap.size w2 w3:=((Below.refl _ w2).alloc (le_refl _) _).trans (b3.mono (by simp));have K3:=hid (K2.out.below rk vQ);have P3:=hid (P2.out.ab vQ);clear b3 vQ;go_wp2_with fail;refine (Fi base b acc s d 1 _ _ P3.out (by omega)).mono ?_;rintro e w4 ⟨rfl,yw,k4⟩;go_wp2;go_ret;exact bh.no (K3.out.trans k4) HF.out
     rw[h5] at hO;simp only at hO;have H5:=hid h5;have HF:=hid hO.symm;clear h5 hO;go_enter func162,ntmps162;go_wp2_with fail;refine (nR base b acc s d 46 _ P0.out H1.out).mono ?_;rintro e w2 ⟨rfl,rfl⟩;go_wp2_with fail;refine (nR base b acc s d 126 _ P0.out H2.out).mono ?_;rintro e w2 ⟨rfl,rfl⟩;go_wp2_with fail;refine (nR base b acc s d 40 _ P0.out H3.out).mono ?_;rintro e w2 ⟨rfl,rfl⟩;go_wp2_with fail;refine (nR base b acc s d 91 _ P0.out H4.out).mono ?_;rintro e w2 ⟨rfl,rfl⟩;go_wp2_with fail;refine (BG base b acc s mU d c r _ P0.out (by omega) H5.out).mono ?_;rintro e w2 ⟨rfl,hc,k2,s2,cQ,ct,fw⟩;have K2:=hid k2;have P2:=hid fw;have kd:=hid cQ;have rk:=fw.low;clear k2 fw cQ;go_wp2_with fail;refine (Ze _ 1 1 (fun _=>c) _ (AI c hc w2) (by decide)).mono ?_;rintro e w3 ⟨rfl,b3⟩;have vQ:Below w2.heap.size w2 w3:=((Below.refl _ w2).alloc (le_refl _) _).trans (b3.mono (by simp));have K3:=hid (K2.out.below rk vQ);have P3:=hid (P2.out.ab vQ);clear b3 vQ;go_wp2_with fail;refine (Fi base b acc s2 d 1 _ _ P3.out (by omega)).mono ?_;rintro e w4 ⟨rfl,yw,k4⟩;go_wp2;go_ret;exact bh.yes (K3.out.trans k4) HF.out kd.out yw
    rw[h4] at hO;simp only at hO;have H4:=hid h4;have HSR:Hid (∀s2,aa s2=r->aa s2=r):=(fun _ h=>h);clear h4;have HO:=hid hO;clear hO;go_enter func162,ntmps162;go_wp2_with fail;refine (nR base b acc s d 46 _ P0.out H1.out).mono ?_;rintro e w2 ⟨rfl,rfl⟩;go_wp2_with fail;refine (nR base b acc s d 126 _ P0.out H2.out).mono ?_;rintro e w2 ⟨rfl,rfl⟩;go_wp2_with fail;refine (nR base b acc s d 40 _ P0.out H3.out).mono ?_;rintro e w2 ⟨rfl,rfl⟩;go_wp2_with fail;refine (uK base b acc s d 91 r _ P0.out H4.out (by omega)).mono ?_;rintro e w2 ⟨rfl,k2,s2,cQ,ct,fw⟩;have qC:=zpw base b acc s2 d _ fw (by omega) (by omega);rw[cQ] at qC;have QU:=hid qC;clear qC;go_wp2_with fail;refine QU.out.mono ?_;rintro e w3 ⟨k3,g1,g2⟩;have hO:=HO.out;rcases h5:dW r with _|⟨q,r1⟩
    ·rw[h5] at hO;simp only at hO;obtain rfl:=g1 h5;have HF:=hid hO.symm;clear hO h5 HO;go_wp2;go_ret;exact bh.no (k2.trans k3) HF.out
    rw[h5] at hO;simp only at hO;obtain⟨rfl,s3,lq,gP⟩:=g2 _ _ h5;have HF:=hid hO.symm;clear hO h5 HO;go_wp2;go_ret;exact bh.yes (k2.trans k3) HF.out lq gP
   rw[h3] at hO;simp only at hO;have H3:=hid h3;have HO:=hid hO;clear h3 hO;go_enter func162,ntmps162;go_wp2_with fail;refine (nR base b acc s d 46 _ P0.out H1.out).mono ?_;rintro e w2 ⟨rfl,rfl⟩;go_wp2_with fail;refine (nR base b acc s d 126 _ P0.out H2.out).mono ?_;rintro e w2 ⟨rfl,rfl⟩;go_wp2_with fail;refine (uK base b acc s d 40 r _ P0.out H3.out (by omega)).mono ?_;rintro e w2 ⟨rfl,k2,s2,cQ,ct,fw⟩;have hA:=uq.out base b acc s2 _ fw (by omega) (by omega);rw[cQ,HO.out] at hA;have HA:=hid hA;clear hA;go_wp2_with fail;refine HA.out.mono ?_;rintro e w3 ⟨k3,g1,g2⟩;rcases O with _|⟨acc3,r3⟩
   ·obtain rfl:=g1 rfl;go_wp2;go_ret;exact bh.no (k2.trans k3) rfl
   obtain⟨rfl,s3,lq,gP⟩:=g2 _ rfl;go_wp2;go_ret;exact bh.yes (k2.trans k3) rfl lq gP
  rw[h2] at hO;simp only at hO;have H2:=hid h2;have HF:=hid hO.symm;clear h2 hO;go_enter func162,ntmps162;go_wp2_with fail;refine (nR base b acc s d 46 _ P0.out H1.out).mono ?_;rintro e w2 ⟨rfl,rfl⟩;go_wp2_with fail;refine (uK base b acc s d 126 r _ P0.out H2.out (by omega)).mono ?_;rintro e w2 ⟨rfl,k2,s2,cQ,ct,fw⟩;have P2:=hid fw;clear fw;go_wp2_with fail;refine (MT base b acc s2 d 0 _ P2.out (by omega)).mono ?_;rintro e w4 ⟨rfl,yw,k4⟩;go_wp2;go_ret;exact bh.yes (k2.trans k4) HF.out cQ yw
 rw[h1] at hO;simp only at hO;have H1:=hid h1;have HF:=hid hO.symm;clear h1 hO;go_enter func162,ntmps162;go_wp2_with fail;refine (uK base b acc s d 46 r _ P0.out H1.out (by omega)).mono ?_;rintro e w2 ⟨rfl,k2,s2,cQ,ct,fw⟩;have P2:=hid fw;have rk:=fw.low;clear fw;go_wp2_with fail;refine (zmZ _).mono ?_;rintro e w3 ⟨rfl,b3⟩;have P3:=hid (P2.out.ab b3);have K3:=hid (k2.below rk b3);go_wp2_with fail;refine (Fi base b acc s2 d 1 (fun _=>true) _ P3.out (by omega)).mono ?_;rintro e w4 ⟨rfl,yw,k4⟩;go_wp2;go_ret;exact bh.yes (K3.out.trans k4) HF.out cQ yw
theorem znd(D d:Nat)(h:d+D=99):uF 162 (dw D) d:=by
 induction D generalizing d with
 | zero=>
  obtain rfl:d=99:=by omega
  exact WQ _ 99 znb
 | succ D ih=>
  have h1:=ih (d+1) (by omega);exact WQ _ d (znc (dw D) d (by omega) (yH D) (X8 _ _ (yH D) (Zu _ _ (yH D) (Wo _ _ (yH D) h1))))
theorem Qm:uF 95 (bf (dw 99)) 0:=
 X8 _ _ (yH 99) (Zu _ _ (yH 99) (Wo _ _ (yH 99) (znd 99 0 rfl)))
theorem Ej(s:ByteArray)(w:World)(hs:1600<s.size)(hm:s.size<=maxLen):
  Calls prog 60 #[.string s] w fun e w'=>e=.returned (.tuple #[.slice none 0 0,.int .i64 6])/\w=w':=by
 unfold maxLen at hm;go_enter func60,ntmps60;go_wp2;go_ret2;exact⟨rfl,rfl⟩
theorem eI.new(s:ByteArray)(w:World):eI w.heap.size w.heap.size [] s 0 (w.alloc (.cells #[.string s,.slice none 0 0,.int .i64 0] 143)):=
 ⟨le_refl _,.slice none 0 0,St.new w _ _,World.ownsRow_nil _ _ _ _,by simp[Value.ownBlock]⟩
theorem zne(s:ByteArray)(w:World)(hs:s.size<=1600)(h:∀l,bf (dw 99) ([],aa s)≠some (l,[])):
  Calls prog 60 #[.string s] w fun e w'=>e=.returned (.tuple #[.slice none 0 0,.int .i64 5])/\Below w.heap.size w w':=by
 have hA:=Qm w.heap.size w.heap.size [] s _ (eI.new s w) (by omega) (by simp;omega);have aD:Below w.heap.size w (w.alloc (.cells #[.string s,.slice none 0 0,.int .i64 0] 143)):=(Below.refl _ _).alloc (le_refl _) _;generalize bf (dw 99) ([],aa s)=O at hA h;have HA:=hid hA;have H:=hid h;clear hA h;go_enter func60,ntmps60;go_wp2_with fail;refine HA.out.mono ?_;rintro e w1 ⟨k1,h1,h2⟩;have fp:=aD.trans k1.1;rcases O with _|⟨l,r⟩
 ·obtain rfl:=h1 rfl;go_wp2;go_ret2;exact⟨rfl,fp⟩
 obtain⟨rfl,s',hn,hp⟩:=h2 _ rfl;obtain⟨c0,-⟩:=hp.rest;have hne:r≠[]:=fun e=>H.out l (by rw[e])
 have hz:0<s'.size:=by
  rcases eq_zero_or_pos s'.size with hz|hz
  ·exact absurd (by simp only at hn;rw[<-hn];exact Lb s' hz) hne
  exact hz
 have ka:s'.toList.isEmpty=false:=yi s' hz;have fY:(!s'.toList.isEmpty)=true:=by rw[ka];rfl
 go_wp2;go_ret2;exact⟨rfl,fp⟩
theorem zjK(s:ByteArray)(w:World)(hs:s.size<=1600)(l:List Pc)(h:bf (dw 99) ([],aa s)=some (l,[]))(hl:400<l.length):
  Calls prog 60 #[.string s] w fun e w'=>e=.returned (.tuple #[.slice none 0 0,.int .i64 6])/\Below w.heap.size w w':=by
 have hA:=Qm w.heap.size w.heap.size [] s _ (eI.new s w) (by omega) (by simp;omega);have aD:Below w.heap.size w (w.alloc (.cells #[.string s,.slice none 0 0,.int .i64 0] 143)):=(Below.refl _ _).alloc (le_refl _) _;rw[h] at hA;have HA:=hid hA;clear hA h;go_enter func60,ntmps60;go_wp2_with fail;refine HA.out.mono ?_;rintro e w1 ⟨k1,h1,h2⟩;have fp:=aD.trans k1.1;obtain⟨rfl,s',hn,hp⟩:=h2 _ rfl;obtain⟨c0,-⟩:=hp.rest;simp only at hn hp;have hz:s'.size=0:=by rw[<-nY,hn];rfl
 have ka:s'.toList=[]:=JB s' hz;have fY:(!s'.toList.isEmpty)=false:=by rw[ka];rfl
 obtain⟨_,v,rJ,ay,_⟩:=hp;obtain⟨a,cap,rfl⟩:=bJ ay;have c1:w1.cell? ⟨w.heap.size,1,none⟩=some (.slice a l.length cap):=by rw[cell_of_heap rJ];rfl
 obtain⟨n,uW⟩:∃n,l.length=n:=⟨_,rfl⟩
 rw[uW] at c1 hl;clear ka ay rJ h1 h2 uW;go_wp2;go_ret2;exact⟨rfl,fp⟩
theorem zlq(s:ByteArray)(w:World)(hs:s.size<=1600)(l:List Pc)(h:bf (dw 99) ([],aa s)=some (l,[]))(hl:l.length<=400):
  Calls prog 60 #[.string s] w fun e w'=>∃a cap,e=.returned (.tuple #[.slice a l.length cap,.int .i64 0])/\w'.ownsRow w.heap.size 104 5 (.slice a l.length cap) l.length (eC l)/\Below w.heap.size w w':=by
 have hA:=Qm w.heap.size w.heap.size [] s _ (eI.new s w) (by omega) (by simp;omega);have aD:Below w.heap.size w (w.alloc (.cells #[.string s,.slice none 0 0,.int .i64 0] 143)):=(Below.refl _ _).alloc (le_refl _) _;rw[h] at hA;have HA:=hid hA;clear hA h;go_enter func60,ntmps60;go_wp2_with fail;refine HA.out.mono ?_;rintro e w1 ⟨k1,h1,h2⟩;have fp:=aD.trans k1.1;obtain⟨rfl,s',hn,hp⟩:=h2 _ rfl;obtain⟨c0,-⟩:=hp.rest;simp only at hn hp;have hz:s'.size=0:=by rw[<-nY,hn];rfl
 have ka:s'.toList=[]:=JB s' hz;have fY:(!s'.toList.isEmpty)=false:=by rw[ka];rfl
 obtain⟨_,v,rJ,ay,_⟩:=hp;obtain⟨a,cap,rfl⟩:=bJ ay;have c1:w1.cell? ⟨w.heap.size,1,none⟩=some (.slice a l.length cap):=by rw[cell_of_heap rJ];rfl
 have HO:=hid ay;obtain⟨n,uW⟩:∃n,l.length=n:=⟨_,rfl⟩
 have HN:=hid uW;rw[uW] at c1 hl;clear ka ay rJ h1 h2 uW;go_wp2;go_ret2;exact⟨a,cap,by rw[HN.out];rfl,HO.out,fp⟩
end Go.Proofs.YtbacgnhkapancaaGreat
