import Derived.Test.YtiijebameffenaaGreatZChk
import Derived.Test.YtiijebameffenaaGreatZOr
import Derived.Test.YtiijebameffenaaGreatZPRead
import Derived.Deep.RegionLaw
set_option linter.all false
set_option maxHeartbeats 4000000
set_option maxRecDepth 100000
open Go.Lib (hid)
namespace Go.Proofs.YtiijebameffenaaGreat
open Go.RowKit Go.Proofs.Tryz
open Lib (OthersKept cell_of_heap)
open Nat (eq_zero_or_pos le_refl le_trans lt_succ_self)
open Below (heap_setCell)
open Or (inl inr)
variable {a w w':World}{acc:List Pc}{cs:Array Value}{d g t:Nat}
theorem St.others{e b:Nat}(h:St w t g cs)(k:OthersKept e (some b) w w')(hb:g≠b)(ht:t≠e):St w' t g cs:=
 k g _ h (by simpa using hb) (by intro c fz h;simp at h;exact ht h.2.1)
theorem zfx{e:TypeId}{b:Option Nat}(h:OthersKept e b a w)(k:Below w.heap.size w w'):OthersKept e b a w':=by
 intro i o hi hb ho;have h1:=h i o hi hb ho;exact (k.block i (Array.getElem?_eq_some_iff.1 h1).1).trans h1
theorem rK:(prog.info? 148).map (fun i=>(i.zero,i.size,i.bytes))=some (some (.agg #[.int .i64 0,.int .u64 0,.int .u64 0,.int .u64 0,.int .u64 0]),5,40):=by kernel_rfl
def ea(base b:Nat)(acc:List Pc)(s:ByteArray)(d:Nat)(w:World):Prop:=
 base<=b/\∃v,w.heap[b]?=some (.cells #[.string s,v,.int .i64 (d:Int)] 154 (0,0))/\w.ownsRow base 148 5 v acc.length (my acc)/\v.ownBlock≠some b
theorem ea.lt{base b:Nat}{s:ByteArray}(h:ea base b acc s d w):b<w.heap.size:=by
 obtain⟨_,v,hb,_⟩:=h;exact (Array.getElem?_eq_some_iff.1 hb).1
theorem ea.low{base b:Nat}{s:ByteArray}(h:ea base b acc s d w):base<=w.heap.size:=le_trans h.1 (Nat.le_of_lt h.lt)
theorem ea.aa{base b:Nat}{s:ByteArray}(h:ea base b acc s d w)(k:Below w.heap.size w w'):ea base b acc s d w':=by
 have hl:=h.lt;obtain⟨h1,v,h2,h3,h4⟩:=h;exact⟨h1,v,(k.block b hl).trans h2,dr h3 k,h4⟩
theorem ea.rest{base b:Nat}{s:ByteArray}(h:ea base b acc s d w):w.cell? ⟨b,0,none⟩=some (.string s)/\w.frozen? ⟨b,0,none⟩=false:=by
 obtain⟨_,v,hb,_⟩:=h;exact⟨by rw[cell_of_heap hb];rfl,Lib.frozen_of_heap hb 0⟩
theorem ea.depth{base b:Nat}{s:ByteArray}(h:ea base b acc s d w):w.cell? ⟨b,2,none⟩=some (.int .i64 (d:Int))/\w.frozen? ⟨b,2,none⟩=false:=by
 obtain⟨_,v,hb,_⟩:=h;exact⟨by rw[cell_of_heap hb];rfl,Lib.frozen_of_heap hb 2⟩
theorem ea.kv{base b:Nat}{s:ByteArray}(h:ea base b acc s d w)(s':ByteArray):ea base b acc s' d (w.setCell ⟨b,0,none⟩ (.string s')):=by
 obtain⟨hB,v,hb,aQ,hne⟩:=h;refine⟨hB,v,?_,?_,hne⟩
 ·simp[World.setCell,Array.getElem?_modify,hb]
 exact aQ.kept (row:=some b) ⟨rfl,rfl,rfl,by simp[World.setCell],fun k _ hk=>heap_setCell _ _ _ _ (fun e=>hk (by simp[e]))⟩ (inr hne)
theorem ea.qt{base b:Nat}{s:ByteArray}(h:ea base b acc s d w)(d':Nat):ea base b acc s d' (w.setCell ⟨b,2,none⟩ (.int .i64 (d':Int))):=by
 obtain⟨hB,v,hb,aQ,hne⟩:=h;refine⟨hB,v,?_,?_,hne⟩
 ·simp[World.setCell,Array.getElem?_modify,hb]
 exact aQ.kept (row:=some b) ⟨rfl,rfl,rfl,by simp[World.setCell],fun k _ hk=>heap_setCell _ _ _ _ (fun e=>hk (by simp[e]))⟩ (inr hne)
def aH(base b:Nat)(w w':World):Prop:=Below base w w'/\OthersKept 148 (some b) w w'
theorem aH.refl(base b:Nat)(w:World):aH base b w w:=⟨Below.refl _ _,Lib.OthersKept.refl _ _ _⟩
theorem aH.trans{base b:Nat}(h:aH base b a w)(k:aH base b w w'):aH base b a w':=⟨h.1.trans k.1,h.2.trans k.2⟩
theorem aH.below{base b:Nat}(h:aH base b a w)(hb:base<=w.heap.size)(k:Below w.heap.size w w'):aH base b a w':=⟨h.1.trans (k.mono hb),zfx h.2 k⟩
theorem aH.set{base b:Nat}(h:aH base b a w)(hB:base<=b)(j:Nat)(v:Value):aH base b a (w.setCell ⟨b,j,none⟩ v):=⟨h.1.setCell (p:=⟨b,j,none⟩) hB v,h.2.setCell ⟨b,j,none⟩ rfl v⟩
theorem aH.size{base b:Nat}(h:aH base b w w'):w.heap.size<=w'.heap.size:=h.1.size
theorem St.fW{base b:Nat}(h:St w t g cs)(k:aH base b w w')(hb:g≠b)(ht:t≠148):St w' t g cs:=h.others k.2 hb ht
theorem ET(base b:Nat)(acc:List Pc)(s:ByteArray)(d:Nat)(k:Int)(p:Nat->Bool)(w:World)(h:ea base b acc s d w)(hl:acc.length<=10000):
  Calls prog 140 #[.pointer (some ⟨b,0,none⟩),.int .i64 k,(.agg #[.int .u64 ((wd p 0:Nat):Int),.int .u64 ((wd p 1:Nat):Int),.int .u64 ((wd p 2:Nat):Int),.int .u64 ((wd p 3:Nat):Int)])] w fun e w'=>e=.returned (.tuple #[])/\ea base b (acc++[⟨k,p⟩]) s d w'/\aH base b w w':=by
 obtain⟨i0,hi,dD,cQ,cJ⟩:=info_parts rK;have H2:=hid (h.aa ((Below.refl _ w).alloc (le_refl _) (.cells #[.int .u64 ((wd p 0:Nat):Int),.int .u64 ((wd p 1:Nat):Int),.int .u64 ((wd p 2:Nat):Int),.int .u64 ((wd p 3:Nat):Int)] 146)));have HK:=hid ((aH.refl base b w).below h.low ((Below.refl _ w).alloc (le_refl _) (.cells #[.int .u64 ((wd p 0:Nat):Int),.int .u64 ((wd p 1:Nat):Int),.int .u64 ((wd p 2:Nat):Int),.int .u64 ((wd p 3:Nat):Int)] 146)));have HS:=hid (St.new w 146 #[.int .u64 ((wd p 0:Nat):Int),.int .u64 ((wd p 1:Nat):Int),.int .u64 ((wd p 2:Nat):Int),.int .u64 ((wd p 3:Nat):Int)]);have yq:Hid (my (acc++[⟨k,p⟩])=my acc++[.int .i64 k,.int .u64 ((wd p 0:Nat):Int),.int .u64 ((wd p 1:Nat):Int),.int .u64 ((wd p 2:Nat):Int),.int .u64 ((wd p 3:Nat):Int)]):=by
  show _=_;rw[zh4];rfl
 have Ea:Hid ((acc++[(⟨k,p⟩:Pc)]).length=acc.length+1):=by show _=_;simp
 have ew:=h.lt;have uo:(my acc).length=acc.length*5:=zh3 acc;clear h;go_enter func140,ntmps140;go_wp2_with fail;generalize w.alloc (.cells #[.int .u64 ((wd p 0:Nat):Int),.int .u64 ((wd p 1:Nat):Int),.int .u64 ((wd p 2:Nat):Int),.int .u64 ((wd p 3:Nat):Int)] 146)=W2 at H2 HK HS⊢;obtain⟨c0,c1,c2,c3,-⟩:=cW HS.out;have dk:=H2.out.low;have ll:=H2.out.lt;obtain⟨hB,v,nH,aQ,hne⟩:=H2.out;have d1:W2.cell? ⟨b,1,none⟩=some v:=by rw[cell_of_heap nH];rfl
 obtain⟨ao,Fm,rfl⟩:=bG aQ;clear HS H2
 go_region_law (
  refine step_append_lies _ (by rfl) _ _ _ (by rfl) base 148 i0 (.agg #[.int .i64 0,.int .u64 0,.int .u64 0,.int .u64 0,.int .u64 0]) 5 40 underlying110 hi dD cQ cJ (by rfl) (by decide) _ acc.length (my acc) (by rfl) (by first|exact aQ.drew.alloc _|exact (aQ.alloc _).drew) ⟨W2.heap.size,0,none⟩ 1 1 [.int .i64 k,.int .u64 ((wd p 0:Nat):Int),.int .u64 ((wd p 1:Nat):Int),.int .u64 ((wd p 2:Nat):Int),.int .u64 ((wd p 3:Nat):Int)] (by rfl) (by rfl) (World.news_of_block (cs:=#[.int .i64 k,.int .u64 ((wd p 0:Nat):Int),.int .u64 ((wd p 1:Nat):Int),.int .u64 ((wd p 2:Nat):Int),.int .u64 ((wd p 3:Nat):Int)]) (by first|exact heap_alloc_new _ _|exact St.new _ _ _)) (by intro u hu;simp at hu;rcases hu with rfl|rfl|rfl|rfl|rfl <;> rfl) (by omega) (by unfold maxLen;omega) (by omega) (by simp;omega) _ (by rfl) ?_
  intro g cap w1 F6 dd ep CI
  have ct:w1.heap[b]?=some (.cells #[.string s,.slice ao acc.length Fm,.int .i64 (d:Int)] 154 (0,0)):=(dd.block b (by simp;omega) (fun e=>hne e.symm)).trans ((Lib.alloc_old _ _ b (by first|exact ll|(simp;omega))).trans nH)
  have e1:w1.cell? ⟨b,1,none⟩=some (.slice ao acc.length Fm):=by (rw[cell_of_heap ct];rfl)
  have f1:w1.frozen? ⟨b,1,none⟩=false:=Lib.frozen_of_heap ct 1)
 all_goals
  go_wp2_with fail
  go_end0
  have qu:(Value.slice (some ⟨g,0,none⟩) (acc.length+1) cap).ownBlock≠some b:=by
   intro e;simp[Value.ownBlock] at e;rcases ep with ep|ep
   ·exact hne (ep.trans (by rw[e]))
   simp at ep;omega
  refine⟨rfl,⟨hB,_,?_,?_,qu⟩,?_⟩
  ·simp[World.setCell,Array.getElem?_modify,ct]
  ·rw[yq.out,Ea.out];exact F6.kept (row:=some b) ⟨rfl,rfl,rfl,by simp[World.setCell],fun k _ hk=>heap_setCell _ _ _ _ (fun e=>hk (by simp[e]))⟩ (inr qu)
  ·refine (HK.out.trans ?_).set hB 1 _;refine⟨?_,?_⟩
   ·refine Below.grown ?_ dd (by simp;omega) (fun k hk=>(aQ.lt k hk).1)
    first|exact (Below.refl _ _).drew.alloc dk _|exact ((Below.refl _ _).alloc dk _).drew
   refine Lib.OthersKept.grown ?_ dd (Lib.ownsRow_kind (by first|exact aQ.drew.alloc _|exact (aQ.alloc _).drew))
   first|exact (Lib.OthersKept.refl _ _ _).drew.alloc _|exact ((Lib.OthersKept.refl _ _ _).alloc _).drew
theorem IX(s:ByteArray)(h:0<s.size):ae s=s[0].toNat :: (ae s).drop 1:=by
 have:=Jh s 0 h;simpa using this
theorem KU(s:ByteArray)(h:s.size=0):ae s=[]:=by
 have:=oO s;exact List.length_eq_zero_iff.1 (by omega)
theorem G5(s:ByteArray)(h:s.size=0):s.toList=[]:=by rw[ByteArray.toList_eq];exact List.eq_nil_of_length_eq_zero (by simpa using h)
theorem nw(base b:Nat)(acc:List Pc)(s:ByteArray)(d c:Nat)(w:World)(h:ea base b acc s d w)(hc:aG c (ae s)=none):
  Calls prog 139 #[.pointer (some ⟨b,0,none⟩),.int .u8 c] w fun e w'=>e=.returned (.bool false)/\w=w':=by
 obtain⟨c0,-⟩:=h.rest;clear h;rcases eq_zero_or_pos s.size with hz|hp
 ·have hl:s.toList=[]:=G5 s hz;have iy:s.toList.isEmpty=true:=by rw[hl];rfl
  clear hc hz;go_enter func139,ntmps139;go_wp2;go_ret;exact⟨rfl,rfl⟩
 have hl:s.toList.isEmpty=false:=zy s hp;have iy:(!s.toList.isEmpty)=true:=by rw[hl];rfl
 have hne:s[0].toNat≠c:=by
  intro e;rw[IX s hp] at hc;simp[aG,e] at hc
 have e0:((s[0].toNat:Int) != (c:Int))=true:=by simp;omega
 clear hc hne;go_enter func139,ntmps139;go_wp2;go_ret;exact⟨rfl,rfl⟩
theorem tS(base b:Nat)(acc:List Pc)(s:ByteArray)(d c:Nat)(r:List Nat)(w:World)(h:ea base b acc s d w)(hc:aG c (ae s)=some r)(hs:s.size<=10000):
  Calls prog 139 #[.pointer (some ⟨b,0,none⟩),.int .u8 c] w fun e w'=>e=.returned (.bool true)/\aH base b w w'/\∃s',ae s'=r/\s'.size+1=s.size/\ea base b acc s' d w':=by
 obtain⟨c0,f0⟩:=h.rest;have HP:=hid h;clear h;have e:=uL hc;have da:=oO s;rw[e] at da;simp at da;have hp:0<s.size:=by omega
 have hl:s.toList.isEmpty=false:=zy s hp;have iy:(!s.toList.isEmpty)=true:=by rw[hl];rfl
 have h2:=IX s hp;rw[e] at h2;simp at h2;have e0:((s[0].toNat:Int) != (c:Int))=false:=by simp;omega
 have HR:Hid (ae (s.extract 1 s.size)=r):=by show _=_;rw[PO,e];rfl
 have HZ:Hid ((s.extract 1 s.size).size+1=s.size):=by show _=_;rw[ByteArray.size_extract];omega
 clear hc e da h2;go_enter func139,ntmps139;go_wp2;go_ret;exact⟨rfl,(aH.refl base b w).set HP.out.1 0 _,_,HR.out,HZ.out,HP.out.kv _⟩
theorem MN(base b:Nat)(acc:List Pc)(s sp:ByteArray)(d:Nat)(w:World)(h:ea base b acc s d w)(hs:s.size<=10000)(hc:bu sp (ae s)=none):
  Calls prog 197 #[.pointer (some ⟨b,0,none⟩),.string sp] w fun e w'=>e=.returned (.tuple #[.int .u8 0,.bool false])/\Below w.heap.size w w':=by
 obtain⟨c0,f0⟩:=h.rest;clear h;unfold bu at hc;have aw:=Ot (ae s) (E4 s);rcases hr:rd (ae s) with ⟨a,n,o⟩;rw[hr] at hc aw;simp only at hc aw;have HR:=hid hr;have HM:Hid (s.size<=maxLen):=by show _<=_;unfold maxLen;omega
 clear hr;rcases o with _|_
 ·clear hc;go_enter func197,ntmps197;go_wp2_with fail;refine (Ip s HM.out _).mono ?_;rintro e w1 ⟨rfl,b1⟩;rw[HR.out,Fo];go_wp2;go_ret2;exact⟨rfl,b1⟩
 have iZ:n=1/\A6 sp a=true:=by simpa using hc
 obtain⟨rfl,h2⟩:=iZ;have h3:=Od sp a aw.1;rw[h2] at h3;have h4:0<=gJ sp a:=by simpa using h3
 clear hc h2 h3 aw;go_enter func197,ntmps197;go_wp2_with fail;refine (Ip s HM.out _).mono ?_;rintro e w1 ⟨rfl,b1⟩;rw[HR.out,Fo];go_wp2_with fail;refine (L6 sp a _).mono ?_;rintro e w2 ⟨rfl,rfl⟩;go_wp2;go_ret2;exact⟨rfl,b1⟩
theorem B5(base b:Nat)(acc:List Pc)(s sp:ByteArray)(d c:Nat)(r:List Nat)(w:World)(h:ea base b acc s d w)(hs:s.size<=10000)(hc:bu sp (ae s)=some (c,r)):
  Calls prog 197 #[.pointer (some ⟨b,0,none⟩),.string sp] w fun e w'=>e=.returned (.tuple #[.int .u8 c,.bool true])/\c<256/\aH base b w w'/\∃s',ae s'=r/\s'.size<s.size/\ea base b acc s' d w':=by
 obtain⟨c0,f0⟩:=h.rest;have HP:=hid h;have dk:=h.low;have ew:=h.lt;have hlen:=MF hc;clear h;unfold bu at hc;have aw:=Ot (ae s) (E4 s);rcases hr:rd (ae s) with ⟨a,n,o⟩;rw[hr] at hc aw;simp only at hc aw;have HR:=hid hr;have HM:Hid (s.size<=maxLen):=by show _<=_;unfold maxLen;omega
 clear hr;split at hc
 ·rename_i Ck;obtain⟨rfl,Ck⟩:=Ck;simp only[Option.some.injEq,Prod.mk.injEq] at hc;obtain⟨rfl,hc⟩:=hc;have hn:=aw.2 rfl;rw[oO] at hn;have ha:=aw.1;have BE:Hid (ae (s.extract n s.size)=r):=by show _=_;rw[PO,hc]
  have HZ:Hid ((s.extract n s.size).size<s.size):=by show _<_;rw[ByteArray.size_extract];omega
  have h3:=Od sp a ha;have h4:n≠1\/gJ sp a<0:=by
   by_cases h1:n=1
   ·right;have:A6 sp a=false:=by
     rcases h5:A6 sp a with _|_
     ·rfl
     exact absurd ⟨h1,h5⟩ Ck
    rw[this] at h3;simpa using h3
   left;exact h1
  clear hc aw Ck hlen h3;rcases h4 with h4|h4
  ·have e1:((n:Int) == 1)=false:=(by simp;omega);go_enter func197,ntmps197;go_wp2_with fail;refine (Ip s HM.out _).mono ?_;rintro e w1 ⟨rfl,b1⟩;rw[HR.out,Fo];have gD:=hid (HP.out.aa b1);obtain⟨d0,g0⟩:=gD.out.rest;have HK:=hid ((aH.refl base b w).below dk b1);go_wp2;go_ret2;exact⟨rfl,ha,HK.out.set HP.out.1 0 _,_,BE.out,HZ.out,gD.out.kv _⟩
  by_cases h5:n=1
  ·subst h5;go_enter func197,ntmps197;go_wp2_with fail;refine (Ip s HM.out _).mono ?_;rintro e w1 ⟨rfl,b1⟩;rw[HR.out,Fo];have gD:=hid (HP.out.aa b1);obtain⟨d0,g0⟩:=gD.out.rest;have HK:=hid ((aH.refl base b w).below dk b1);go_wp2_with fail;refine (L6 sp a _).mono ?_;rintro e w2 ⟨rfl,rfl⟩;go_wp2;go_ret2;exact⟨rfl,ha,HK.out.set HP.out.1 0 _,_,BE.out,HZ.out,gD.out.kv _⟩
  have e1:((n:Int) == 1)=false:=by simp;omega
  go_enter func197,ntmps197;go_wp2_with fail;refine (Ip s HM.out _).mono ?_;rintro e w1 ⟨rfl,b1⟩;rw[HR.out,Fo];have gD:=hid (HP.out.aa b1);obtain⟨d0,g0⟩:=gD.out.rest;have HK:=hid ((aH.refl base b w).below dk b1);go_wp2;go_ret2;exact⟨rfl,ha,HK.out.set HP.out.1 0 _,_,BE.out,HZ.out,gD.out.kv _⟩
 simp at hc
theorem aH.gz{base b:Nat}{w0:World}(h:aH base b w0 w)(hg:base<=g)(hs:∃cs fz,w.heap[g]?=some (.cells cs 146 fz))(hgn:w0.heap.size<=g)(d0 d1 d2 d3:Value):
  aH base b w0 ((((w.setCell ⟨g,0,none⟩ d0).setCell ⟨g,1,none⟩ d1).setCell ⟨g,2,none⟩ d2).setCell ⟨g,3,none⟩ d3):=by
 refine⟨uW h.1 hg _ _ _ _,?_⟩;intro k o hk hb ho;have aw:=(Array.getElem?_eq_some_iff.1 hk).1;have h1:=h.2 k o hk hb ho;rw[heap_setCell _ _ _ _ (by show k≠g;omega),heap_setCell _ _ _ _ (by show k≠g;omega),heap_setCell _ _ _ _ (by show k≠g;omega),heap_setCell _ _ _ _ (by show k≠g;omega)];exact h1
theorem ea.gz{base b:Nat}{s:ByteArray}(h:ea base b acc s d w)(hg:g≠b)(hs:∃cs fz,w.heap[g]?=some (.cells cs 146 fz))(d0 d1 d2 d3:Value):
  ea base b acc s d ((((w.setCell ⟨g,0,none⟩ d0).setCell ⟨g,1,none⟩ d1).setCell ⟨g,2,none⟩ d2).setCell ⟨g,3,none⟩ d3):=by
 obtain⟨h1,v,h2,h3,h4⟩:=h;have hv:v.ownBlock≠some g:=by
  intro e;obtain⟨c,fz,hc⟩:=Lib.ownsRow_kind h3 g e;obtain⟨cs,Tk,hs⟩:=hs;rw[hs] at hc;simp at hc
 refine⟨h1,v,?_,?_,h4⟩
 ·rw[heap_setCell _ _ _ _ (by show b≠g;omega),heap_setCell _ _ _ _ (by show b≠g;omega),heap_setCell _ _ _ _ (by show b≠g;omega),heap_setCell _ _ _ _ (by show b≠g;omega)];exact h2
 have step:∀(W:World) (j:Nat) (u:Value),W.ownsRow base 148 5 v acc.length (my acc)->(W.setCell ⟨g,j,none⟩ u).ownsRow base 148 5 v acc.length (my acc):=fun W j u ho=>ho.kept (row:=some g) ⟨rfl,rfl,rfl,by simp[World.setCell],fun k _ hk=>heap_setCell _ _ _ _ (fun e=>hk (by simp[e]))⟩ (inr hv)
 exact step _ _ _ (step _ _ _ (step _ _ _ (step _ _ _ h3)))
theorem St.is(h:St w t g cs):∃cs fz,w.heap[g]?=some (.cells cs t fz):=⟨cs,(0,0),h⟩
theorem zlO(base b:Nat)(acc:List Pc)(s:ByteArray)(d:Nat)(w:World)(h:ea base b acc s d w)(hs:s.size<=10000)(h1:bu eY (ae s)=none):
  Calls prog 206 #[.pointer (some ⟨b,0,none⟩)] w fun e w'=>(∃q:Nat->Bool,e=.returned (.tuple #[(.agg #[.int .u64 ((wd q 0:Nat):Int),.int .u64 ((wd q 1:Nat):Int),.int .u64 ((wd q 2:Nat):Int),.int .u64 ((wd q 3:Nat):Int)]),.bool false]))/\aH base b w w':=by
 have ew:=h.lt;have dk:=h.low;have HB:=h.1;have dy:=hid (St.new w 146 #[.int .u64 0,.int .u64 0,.int .u64 0,.int .u64 0]);have k0:aH base b w (w.alloc (.cells #[.int .u64 0,.int .u64 0,.int .u64 0,.int .u64 0] 146)):=(aH.refl base b w).below dk ((Below.refl _ w).alloc (le_refl _) _);have sq:=hid (h.aa ((Below.refl _ w).alloc (le_refl _) (.cells #[.int .u64 0,.int .u64 0,.int .u64 0,.int .u64 0] 146)));have pE:=hid k0;clear h k0;go_enter func206,ntmps206;go_wp2_with fail;refine (MN base b acc s eY d _ sq.out hs h1).mono ?_;rintro e w1 ⟨rfl,b1⟩;have mY:=hid (pE.out.below sq.out.low b1);have nO:=hid (dy.out.aa b1);clear b1 sq pE dy;go_wp2_with fail;refine (I8 0 0 (by decide) (by decide) _).mono ?_;rintro e w9 ⟨rfl,b9⟩;have ke:=hid (mY.out.below (le_trans dk mY.out.size) b9);obtain⟨q0,q1,q2,q3,q4,q5,q6,q7⟩:=cW (nO.out.aa b9);have zK:=ke.out.size;have rq:=hid (nO.out.aa b9);clear b9;go_wp2_with fail;exact bodyPost_ret (v:=.tuple #[(.agg #[.int .u64 ((wd (ay 0 (0+1-0)) 0:Nat):Int),.int .u64 ((wd (ay 0 (0+1-0)) 1:Nat):Int),.int .u64 ((wd (ay 0 (0+1-0)) 2:Nat):Int),.int .u64 ((wd (ay 0 (0+1-0)) 3:Nat):Int)]),.bool false]) (by first|(simp[results,results206,go_sem,q0,q1,q2,q3];done)|(simp[results,results206,go_sem,q0,q1,q2,q3];omega)) rfl ⟨⟨_,rfl⟩,(ke.out.gz dk (rq.out.is) (le_refl _) _ _ _ _)⟩
theorem zlP(base b:Nat)(acc:List Pc)(s:ByteArray)(d:Nat)(a:Nat)(r r1:List Nat)(w:World)(h:ea base b acc s d w)(hs:s.size<=10000)(h1:bu eY (ae s)=some (a,r))(h2:aG 45 r=some r1)(h3:bu eY r1=none):
  Calls prog 206 #[.pointer (some ⟨b,0,none⟩)] w fun e w'=>(∃q:Nat->Bool,e=.returned (.tuple #[(.agg #[.int .u64 ((wd q 0:Nat):Int),.int .u64 ((wd q 1:Nat):Int),.int .u64 ((wd q 2:Nat):Int),.int .u64 ((wd q 3:Nat):Int)]),.bool false]))/\aH base b w w':=by
 have ew:=h.lt;have dk:=h.low;have HB:=h.1;have dy:=hid (St.new w 146 #[.int .u64 0,.int .u64 0,.int .u64 0,.int .u64 0]);have k0:aH base b w (w.alloc (.cells #[.int .u64 0,.int .u64 0,.int .u64 0,.int .u64 0] 146)):=(aH.refl base b w).below dk ((Below.refl _ w).alloc (le_refl _) _);have sq:=hid (h.aa ((Below.refl _ w).alloc (le_refl _) (.cells #[.int .u64 0,.int .u64 0,.int .u64 0,.int .u64 0] 146)));have pE:=hid k0;clear h k0;go_enter func206,ntmps206;go_wp2_with fail;refine (B5 base b acc s eY d a r _ sq.out hs h1).mono ?_;rintro e w1 ⟨rfl,pD,k1,s1,fx,cQ,fU⟩;have mY:=hid (pE.out.trans k1);have nO:=hid (dy.out.fW k1 (by omega) (by decide));have gD:=hid fU;have rP:=hid fx;clear k1 fU fx sq pE dy;go_wp2_with fail;refine (tS base b acc s1 d 45 r1 _ gD.out (by rw[rP.out];exact h2) (by omega)).mono ?_;rintro e w2 ⟨rfl,k2,s2,dj,cJ,fj⟩;have xj:=hid (mY.out.trans k2);have jJ:=hid (nO.out.fW k2 (by omega) (by decide));have kj:=hid fj;have jO:=hid dj;clear k2 fj dj gD mY nO;go_wp2_with fail;refine (MN base b acc s2 eY d _ kj.out (by omega) (by rw[jO.out];exact h3)).mono ?_;rintro e w3 ⟨rfl,b3⟩;have vm:=hid (xj.out.below kj.out.low b3);have ux:=hid (jJ.out.aa b3);clear b3 kj xj jJ;go_wp2_with fail;refine (I8 a 0 pD (by decide) _).mono ?_;rintro e w9 ⟨rfl,b9⟩;have ke:=hid (vm.out.below (le_trans dk vm.out.size) b9);obtain⟨q0,q1,q2,q3,q4,q5,q6,q7⟩:=cW (ux.out.aa b9);have zK:=ke.out.size;have rq:=hid (ux.out.aa b9);clear b9;go_wp2_with fail;exact bodyPost_ret (v:=.tuple #[(.agg #[.int .u64 ((wd (ay a (0+1-a)) 0:Nat):Int),.int .u64 ((wd (ay a (0+1-a)) 1:Nat):Int),.int .u64 ((wd (ay a (0+1-a)) 2:Nat):Int),.int .u64 ((wd (ay a (0+1-a)) 3:Nat):Int)]),.bool false]) (by first|(simp[results,results206,go_sem,q0,q1,q2,q3];done)|(simp[results,results206,go_sem,q0,q1,q2,q3];omega)) rfl ⟨⟨_,rfl⟩,(ke.out.gz dk (rq.out.is) (le_refl _) _ _ _ _)⟩
theorem zlQ(base b:Nat)(acc:List Pc)(s:ByteArray)(d:Nat)(a c:Nat)(r r1 r2:List Nat)(w:World)(h:ea base b acc s d w)(hs:s.size<=10000)(h1:bu eY (ae s)=some (a,r))(h2:aG 45 r=some r1)(h3:bu eY r1=some (c,r2))(h4:c<a):
  Calls prog 206 #[.pointer (some ⟨b,0,none⟩)] w fun e w'=>(∃q:Nat->Bool,e=.returned (.tuple #[(.agg #[.int .u64 ((wd q 0:Nat):Int),.int .u64 ((wd q 1:Nat):Int),.int .u64 ((wd q 2:Nat):Int),.int .u64 ((wd q 3:Nat):Int)]),.bool false]))/\aH base b w w':=by
 have ew:=h.lt;have dk:=h.low;have HB:=h.1;have dy:=hid (St.new w 146 #[.int .u64 0,.int .u64 0,.int .u64 0,.int .u64 0]);have k0:aH base b w (w.alloc (.cells #[.int .u64 0,.int .u64 0,.int .u64 0,.int .u64 0] 146)):=(aH.refl base b w).below dk ((Below.refl _ w).alloc (le_refl _) _);have sq:=hid (h.aa ((Below.refl _ w).alloc (le_refl _) (.cells #[.int .u64 0,.int .u64 0,.int .u64 0,.int .u64 0] 146)));have pE:=hid k0;clear h k0;go_enter func206,ntmps206;go_wp2_with fail;refine (B5 base b acc s eY d a r _ sq.out hs h1).mono ?_;rintro e w1 ⟨rfl,pD,k1,s1,fx,cQ,fU⟩;have mY:=hid (pE.out.trans k1);have nO:=hid (dy.out.fW k1 (by omega) (by decide));have gD:=hid fU;have rP:=hid fx;clear k1 fU fx sq pE dy;go_wp2_with fail;refine (tS base b acc s1 d 45 r1 _ gD.out (by rw[rP.out];exact h2) (by omega)).mono ?_;rintro e w2 ⟨rfl,k2,s2,dj,cJ,fj⟩;have xj:=hid (mY.out.trans k2);have jJ:=hid (nO.out.fW k2 (by omega) (by decide));have kj:=hid fj;have jO:=hid dj;clear k2 fj dj gD mY nO;go_wp2_with fail;refine (B5 base b acc s2 eY d c r2 _ kj.out (by omega) (by rw[jO.out];exact h3)).mono ?_;rintro e w3 ⟨rfl,ta,k3,s3,mH,JD,hY⟩;have vm:=hid (xj.out.trans k3);have ux:=hid (jJ.out.fW k3 (by omega) (by decide));have wM:=hid hY;have wF:=hid mH;clear k3 hY mH kj xj jJ;go_wp2_with fail;refine (I8 a c pD ta _).mono ?_;rintro e w9 ⟨rfl,b9⟩;have ke:=hid (vm.out.below wM.out.low b9);have KY:=hid (wM.out.aa b9);obtain⟨q0,q1,q2,q3,q4,q5,q6,q7⟩:=cW (ux.out.aa b9);have zK:=ke.out.size;have rq:=hid (ux.out.aa b9);clear b9;go_wp2_with fail;exact bodyPost_ret (v:=.tuple #[(.agg #[.int .u64 ((wd (ay a (c+1-a)) 0:Nat):Int),.int .u64 ((wd (ay a (c+1-a)) 1:Nat):Int),.int .u64 ((wd (ay a (c+1-a)) 2:Nat):Int),.int .u64 ((wd (ay a (c+1-a)) 3:Nat):Int)]),.bool false]) (by first|(simp[results,results206,go_sem,q0,q1,q2,q3];done)|(simp[results,results206,go_sem,q0,q1,q2,q3];omega)) rfl ⟨⟨_,rfl⟩,(ke.out.gz dk (rq.out.is) (le_refl _) _ _ _ _)⟩
theorem zjZ(base b:Nat)(acc:List Pc)(s:ByteArray)(d:Nat)(a:Nat)(r:List Nat)(w:World)(h:ea base b acc s d w)(hs:s.size<=10000)(h1:bu eY (ae s)=some (a,r))(h2:aG 45 r=none):
  Calls prog 206 #[.pointer (some ⟨b,0,none⟩)] w fun e w'=>e=.returned (.tuple #[(.agg #[.int .u64 ((wd (ay a (a+1-a)) 0:Nat):Int),.int .u64 ((wd (ay a (a+1-a)) 1:Nat):Int),.int .u64 ((wd (ay a (a+1-a)) 2:Nat):Int),.int .u64 ((wd (ay a (a+1-a)) 3:Nat):Int)]),.bool true])/\aH base b w w'/\∃s',ae s'=r/\s'.size<s.size/\ea base b acc s' d w':=by
 have ew:=h.lt;have dk:=h.low;have HB:=h.1;have dy:=hid (St.new w 146 #[.int .u64 0,.int .u64 0,.int .u64 0,.int .u64 0]);have k0:aH base b w (w.alloc (.cells #[.int .u64 0,.int .u64 0,.int .u64 0,.int .u64 0] 146)):=(aH.refl base b w).below dk ((Below.refl _ w).alloc (le_refl _) _);have sq:=hid (h.aa ((Below.refl _ w).alloc (le_refl _) (.cells #[.int .u64 0,.int .u64 0,.int .u64 0,.int .u64 0] 146)));have pE:=hid k0;clear h k0;go_enter func206,ntmps206;go_wp2_with fail;refine (B5 base b acc s eY d a r _ sq.out hs h1).mono ?_;rintro e w1 ⟨rfl,pD,k1,s1,fx,cQ,fU⟩;have mY:=hid (pE.out.trans k1);have nO:=hid (dy.out.fW k1 (by omega) (by decide));have gD:=hid fU;have rP:=hid fx;clear k1 fU fx sq pE dy;go_wp2_with fail;refine (nw base b acc s1 d 45 _ gD.out (by rw[rP.out];exact h2)).mono ?_;rintro e w2 ⟨rfl,rfl⟩;go_wp2_with fail;refine (I8 a a pD pD _).mono ?_;rintro e w9 ⟨rfl,b9⟩;have ke:=hid (mY.out.below gD.out.low b9);have KY:=hid (gD.out.aa b9);obtain⟨q0,q1,q2,q3,q4,q5,q6,q7⟩:=cW (nO.out.aa b9);have zK:=ke.out.size;have rq:=hid (nO.out.aa b9);clear b9;go_wp2_with fail;exact bodyPost_ret (v:=.tuple #[(.agg #[.int .u64 ((wd (ay a (a+1-a)) 0:Nat):Int),.int .u64 ((wd (ay a (a+1-a)) 1:Nat):Int),.int .u64 ((wd (ay a (a+1-a)) 2:Nat):Int),.int .u64 ((wd (ay a (a+1-a)) 3:Nat):Int)]),.bool true]) (by first|(simp[results,results206,go_sem,q0,q1,q2,q3];done)|(simp[results,results206,go_sem,q0,q1,q2,q3];omega)) rfl ⟨rfl,(ke.out.gz dk (rq.out.is) (le_refl _) _ _ _ _),s1,rP.out,cQ,KY.out.gz (by omega) (rq.out.is) _ _ _ _⟩
theorem zj0(base b:Nat)(acc:List Pc)(s:ByteArray)(d:Nat)(a c:Nat)(r r1 r2:List Nat)(w:World)(h:ea base b acc s d w)(hs:s.size<=10000)(h1:bu eY (ae s)=some (a,r))(h2:aG 45 r=some r1)(h3:bu eY r1=some (c,r2))(h4:a<=c):
  Calls prog 206 #[.pointer (some ⟨b,0,none⟩)] w fun e w'=>e=.returned (.tuple #[(.agg #[.int .u64 ((wd (ay a (c+1-a)) 0:Nat):Int),.int .u64 ((wd (ay a (c+1-a)) 1:Nat):Int),.int .u64 ((wd (ay a (c+1-a)) 2:Nat):Int),.int .u64 ((wd (ay a (c+1-a)) 3:Nat):Int)]),.bool true])/\aH base b w w'/\∃s',ae s'=r2/\s'.size<s.size/\ea base b acc s' d w':=by
 have ew:=h.lt;have dk:=h.low;have HB:=h.1;have dy:=hid (St.new w 146 #[.int .u64 0,.int .u64 0,.int .u64 0,.int .u64 0]);have k0:aH base b w (w.alloc (.cells #[.int .u64 0,.int .u64 0,.int .u64 0,.int .u64 0] 146)):=(aH.refl base b w).below dk ((Below.refl _ w).alloc (le_refl _) _);have sq:=hid (h.aa ((Below.refl _ w).alloc (le_refl _) (.cells #[.int .u64 0,.int .u64 0,.int .u64 0,.int .u64 0] 146)));have pE:=hid k0;clear h k0;go_enter func206,ntmps206;go_wp2_with fail;refine (B5 base b acc s eY d a r _ sq.out hs h1).mono ?_;rintro e w1 ⟨rfl,pD,k1,s1,fx,cQ,fU⟩;have mY:=hid (pE.out.trans k1);have nO:=hid (dy.out.fW k1 (by omega) (by decide));have gD:=hid fU;have rP:=hid fx;clear k1 fU fx sq pE dy;go_wp2_with fail;refine (tS base b acc s1 d 45 r1 _ gD.out (by rw[rP.out];exact h2) (by omega)).mono ?_;rintro e w2 ⟨rfl,k2,s2,dj,cJ,fj⟩;have xj:=hid (mY.out.trans k2);have jJ:=hid (nO.out.fW k2 (by omega) (by decide));have kj:=hid fj;have jO:=hid dj;clear k2 fj dj gD mY nO;go_wp2_with fail;refine (B5 base b acc s2 eY d c r2 _ kj.out (by omega) (by rw[jO.out];exact h3)).mono ?_;rintro e w3 ⟨rfl,ta,k3,s3,mH,JD,hY⟩;have vm:=hid (xj.out.trans k3);have ux:=hid (jJ.out.fW k3 (by omega) (by decide));have wM:=hid hY;have wF:=hid mH;clear k3 hY mH kj xj jJ;go_wp2_with fail;refine (I8 a c pD ta _).mono ?_;rintro e w9 ⟨rfl,b9⟩;have ke:=hid (vm.out.below wM.out.low b9);have KY:=hid (wM.out.aa b9);obtain⟨q0,q1,q2,q3,q4,q5,q6,q7⟩:=cW (ux.out.aa b9);have zK:=ke.out.size;have rq:=hid (ux.out.aa b9);clear b9;go_wp2_with fail;exact bodyPost_ret (v:=.tuple #[(.agg #[.int .u64 ((wd (ay a (c+1-a)) 0:Nat):Int),.int .u64 ((wd (ay a (c+1-a)) 1:Nat):Int),.int .u64 ((wd (ay a (c+1-a)) 2:Nat):Int),.int .u64 ((wd (ay a (c+1-a)) 3:Nat):Int)]),.bool true]) (by first|(simp[results,results206,go_sem,q0,q1,q2,q3];done)|(simp[results,results206,go_sem,q0,q1,q2,q3];omega)) rfl ⟨rfl,(ke.out.gz dk (rq.out.is) (le_refl _) _ _ _ _),s3,wF.out,by omega,KY.out.gz (by omega) (rq.out.is) _ _ _ _⟩
theorem Sm(base b:Nat)(acc:List Pc)(s:ByteArray)(d:Nat)(w:World)(h:ea base b acc s d w)(hs:s.size<=10000)(hc:dK (ae s)=none):
  Calls prog 206 #[.pointer (some ⟨b,0,none⟩)] w fun e w'=>(∃q:Nat->Bool,e=.returned (.tuple #[(.agg #[.int .u64 ((wd q 0:Nat):Int),.int .u64 ((wd q 1:Nat):Int),.int .u64 ((wd q 2:Nat):Int),.int .u64 ((wd q 3:Nat):Int)]),.bool false]))/\aH base b w w':=by
 unfold dK at hc;rcases h1:bu eY (ae s) with _|⟨a,r⟩
 ·exact zlO base b acc s d w h hs h1
 rw[h1] at hc;simp only at hc;rcases h2:aG 45 r with _|r1
 ·simp[h2] at hc
 rw[h2] at hc;simp only at hc;rcases h3:bu eY r1 with _|⟨c,r2⟩
 ·exact zlP base b acc s d a r r1 w h hs h1 h2 h3
 rw[h3] at hc;simp only at hc;exact zlQ base b acc s d a c r r1 r2 w h hs h1 h2 h3 (by
  rcases Nat.lt_or_ge c a with h|h
  ·exact h
  ·simp[h] at hc)
theorem Wh(base b:Nat)(acc:List Pc)(s:ByteArray)(d a c:Nat)(r:List Nat)(w:World)(h:ea base b acc s d w)(hs:s.size<=10000)(hc:dK (ae s)=some (a,c,r)):
  Calls prog 206 #[.pointer (some ⟨b,0,none⟩)] w fun e w'=>e=.returned (.tuple #[(.agg #[.int .u64 ((wd (ay a (c+1-a)) 0:Nat):Int),.int .u64 ((wd (ay a (c+1-a)) 1:Nat):Int),.int .u64 ((wd (ay a (c+1-a)) 2:Nat):Int),.int .u64 ((wd (ay a (c+1-a)) 3:Nat):Int)]),.bool true])/\aH base b w w'/\∃s',ae s'=r/\s'.size<s.size/\ea base b acc s' d w':=by
 unfold dK at hc;rcases h1:bu eY (ae s) with _|⟨a1,r1⟩
 ·simp[h1] at hc
 rw[h1] at hc;simp only at hc;rcases h2:aG 45 r1 with _|r2
 ·simp[h2] at hc;obtain⟨rfl,rfl,rfl⟩:=hc;exact zjZ base b acc s d a1 r1 w h hs h1 h2
 rw[h2] at hc;simp only at hc;rcases h3:bu eY r2 with _|⟨c1,r3⟩
 ·simp[h3] at hc
 rw[h3] at hc;simp only at hc;split at hc
 ·rename_i hle;simp at hc;obtain⟨rfl,rfl,rfl⟩:=hc;exact zj0 base b acc s d a1 c1 r1 r2 r3 w h hs h1 h2 h3 hle
 simp at hc
def eE(w:World)(a:Addr):Nat:=match w.cell? a with
 | some (.string s)=>s.size
 | _=>0
theorem ea.eE{base b:Nat}{s:ByteArray}(h:ea base b acc s d w):eE w ⟨b,0,none⟩=s.size:=by
 unfold Go.Proofs.YtiijebameffenaaGreat.eE;rw[h.rest.1]
theorem U0(f:Nat)(q:Nat->Bool)(s:List Nat)(a c:Nat)(r:List Nat)(hf:s.length<f)(h1:aG 93 s=none)(h2:dK s=some (a,c,r)):
  ∃g,r.length<g/\aO f q s=aO g (fun x=>q x || ay a (c+1-a) x) r:=by
 match f,hf with
 | f+1,hf=>
  have:=(WR h2).1;exact⟨f,by omega,by simp only[aO,h1,h2]⟩
theorem TL(f:Nat)(q:Nat->Bool)(s r:List Nat)(hf:s.length<f)(h1:aG 93 s=some r):aO f q s=some (q,r):=by
 match f,hf with
 | f+1,hf=>simp only[aO,h1]
theorem YE(f:Nat)(q:Nat->Bool)(s:List Nat)(hf:s.length<f)(h1:aG 93 s=none)(h2:dK s=none):aO f q s=none:=by
 match f,hf with
 | f+1,hf=>simp only[aO,h1,h2]
theorem Jk(t:Nat):(#[.int .u64 0,.int .u64 0,.int .u64 0,.int .u64 0]:Array Value)=#[.int .u64 ((wd bE 0:Nat):Int),.int .u64 ((wd bE 1:Nat):Int),.int .u64 ((wd bE 2:Nat):Int),.int .u64 ((wd bE 3:Nat):Int)]:=by
 have e:∀j,((wd bE j:Nat):Int)=0:=fun j=>by unfold bE;rw[zv];rfl
 simp only[e]
def GB(base b:Nat)(acc:List Pc)(d:Nat)(o:Option ((Nat->Bool) × List Nat))(w:World)(e:Ending)(w':World):Prop:=
 aH base b w w'/\(o=none->e=.returned (.bool false))/\∀q r,o=some (q,r)->e=.returned (.bool true)/\∃s',ae s'=r/\ea base b (acc++[⟨1,q⟩]) s' d w'
theorem Zh(base b:Nat)(acc:List Pc)(s:ByteArray)(d:Nat)(h0:aG 94 (ae s)=none)(w:World)(h:ea base b acc s d w)(hs:s.size<=10000)(tJ:acc.length<=10000):
  Calls prog 196 #[.pointer (some ⟨b,0,none⟩)] w (GB base b acc d (eW (ae s)) w):=by
 have HX:Hid (eW (ae s)=match aO ((ae s).length+1) bE (ae s) with
  | none=>none
  | some (q,r1)=>if eh q=true then none else some (q,r1)):=by
  show _=_
  simp only[eW,h0]
  rfl
 generalize eW (ae s)=O at HX⊢;have ew:=h.lt;have dk:=h.low;have hB:=h.1;unfold GB;go_enter func196,ntmps196;go_wp2_with fail;refine (nw base b acc s d 94 _ h h0).mono ?_;rintro e w1 ⟨rfl,rfl⟩;obtain⟨s1,fx,cQ,fU⟩:∃s1,ae s1=ae s/\s1.size<=s.size/\ea base b acc s1 d w:=⟨s,rfl,le_refl _,h⟩
 have k1:aH base b w w:=aH.refl _ _ _;obtain⟨R,hR⟩:∃R,aO ((ae s).length+1) bE (ae s)=R:=⟨_,rfl⟩
 rw[hR] at HX;have rE:=hid hR;have K1:=hid (k1.below (le_trans dk k1.size) ((Below.refl _ w).alloc (le_refl _) (.cells #[.int .u64 0,.int .u64 0,.int .u64 0,.int .u64 0] 146)));have P1:=hid (fU.aa ((Below.refl _ w).alloc (le_refl _) (.cells #[.int .u64 0,.int .u64 0,.int .u64 0,.int .u64 0] 146)));have S1:Hid (St (w.alloc (.cells #[.int .u64 0,.int .u64 0,.int .u64 0,.int .u64 0] 146)) 146 w.heap.size #[.int .u64 ((wd bE 0:Nat):Int),.int .u64 ((wd bE 1:Nat):Int),.int .u64 ((wd bE 2:Nat):Int),.int .u64 ((wd bE 3:Nat):Int)]):=by
  have:=St.new w 146 #[.int .u64 0,.int .u64 0,.int .u64 0,.int .u64 0];rw[Jk 146] at this;rw[Jk 146];exact this
 have NF:=fU.lt;have BW:=k1.size;have rP:=hid fx;have C3:w.heap.size≠b:=by omega
 clear hR h k1 fU fx h0;go_wp2;go_loopw [9] (fun _ wr=>∃(f:Nat) (q:Nat->Bool) (s':ByteArray),(ae s').length<f/\Hid (aO f q (ae s')=R)/\s'.size<=s.size/\Hid (ea base b acc s' d wr)/\Hid (St wr 146 w.heap.size #[.int .u64 ((wd q 0:Nat):Int),.int .u64 ((wd q 1:Nat):Int),.int .u64 ((wd q 2:Nat):Int),.int .u64 ((wd q 3:Nat):Int)])/\Hid (aH base b w wr)/\w.heap.size<wr.heap.size) (fun _ wr=>eE wr ⟨b,0,none⟩)
 ·exact⟨_,bE,s1,lt_succ_self _,by show aO _ _ _=_;rw[rP.out];exact rE.out,by omega,P1,S1,K1,by simp⟩
 clear P1 S1 K1 rE;obtain⟨f,q,s',hf,HQ,da,P2,S2,K2,yT⟩:=hrel;rcases h1:aG 93 (ae s') with _|r
 ·have HK:=hid h1;rcases h2:dK (ae s') with _|⟨a,c,r⟩
  ·have HZ:Hid (O=none):=by
    have:=HQ.out;rw[YE f q _ hf h1 h2] at this;show _=_;rw[HX.out,<-this]
   have H2:=hid h2;clear h1 h2 HX HQ;go_wp2_with fail;refine (nw base b acc s' d 93 _ P2.out HK.out).mono ?_;rintro e w2 ⟨rfl,rfl⟩;go_wp2_with fail;refine (Sm base b acc s' d _ P2.out (by omega) H2.out).mono ?_;rintro e w3 ⟨⟨q3,rfl⟩,k3⟩;have K3:=K2.out.trans k3;have pH:=K3.size;clear k3;go_wp2;go_ret;exact⟨K3.below (le_trans dk pH) ((Below.refl _ w3).alloc (le_refl _) _),fun _=>rfl,fun q r e=>by rw[HZ.out] at e;simp at e⟩
  obtain⟨f2,ng,jt⟩:=U0 f q _ a c r hf h1 h2;have uj:Hid (aO f2 (fun x=>q x || ay a (c+1-a) x) r=R):=by show _=_;rw[<-jt];exact HQ.out
  have H2:=hid h2;have kF:=P2.out.eE;clear h1 h2 HQ jt;go_wp2_with fail;refine (nw base b acc s' d 93 _ P2.out HK.out).mono ?_;rintro e w2 ⟨rfl,rfl⟩;go_wp2_with fail;refine (Wh base b acc s' d a c r _ P2.out (by omega) H2.out).mono ?_;rintro e w3 ⟨rfl,k3,s3,mH,JD,hY⟩;have Jj:=S2.out.fW k3 C3 (by decide);have pH:=k3.size;have K3:=hid ((K2.out.trans k3).below (le_trans dk (K2.out.trans k3).size) ((Below.refl _ w3).alloc (le_refl _) (.cells #[.int .u64 ((wd (ay a (c+1-a)) 0:Nat):Int),.int .u64 ((wd (ay a (c+1-a)) 1:Nat):Int),.int .u64 ((wd (ay a (c+1-a)) 2:Nat):Int),.int .u64 ((wd (ay a (c+1-a)) 3:Nat):Int)] 146)));have P3:=hid (hY.aa ((Below.refl _ w3).alloc (le_refl _) (.cells #[.int .u64 ((wd (ay a (c+1-a)) 0:Nat):Int),.int .u64 ((wd (ay a (c+1-a)) 1:Nat):Int),.int .u64 ((wd (ay a (c+1-a)) 2:Nat):Int),.int .u64 ((wd (ay a (c+1-a)) 3:Nat):Int)] 146)));have S3:=hid (Jj.alloc (.cells #[.int .u64 ((wd (ay a (c+1-a)) 0:Nat):Int),.int .u64 ((wd (ay a (c+1-a)) 1:Nat):Int),.int .u64 ((wd (ay a (c+1-a)) 2:Nat):Int),.int .u64 ((wd (ay a (c+1-a)) 3:Nat):Int)] 146));have T3:=hid (St.new w3 146 #[.int .u64 ((wd (ay a (c+1-a)) 0:Nat):Int),.int .u64 ((wd (ay a (c+1-a)) 1:Nat):Int),.int .u64 ((wd (ay a (c+1-a)) 2:Nat):Int),.int .u64 ((wd (ay a (c+1-a)) 3:Nat):Int)]);obtain⟨c0,c1,c2,c3,-⟩:=cW S3.out;obtain⟨d0,d1,d2,d3,-⟩:=cW T3.out;have wF:=hid mH;clear k3 hY mH Jj P2 S2 K2;go_wp2_with fail;refine (Tc q (ay a (c+1-a)) _).mono ?_;rintro e w5 ⟨rfl,b5⟩;have s5:=S3.out.aa b5;have lY:=b5.size;simp at lY;obtain⟨r0,Wm,Un,Ut,WZ,WG,WD,Vt⟩:=cW s5;have KK:=hid ((K3.out.below (le_trans dk K3.out.size) b5).gz (g:=w.heap.size) (by omega) (s5.is) (by omega) (.int .u64 ((wd (fun x=>q x || ay a (c+1-a) x) 0:Nat):Int)) (.int .u64 ((wd (fun x=>q x || ay a (c+1-a) x) 1:Nat):Int)) (.int .u64 ((wd (fun x=>q x || ay a (c+1-a) x) 2:Nat):Int)) (.int .u64 ((wd (fun x=>q x || ay a (c+1-a) x) 3:Nat):Int)));have PP:=hid ((P3.out.aa b5).gz (g:=w.heap.size) (by omega) (s5.is) (.int .u64 ((wd (fun x=>q x || ay a (c+1-a) x) 0:Nat):Int)) (.int .u64 ((wd (fun x=>q x || ay a (c+1-a) x) 1:Nat):Int)) (.int .u64 ((wd (fun x=>q x || ay a (c+1-a) x) 2:Nat):Int)) (.int .u64 ((wd (fun x=>q x || ay a (c+1-a) x) 3:Nat):Int)));have SS:=hid (s5.qW (.int .u64 ((wd (fun x=>q x || ay a (c+1-a) x) 0:Nat):Int)) (.int .u64 ((wd (fun x=>q x || ay a (c+1-a) x) 1:Nat):Int)) (.int .u64 ((wd (fun x=>q x || ay a (c+1-a) x) 2:Nat):Int)) (.int .u64 ((wd (fun x=>q x || ay a (c+1-a) x) 3:Nat):Int)));have gE:=PP.out.eE;clear b5 s5 S3 T3 K3 P3 c0 c1 c2 c3 d0 d1 d2 d3;go_wp2;go_roundw
  ·exact⟨f2,fun x=>q x || ay a (c+1-a) x,s3,by rw[wF.out];exact ng,by show aO _ _ _=_;rw[wF.out];exact uj.out,by omega,PP,SS,KK,by rw[Vh];omega⟩
  first|(simp only[kF,gE];omega)|(rw[kF,gE];omega)
 have HY:Hid (O=if eh q=true then none else some (q,r)):=by
  have:=HQ.out;rw[TL f q _ r hf h1] at this;show _=_;rw[HX.out,<-this]
 have HK:=hid h1;clear h1 HX HQ;go_wp2_with fail;refine (tS base b acc s' d 93 r _ P2.out HK.out (by omega)).mono ?_;rintro e w2 ⟨rfl,k2,s2,dj,cJ,fj⟩;have S3:=hid (S2.out.fW k2 C3 (by decide));have K3:=hid (K2.out.trans k2);have P3:=hid fj;have jO:=hid dj;obtain⟨c0,c1,c2,c3,-⟩:=cW S3.out;have Qu:=k2.size;clear k2 fj dj S2 K2 P2;go_wp2_with fail;have KK:=K3;have PP:=P3;have SS:=S3;clear K3 P3 S3;obtain⟨c0,c1,c2,c3,-⟩:=cW SS.out;go_wp2_with fail;refine (ET base b acc s2 d 1 q _ PP.out tJ).mono ?_;rintro e w7 ⟨rfl,Ja,k7⟩;have s7:=SS.out.fW k7 C3 (by decide);have K7:=hid (KK.out.trans k7);have P7:=hid Ja;clear c0 c1 c2 c3 k7 Ja KK PP SS;obtain⟨c0,c1,c2,c3,-⟩:=cW s7;obtain⟨o,ho⟩:∃o,eh q=o:=⟨_,rfl⟩
 have HO:=hid ho;clear ho;go_wp2_with fail;refine (Of q o HO.out _).mono ?_;rintro e w8 ⟨rfl,b8⟩;have K8:=K7.out.below (le_trans dk K7.out.size) b8;have P8:=P7.out.aa b8;rcases o with _|_
 ·have HZ:Hid (O=some (q,r)):=by show _=_;rw[HY.out,HO.out];rfl
  go_wp2;go_ret;refine⟨K8,fun e=>by rw[HZ.out] at e;simp at e,fun q' r' e=>?_⟩;rw[HZ.out] at e;simp only[Option.some.injEq,Prod.mk.injEq] at e;obtain⟨rfl,rfl⟩:=e;exact⟨rfl,s2,jO.out,P8⟩
 have HZ:Hid (O=none):=by show _=_;rw[HY.out,HO.out];rfl
 go_wp2;go_ret;exact⟨K8,fun _=>rfl,fun q' r' e=>by rw[HZ.out] at e;simp at e⟩
theorem znV(base b:Nat)(acc:List Pc)(s:ByteArray)(d:Nat)(rr:List Nat)(h0:aG 94 (ae s)=some rr)(w:World)(h:ea base b acc s d w)(hs:s.size<=10000)(tJ:acc.length<=10000):
  Calls prog 196 #[.pointer (some ⟨b,0,none⟩)] w (GB base b acc d (eW (ae s)) w):=by
 have HX:Hid (eW (ae s)=match aO (rr.length+1) bE rr with
  | none=>none
  | some (q,r1)=>if eh (fun x=>!q x)=true then none else some ((fun x=>!q x),r1)):=by
  show _=_
  simp only[eW,h0]
  rfl
 generalize eW (ae s)=O at HX⊢;have ew:=h.lt;have dk:=h.low;have hB:=h.1;unfold GB;go_enter func196,ntmps196;go_wp2_with fail;refine (tS base b acc s d 94 rr _ h h0 hs).mono ?_;rintro e w1 ⟨rfl,k1,s1,fx,cQ,fU⟩;obtain⟨R,hR⟩:∃R,aO (rr.length+1) bE rr=R:=⟨_,rfl⟩
 rw[hR] at HX;have rE:=hid hR;have K1:=hid (k1.below (le_trans dk k1.size) ((Below.refl _ w1).alloc (le_refl _) (.cells #[.int .u64 0,.int .u64 0,.int .u64 0,.int .u64 0] 146)));have P1:=hid (fU.aa ((Below.refl _ w1).alloc (le_refl _) (.cells #[.int .u64 0,.int .u64 0,.int .u64 0,.int .u64 0] 146)));have S1:Hid (St (w1.alloc (.cells #[.int .u64 0,.int .u64 0,.int .u64 0,.int .u64 0] 146)) 146 w1.heap.size #[.int .u64 ((wd bE 0:Nat):Int),.int .u64 ((wd bE 1:Nat):Int),.int .u64 ((wd bE 2:Nat):Int),.int .u64 ((wd bE 3:Nat):Int)]):=by
  have:=St.new w1 146 #[.int .u64 0,.int .u64 0,.int .u64 0,.int .u64 0];rw[Jk 146] at this;rw[Jk 146];exact this
 have NF:=fU.lt;have BW:=k1.size;have rP:=hid fx;have C3:w1.heap.size≠b:=by omega
 clear hR h k1 fU fx h0;go_wp2;go_loopw [9] (fun _ wr=>∃(f:Nat) (q:Nat->Bool) (s':ByteArray),(ae s').length<f/\Hid (aO f q (ae s')=R)/\s'.size<=s.size/\Hid (ea base b acc s' d wr)/\Hid (St wr 146 w1.heap.size #[.int .u64 ((wd q 0:Nat):Int),.int .u64 ((wd q 1:Nat):Int),.int .u64 ((wd q 2:Nat):Int),.int .u64 ((wd q 3:Nat):Int)])/\Hid (aH base b w wr)/\w1.heap.size<wr.heap.size) (fun _ wr=>eE wr ⟨b,0,none⟩)
 ·exact⟨_,bE,s1,lt_succ_self _,by show aO _ _ _=_;rw[rP.out];exact rE.out,by omega,P1,S1,K1,by simp⟩
 clear P1 S1 K1 rE;obtain⟨f,q,s',hf,HQ,da,P2,S2,K2,yT⟩:=hrel;rcases h1:aG 93 (ae s') with _|r
 ·have HK:=hid h1;rcases h2:dK (ae s') with _|⟨a,c,r⟩
  ·have HZ:Hid (O=none):=by
    have:=HQ.out;rw[YE f q _ hf h1 h2] at this;show _=_;rw[HX.out,<-this]
   have H2:=hid h2;clear h1 h2 HX HQ;go_wp2_with fail;refine (nw base b acc s' d 93 _ P2.out HK.out).mono ?_;rintro e w2 ⟨rfl,rfl⟩;go_wp2_with fail;refine (Sm base b acc s' d _ P2.out (by omega) H2.out).mono ?_;rintro e w3 ⟨⟨q3,rfl⟩,k3⟩;have K3:=K2.out.trans k3;have pH:=K3.size;clear k3;go_wp2;go_ret;exact⟨K3.below (le_trans dk pH) ((Below.refl _ w3).alloc (le_refl _) _),fun _=>rfl,fun q r e=>by rw[HZ.out] at e;simp at e⟩
  obtain⟨f2,ng,jt⟩:=U0 f q _ a c r hf h1 h2;have uj:Hid (aO f2 (fun x=>q x || ay a (c+1-a) x) r=R):=by show _=_;rw[<-jt];exact HQ.out
  have H2:=hid h2;have kF:=P2.out.eE;clear h1 h2 HQ jt;go_wp2_with fail;refine (nw base b acc s' d 93 _ P2.out HK.out).mono ?_;rintro e w2 ⟨rfl,rfl⟩;go_wp2_with fail;refine (Wh base b acc s' d a c r _ P2.out (by omega) H2.out).mono ?_;rintro e w3 ⟨rfl,k3,s3,mH,JD,hY⟩;have Jj:=S2.out.fW k3 C3 (by decide);have pH:=k3.size;have K3:=hid ((K2.out.trans k3).below (le_trans dk (K2.out.trans k3).size) ((Below.refl _ w3).alloc (le_refl _) (.cells #[.int .u64 ((wd (ay a (c+1-a)) 0:Nat):Int),.int .u64 ((wd (ay a (c+1-a)) 1:Nat):Int),.int .u64 ((wd (ay a (c+1-a)) 2:Nat):Int),.int .u64 ((wd (ay a (c+1-a)) 3:Nat):Int)] 146)));have P3:=hid (hY.aa ((Below.refl _ w3).alloc (le_refl _) (.cells #[.int .u64 ((wd (ay a (c+1-a)) 0:Nat):Int),.int .u64 ((wd (ay a (c+1-a)) 1:Nat):Int),.int .u64 ((wd (ay a (c+1-a)) 2:Nat):Int),.int .u64 ((wd (ay a (c+1-a)) 3:Nat):Int)] 146)));have S3:=hid (Jj.alloc (.cells #[.int .u64 ((wd (ay a (c+1-a)) 0:Nat):Int),.int .u64 ((wd (ay a (c+1-a)) 1:Nat):Int),.int .u64 ((wd (ay a (c+1-a)) 2:Nat):Int),.int .u64 ((wd (ay a (c+1-a)) 3:Nat):Int)] 146));have T3:=hid (St.new w3 146 #[.int .u64 ((wd (ay a (c+1-a)) 0:Nat):Int),.int .u64 ((wd (ay a (c+1-a)) 1:Nat):Int),.int .u64 ((wd (ay a (c+1-a)) 2:Nat):Int),.int .u64 ((wd (ay a (c+1-a)) 3:Nat):Int)]);obtain⟨c0,c1,c2,c3,-⟩:=cW S3.out;obtain⟨d0,d1,d2,d3,-⟩:=cW T3.out;have wF:=hid mH;clear k3 hY mH Jj P2 S2 K2;go_wp2_with fail;refine (Tc q (ay a (c+1-a)) _).mono ?_;rintro e w5 ⟨rfl,b5⟩;have s5:=S3.out.aa b5;have lY:=b5.size;simp at lY;obtain⟨r0,Wm,Un,Ut,WZ,WG,WD,Vt⟩:=cW s5;have KK:=hid ((K3.out.below (le_trans dk K3.out.size) b5).gz (g:=w1.heap.size) (by omega) (s5.is) (by omega) (.int .u64 ((wd (fun x=>q x || ay a (c+1-a) x) 0:Nat):Int)) (.int .u64 ((wd (fun x=>q x || ay a (c+1-a) x) 1:Nat):Int)) (.int .u64 ((wd (fun x=>q x || ay a (c+1-a) x) 2:Nat):Int)) (.int .u64 ((wd (fun x=>q x || ay a (c+1-a) x) 3:Nat):Int)));have PP:=hid ((P3.out.aa b5).gz (g:=w1.heap.size) (by omega) (s5.is) (.int .u64 ((wd (fun x=>q x || ay a (c+1-a) x) 0:Nat):Int)) (.int .u64 ((wd (fun x=>q x || ay a (c+1-a) x) 1:Nat):Int)) (.int .u64 ((wd (fun x=>q x || ay a (c+1-a) x) 2:Nat):Int)) (.int .u64 ((wd (fun x=>q x || ay a (c+1-a) x) 3:Nat):Int)));have SS:=hid (s5.qW (.int .u64 ((wd (fun x=>q x || ay a (c+1-a) x) 0:Nat):Int)) (.int .u64 ((wd (fun x=>q x || ay a (c+1-a) x) 1:Nat):Int)) (.int .u64 ((wd (fun x=>q x || ay a (c+1-a) x) 2:Nat):Int)) (.int .u64 ((wd (fun x=>q x || ay a (c+1-a) x) 3:Nat):Int)));have gE:=PP.out.eE;clear b5 s5 S3 T3 K3 P3 c0 c1 c2 c3 d0 d1 d2 d3;go_wp2;go_roundw
  ·exact⟨f2,fun x=>q x || ay a (c+1-a) x,s3,by rw[wF.out];exact ng,by show aO _ _ _=_;rw[wF.out];exact uj.out,by omega,PP,SS,KK,by rw[Vh];omega⟩
  first|(simp only[kF,gE];omega)|(rw[kF,gE];omega)
 have HY:Hid (O=if eh (fun x=>!q x)=true then none else some ((fun x=>!q x),r)):=by
  have:=HQ.out;rw[TL f q _ r hf h1] at this;show _=_;rw[HX.out,<-this]
 have HK:=hid h1;clear h1 HX HQ;go_wp2_with fail;refine (tS base b acc s' d 93 r _ P2.out HK.out (by omega)).mono ?_;rintro e w2 ⟨rfl,k2,s2,dj,cJ,fj⟩;have S3:=hid (S2.out.fW k2 C3 (by decide));have K3:=hid (K2.out.trans k2);have P3:=hid fj;have jO:=hid dj;obtain⟨c0,c1,c2,c3,-⟩:=cW S3.out;have Qu:=k2.size;clear k2 fj dj S2 K2 P2;go_wp2_with fail;refine (Vz q _).mono ?_;rintro e w5 ⟨rfl,b5⟩;have s5:=S3.out.aa b5;obtain⟨r0,Wm,Un,Ut,WZ,WG,WD,Vt⟩:=cW s5;have KK:=hid ((K3.out.below (le_trans dk K3.out.size) b5).gz (g:=w1.heap.size) (by omega) (s5.is) (by omega) (.int .u64 ((wd (fun x=>!q x) 0:Nat):Int)) (.int .u64 ((wd (fun x=>!q x) 1:Nat):Int)) (.int .u64 ((wd (fun x=>!q x) 2:Nat):Int)) (.int .u64 ((wd (fun x=>!q x) 3:Nat):Int)));have PP:=hid ((P3.out.aa b5).gz (g:=w1.heap.size) (by omega) (s5.is) (.int .u64 ((wd (fun x=>!q x) 0:Nat):Int)) (.int .u64 ((wd (fun x=>!q x) 1:Nat):Int)) (.int .u64 ((wd (fun x=>!q x) 2:Nat):Int)) (.int .u64 ((wd (fun x=>!q x) 3:Nat):Int)));have SS:=hid (s5.qW (.int .u64 ((wd (fun x=>!q x) 0:Nat):Int)) (.int .u64 ((wd (fun x=>!q x) 1:Nat):Int)) (.int .u64 ((wd (fun x=>!q x) 2:Nat):Int)) (.int .u64 ((wd (fun x=>!q x) 3:Nat):Int)));clear b5 s5 S3 K3 P3 c0 c1 c2 c3;go_wp2_with fail;generalize ((((w5.setCell _ _).setCell _ _).setCell _ _).setCell _ _)=w6 at KK PP SS⊢;obtain⟨c0,c1,c2,c3,-⟩:=cW SS.out;go_wp2_with fail;refine (ET base b acc s2 d 1 (fun x=>!q x) _ PP.out tJ).mono ?_;rintro e w7 ⟨rfl,Ja,k7⟩;have s7:=SS.out.fW k7 C3 (by decide);have K7:=hid (KK.out.trans k7);have P7:=hid Ja;clear c0 c1 c2 c3 k7 Ja KK PP SS;obtain⟨c0,c1,c2,c3,-⟩:=cW s7;obtain⟨o,ho⟩:∃o,eh (fun x=>!q x)=o:=⟨_,rfl⟩
 have HO:=hid ho;clear ho;go_wp2_with fail;refine (Of (fun x=>!q x) o HO.out _).mono ?_;rintro e w8 ⟨rfl,b8⟩;have K8:=K7.out.below (le_trans dk K7.out.size) b8;have P8:=P7.out.aa b8;rcases o with _|_
 ·have HZ:Hid (O=some ((fun x=>!q x),r)):=by show _=_;rw[HY.out,HO.out];rfl
  go_wp2;go_ret;refine⟨K8,fun e=>by rw[HZ.out] at e;simp at e,fun q' r' e=>?_⟩;rw[HZ.out] at e;simp only[Option.some.injEq,Prod.mk.injEq] at e;obtain⟨rfl,rfl⟩:=e;exact⟨rfl,s2,jO.out,P8⟩
 have HZ:Hid (O=none):=by show _=_;rw[HY.out,HO.out];rfl
 go_wp2;go_ret;exact⟨K8,fun _=>rfl,fun q' r' e=>by rw[HZ.out] at e;simp at e⟩
theorem znW(base b:Nat)(acc:List Pc)(s:ByteArray)(d:Nat)(w:World)(h:ea base b acc s d w)(hs:s.size<=10000)(tJ:acc.length<=10000):
  Calls prog 196 #[.pointer (some ⟨b,0,none⟩)] w (GB base b acc d (eW (ae s)) w):=by
 rcases h0:aG 94 (ae s) with _|rr
 ·exact Zh base b acc s d h0 w h hs tJ
 exact znV base b acc s d rr h0 w h hs tJ
def aX(base b d:Nat)(o:Option bI)(w:World)(e:Ending)(w':World):Prop:=
 aH base b w w'/\(o=none->e=.returned (.bool false))/\∀x,o=some x->e=.returned (.bool true)/\∃s',ae s'=x.2/\ea base b x.1 s' d w'
def uF(f:Nat)(g:bI->Option bI)(d:Nat):Prop:=∀(base b:Nat) (acc:List Pc) (s:ByteArray) (w:World),ea base b acc s d w->s.size<=2000->acc.length+2*s.size<=9000->
 Calls prog f #[.pointer (some ⟨b,0,none⟩)] w (aX base b d (g (acc,ae s)) w)
theorem aX.no{base b:Nat}{o:Option bI}(k:aH base b w w')(h:o=none):aX base b d o w (.returned (.bool false)) w':=⟨k,fun _=>rfl,fun x e=>by rw[h] at e;simp at e⟩
theorem aX.yes{base b:Nat}{o:Option bI}{x:bI}{s':ByteArray}(k:aH base b w w')(h:o=some x)(hn:ae s'=x.2)(hp:ea base b x.1 s' d w'):aX base b d o w (.returned (.bool true)) w':=
 ⟨k,fun e=>by rw[h] at e;simp at e,fun y e=>by rw[h] at e;simp at e;subst e;exact⟨rfl,s',hn,hp⟩⟩
theorem Z1:(Value.agg #[.int .u64 0,.int .u64 0,.int .u64 0,.int .u64 0])=(.agg #[.int .u64 ((wd bE 0:Nat):Int),.int .u64 ((wd bE 1:Nat):Int),.int .u64 ((wd bE 2:Nat):Int),.int .u64 ((wd bE 3:Nat):Int)]):=by rw[Jk 146]
theorem Lp(base b:Nat)(acc:List Pc)(s:ByteArray)(d:Nat)(k:Int)(w:World)(h:ea base b acc s d w)(hl:acc.length<=10000):
  Calls prog 140 #[.pointer (some ⟨b,0,none⟩),.int .i64 k,.agg #[.int .u64 0,.int .u64 0,.int .u64 0,.int .u64 0]] w fun e w'=>e=.returned (.tuple #[])/\ea base b (acc++[⟨k,bE⟩]) s d w'/\aH base b w w':=by
 rw[Z1];exact ET base b acc s d k bE w h hl
theorem Fh(c:Nat)(hc:c<256):(c=42/\gJ ⟨#[42,43,63]⟩ c=0/\ia c=some 4)\/(c=43/\gJ ⟨#[42,43,63]⟩ c=1/\ia c=some 5)\/(c=63/\gJ ⟨#[42,43,63]⟩ c=2/\ia c=some 6)\/(gJ ⟨#[42,43,63]⟩ c<0/\ia c=none):=by
 by_cases h1:c=42
 ·subst h1;exact inl ⟨rfl,by decide,by decide⟩
 by_cases h2:c=43
 ·subst h2;exact inr (inl ⟨rfl,by decide,by decide⟩)
 by_cases h3:c=63
 ·subst h3;exact inr (inr (inl ⟨rfl,by decide,by decide⟩))
 refine inr (inr (inr ⟨?_,by simp[ia,h1,h2,h3]⟩));have:=Od ⟨#[42,43,63]⟩ c hc;have e:A6 ⟨#[42,43,63]⟩ c=false:=by
  unfold A6;simp;omega
 rw[e] at this;simpa using this
theorem zfC(c:Nat)(r:List Nat)(acc:List Pc)(k:Int)(h:ia c=some k):cU (c :: r) acc=cU r (acc++[⟨k,bE⟩]):=by simp only[cU,h]
theorem zgD(c:Nat)(r:List Nat)(acc:List Pc)(h:ia c=none):cU (c :: r) acc=(acc,c :: r):=by simp only[cU,h]
theorem Yh(atom:bI->Option bI)(d:Nat)(hd:pa atom)(ha:uF 187 atom d):uF 166 (dQ atom) d:=by
 intro base b acc s w h hs hl;have HX:Hid (dQ atom (acc,ae s)=match atom (acc,ae s) with
  | none=>none
  | some x=>some (cU x.2 x.1)):=by show _=_;unfold dQ;rfl
 have HD:=hid (fun x=>hd (acc,ae s) x);generalize dQ atom (acc,ae s)=O at HX⊢;have hA:=ha base b acc s w h hs hl;have HS:=hid (oO s);have hB:=h.1;clear ha hd;generalize atom (acc,ae s)=A at HX HD hA;have HA:=hid hA;clear hA h;go_enter func166,ntmps166;go_wp2_with fail;refine HA.out.mono ?_;rintro e w1 ⟨k1,h1,h2⟩;rcases A with _|⟨jH,r1⟩
 ·obtain rfl:=h1 rfl;have HZ:=HX.out;go_wp2;go_ret;exact aX.no k1 HZ
 obtain⟨rfl,s1,fx,fU⟩:=h2 _ rfl;have sU:=HD.out _ rfl;simp only[HS.out] at sU;simp only at fx fU;have lZ:s1.size=r1.length:=by rw[<-oO,fx]
 have HZ:Hid (O=some (cU (ae s1) jH)):=by show _=_;rw[HX.out,fx]
 obtain⟨R,hR⟩:∃R,cU (ae s1) jH=R:=⟨_,rfl⟩
 rw[hR] at HZ;have HR:=hid hR;have P1:=hid fU;have K1:=hid k1;have nz:s1.size+1<=s.size:=by omega
 have pB:jH.length+2*s1.size<=9000:=by omega
 clear hR fU k1 HX HD h1 h2 sU fx lZ;go_wp2;go_loopw [3] (fun _ wr=>∃(dW:List Pc) (s':ByteArray),Hid (cU (ae s') dW=R)/\s'.size<=s1.size/\dW.length+2*s'.size<=9000/\Hid (ea base b dW s' d wr)/\Hid (aH base b w wr)) (fun _ wr=>eE wr ⟨b,0,none⟩)
 ·exact⟨jH,s1,HR,le_refl _,pB,P1,K1⟩
 clear P1 K1 HR;obtain⟨dW,s',HQ,da,sy,P2,K2⟩:=hrel;obtain⟨c0,f0⟩:=P2.out.rest;rcases eq_zero_or_pos s'.size with hz|hp
 ·have kU:s'.toList=[]:=G5 s' hz;have iy:(!s'.toList.isEmpty)=false:=by rw[kU];rfl
  have HF:Hid (O=some (dW,[])):=by
   show _=_;have:=HQ.out;rw[KU s' hz] at this;rw[HZ,<-this];rfl
  have HN:Hid (ae s'=[]):=KU s' hz;clear hz kU HQ;go_wp2;go_ret;exact aX.yes K2.out HF.out HN.out P2.out
 have kU:s'.toList.isEmpty=false:=zy s' hp;have iy:(!s'.toList.isEmpty)=true:=by rw[kU];rfl
 have hc:=UInt8.toNat_lt s'[0];have AV:=IX s' hp;have HE:Hid (ae (s'.extract 1 s'.size)=(ae s').drop 1):=by show _=_;rw[PO]
 have hez:(s'.extract 1 s'.size).size+1=s'.size:=by rw[ByteArray.size_extract];omega
 have kF:=P2.out.eE;have P3:=hid (P2.out.kv (s'.extract 1 s'.size));have K3:=hid (K2.out.set hB 0 (.string (s'.extract 1 s'.size)));rcases Fh s'[0].toNat hc with ⟨e,hw,hk⟩|⟨e,hw,hk⟩|⟨e,hw,hk⟩|⟨hw,hk⟩
 all_goals
  have HW:=hid hw
  have HK:=hid hk
  have HC:=hid AV
  first|clear e|skip
  clear hw hk AV
 rotate_right
 ·have HF:Hid (O=some (dW,ae s')):=by
   show _=_;have:=HQ.out;rw[HC.out,zgD _ _ _ HK.out] at this;rw[HZ,<-this,<-HC.out]
  obtain⟨x,hx⟩:∃x,gJ ⟨#[42,43,63]⟩ s'[0].toNat=x:=⟨_,rfl⟩
  have Wp:x<0:=by rw[<-hx];exact HW.out
  have HXX:=hid hx;clear hx HQ;go_wp2_with fail;refine (L6 _ _ _).mono ?_;rintro e w2 ⟨rfl,rfl⟩;rw[HXX.out];go_wp2;go_ret;exact aX.yes K2.out HF.out rfl P2.out
 all_goals
  go_wp2_with fail
  refine (L6 _ _ _).mono ?_
  rintro e w2 ⟨rfl,rfl⟩
  rw[HW.out]
  go_wp2_with fail
  refine (Lp base b dW (s'.extract 1 s'.size) d _ _ P3.out (by omega)).mono ?_
  rintro e w3 ⟨rfl,hY,k3⟩
  have P4:=hid hY
  have K4:=hid (K3.out.trans k3)
  have gE:=hY.eE
  clear hY k3
  go_wp2
  go_roundw
  case rel=>exact⟨_,s'.extract 1 s'.size,by show cU _ _=_;rw[HE.out,<-zfC _ _ _ _ HK.out,<-HC.out];exact HQ.out,by omega,by simp;omega,P4,K4⟩
  case measure=>first|(simp only[kF,gE];omega)|(rw[kF,gE];omega)
theorem zgE(atom:bI->Option bI)(f:Nat)(s:bI)(hf:s.2.length<f)(h:gV s.2=true):bQ atom f s=some s:=by
 match f,hf with
 | f+1,hf=>unfold bQ;rw[if_pos h]
theorem zit(atom:bI->Option bI)(f:Nat)(s:bI)(hf:s.2.length<f)(h:gV s.2=false)(h1:dQ atom s=none):bQ atom f s=none:=by
 match f,hf with
 | f+1,hf=>simp[bQ,h,h1]
theorem zfD(atom:bI->Option bI)(f:Nat)(s x:bI)(hd:pa atom)(hf:s.2.length<f)(h:gV s.2=false)(h1:dQ atom s=some x):∃g,x.2.length<g/\bQ atom f s=bQ atom g (x.1++[⟨2,bE⟩],x.2):=by
 match f,hf with
 | f+1,hf=>
  have:=(KT hd s x h1).1;exact⟨f,by omega,by simp[bQ,h,h1]⟩
theorem VK(atom:bI->Option bI)(d:Nat)(hd:pa atom)(ha:uF 166 (dQ atom) d):uF 138 (dT atom) d:=by
 intro base b acc s w h hs hl;have HX:Hid (dT atom (acc,ae s)=match dQ atom (acc,ae s) with
  | none=>none
  | some x=>bQ atom (x.2.length+1) x):=by show _=_;unfold dT;rfl
 have HD:=hid (fun s x=>KT hd s x);have Oa:=hid hd;generalize dT atom (acc,ae s)=O at HX⊢;have hA:=ha base b acc s w h hs hl;have HS:=hid (oO s);have hB:=h.1;have tO:=hid ha;have Cy:=hid (fun x=>HD.out (acc,ae s) x);clear ha hd;generalize dQ atom (acc,ae s)=A at HX Cy hA;have HA:=hid hA;clear hA h;go_enter func138,ntmps138;go_wp2_with fail;refine HA.out.mono ?_;rintro e w1 ⟨k1,h1,h2⟩;rcases A with _|⟨jH,r1⟩
 ·obtain rfl:=h1 rfl;have HZ:=HX.out;go_wp2;go_ret;exact aX.no k1 HZ
 obtain⟨rfl,s1,fx,fU⟩:=h2 _ rfl;have sU:=Cy.out _ rfl;simp only[HS.out] at sU;simp only at fx fU;have lZ:s1.size=r1.length:=by rw[<-oO,fx]
 obtain⟨R,hR⟩:∃R,bQ atom ((ae s1).length+1) (jH,ae s1)=R:=⟨_,rfl⟩
 have HZ:Hid (O=R):=by show _=_;rw[HX.out,<-hR,fx]
 have HR:=hid hR;have P1:=hid fU;have K1:=hid k1;have nz:s1.size+1<=s.size:=by omega
 have pB:jH.length+2*s1.size<=9000:=by omega
 clear hR fU k1 HX Cy h1 h2 sU fx lZ;go_wp2;go_loopw [30] (fun _ wr=>∃(f:Nat) (dW:List Pc) (s':ByteArray),(ae s').length<f/\Hid (bQ atom f (dW,ae s')=R)/\s'.size<=s1.size/\dW.length+2*s'.size<=9000/\Hid (ea base b dW s' d wr)/\Hid (aH base b w wr)) (fun _ wr=>eE wr ⟨b,0,none⟩)
 ·exact⟨_,jH,s1,lt_succ_self _,HR,le_refl _,pB,P1,K1⟩
 clear P1 K1 HR;obtain⟨f,dW,s',hf,HQ,da,sy,P2,K2⟩:=hrel;obtain⟨c0,f0⟩:=P2.out.rest;have kH:gV (ae s')=true\/(gV (ae s')=false/\∃h:0<s'.size,s'[0].toNat≠124/\s'[0].toNat≠41):=by
  rcases eq_zero_or_pos s'.size with hz|hp
  ·left;rw[KU s' hz];rfl
  rw[IX s' hp];by_cases h1:s'[0].toNat=124
  ·left;simp[gV,h1]
  by_cases h2:s'[0].toNat=41
  ·left;simp[gV,h2]
  right;exact⟨by simp[gV,h1,h2],hp,h1,h2⟩
 rcases kH with kH|⟨kH,hp,h1,h2⟩
 ·have HF:Hid (O=some (dW,ae s')):=by
   show _=_;rw[HZ.out,<-HQ.out,zgE atom f _ hf kH]
  rcases eq_zero_or_pos s'.size with hz|hp
  ·have kU:s'.toList=[]:=G5 s' hz;have iy:(!s'.toList.isEmpty)=false:=(by rw[kU];rfl);clear hz kU HQ kH;go_wp2;go_ret;exact aX.yes K2.out HF.out rfl P2.out
  have kU:s'.toList.isEmpty=false:=zy s' hp;have iy:(!s'.toList.isEmpty)=true:=by rw[kU];rfl
  rw[IX s' hp] at kH;by_cases h1:s'[0].toNat=124
  ·have e1:((s'[0].toNat:Int) != 124)=false:=(by simp;omega);clear HQ kH h1;go_wp2;go_ret;exact aX.yes K2.out HF.out rfl P2.out
  have h2:s'[0].toNat=41:=by simpa [gV,h1] using kH
  have e1:((s'[0].toNat:Int) != 124)=true:=by simp;omega
  have e2:((s'[0].toNat:Int) != 41)=false:=by simp;omega
  clear HQ kH h1 h2;go_wp2;go_ret;exact aX.yes K2.out HF.out rfl P2.out
 have kU:s'.toList.isEmpty=false:=zy s' hp;have iy:(!s'.toList.isEmpty)=true:=by rw[kU];rfl
 have e1:((s'[0].toNat:Int) != 124)=true:=by simp;omega
 have e2:((s'[0].toNat:Int) != 41)=true:=by simp;omega
 have HEnd:=hid kH;have HS':=hid (oO s');have kF:=P2.out.eE;have hA:=tO.out base b dW s' _ P2.out (by omega) sy;rcases hr:dQ atom (dW,ae s') with _|⟨uf,r2⟩
 ·rw[hr] at hA;have lN:=hid hA;have HF:Hid (O=none):=by
   show _=_;rw[HZ.out,<-HQ.out,zit atom f _ hf kH hr]
  clear hA hr kH h1 h2 HQ;go_wp2_with fail;refine lN.out.mono ?_;rintro e w2 ⟨k2,h1,-⟩;obtain rfl:=h1 rfl;go_wp2;go_ret;exact aX.no (K2.out.trans k2) HF.out
 have sU:=HD.out _ _ hr;simp only[HS'.out] at sU;obtain⟨f2,ng,jt⟩:=zfD atom f _ _ Oa.out hf kH hr;have uj:Hid (bQ atom f2 (uf++[⟨2,bE⟩],r2)=R):=by show _=_;rw[<-jt];exact HQ.out
 rw[hr] at hA;have lN:=hid hA;clear hA hr kH h1 h2 HQ jt;go_wp2_with fail;refine lN.out.mono ?_;rintro e w2 ⟨k2,-,h2⟩;obtain⟨rfl,s2,dj,fj⟩:=h2 _ rfl;simp only at dj fj ng;have oQ:s2.size=r2.length:=by rw[<-oO,dj]
 have jO:=hid dj;have P3:=hid fj;have K3:=hid (K2.out.trans k2);clear k2 h2 dj fj;go_wp2_with fail;refine (Lp base b uf s2 d _ _ P3.out (by omega)).mono ?_;rintro e w3 ⟨rfl,hY,k3⟩;have P4:=hid hY;have K4:=hid (K3.out.trans k3);have gE:=hY.eE;clear hY k3;go_wp2;go_roundw
 ·exact⟨f2,_,s2,by rw[jO.out];exact ng,by show bQ _ _ _=_;rw[jO.out];exact uj.out,by omega,by simp;omega,P4,K4⟩
 first|(simp only[kF,gE];omega)|(rw[kF,gE];omega)
theorem zgF(atom:bI->Option bI)(f:Nat)(s:bI)(hf:s.2.length<f)(h:aG 124 s.2=none):bS atom f s=some s:=by
 match f,hf with
 | f+1,hf=>simp only[bS,h]
theorem ziu(atom:bI->Option bI)(f:Nat)(s:bI)(r:List Nat)(hf:s.2.length<f)(h:aG 124 s.2=some r)(h1:dT atom (s.1,r)=none):bS atom f s=none:=by
 match f,hf with
 | f+1,hf=>simp only[bS,h,h1]
theorem zfE(atom:bI->Option bI)(f:Nat)(s x:bI)(r:List Nat)(hd:pa atom)(hf:s.2.length<f)(h:aG 124 s.2=some r)(h1:dT atom (s.1,r)=some x):∃g,x.2.length<g/\bS atom f s=bS atom g (x.1++[⟨3,bE⟩],x.2):=by
 match f,hf with
 | f+1,hf=>
  have h2:=(Lb hd _ x h1).1;have h3:=uL h;rw[h3] at hf;simp at h2 hf;exact⟨f,by omega,by simp only[bS,h,h1]⟩
theorem Ve(atom:bI->Option bI)(d:Nat)(hd:pa atom)(ha:uF 138 (dT atom) d):uF 111 (dc atom) d:=by
 intro base b acc s w h hs hl;have HX:Hid (dc atom (acc,ae s)=match dT atom (acc,ae s) with
  | none=>none
  | some x=>bS atom (x.2.length+1) x):=by show _=_;unfold dc;rfl
 have HD:=hid (fun s x=>Lb hd s x);have Oa:=hid hd;generalize dc atom (acc,ae s)=O at HX⊢;have hA:=ha base b acc s w h hs hl;have HS:=hid (oO s);have hB:=h.1;have tO:=hid ha;have Cy:=hid (fun x=>HD.out (acc,ae s) x);clear ha hd;generalize dT atom (acc,ae s)=A at HX Cy hA;have HA:=hid hA;clear hA h;go_enter func111,ntmps111;go_wp2_with fail;refine HA.out.mono ?_;rintro e w1 ⟨k1,h1,h2⟩;rcases A with _|⟨jH,r1⟩
 ·obtain rfl:=h1 rfl;have HZ:=HX.out;go_wp2;go_ret;exact aX.no k1 HZ
 obtain⟨rfl,s1,fx,fU⟩:=h2 _ rfl;have sU:=Cy.out _ rfl;simp only[HS.out] at sU;simp only at fx fU;have lZ:s1.size=r1.length:=by rw[<-oO,fx]
 obtain⟨R,hR⟩:∃R,bS atom ((ae s1).length+1) (jH,ae s1)=R:=⟨_,rfl⟩
 have HZ:Hid (O=R):=by show _=_;rw[HX.out,<-hR,fx]
 have HR:=hid hR;have P1:=hid fU;have K1:=hid k1;have nz:s1.size+1<=s.size:=by omega
 have pB:jH.length+2*s1.size<=9000:=by omega
 clear hR fU k1 HX Cy h1 h2 sU fx lZ;go_wp2;go_loopw [11] (fun _ wr=>∃(f:Nat) (dW:List Pc) (s':ByteArray),(ae s').length<f/\Hid (bS atom f (dW,ae s')=R)/\s'.size<=s1.size/\dW.length+2*s'.size<=9000/\Hid (ea base b dW s' d wr)/\Hid (aH base b w wr)) (fun _ wr=>eE wr ⟨b,0,none⟩)
 ·exact⟨_,jH,s1,lt_succ_self _,HR,le_refl _,pB,P1,K1⟩
 clear P1 K1 HR;obtain⟨f,dW,s',hf,HQ,da,sy,P2,K2⟩:=hrel;rcases hk:aG 124 (ae s') with _|r
 ·have HK:=hid hk;have HF:Hid (O=some (dW,ae s')):=by
   show _=_;rw[HZ.out,<-HQ.out,zgF atom f (dW,ae s') hf hk]
  clear hk HQ;go_wp2_with fail;refine (nw base b dW s' d 124 _ P2.out HK.out).mono ?_;rintro e w2 ⟨rfl,rfl⟩;go_wp2;go_ret;exact aX.yes K2.out HF.out rfl P2.out
 have HK:=hid hk;have kF:=P2.out.eE;rcases hr:dT atom (dW,r) with _|⟨uf,r2⟩
 ·have HF:Hid (O=none):=by
   show _=_;rw[HZ.out,<-HQ.out,ziu atom f (dW,ae s') r hf hk hr]
  have BE:=hid hr;clear hk hr HQ;go_wp2_with fail;refine (tS base b dW s' d 124 r _ P2.out HK.out (by omega)).mono ?_;rintro e w2 ⟨rfl,k2,s2,dj,cJ,fj⟩;have hA:=tO.out base b dW s2 _ fj (by omega) (by omega);rw[dj,BE.out] at hA;have lN:=hid hA;have K3:=hid (K2.out.trans k2);clear hA k2 fj dj;go_wp2_with fail;refine lN.out.mono ?_;rintro e w3 ⟨k3,h1,-⟩;obtain rfl:=h1 rfl;go_wp2;go_ret;exact aX.no (K3.out.trans k3) HF.out
 have sU:=HD.out _ _ hr;obtain⟨f2,ng,jt⟩:=zfE atom f (dW,ae s') (uf,r2) r Oa.out hf hk hr;have uj:Hid (bS atom f2 (uf++[⟨3,bE⟩],r2)=R):=by show _=_;rw[<-jt];exact HQ.out
 have BE:=hid hr;clear hk hr HQ jt;go_wp2_with fail;refine (tS base b dW s' d 124 r _ P2.out HK.out (by omega)).mono ?_;rintro e w2 ⟨rfl,k2,s2,dj,cJ,fj⟩;have hrz:s2.size=r.length:=by rw[<-oO,dj]
 have hA:=tO.out base b dW s2 _ fj (by omega) (by omega);rw[dj,BE.out] at hA;have lN:=hid hA;have K3:=hid (K2.out.trans k2);clear hA k2 fj dj;go_wp2_with fail;refine lN.out.mono ?_;rintro e w3 ⟨k3,-,h2⟩;obtain⟨rfl,s3,mH,hY⟩:=h2 _ rfl;simp only at mH hY ng sU;have pH:s3.size=r2.length:=by rw[<-oO,mH]
 have wF:=hid mH;have P3:=hid hY;have K4:=hid (K3.out.trans k3);clear k3 h2 mH hY;go_wp2_with fail;refine (Lp base b uf s3 d _ _ P3.out (by omega)).mono ?_;rintro e w4 ⟨rfl,xI,k4⟩;have P4:=hid xI;have K5:=hid (K4.out.trans k4);have gE:=xI.eE;clear xI k4;go_wp2;go_roundw
 ·exact⟨f2,_,s3,by rw[wF.out];exact ng,by show bS _ _ _=_;rw[wF.out];exact uj.out,by omega,by simp;omega,P4,K5⟩
 first|(simp only[kF,gE];omega)|(rw[kF,gE];omega)
theorem zlR:uF 195 (fun _=>none) 99:=by
 intro base b acc s w h hs hl;obtain⟨c2,f2⟩:=h.depth;have ew:=h.lt;have K1:=hid ((aH.refl base b w).set h.1 2 (.int .i64 (100:Int)));clear h;go_enter func195,ntmps195;go_wp2;go_ret;exact aX.no K1.out rfl
theorem zlS(atom:bI->Option bI)(d:Nat)(hd99:d<99)(hd:pa atom)(ha:uF 111 (dc atom) (d+1)):uF 195 (fJ atom) d:=by
 intro base b acc s w h hs hl;obtain⟨c2,f2⟩:=h.depth;have ew:=h.lt;have hB:=h.1;have K1:=hid ((aH.refl base b w).set h.1 2 (.int .i64 ((d+1:Nat):Int)));have fU:=h.qt (d+1);have HX:Hid (fJ atom (acc,ae s)=match dc atom (acc,ae s) with
  | none=>none
  | some x=>match aG 41 x.2 with
   | none=>none
   | some r=>some (x.1,r)):=by show _=_;unfold fJ;rfl
 have HD:=hid (fun x=>YO hd (acc,ae s) x);have HS:=hid (oO s);generalize fJ atom (acc,ae s)=O at HX⊢;have hA:=ha base b acc s _ fU hs hl;generalize dc atom (acc,ae s)=A at HX HD hA;have HA:=hid hA;have e1:(d:Int)+1=((d+1:Nat):Int):=by omega
 obtain⟨m,hm⟩:∃m,d+1=m:=⟨_,rfl⟩
 have hm99:m<=99:=by omega
 have mj:1<=m:=by omega
 have ed:(m:Int)-1=(d:Int):=by omega
 rw[hm] at e1 HA K1 fU;have P1:=hid fU;obtain⟨d2,g2⟩:=fU.depth;clear h hA ha fU hm hd;go_enter func195,ntmps195;go_wp2_with fail;refine HA.out.mono ?_;rintro e w1 ⟨k1,h1,h2⟩;have K2:=hid (K1.out.trans k1);rcases A with _|⟨jH,r1⟩
 ·obtain rfl:=h1 rfl;have HZ:=HX.out;clear HA K1 P1 k1 h1 h2;go_wp2;go_ret;exact aX.no K2.out HZ
 obtain⟨rfl,s1,fx,fU⟩:=h2 _ rfl;have sU:=HD.out _ rfl;simp only[HS.out] at sU;simp only at fx fU;have lZ:s1.size=r1.length:=by rw[<-oO,fx]
 have P2:=hid fU;clear HA K1 P1 k1 h1 h2 fU d2 g2;rcases hk:aG 41 (ae s1) with _|r
 ·have HF:Hid (O=none):=by show _=_;rw[HX.out];simp only[<-fx,hk]
  have HK:=hid hk;clear hk;go_wp2_with fail;refine (nw base b jH s1 m 41 _ P2.out HK.out).mono ?_;rintro e w2 ⟨rfl,rfl⟩;go_wp2;go_ret;exact aX.no K2.out HF.out
 have HF:Hid (O=some (jH,r)):=by show _=_;rw[HX.out];simp only[<-fx,hk]
 have HK:=hid hk;clear hk;go_wp2_with fail;refine (tS base b jH s1 m 41 r _ P2.out HK.out (by omega)).mono ?_;rintro e w2 ⟨rfl,k2,s2,dj,cJ,fj⟩;obtain⟨d3,g3⟩:=fj.depth;have P3:=hid (fj.qt d);have K3:=hid ((K2.out.trans k2).set hB 2 (.int .i64 (d:Int)));have jO:=hid dj;clear k2 fj dj;go_wp2;go_ret;exact aX.yes K3.out HF.out jO.out P3.out
theorem AX(c:Nat)(hc:c<256)(w:World):FC (w.alloc (.cells #[.int .u8 (c:Int)] 5)) (some ⟨w.heap.size,0,none⟩) 1 (fun _=>c):=by
 intro _;refine⟨w.heap.size,0,rfl,by simp,fun j hj=>?_⟩;obtain rfl:j=0:=by omega
 refine⟨?_,hc⟩;have h:(w.alloc (.cells #[.int .u8 (c:Int)] 5)).heap[w.heap.size]?=some (.cells #[.int .u8 (c:Int)] 5 (0,0)):=St.new w _ _;rw[Nat.zero_add,cell_of_heap h];rfl
theorem Te(group:bI->Option bI)(d:Nat)(ha:uF 195 group d):uF 187 (gd group) d:=by
 intro base b acc s w h hs hl;have hB:=h.1;have dk:=h.low;have P0:=hid h;have tO:=hid ha;have HX:Hid (gd group (acc,ae s)=gd group (acc,ae s)):=rfl;obtain⟨O,hO⟩:∃O,gd group (acc,ae s)=O:=⟨_,rfl⟩
 rw[hO];unfold gd at hO;simp only at hO;clear ha h HX;rcases h1:aG 46 (ae s) with _|r
 ·rw[h1] at hO;simp only at hO;have H1:=hid h1;clear h1;rcases h2:aG 126 (ae s) with _|r
  ·rw[h2] at hO;simp only at hO;have H2:=hid h2;clear h2;rcases h3:aG 40 (ae s) with _|r
   ·rw[h3] at hO;simp only at hO;have H3:=hid h3;clear h3;rcases h4:aG 91 (ae s) with _|r
    ·rw[h4] at hO;simp only at hO;have H4:=hid h4;clear h4;rcases h5:bu uA (ae s) with _|⟨c,r⟩
     ·rw[h5] at hO;simp only at hO;have H5:=hid h5;have HF:=hid hO.symm;clear h5 hO;go_enter func187,ntmps187;go_wp2_with fail;refine (nw base b acc s d 46 _ P0.out H1.out).mono ?_;rintro e w2 ⟨rfl,rfl⟩;go_wp2_with fail;refine (nw base b acc s d 126 _ P0.out H2.out).mono ?_;rintro e w2 ⟨rfl,rfl⟩;go_wp2_with fail;refine (nw base b acc s d 40 _ P0.out H3.out).mono ?_;rintro e w2 ⟨rfl,rfl⟩;go_wp2_with fail;refine (nw base b acc s d 91 _ P0.out H4.out).mono ?_;rintro e w2 ⟨rfl,rfl⟩;go_wp2_with fail;refine (MN base b acc s uA d _ P0.out (by omega) H5.out).mono ?_;rintro e w2 ⟨rfl,b2⟩;have K2:=hid ((aH.refl base b w).below dk b2);have P2:=hid (P0.out.aa b2);have qE:=P2.out.low;clear b2;go_wp2_with fail;refine (Vj _ 1 1 (fun _=>0) _ (AX 0 (by decide) w2) (by decide)).mono ?_;rintro e w3 ⟨rfl,b3⟩;have uK:Below w2.heap.size w2 w3:=((Below.refl _ w2).alloc (le_refl _) _).trans (b3.mono (by simp));have K3:=hid (K2.out.below qE uK);have P3:=hid (P2.out.aa uK);clear b3 uK;go_wp2_with fail;refine (ET base b acc s d 1 _ _ P3.out (by omega)).mono ?_;rintro e w4 ⟨rfl,xI,k4⟩;go_wp2;go_ret;exact aX.no (K3.out.trans k4) HF.out
     rw[h5] at hO;simp only at hO;have H5:=hid h5;have HF:=hid hO.symm;clear h5 hO;go_enter func187,ntmps187;go_wp2_with fail;refine (nw base b acc s d 46 _ P0.out H1.out).mono ?_;rintro e w2 ⟨rfl,rfl⟩;go_wp2_with fail;refine (nw base b acc s d 126 _ P0.out H2.out).mono ?_;rintro e w2 ⟨rfl,rfl⟩;go_wp2_with fail;refine (nw base b acc s d 40 _ P0.out H3.out).mono ?_;rintro e w2 ⟨rfl,rfl⟩;go_wp2_with fail;refine (nw base b acc s d 91 _ P0.out H4.out).mono ?_;rintro e w2 ⟨rfl,rfl⟩;go_wp2_with fail;refine (B5 base b acc s uA d c r _ P0.out (by omega) H5.out).mono ?_;rintro e w2 ⟨rfl,hc,k2,s2,dj,cJ,fj⟩;have K2:=hid k2;have P2:=hid fj;have jO:=hid dj;have qE:=fj.low;clear k2 fj dj;go_wp2_with fail;refine (Vj _ 1 1 (fun _=>c) _ (AX c hc w2) (by decide)).mono ?_;rintro e w3 ⟨rfl,b3⟩;have uK:Below w2.heap.size w2 w3:=((Below.refl _ w2).alloc (le_refl _) _).trans (b3.mono (by simp));have K3:=hid (K2.out.below qE uK);have P3:=hid (P2.out.aa uK);clear b3 uK;go_wp2_with fail;refine (ET base b acc s2 d 1 _ _ P3.out (by omega)).mono ?_;rintro e w4 ⟨rfl,xI,k4⟩;go_wp2;go_ret;exact aX.yes (K3.out.trans k4) HF.out jO.out xI
    rw[h4] at hO;simp only at hO;have H4:=hid h4;have HSR:Hid (∀s2,ae s2=r->ae s2=r):=(fun _ h=>h);clear h4;have HO:=hid hO;clear hO;go_enter func187,ntmps187;go_wp2_with fail;refine (nw base b acc s d 46 _ P0.out H1.out).mono ?_;rintro e w2 ⟨rfl,rfl⟩;go_wp2_with fail;refine (nw base b acc s d 126 _ P0.out H2.out).mono ?_;rintro e w2 ⟨rfl,rfl⟩;go_wp2_with fail;refine (nw base b acc s d 40 _ P0.out H3.out).mono ?_;rintro e w2 ⟨rfl,rfl⟩;go_wp2_with fail;refine (tS base b acc s d 91 r _ P0.out H4.out (by omega)).mono ?_;rintro e w2 ⟨rfl,k2,s2,dj,cJ,fj⟩;have rh:=znW base b acc s2 d _ fj (by omega) (by omega);rw[dj] at rh;have RF:=hid rh;clear rh;go_wp2_with fail;refine RF.out.mono ?_;rintro e w3 ⟨k3,g1,g2⟩;have hO:=HO.out;rcases h5:eW r with _|⟨q,r1⟩
    ·rw[h5] at hO;simp only at hO;obtain rfl:=g1 h5;have HF:=hid hO.symm;clear hO h5 HO;go_wp2;go_ret;exact aX.no (k2.trans k3) HF.out
    rw[h5] at hO;simp only at hO;obtain⟨rfl,s3,mH,hY⟩:=g2 _ _ h5;have HF:=hid hO.symm;clear hO h5 HO;go_wp2;go_ret;exact aX.yes (k2.trans k3) HF.out mH hY
   rw[h3] at hO;simp only at hO;have H3:=hid h3;have HO:=hid hO;clear h3 hO;go_enter func187,ntmps187;go_wp2_with fail;refine (nw base b acc s d 46 _ P0.out H1.out).mono ?_;rintro e w2 ⟨rfl,rfl⟩;go_wp2_with fail;refine (nw base b acc s d 126 _ P0.out H2.out).mono ?_;rintro e w2 ⟨rfl,rfl⟩;go_wp2_with fail;refine (tS base b acc s d 40 r _ P0.out H3.out (by omega)).mono ?_;rintro e w2 ⟨rfl,k2,s2,dj,cJ,fj⟩;have hA:=tO.out base b acc s2 _ fj (by omega) (by omega);rw[dj,HO.out] at hA;have HA:=hid hA;clear hA;go_wp2_with fail;refine HA.out.mono ?_;rintro e w3 ⟨k3,g1,g2⟩;rcases O with _|⟨acc3,r3⟩
   ·obtain rfl:=g1 rfl;go_wp2;go_ret;exact aX.no (k2.trans k3) rfl
   obtain⟨rfl,s3,mH,hY⟩:=g2 _ rfl;go_wp2;go_ret;exact aX.yes (k2.trans k3) rfl mH hY
  rw[h2] at hO;simp only at hO;have H2:=hid h2;have HF:=hid hO.symm;clear h2 hO;go_enter func187,ntmps187;go_wp2_with fail;refine (nw base b acc s d 46 _ P0.out H1.out).mono ?_;rintro e w2 ⟨rfl,rfl⟩;go_wp2_with fail;refine (tS base b acc s d 126 r _ P0.out H2.out (by omega)).mono ?_;rintro e w2 ⟨rfl,k2,s2,dj,cJ,fj⟩;have P2:=hid fj;clear fj;go_wp2_with fail;refine (Lp base b acc s2 d 0 _ P2.out (by omega)).mono ?_;rintro e w4 ⟨rfl,xI,k4⟩;go_wp2;go_ret;exact aX.yes (k2.trans k4) HF.out dj xI
 rw[h1] at hO;simp only at hO;have H1:=hid h1;have HF:=hid hO.symm;clear h1 hO;go_enter func187,ntmps187;go_wp2_with fail;refine (tS base b acc s d 46 r _ P0.out H1.out (by omega)).mono ?_;rintro e w2 ⟨rfl,k2,s2,dj,cJ,fj⟩;have P2:=hid fj;have qE:=fj.low;clear fj;go_wp2_with fail;refine (zlE _).mono ?_;rintro e w3 ⟨rfl,b3⟩;have P3:=hid (P2.out.aa b3);have K3:=hid (k2.below qE b3);go_wp2_with fail;refine (ET base b acc s2 d 1 (fun _=>true) _ P3.out (by omega)).mono ?_;rintro e w4 ⟨rfl,xI,k4⟩;go_wp2;go_ret;exact aX.yes (K3.out.trans k4) HF.out dj xI
theorem zlT(D d:Nat)(h:d+D=99):uF 187 (eZ D) d:=by
 induction D generalizing d with
 | zero=>
  obtain rfl:d=99:=by omega
  exact Te _ 99 zlR
 | succ D ih=>
  have h1:=ih (d+1) (by omega);exact Te _ d (zlS (eZ D) d (by omega) (Dl D) (Ve _ _ (Dl D) (VK _ _ (Dl D) (Yh _ _ (Dl D) h1))))
theorem OL:uF 111 (dc (eZ 99)) 0:=
 Ve _ _ (Dl 99) (VK _ _ (Dl 99) (Yh _ _ (Dl 99) (zlT 99 0 rfl)))
theorem Dy(s:ByteArray)(w:World)(hs:1600<s.size)(hm:s.size<=maxLen):
  Calls prog 93 #[.string s] w fun e w'=>e=.returned (.tuple #[.slice none 0 0,.int .i64 6])/\w=w':=by
 unfold maxLen at hm;go_enter func93,ntmps93;go_wp2;go_ret2;exact⟨rfl,rfl⟩
theorem ea.new(s:ByteArray)(w:World):ea w.heap.size w.heap.size [] s 0 (w.alloc (.cells #[.string s,.slice none 0 0,.int .i64 0] 154)):=
 ⟨le_refl _,.slice none 0 0,St.new w _ _,World.ownsRow_nil _ _ _ _,by simp[Value.ownBlock]⟩
theorem zlU(s:ByteArray)(w:World)(hs:s.size<=1600)(h:∀l,dc (eZ 99) ([],ae s)≠some (l,[])):
  Calls prog 93 #[.string s] w fun e w'=>e=.returned (.tuple #[.slice none 0 0,.int .i64 5])/\Below w.heap.size w w':=by
 have hA:=OL w.heap.size w.heap.size [] s _ (ea.new s w) (by omega) (by simp;omega);have aY:Below w.heap.size w (w.alloc (.cells #[.string s,.slice none 0 0,.int .i64 0] 154)):=(Below.refl _ _).alloc (le_refl _) _;generalize dc (eZ 99) ([],ae s)=O at hA h;have HA:=hid hA;have H:=hid h;clear hA h;go_enter func93,ntmps93;go_wp2_with fail;refine HA.out.mono ?_;rintro e w1 ⟨k1,h1,h2⟩;have fG:=aY.trans k1.1;rcases O with _|⟨l,r⟩
 ·obtain rfl:=h1 rfl;go_wp2;go_ret2;exact⟨rfl,fG⟩
 obtain⟨rfl,s',hn,hp⟩:=h2 _ rfl;obtain⟨c0,-⟩:=hp.rest;have hne:r≠[]:=fun e=>H.out l (by rw[e])
 have hz:0<s'.size:=by
  rcases eq_zero_or_pos s'.size with hz|hz
  ·exact absurd (by simp only at hn;rw[<-hn];exact KU s' hz) hne
  exact hz
 have kU:s'.toList.isEmpty=false:=zy s' hz;have iy:(!s'.toList.isEmpty)=true:=by rw[kU];rfl
 go_wp2;go_ret2;exact⟨rfl,fG⟩
theorem ziv(s:ByteArray)(w:World)(hs:s.size<=1600)(l:List Pc)(h:dc (eZ 99) ([],ae s)=some (l,[]))(hl:400<l.length):
  Calls prog 93 #[.string s] w fun e w'=>e=.returned (.tuple #[.slice none 0 0,.int .i64 6])/\Below w.heap.size w w':=by
 have hA:=OL w.heap.size w.heap.size [] s _ (ea.new s w) (by omega) (by simp;omega);have aY:Below w.heap.size w (w.alloc (.cells #[.string s,.slice none 0 0,.int .i64 0] 154)):=(Below.refl _ _).alloc (le_refl _) _;rw[h] at hA;have HA:=hid hA;clear hA h;go_enter func93,ntmps93;go_wp2_with fail;refine HA.out.mono ?_;rintro e w1 ⟨k1,h1,h2⟩;have fG:=aY.trans k1.1;obtain⟨rfl,s',hn,hp⟩:=h2 _ rfl;obtain⟨c0,-⟩:=hp.rest;simp only at hn hp;have hz:s'.size=0:=by rw[<-oO,hn];rfl
 have kU:s'.toList=[]:=G5 s' hz;have iy:(!s'.toList.isEmpty)=false:=by rw[kU];rfl
 obtain⟨_,v,nH,aQ,_⟩:=hp;obtain⟨a,cap,rfl⟩:=bG aQ;have c1:w1.cell? ⟨w.heap.size,1,none⟩=some (.slice a l.length cap):=by rw[cell_of_heap nH];rfl
 obtain⟨n,B7⟩:∃n,l.length=n:=⟨_,rfl⟩
 rw[B7] at c1 hl;clear kU aQ nH h1 h2 B7;go_wp2;go_ret2;exact⟨rfl,fG⟩
theorem zj3(s:ByteArray)(w:World)(hs:s.size<=1600)(l:List Pc)(h:dc (eZ 99) ([],ae s)=some (l,[]))(hl:l.length<=400):
  Calls prog 93 #[.string s] w fun e w'=>∃a cap,e=.returned (.tuple #[.slice a l.length cap,.int .i64 0])/\w'.ownsRow w.heap.size 148 5 (.slice a l.length cap) l.length (my l)/\Below w.heap.size w w':=by
 have hA:=OL w.heap.size w.heap.size [] s _ (ea.new s w) (by omega) (by simp;omega);have aY:Below w.heap.size w (w.alloc (.cells #[.string s,.slice none 0 0,.int .i64 0] 154)):=(Below.refl _ _).alloc (le_refl _) _;rw[h] at hA;have HA:=hid hA;clear hA h;go_enter func93,ntmps93;go_wp2_with fail;refine HA.out.mono ?_;rintro e w1 ⟨k1,h1,h2⟩;have fG:=aY.trans k1.1;obtain⟨rfl,s',hn,hp⟩:=h2 _ rfl;obtain⟨c0,-⟩:=hp.rest;simp only at hn hp;have hz:s'.size=0:=by rw[<-oO,hn];rfl
 have kU:s'.toList=[]:=G5 s' hz;have iy:(!s'.toList.isEmpty)=false:=by rw[kU];rfl
 obtain⟨_,v,nH,aQ,_⟩:=hp;obtain⟨a,cap,rfl⟩:=bG aQ;have c1:w1.cell? ⟨w.heap.size,1,none⟩=some (.slice a l.length cap):=by rw[cell_of_heap nH];rfl
 have HO:=hid aQ;obtain⟨n,B7⟩:∃n,l.length=n:=⟨_,rfl⟩
 have HN:=hid B7;rw[B7] at c1 hl;clear kU aQ nH h1 h2 B7;go_wp2;go_ret2;exact⟨a,cap,by rw[HN.out];rfl,HO.out,fG⟩
end Go.Proofs.YtiijebameffenaaGreat
