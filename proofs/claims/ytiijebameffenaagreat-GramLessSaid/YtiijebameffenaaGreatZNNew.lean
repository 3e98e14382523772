import Derived.Test.YtiijebameffenaaGreatZDBase
import Derived.BigQuiet
import Derived.Deep.AppendLies
import Derived.Deep.OwnRows
import Derived.Deep.QuietTactic
import Derived.IntWalk
set_option linter.all false
set_option maxHeartbeats 1000000
set_option maxRecDepth 100000
open Go.Lib (hid)
namespace Go.Proofs.YtiijebameffenaaGreat
open Go.RowKit Go.Proofs.Tryz
open Nat (le_refl)
open List (ext_getElem? range replicate)
variable {B M c g m n te ts:Nat}{S:Int}{a:Option Addr}{f:Nat->Bool}{t:TypeId}{vs:Nat->Value}{w':World}{xs:Nat->List Value}
theorem SJ(a:Option Addr)(len cap:Nat)(z:Nat->Nat)(w:World)(hE:GW w a len z)(hlen:len<=9223372036854775806):
  Calls prog 198 #[.slice a len cap] w fun e w'=>e=.returned (.agg #[.int .u64 ((wd (iQ z len) 0:Nat):Int),.int .u64 ((wd (iQ z len) 1:Nat):Int),.int .u64 ((wd (iQ z len) 2:Nat):Int),.int .u64 ((wd (iQ z len) 3:Nat):Int)])/\Below w.heap.size w w':=by
 go_enter func198,ntmps198;go_wp2;go_loopw [8] (fun i wr=>∃k:Nat,i=.int .i64 k/\k<=len/\jm w (iQ z k) wr) (fun i _=>len-(intOf i).toNat)
 ·exact⟨0,rfl,Nat.zero_le _,jm.start w⟩
 obtain⟨k,rfl,hk,R⟩:=hrel;obtain⟨r0,r1,r2,r3,r4,r5,r6,r7⟩:=cZ R.s0;obtain⟨q0,q1,q2,q3,q4,q5,q6,q7⟩:=cZ R.s1;by_cases aw:k<len
 ·obtain⟨b,off,rfl,hb,hz⟩:=hE (by omega);obtain⟨db,cW⟩:=hz k aw;have hc:=(R.below.cell (p:=⟨b,off+k,none⟩) hb).trans db;clear db hz;go_wp2_with fail;refine (YX _ _ cW _).mono ?_;rintro e w1 ⟨rfl,b1⟩;have R1:=R.step b1 (ins (iQ z k) (z k));have hs:=b1.size;have nw:=R.s1.lt;obtain⟨q0,q1,q2,q3,q4,q5,q6,q7⟩:=cZ (R.s1.aa b1);clear R b1 hc;go_wp2;go_roundw
  ·exact⟨k+1,by go_num,by omega,R1⟩
  simp[intOf];omega
 obtain rfl:k=len:=by omega
 go_wp2_with fail;exact bodyPost_ret (v:=(.agg #[.int .u64 ((wd (iQ z k) 0:Nat):Int),.int .u64 ((wd (iQ z k) 1:Nat):Int),.int .u64 ((wd (iQ z k) 2:Nat):Int),.int .u64 ((wd (iQ z k) 3:Nat):Int)])) (by simp[results,results198,go_sem,r0,r1,r2,r3]) rfl ⟨rfl,uU R.below (le_refl _) _ _ _ _⟩
theorem tX:(prog.info? 4).map (fun i=>(i.zero,i.size,i.bytes))=some (some (.bool false),1,1):=by kernel_rfl
structure Eg where
 f:Int
 t:Int
 p:Nat->Bool
 b:Bool
def En.z(e:En):Eg:=⟨(e.f:Int),(e.t:Int),e.p,e.b⟩
def dg(x:Eg):List Value:=(#[.int .i64 x.f,.int .i64 x.t,.int .u64 ((wd x.p 0:Nat):Int),.int .u64 ((wd x.p 1:Nat):Int),.int .u64 ((wd x.p 2:Nat):Int),.int .u64 ((wd x.p 3:Nat):Int),.bool x.b]).toList
def fp(l:List Eg):List Value:=l.flatMap dg
theorem Vo(l:List Eg):(fp l).length=l.length*7:=by
 induction l with
 | nil=>rfl
 | cons x l ih=>simp[fp,dg] at ih⊢;omega
theorem zii(a b:List Eg):fp (a++b)=fp a++fp b:=by simp[fp]
theorem Ug(l:List Eg)(i:Nat)(h:i<l.length)(j:Nat)(hj:j<7):(fp l)[i*7+j]?=(dg l[i])[j]?:=by
 induction l generalizing i with
 | nil=>simp at h
 | cons x l ih=>
  have hc:(dg x).length=7:=by simp[dg]
  show (dg x++fp l)[i*7+j]?=_
  match i,h with
  | 0,_=>
   rw[Nat.zero_mul,Nat.zero_add,List.getElem?_append_left (by omega)];rfl
  | i+1,h=>
   rw[List.getElem?_append_right (by omega),hc,show (i+1)*7+j-7=i*7+j by omega,ih i (by simpa using h)];rfl
def kJ(w:World)(a:Option Addr)(l:List Eg):Prop:=0<l.length->∃g off,a=some ⟨g,off,none⟩/\g<w.heap.size/\∀j,j<l.length*7->w.cell? ⟨g,off+j,none⟩=(fp l)[j]?
theorem kJ.below{w:World}{l:List Eg}(h:kJ w a l)(k:Below w.heap.size w w'):kJ w' a l:=by
 intro h0;obtain⟨g,off,rfl,hg,hc⟩:=h h0;have:=k.size;exact⟨g,off,rfl,by omega,fun j hj=>(k.cell (p:=⟨g,off+j,none⟩) hg).trans (hc j hj)⟩
def VW(w:World)(g o:Nat)(x:Eg):Prop:=
 w.cell? ⟨g,o,none⟩=some (.int .i64 x.f)/\w.cell? ⟨g,o+1,none⟩=some (.int .i64 x.t)/\w.cell? ⟨g,o+2,none⟩=some (.int .u64 ((wd x.p 0:Nat):Int))/\w.cell? ⟨g,o+3,none⟩=some (.int .u64 ((wd x.p 1:Nat):Int))/\
  w.cell? ⟨g,o+4,none⟩=some (.int .u64 ((wd x.p 2:Nat):Int))/\w.cell? ⟨g,o+5,none⟩=some (.int .u64 ((wd x.p 3:Nat):Int))/\w.cell? ⟨g,o+6,none⟩=some (.bool x.b)
theorem kJ.get{w:World}{l:List Eg}(h:kJ w a l)(k:Nat)(hk:k<l.length):
  ∃g off,a=some ⟨g,off,none⟩/\g<w.heap.size/\VW w g (off+k*7) l[k]:=by
 obtain⟨g,off,rfl,hg,hc⟩:=h (by omega);refine⟨g,off,rfl,hg,?_,?_,?_,?_,?_,?_,?_⟩
 ·have:=Ug l k hk 0 (by omega);rw[hc _ (by omega)];exact this
 all_goals
  rw[Nat.add_assoc,hc _ (by omega),Ug l k hk _ (by omega)]
  rfl
theorem zlS(w:World)(x:Eg):VW (w.alloc (.cells #[.int .i64 x.f,.int .i64 x.t,.int .u64 ((wd x.p 0:Nat):Int),.int .u64 ((wd x.p 1:Nat):Int),.int .u64 ((wd x.p 2:Nat):Int),.int .u64 ((wd x.p 3:Nat):Int),.bool x.b] 186)) w.heap.size 0 x:=by
 have h:=St.new w 186 #[.int .i64 x.f,.int .i64 x.t,.int .u64 ((wd x.p 0:Nat):Int),.int .u64 ((wd x.p 1:Nat):Int),.int .u64 ((wd x.p 2:Nat):Int),.int .u64 ((wd x.p 3:Nat):Int),.bool x.b];refine⟨?_,?_,?_,?_,?_,?_,?_⟩ <;> (rw[cell_of_row _ _ _ _ _ _ h];rfl)
theorem St.dM{w:World}{c0 c1 c2 c3:Value}(h:St w t g #[c0,c1,c2,c3]):w.cell? ⟨g,0,none⟩=some c0/\w.cell? ⟨g,1,none⟩=some c1/\w.cell? ⟨g,2,none⟩=some c2/\w.cell? ⟨g,3,none⟩=some c3:=by
 obtain⟨h0,h1,h2,h3,_⟩:=cZ h;exact⟨h0,h1,h2,h3⟩
theorem St.at_{w:World}{t:Nat}{cs:Array Value}(h:St w t g cs)(i:Nat):w.cell? ⟨g,i,none⟩=cs[i]?:=cell_of_row _ _ _ _ _ _ h
theorem St.ba{w:World}{t:Nat}{cs:Array Value}(h:St w t g cs)(i:Nat):w.frozen? ⟨g,i,none⟩=false:=frozen_of_row w g i _ _ h
def Jk(w:World)(a:Option Addr)(n:Nat)(f:Nat->Bool):Prop:=0<n->∃g off,a=some ⟨g,off,none⟩/\g<w.heap.size/\∀j,j<n->w.cell? ⟨g,off+j,none⟩=some (.bool (f j))
theorem Jk.below{w:World}(h:Jk w a n f)(k:Below w.heap.size w w'):Jk w' a n f:=by
 intro h0;obtain⟨g,off,e,hg,hc⟩:=h h0;have:=k.size;exact⟨g,off,e,by omega,fun j hj=>(k.cell (p:=⟨g,off+j,none⟩) hg).trans (hc j hj)⟩
def kB(f:Nat->Bool)(n:Nat):List Value:=(range n).map fun j=>.bool (f j)
theorem zlT(f:Nat->Bool)(n:Nat):kB f (n+1)=kB f n++[.bool (f n)]:=by simp[kB,List.range_succ]
theorem zpf{w:World}(h:w.ownsRow B 4 1 (.slice a n c) n (kB f n)):Jk w a n f:=by
 intro h0;obtain⟨g,e,_,hg,hc⟩:=eR h h0;exact⟨g,0,e,hg,fun j hj=>by rw[Nat.zero_add,(hc j (by omega)).1];simp[kB,hj]⟩
theorem vn{w:World}{base e:Nat}{xs:List Value}(h:w.ownsRow base e 1 (.slice (some ⟨g,0,none⟩) n c) n xs)(j:Nat)(hj:j<n)(u:Value):(w.setCell ⟨g,j,none⟩ u).ownsRow base e 1 (.slice (some ⟨g,0,none⟩) n c) n (xs.set j u):=by
 refine⟨by rw[List.length_set];exact h.1,?_⟩;rcases h.2 with ⟨h1,_⟩|⟨g',cap,cur,h1,h2,h3,h4,h5,h6,h7⟩
 ·cases h1
 injection h1 with e1 _ e3;injection e1 with e1;injection e1 with e1;subst e1 e3;refine Or.inr ⟨g,c,cur.setIfInBounds j u,rfl,h2,heap_setCell_same w g j cur e u h3,h4,h5,by simpa using h6,?_⟩;rw[Array.toList_setIfInBounds,<-h7];rw[List.take_set]
theorem U9(f:Nat->Bool)(m n:Nat)(v:Bool):(kB f m).set n (.bool v)=kB (fun j=>if j=n then v else f j) m:=by
 apply ext_getElem?;intro i;rw[List.getElem?_set];by_cases hi:i<m
 ·by_cases e:n=i
  ·subst e;simp[kB,hi]
  have e':¬i=n:=fun h=>e h.symm
  simp only[kB,if_neg e,List.getElem?_map,List.getElem?_range hi,Option.map_some,if_neg e']
 by_cases e:n=i
 ·subst e;simp[kB,hi]
 simp[kB,e,List.getElem?_eq_none (by simp;omega:(range m).length<=i)]
theorem Vx{g:Nat->Bool}(h:∀j,j<m->f j=g j):kB f m=kB g m:=by
 unfold kB;exact List.map_congr_left (fun j hj=>by rw[h j (by simpa using hj)])
theorem pW{l:List Nat}(h:l.Nodup)(hm:∀n∈l,n<m):l.length<=m:=by
 have:=h.length_le_of_subset (l₂:=range m) (fun x hx=>by simpa using hm x hx);simpa using this
theorem zn3(N:Nat)(hN:N<=2147483647)(W:World):(Instr.makeSlice 129 (.int .i64 (N:Int)) (.int .i64 (N:Int))).run prog W=.ok (.slice (some ⟨W.heap.size,0,none⟩) N N) (W.alloc (.cells (madeCells #[.bool false] N) 4)):=by
 have:=run_make_row' (P:=prog) 129 4 (.bool false) 1 underlying129 tX rfl .i64 .i64 N (by omega) (by omega) W;simpa using this
theorem Cx(w:World)(base N:Nat)(e:TypeId)(z:Value)(hb:base<=w.heap.size)(hN:N<=maxLen):(w.alloc (.cells (madeCells #[z] N) e)).ownsRow base e 1 (.slice (some ⟨w.heap.size,0,none⟩) N N) N (replicate N z):=by
 have e1:(madeCells #[z] N).toList=replicate N z:=by
  apply ext_getElem?;intro i;by_cases hi:i<N
  ·simp[madeCells,hi,Nat.mod_one]
  simp[madeCells,hi]
 rw[<-e1];exact Bl w base e 1 _ N (by simp[size_madeCells]) hb hN
theorem zn4(N:Nat):replicate N (.bool false)=kB (fun _=>false) N:=by
 induction N with
 | zero=>rfl
 | succ N ih=>rw[List.replicate_succ',ih,zlT]
def pU(S s:Int):Bool:=decide (0<=s) && decide (s<S)
theorem zpg{s:Int}(h:¬0<=s):pU S s=false:=by simp[pU,h]
theorem zn5{s:Int}(h:0<=s):pU S s=decide (s<S):=by simp[pU,h]
theorem Ml{s:Int}:pU S s=true↔0<=s/\s<S:=by simp[pU]
def yO(S:Int)(e:Eg):Bool:=pU S e.f && pU S e.t
def vu(S:Int)(L:List Eg)(F T:Int):Bool:=L.all (yO S) && (pU S F && pU S T)
theorem zgm(S F T:Int)(a:Option Addr)(n c:Nat)(s:Int)(w:World):
  Calls prog 146 #[.agg #[.int .i64 S,.slice a n c,.int .i64 F,.int .i64 T],.int .i64 s] w fun e w'=>e=.returned (.bool (pU S s))/\Below w.heap.size w w':=by
 by_cases h:0<=s
 ·have HZ:=hid (zn5 (S:=S) h);go_enter func146,ntmps146;go_wp2;go_ret;exact⟨by rw[HZ.out];rfl,(Below.refl _ _).alloc (le_refl _) _⟩
 have HZ:=hid (zpg (S:=S) h);go_enter func146,ntmps146;go_wp2;go_ret;exact⟨by rw[HZ.out];rfl,(Below.refl _ _).alloc (le_refl _) _⟩
theorem Kw(S F T:Int)(a:Option Addr)(n c:Nat)(s:Int)(b:Bool)(h:pU S s=b)(w:World):
  Calls prog 146 #[.agg #[.int .i64 S,.slice a n c,.int .i64 F,.int .i64 T],.int .i64 s] w fun e w'=>e=.returned (.bool b)/\Below w.heap.size w w':=by
 subst h;exact zgm S F T a n c s w
theorem WS(w:World)(S F T:Int)(a:Option Addr)(n c:Nat):St (w.alloc (.cells #[.int .i64 S,.slice a n c,.int .i64 F,.int .i64 T] 119)) 119 w.heap.size #[.int .i64 S,.slice a n c,.int .i64 F,.int .i64 T]:=St.new _ _ _
theorem zjL(S F T:Int)(a:Option Addr)(n c:Nat)(L:List Eg)(w:World)(hL:kJ w a L)(hn:L.length=n)(kF:n<=maxLen):
  Calls prog 116 #[.agg #[.int .i64 S,.slice a n c,.int .i64 F,.int .i64 T]] w fun e w'=>e=.returned (.bool (vu S L F T))/\Below w.heap.size w w':=by
 unfold maxLen at kF;have HL:=hid (Zz hL hn);have HW:=hid (WS w S F T a n c);obtain⟨W0,sr⟩:∃W0,w.alloc (.cells #[.int .i64 S,.slice a n c,.int .i64 F,.int .i64 T] 119)=W0:=⟨_,rfl⟩
 have mr:Below w.heap.size w W0:=by rw[<-sr];exact (Below.refl _ _).alloc (le_refl _) _
 have nw:W0.heap.size=w.heap.size+1:=by rw[<-sr];simp
 obtain⟨k0,k1,k2,k3⟩:=(HW.out).dM;rw[sr] at HW k0 k1 k2 k3;have HB:=hid (Zz mr nw);have HE:=hid sr;clear hL hn mr nw sr;go_enter func116,ntmps116;go_wp2_with fail;rw[HE.out];go_loopw [8] (fun i wr=>∃k:Nat,i=.int .i64 k/\k<=n/\Hid ((L.take k).all (yO S)=true)/\Below W0.heap.size W0 wr) (fun i _=>n-(intOf i).toNat)
 ·exact⟨0,rfl,Nat.zero_le _,rfl,Below.refl _ _⟩
 obtain⟨k,rfl,hk,HA,fV⟩:=hrel;have zG:w.heap.size<W0.heap.size:=by rw[HB.out.2];omega
 have r0:=(fV.cell (p:=⟨w.heap.size,0,none⟩) zG).trans k0;have r1:=(fV.cell (p:=⟨w.heap.size,1,none⟩) zG).trans k1;have r2:=(fV.cell (p:=⟨w.heap.size,2,none⟩) zG).trans k2;have r3:=(fV.cell (p:=⟨w.heap.size,3,none⟩) zG).trans k3;have da:=fV.size;have zH:w.heap.size<wr.heap.size:=by omega
 by_cases aw:k<n
 ·have hkl:k<L.length:=by rw[HL.out.2];exact aw
  obtain⟨g,off,rfl,hg,c0,c1,c2,c3,c4,c5,c6⟩:=(HL.out.1.below (HB.out.1.trans (fV.mono (by rw[HB.out.2];omega)))).get k hkl;have HS:Hid (∀b,yO S L[k]=b->(L.take (k+1)).all (yO S)=b):=by
   intro b hb;rw[List.take_succ_eq_append_getElem hkl,List.all_append,HA.out];simpa using hb
  have jD:Hid (yO S L[k]=false->vu S L F T=false):=by
   intro hb;have h1:L.all (yO S)=false:=List.all_eq_false.2 ⟨L[k],List.getElem_mem _,by rw[hb];decide⟩;simp[vu,h1]
  generalize L[k]=x at c0 c1 c2 c3 c4 c5 c6 HS jD;have hN:=zlS wr x;obtain⟨b1,fw⟩:∃b1,pU S x.f=b1:=⟨_,rfl⟩
  obtain⟨b2,cv⟩:∃b2,pU S x.t=b2:=⟨_,rfl⟩
  have HX:Hid (yO S x=(b1 && b2)):=by show _=_;unfold yO;rw[fw,cv]
  have gw:=hid fw;have kr:=hid cv;clear fw cv hkl;obtain⟨W1,qk⟩:∃W1,wr.alloc (.cells #[.int .i64 x.f,.int .i64 x.t,.int .u64 ((wd x.p 0:Nat):Int),.int .u64 ((wd x.p 1:Nat):Int),.int .u64 ((wd x.p 2:Nat):Int),.int .u64 ((wd x.p 3:Nat):Int),.bool x.b] 186)=W1:=⟨_,rfl⟩
  have kz:W1.heap.size=wr.heap.size+1:=by rw[<-qk];simp
  have fw:Below wr.heap.size wr W1:=by rw[<-qk];exact (Below.refl _ _).alloc (le_refl _) _
  rw[qk] at hN;obtain⟨d0,d1,d2,d3,d4,d5,d6⟩:=hN;have s0:=(fw.cell (p:=⟨w.heap.size,0,none⟩) (by show w.heap.size<_;omega)).trans r0;have s1:=(fw.cell (p:=⟨w.heap.size,1,none⟩) (by show w.heap.size<_;omega)).trans r1;have s2:=(fw.cell (p:=⟨w.heap.size,2,none⟩) (by show w.heap.size<_;omega)).trans r2;have s3:=(fw.cell (p:=⟨w.heap.size,3,none⟩) (by show w.heap.size<_;omega)).trans r3;have nI:=hid (Zz (fV.trans (fw.mono da)) kz);have HW1:=hid qk;clear kz fw qk;go_wp2_with fail;rw[HW1.out];refine (Kw S F T _ n c x.f b1 gw.out _).mono ?_;rintro e w2 ⟨rfl,v2⟩;have KR:=nI.out.1.trans (v2.mono (by have:=nI.out.2;omega));rcases b1 with _|_
  ·have HZ:Hid (vu S L F T=false):=jD.out (by rw[HX.out];rfl);clear d0 d1 d2 d3 d4 d5 d6 s0 s1 s2 s3 v2;have HH:=hid (HB.out.1.trans (KR.mono (by rw[HB.out.2];omega)));clear KR;go_wp2;go_ret;exact⟨by rw[HZ.out];rfl,HH.out⟩
  have Nr:=nI.out.2;have GX:w.heap.size<W1.heap.size:=by omega
  have YN:wr.heap.size<W1.heap.size:=by omega
  have q0:=(v2.cell (p:=⟨w.heap.size,0,none⟩) GX).trans s0;have q1:=(v2.cell (p:=⟨w.heap.size,1,none⟩) GX).trans s1;have q2:=(v2.cell (p:=⟨w.heap.size,2,none⟩) GX).trans s2;have q3:=(v2.cell (p:=⟨w.heap.size,3,none⟩) GX).trans s3;have e1:=(v2.cell (p:=⟨wr.heap.size,1,none⟩) YN).trans d1;clear d0 d1 d2 d3 d4 d5 d6 s0 s1 s2 s3 v2 GX YN Nr;have HH:=hid KR;clear KR;go_wp2_with fail;refine (Kw S F T _ n c x.t b2 kr.out _).mono ?_;rintro e w3 ⟨rfl,v3⟩;have KZ:=hid (HH.out.trans (v3.mono HH.out.size));clear v3 q0 q1 q2 q3 e1;rcases b2 with _|_
  ·have HZ:Hid (vu S L F T=false):=jD.out (by rw[HX.out];rfl);go_wp2;go_ret;exact⟨by rw[HZ.out];rfl,HB.out.1.trans (KZ.out.mono (by rw[HB.out.2];omega))⟩
  have HZ:Hid ((L.take (k+1)).all (yO S)=true):=HS.out _ (by rw[HX.out];rfl);go_wp2;go_roundw
  ·exact⟨k+1,by go_num,by omega,HZ,KZ.out⟩
  simp[intOf];omega
 obtain rfl:k=n:=by omega
 have HZ:Hid (vu S L F T=(pU S F && pU S T)):=by
  show _=_;have:=HA.out;rw[List.take_of_length_le (by rw[HL.out.2];exact le_refl _)] at this;simp[vu,this]
 obtain⟨b1,fw⟩:∃b1,pU S F=b1:=⟨_,rfl⟩
 obtain⟨b2,cv⟩:∃b2,pU S T=b2:=⟨_,rfl⟩
 have gw:=hid fw;have kr:=hid cv;have HX:Hid (vu S L F T=(b1 && b2)):=by show _=_;rw[HZ.out,fw,cv]
 have HH:=hid fV;clear fw cv HZ fV;go_wp2_with fail;refine (Kw S F T _ _ c F b1 gw.out _).mono ?_;rintro e w2 ⟨rfl,v2⟩;have EH:=hid (HH.out.trans (v2.mono HH.out.size));rcases b1 with _|_
 ·clear v2 r0 r1 r2 r3;go_wp2;go_ret;exact⟨by rw[HX.out];rfl,HB.out.1.trans (EH.out.mono (by rw[HB.out.2];omega))⟩
 have q0:=(v2.cell (p:=⟨w.heap.size,0,none⟩) zH).trans r0;have q1:=(v2.cell (p:=⟨w.heap.size,1,none⟩) zH).trans r1;have q2:=(v2.cell (p:=⟨w.heap.size,2,none⟩) zH).trans r2;have q3:=(v2.cell (p:=⟨w.heap.size,3,none⟩) zH).trans r3;clear v2 r0 r1 r2 r3;go_wp2_with fail;refine (Kw S F T _ _ c T b2 kr.out _).mono ?_;rintro e w3 ⟨rfl,v3⟩;have KZ:=hid (EH.out.trans (v3.mono EH.out.size));clear v3 q0 q1 q2 q3;go_wp2;go_ret;exact⟨by rw[HX.out];rfl,HB.out.1.trans (KZ.out.mono (by rw[HB.out.2];omega))⟩
def NP(w:World)(g o:Nat)(x:En):Prop:=
 w.cell? ⟨g,o,none⟩=some (.int .i64 (x.f:Int))/\w.cell? ⟨g,o+1,none⟩=some (.int .i64 (x.t:Int))/\w.cell? ⟨g,o+2,none⟩=some (.int .u64 ((wd x.p 0:Nat):Int))/\w.cell? ⟨g,o+3,none⟩=some (.int .u64 ((wd x.p 1:Nat):Int))/\
  w.cell? ⟨g,o+4,none⟩=some (.int .u64 ((wd x.p 2:Nat):Int))/\w.cell? ⟨g,o+5,none⟩=some (.int .u64 ((wd x.p 3:Nat):Int))/\w.cell? ⟨g,o+6,none⟩=some (.bool x.b)
theorem kJ.Qi{w:World}{l:List En}(h:kJ w a (l.map En.z))(k:Nat)(hk:k<l.length):
  ∃g off,a=some ⟨g,off,none⟩/\g<w.heap.size/\NP w g (off+k*7) l[k]:=by
 obtain⟨g,off,h1,h2,h3⟩:=h.get k (by simpa using hk);rw[List.getElem_map] at h3;exact⟨g,off,h1,h2,h3⟩
open Go.ChangeShapes Go.WideShapes Go.ChangeAt Go.Deep
open Go.Maps Go.WideElems Go.ChangeMaps Go.MapKept
def cy(l:List Nat):List Value:=l.map fun n=>.int .i64 ((n:Nat):Int)
theorem x8(l:List Nat)(n:Nat):cy (l++[n])=cy l++[.int .i64 (n:Int)]:=by simp[cy]
theorem AN(l:List Nat)(j:Nat)(h:j<l.length):(cy l)[j]?=some (.int .i64 ((l[j]:Nat):Int)):=by simp[cy,List.getElem?_eq_getElem h]
theorem CF:Keyed prog 3:=int_keyed underlying3
theorem MK(w:World):(zeroValue 3).run prog w=.ok (.int .i64 0) w:=by kernel_rfl
theorem az:(prog.info? 3).map (fun i=>(i.zero,i.size,i.bytes))=some (some (.int .i64 0),1,8):=by kernel_rfl
theorem Ks(k:Nat)(hk:k<=9223372036854775807):keyOf prog 3 (.int .i64 (k:Int))=some (.int .i64 (k:Int)):=by
 have hw:(Lit.int .i64 (k:Int)).wf=true:=Jy (by omega);unfold keyOf;simp[underlying3,mapKey,hw]
theorem QD{a b:Nat}(h:(Value.int .i64 (a:Int))=.int .i64 (b:Int)):a=b:=by
 injection h with _ h;exact Int.ofNat.inj h
theorem aD.pj{w:World}{k e:TypeId}{b:Nat}{Q:Value->Value->Prop}(h:aD w k b n Q)(K:Keyed prog k)(ht:prog.underlying t=some (.map k e)){z:Value}(hz:(zeroValue e).run prog w=.ok z w)
  {key:Value}{kl:Lit}(ek:keyOf prog k key=some kl):
  ((Instr.lookup t (.map (some b)) key true).run prog w=.ok (.tuple #[z,.bool false]) w/\∀y,¬Q key y)\/∃v,Q key v/\(Instr.lookup t (.map (some b)) key true).run prog w=.ok (.tuple #[v,.bool true]) w:=by
 obtain⟨es,clock,hb,F,_,hq,dU⟩:=h;rcases Maps.fit_look true K ht hz hb F ek with ⟨bU,iN,_⟩|⟨e0,y,hm,hk,bU,_⟩
 ·refine Or.inl ⟨by simpa using bU,fun y hy=>?_⟩;obtain⟨e1,h1,h2⟩:=dU _ _ hy;exact iN e1 h1 h2
 exact Or.inr ⟨e0.val,by rw[<-hk];exact hq e0 hm,by simpa using bU⟩
def y8(nm:List Nat)(x y:Value):Prop:=∃k s:Nat,nm[k]?=some s/\x=.int .i64 ((s:Nat):Int)/\y=.int .i64 ((k:Nat):Int)
theorem dP:(prog.info? 43).map (fun i=>(i.zero,i.size,i.bytes))=some (some (.slice none 0 0),1,24):=by kernel_rfl
theorem VB(N:Nat)(hN:N<=2147483647)(W:World):(Instr.makeSlice 99 (.int .i64 (N:Int)) (.int .i64 (N:Int))).run prog W=.ok (.slice (some ⟨W.heap.size,0,none⟩) N N) (W.alloc (.cells (madeCells #[.slice none 0 0] N) 43)):=by
 have:=run_make_row' (P:=prog) 99 43 (.slice none 0 0) 24 underlying99 dP rfl .i64 .i64 N (by omega) (by omega) W;simpa using this
def dN(w:World)(B ts te sz g M:Nat)(vs:Nat->Value)(len:Nat->Nat)(xs:Nat->List Value):Prop:=
 St w ts g ((range M).map vs).toArray/\(∀i,i<M->w.ownsRow B te sz (vs i) (len i) (xs i))/\∀i j,i<M->j<M->i≠j->∀b,(vs i).ownBlock=some b->(vs j).ownBlock≠some b
theorem dN.aa{w:World}{sz:Nat}{len:Nat->Nat}(h:dN w B ts te sz g M vs len xs)(k:Below w.heap.size w w'):dN w' B ts te sz g M vs len xs:=
 ⟨h.1.aa k,fun i hi=>dp (h.2.1 i hi) k,h.2.2⟩
theorem dN.cell{w:World}{sz:Nat}{len:Nat->Nat}(h:dN w B ts te sz g M vs len xs)(i:Nat)(hi:i<M):w.cell? ⟨g,i,none⟩=some (vs i)/\w.frozen? ⟨g,i,none⟩=false:=
 ⟨by rw[h.1.at_];simp[hi],h.1.ba i⟩
theorem dN.congr{w:World}{sz:Nat}{len wL:Nat->Nat}{ue:Nat->List Value}(h:dN w B ts te sz g M vs len xs)(e:∀i,i<M->len i=wL i/\xs i=ue i):dN w B ts te sz g M vs wL ue:=
 ⟨h.1,fun i hi=>by rw[<-(e i hi).1,<-(e i hi).2];exact h.2.1 i hi,h.2.2⟩
theorem dN.made(w:World)(B ts te sz M:Nat):dN (w.alloc (.cells (madeCells #[.slice none 0 0] M) ts)) B ts te sz w.heap.size M (fun _=>.slice none 0 0) (fun _=>0) (fun _=>[]):=by
 refine⟨?_,fun i _=>World.ownsRow_nil _ _ _ _,fun i j _ _ _ b h=>by simp[Value.ownBlock] at h⟩;have e1:madeCells #[.slice none 0 0] M=((range M).map (fun _=>Value.slice none 0 0)).toArray:=by
  apply Array.ext';apply ext_getElem?;intro i;by_cases hi:i<M
  ·simp[madeCells,hi,Nat.mod_one]
  simp[madeCells,hi]
 rw[<-e1];exact St.new _ _ _
theorem dN.app{w w':World}{B ts te sz g M:Nat}{vs:Nat->Value}{len:Nat->Nat}{xs:Nat->List Value}(h:dN w B ts te sz g M vs len xs)(ht:te≠ts){i:Nat}(hi:i<M){v':Value}{n':Nat}{ys:List Value}(ho:w'.ownsRow B te sz v' n' ys)(hg:w.grownBy w' (vs i).ownBlock)
  (ew:∀b,v'.ownBlock=some b->(vs i).ownBlock=some b\/w.heap.size<=b):dN (w'.setCell ⟨g,i,none⟩ v') B ts te sz g M (fun j=>if j=i then v' else vs j) (fun j=>if j=i then n' else len j) (fun j=>if j=i then ys else xs j):=by
 have hs:=h.1.ag (h.2.1 i hi) ht hg;have aw:∀j,j<M->∀b,(vs j).ownBlock=some b->b<w.heap.size:=fun j hj b e=>by
  obtain⟨c,fz,hc⟩:=pS (h.2.1 j hj) b e;exact (Array.getElem?_eq_some_iff.1 hc).1
 refine⟨?_,fun j hj=>?_,fun j k hj hk hjk b=>?_⟩
 ·have:=hs.set i v';have e:(((range M).map vs).toArray).setIfInBounds i v'=((range M).map (fun j=>if j=i then v' else vs j)).toArray:=by
   apply Array.ext';apply ext_getElem?;intro j;rw[Array.toList_setIfInBounds,List.getElem?_set];by_cases e:i=j
   ·subst e;simp[hi]
   have e':¬j=i:=(fun h=>e h.symm);simp only[if_neg e,List.getElem?_map];by_cases hj:j<M
   ·simp[hj,e']
   simp[hj]
  rw[e] at this;exact this
 ·by_cases e:j=i
  ·subst e;simp only[if_pos rfl];exact jI ho hs ht j v'
  simp only[if_neg e];refine jI (ri (h.2.1 j hj) hg (fun b e1 e2=>h.2.2 j i hj hi e b e1 e2.symm)) hs ht i v'
 by_cases e1:j=i
 ·subst e1;have e2:¬k=j:=fun e=>hjk e.symm
  simp only[if_pos rfl,if_neg e2];intro e3 e4;rcases ew b e3 with h1|h1
  ·exact h.2.2 j k hj hk hjk b h1 e4
  have:=aw k hk b e4;omega
 by_cases e2:k=i
 ·subst e2;simp only[if_pos rfl,if_neg e1];intro e3 e4;rcases ew b e4 with h1|h1
  ·exact h.2.2 j k hj hk hjk b e3 h1
  have:=aw j hj b e3;omega
 simp only[if_neg e1,if_neg e2];exact h.2.2 j k hj hk hjk b
def dH(L:List En)(i:Nat):List Nat:=(L.filter fun e=>e.b && e.f == i).map (·.t)
def cq(L:List En)(i:Nat):List En:=L.filter fun e=>!e.b && e.f == i
theorem U0(L:List En)(x:En)(i:Nat):dH (L++[x]) i=if x.b=true/\x.f=i then dH L i++[x.t] else dH L i:=by
 unfold dH;rw[List.filter_append,List.map_append];by_cases h:x.b=true/\x.f=i
 ·rw[if_pos h];simp[h.1,h.2]
 rw[if_neg h];by_cases hb:x.b=true
 ·have:¬x.f=i:=fun e=>h ⟨hb,e⟩
  simp[hb,this]
 simp[hb]
theorem DA(L:List En)(x:En)(i:Nat):cq (L++[x]) i=if x.b=false/\x.f=i then cq L i++[x] else cq L i:=by
 unfold cq;rw[List.filter_append];by_cases h:x.b=false/\x.f=i
 ·rw[if_pos h];simp[h.1,h.2]
 rw[if_neg h];by_cases hb:x.b=false
 ·have:¬x.f=i:=fun e=>h ⟨hb,e⟩
  simp[hb,this]
 simp[hb]
theorem TY(L:List En)(i:Nat):(dH L i).length<=L.length:=by simp[dH];exact List.length_filter_le _ _
theorem Wq(L:List En)(i:Nat):(cq L i).length<=L.length:=List.length_filter_le _ _
theorem NN(L:List En)(i y:Nat):y∈dH L i↔∃e∈L,e.b=true/\e.f=i/\e.t=y:=by
 simp only[dH,List.mem_map,List.mem_filter,Bool.and_eq_true,beq_iff_eq];exact⟨fun ⟨e,⟨h1,h2,h3⟩,h4⟩=>⟨e,h1,h2,h3,h4⟩,fun ⟨e,h1,h2,h3,h4⟩=>⟨e,⟨h1,h2,h3⟩,h4⟩⟩
theorem JX(L:List En)(i:Nat)(e:En):e∈cq L i↔e∈L/\e.b=false/\e.f=i:=by
 simp[cq,List.mem_filter]
end Go.Proofs.YtiijebameffenaaGreat
