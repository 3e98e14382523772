import Derived.Test.YtiijebameffenaaGreatZDBase
import Derived.BigQuiet
import Derived.Deep.AppendLies
import Derived.Deep.OwnRows
import Derived.Deep.QuietTactic
import Derived.IntWalk
set_option linter.all false
set_option maxHeartbeats 1000000
set_option maxRecDepth 100000
open Go.Lib (hid)
namespace Go.Proofs.YtiijebameffenaaGreat
open Go.RowKit Go.Proofs.Tryz
open Nat (le_refl)
open List (ext_getElem? range replicate)
variable {B M c g m n te ts:Nat}{S:Int}{a:Option Addr}{cs:Array Value}{f:Nat->Bool}{t:TypeId}{vs:Nat->Value}{w w':World}{xs:Nat->List Value}
theorem Vl(a:Option Addr)(len cap:Nat)(z:Nat->Nat)(w:World)(hE:II w a len z)(hlen:len<=9223372036854775806):
  Calls prog 198 #[.slice a len cap] w fun e w'=>e=.returned (.agg #[.int .u64 ((wd (iJ z len) 0:Nat):Int),.int .u64 ((wd (iJ z len) 1:Nat):Int),.int .u64 ((wd (iJ z len) 2:Nat):Int),.int .u64 ((wd (iJ z len) 3:Nat):Int)])/\Below w.heap.size w w':=by
 go_enter func198,ntmps198;go_wp2;go_loopw [8] (fun i wr=>∃k:Nat,i=.int .i64 k/\k<=len/\iR w (iJ z k) wr) (fun i _=>len-(intOf i).toNat)
 ·exact⟨0,rfl,Nat.zero_le _,iR.start w⟩
 obtain⟨k,rfl,hk,R⟩:=hrel;obtain⟨r0,r1,r2,r3,r4,r5,r6,r7⟩:=cW R.s0;obtain⟨q0,q1,q2,q3,q4,q5,q6,q7⟩:=cW R.s1;by_cases av:k<len
 ·obtain⟨b,off,rfl,hb,hz⟩:=hE (by omega);obtain⟨cY,cO⟩:=hz k av;have hc:=(R.below.cell (p:=⟨b,off+k,none⟩) hb).trans cY;clear cY hz;go_wp2_with fail;refine (Up _ _ cO _).mono ?_;rintro e w1 ⟨rfl,b1⟩;have R1:=R.step b1 (ins (iJ z k) (z k));have hs:=b1.size;have nA:=R.s1.lt;obtain⟨q0,q1,q2,q3,q4,q5,q6,q7⟩:=cW (R.s1.aa b1);clear R b1 hc;go_wp2;go_roundw
  ·exact⟨k+1,by go_num,by omega,R1⟩
  simp[intOf];omega
 obtain rfl:k=len:=by omega
 go_wp2_with fail;exact bodyPost_ret (v:=(.agg #[.int .u64 ((wd (iJ z k) 0:Nat):Int),.int .u64 ((wd (iJ z k) 1:Nat):Int),.int .u64 ((wd (iJ z k) 2:Nat):Int),.int .u64 ((wd (iJ z k) 3:Nat):Int)])) (by simp[results,results198,go_sem,r0,r1,r2,r3]) rfl ⟨rfl,uF R.below (le_refl _) _ _ _ _⟩
theorem uf:(prog.info? 4).map (fun i=>(i.zero,i.size,i.bytes))=some (some (.bool false),1,1):=by kernel_rfl
structure Eg where
 f:Int
 t:Int
 p:Nat->Bool
 b:Bool
def En.z(e:En):Eg:=⟨(e.f:Int),(e.t:Int),e.p,e.b⟩
def dc(x:Eg):List Value:=(#[.int .i64 x.f,.int .i64 x.t,.int .u64 ((wd x.p 0:Nat):Int),.int .u64 ((wd x.p 1:Nat):Int),.int .u64 ((wd x.p 2:Nat):Int),.int .u64 ((wd x.p 3:Nat):Int),.bool x.b]).toList
def fe(l:List Eg):List Value:=l.flatMap dc
theorem RZ(l:List Eg):(fe l).length=l.length*7:=by
 induction l with
 | nil=>rfl
 | cons x l ih=>simp[fe,dc] at ih⊢;omega
theorem zia(a b:List Eg):fe (a++b)=fe a++fe b:=by simp[fe]
theorem U0(l:List Eg)(i:Nat)(h:i<l.length)(j:Nat)(hj:j<7):(fe l)[i*7+j]?=(dc l[i])[j]?:=by
 induction l generalizing i with
 | nil=>simp at h
 | cons x l ih=>
  have hc:(dc x).length=7:=by simp[dc]
  show (dc x++fe l)[i*7+j]?=_
  match i,h with
  | 0,_=>
   rw[Nat.zero_mul,Nat.zero_add,List.getElem?_append_left (by omega)];rfl
  | i+1,h=>
   rw[List.getElem?_append_right (by omega),hc,show (i+1)*7+j-7=i*7+j by omega,ih i (by simpa using h)];rfl
def ke(w:World)(a:Option Addr)(l:List Eg):Prop:=0<l.length->∃g off,a=some ⟨g,off,none⟩/\g<w.heap.size/\∀j,j<l.length*7->w.cell? ⟨g,off+j,none⟩=(fe l)[j]?
theorem ke.below{l:List Eg}(h:ke w a l)(k:Below w.heap.size w w'):ke w' a l:=by
 intro h0;obtain⟨g,off,rfl,hg,hc⟩:=h h0;have:=k.size;exact⟨g,off,rfl,by omega,fun j hj=>(k.cell (p:=⟨g,off+j,none⟩) hg).trans (hc j hj)⟩
def R7(w:World)(g o:Nat)(x:Eg):Prop:=
 w.cell? ⟨g,o,none⟩=some (.int .i64 x.f)/\w.cell? ⟨g,o+1,none⟩=some (.int .i64 x.t)/\w.cell? ⟨g,o+2,none⟩=some (.int .u64 ((wd x.p 0:Nat):Int))/\w.cell? ⟨g,o+3,none⟩=some (.int .u64 ((wd x.p 1:Nat):Int))/\
  w.cell? ⟨g,o+4,none⟩=some (.int .u64 ((wd x.p 2:Nat):Int))/\w.cell? ⟨g,o+5,none⟩=some (.int .u64 ((wd x.p 3:Nat):Int))/\w.cell? ⟨g,o+6,none⟩=some (.bool x.b)
theorem ke.get{l:List Eg}(h:ke w a l)(k:Nat)(hk:k<l.length):
  ∃g off,a=some ⟨g,off,none⟩/\g<w.heap.size/\R7 w g (off+k*7) l[k]:=by
 obtain⟨g,off,rfl,hg,hc⟩:=h (by omega);refine⟨g,off,rfl,hg,?_,?_,?_,?_,?_,?_,?_⟩
 ·have:=U0 l k hk 0 (by omega);rw[hc _ (by omega)];exact this
 all_goals
  rw[Nat.add_assoc,hc _ (by omega),U0 l k hk _ (by omega)]
  rfl
theorem zlA(w:World)(x:Eg):R7 (w.alloc (.cells #[.int .i64 x.f,.int .i64 x.t,.int .u64 ((wd x.p 0:Nat):Int),.int .u64 ((wd x.p 1:Nat):Int),.int .u64 ((wd x.p 2:Nat):Int),.int .u64 ((wd x.p 3:Nat):Int),.bool x.b] 186)) w.heap.size 0 x:=by
 have h:=St.new w 186 #[.int .i64 x.f,.int .i64 x.t,.int .u64 ((wd x.p 0:Nat):Int),.int .u64 ((wd x.p 1:Nat):Int),.int .u64 ((wd x.p 2:Nat):Int),.int .u64 ((wd x.p 3:Nat):Int),.bool x.b];refine⟨?_,?_,?_,?_,?_,?_,?_⟩ <;> (rw[cell_of_row _ _ _ _ _ _ h];rfl)
theorem St.dP{c0 c1 c2 c3:Value}(h:St w t g #[c0,c1,c2,c3]):w.cell? ⟨g,0,none⟩=some c0/\w.cell? ⟨g,1,none⟩=some c1/\w.cell? ⟨g,2,none⟩=some c2/\w.cell? ⟨g,3,none⟩=some c3:=by
 obtain⟨h0,h1,h2,h3,_⟩:=cW h;exact⟨h0,h1,h2,h3⟩
theorem St.at_{t:Nat}(h:St w t g cs)(i:Nat):w.cell? ⟨g,i,none⟩=cs[i]?:=cell_of_row _ _ _ _ _ _ h
theorem St.aX{t:Nat}(h:St w t g cs)(i:Nat):w.frozen? ⟨g,i,none⟩=false:=frozen_of_row w g i _ _ h
def FG(w:World)(a:Option Addr)(n:Nat)(f:Nat->Bool):Prop:=0<n->∃g off,a=some ⟨g,off,none⟩/\g<w.heap.size/\∀j,j<n->w.cell? ⟨g,off+j,none⟩=some (.bool (f j))
theorem FG.below(h:FG w a n f)(k:Below w.heap.size w w'):FG w' a n f:=by
 intro h0;obtain⟨g,off,e,hg,hc⟩:=h h0;have:=k.size;exact⟨g,off,e,by omega,fun j hj=>(k.cell (p:=⟨g,off+j,none⟩) hg).trans (hc j hj)⟩
def kj(f:Nat->Bool)(n:Nat):List Value:=(range n).map fun j=>.bool (f j)
theorem zlB(f:Nat->Bool)(n:Nat):kj f (n+1)=kj f n++[.bool (f n)]:=by simp[kj,List.range_succ]
theorem Z9(h:w.ownsRow B 4 1 (.slice a n c) n (kj f n)):FG w a n f:=by
 intro h0;obtain⟨g,e,_,hg,hc⟩:=fa h h0;exact⟨g,0,e,hg,fun j hj=>by rw[Nat.zero_add,(hc j (by omega)).1];simp[kj,hj]⟩
theorem uV{base e:Nat}{xs:List Value}(h:w.ownsRow base e 1 (.slice (some ⟨g,0,none⟩) n c) n xs)(j:Nat)(hj:j<n)(u:Value):(w.setCell ⟨g,j,none⟩ u).ownsRow base e 1 (.slice (some ⟨g,0,none⟩) n c) n (xs.set j u):=by
 refine⟨by rw[List.length_set];exact h.1,?_⟩;rcases h.2 with ⟨h1,_⟩|⟨g',cap,cur,h1,h2,h3,h4,h5,h6,h7⟩
 ·cases h1
 injection h1 with e1 _ e3;injection e1 with e1;injection e1 with e1;subst e1 e3;refine Or.inr ⟨g,c,cur.setIfInBounds j u,rfl,h2,heap_setCell_same w g j cur e u h3,h4,h5,by simpa using h6,?_⟩;rw[Array.toList_setIfInBounds,<-h7];rw[List.take_set]
theorem Sl(f:Nat->Bool)(m n:Nat)(v:Bool):(kj f m).set n (.bool v)=kj (fun j=>if j=n then v else f j) m:=by
 apply ext_getElem?;intro i;rw[List.getElem?_set];by_cases hi:i<m
 ·by_cases e:n=i
  ·subst e;simp[kj,hi]
  have e':¬i=n:=fun h=>e h.symm
  simp only[kj,if_neg e,List.getElem?_map,List.getElem?_range hi,Option.map_some,if_neg e']
 by_cases e:n=i
 ·subst e;simp[kj,hi]
 simp[kj,e,List.getElem?_eq_none (by simp;omega:(range m).length<=i)]
theorem Xa{g:Nat->Bool}(h:∀j,j<m->f j=g j):kj f m=kj g m:=by
 unfold kj;exact List.map_congr_left (fun j hj=>by rw[h j (by simpa using hj)])
theorem pR{l:List Nat}(h:l.Nodup)(hm:∀n∈l,n<m):l.length<=m:=by
 have:=h.length_le_of_subset (l₂:=range m) (fun x hx=>by simpa using hm x hx);simpa using this
theorem zny(N:Nat)(hN:N<=2147483647)(W:World):(Instr.makeSlice 129 (.int .i64 (N:Int)) (.int .i64 (N:Int))).run prog W=.ok (.slice (some ⟨W.heap.size,0,none⟩) N N) (W.alloc (.cells (madeCells #[.bool false] N) 4)):=by
 have:=run_make_row' (P:=prog) 129 4 (.bool false) 1 underlying129 uf rfl .i64 .i64 N (by omega) (by omega) W;simpa using this
theorem Ca(w:World)(base N:Nat)(e:TypeId)(z:Value)(hb:base<=w.heap.size)(hN:N<=maxLen):(w.alloc (.cells (madeCells #[z] N) e)).ownsRow base e 1 (.slice (some ⟨w.heap.size,0,none⟩) N N) N (replicate N z):=by
 have e1:(madeCells #[z] N).toList=replicate N z:=by
  apply ext_getElem?;intro i;by_cases hi:i<N
  ·simp[madeCells,hi,Nat.mod_one]
  simp[madeCells,hi]
 rw[<-e1];exact Am w base e 1 _ N (by simp[size_madeCells]) hb hN
theorem znz(N:Nat):replicate N (.bool false)=kj (fun _=>false) N:=by
 induction N with
 | zero=>rfl
 | succ N ih=>rw[List.replicate_succ',ih,zlB]
def pE(S s:Int):Bool:=decide (0<=s) && decide (s<S)
theorem Zd{s:Int}(h:¬0<=s):pE S s=false:=by simp[pE,h]
theorem znA{s:Int}(h:0<=s):pE S s=decide (s<S):=by simp[pE,h]
theorem Lf{s:Int}:pE S s=true↔0<=s/\s<S:=by simp[pE]
def xL(S:Int)(e:Eg):Bool:=pE S e.f && pE S e.t
def uy(S:Int)(L:List Eg)(F T:Int):Bool:=L.all (xL S) && (pE S F && pE S T)
theorem zgj(S F T:Int)(a:Option Addr)(n c:Nat)(s:Int)(w:World):
  Calls prog 146 #[.agg #[.int .i64 S,.slice a n c,.int .i64 F,.int .i64 T],.int .i64 s] w fun e w'=>e=.returned (.bool (pE S s))/\Below w.heap.size w w':=by
 by_cases h:0<=s
 ·have HZ:=hid (znA (S:=S) h);go_enter func146,ntmps146;go_wp2;go_ret;exact⟨by rw[HZ.out];rfl,(Below.refl _ _).alloc (le_refl _) _⟩
 have HZ:=hid (Zd (S:=S) h);go_enter func146,ntmps146;go_wp2;go_ret;exact⟨by rw[HZ.out];rfl,(Below.refl _ _).alloc (le_refl _) _⟩
theorem KW(S F T:Int)(a:Option Addr)(n c:Nat)(s:Int)(b:Bool)(h:pE S s=b)(w:World):
  Calls prog 146 #[.agg #[.int .i64 S,.slice a n c,.int .i64 F,.int .i64 T],.int .i64 s] w fun e w'=>e=.returned (.bool b)/\Below w.heap.size w w':=by
 subst h;exact zgj S F T a n c s w
theorem UA(w:World)(S F T:Int)(a:Option Addr)(n c:Nat):St (w.alloc (.cells #[.int .i64 S,.slice a n c,.int .i64 F,.int .i64 T] 119)) 119 w.heap.size #[.int .i64 S,.slice a n c,.int .i64 F,.int .i64 T]:=St.new _ _ _
theorem zjA(S F T:Int)(a:Option Addr)(n c:Nat)(L:List Eg)(w:World)(hL:ke w a L)(hn:L.length=n)(ka:n<=maxLen):
  Calls prog 116 #[.agg #[.int .i64 S,.slice a n c,.int .i64 F,.int .i64 T]] w fun e w'=>e=.returned (.bool (uy S L F T))/\Below w.heap.size w w':=by
 unfold maxLen at ka;have HL:=hid (Zz hL hn);have HW:=hid (UA w S F T a n c);obtain⟨W0,sa⟩:∃W0,w.alloc (.cells #[.int .i64 S,.slice a n c,.int .i64 F,.int .i64 T] 119)=W0:=⟨_,rfl⟩
 have lJ:Below w.heap.size w W0:=by rw[<-sa];exact (Below.refl _ _).alloc (le_refl _) _
 have nA:W0.heap.size=w.heap.size+1:=by rw[<-sa];simp
 obtain⟨k0,k1,k2,k3⟩:=(HW.out).dP;rw[sa] at HW k0 k1 k2 k3;have HB:=hid (Zz lJ nA);have HE:=hid sa;clear hL hn lJ nA sa;go_enter func116,ntmps116;go_wp2_with fail;rw[HE.out];go_loopw [8] (fun i wr=>∃k:Nat,i=.int .i64 k/\k<=n/\Hid ((L.take k).all (xL S)=true)/\Below W0.heap.size W0 wr) (fun i _=>n-(intOf i).toNat)
 ·exact⟨0,rfl,Nat.zero_le _,rfl,Below.refl _ _⟩
 obtain⟨k,rfl,hk,HA,fO⟩:=hrel;have zv:w.heap.size<W0.heap.size:=by rw[HB.out.2];omega
 have r0:=(fO.cell (p:=⟨w.heap.size,0,none⟩) zv).trans k0;have r1:=(fO.cell (p:=⟨w.heap.size,1,none⟩) zv).trans k1;have r2:=(fO.cell (p:=⟨w.heap.size,2,none⟩) zv).trans k2;have r3:=(fO.cell (p:=⟨w.heap.size,3,none⟩) zv).trans k3;have dp:=fO.size;have zI:w.heap.size<wr.heap.size:=by omega
 by_cases av:k<n
 ·have hkl:k<L.length:=by rw[HL.out.2];exact av
  obtain⟨g,off,rfl,hg,c0,c1,c2,c3,c4,c5,c6⟩:=(HL.out.1.below (HB.out.1.trans (fO.mono (by rw[HB.out.2];omega)))).get k hkl;have HS:Hid (∀b,xL S L[k]=b->(L.take (k+1)).all (xL S)=b):=by
   intro b hb;rw[List.take_succ_eq_append_getElem hkl,List.all_append,HA.out];simpa using hb
  have gq:Hid (xL S L[k]=false->uy S L F T=false):=by
   intro hb;have h1:L.all (xL S)=false:=List.all_eq_false.2 ⟨L[k],List.getElem_mem _,by rw[hb];decide⟩;simp[uy,h1]
  generalize L[k]=x at c0 c1 c2 c3 c4 c5 c6 HS gq;have hN:=zlA wr x;obtain⟨b1,eU⟩:∃b1,pE S x.f=b1:=⟨_,rfl⟩
  obtain⟨b2,bZ⟩:∃b2,pE S x.t=b2:=⟨_,rfl⟩
  have HX:Hid (xL S x=(b1 && b2)):=by show _=_;unfold xL;rw[eU,bZ]
  have gf:=hid eU;have jW:=hid bZ;clear eU bZ hkl;obtain⟨W1,qK⟩:∃W1,wr.alloc (.cells #[.int .i64 x.f,.int .i64 x.t,.int .u64 ((wd x.p 0:Nat):Int),.int .u64 ((wd x.p 1:Nat):Int),.int .u64 ((wd x.p 2:Nat):Int),.int .u64 ((wd x.p 3:Nat):Int),.bool x.b] 186)=W1:=⟨_,rfl⟩
  have lp:W1.heap.size=wr.heap.size+1:=by rw[<-qK];simp
  have eU:Below wr.heap.size wr W1:=by rw[<-qK];exact (Below.refl _ _).alloc (le_refl _) _
  rw[qK] at hN;obtain⟨d0,d1,d2,d3,d4,d5,d6⟩:=hN;have s0:=(eU.cell (p:=⟨w.heap.size,0,none⟩) (by show w.heap.size<_;omega)).trans r0;have s1:=(eU.cell (p:=⟨w.heap.size,1,none⟩) (by show w.heap.size<_;omega)).trans r1;have s2:=(eU.cell (p:=⟨w.heap.size,2,none⟩) (by show w.heap.size<_;omega)).trans r2;have s3:=(eU.cell (p:=⟨w.heap.size,3,none⟩) (by show w.heap.size<_;omega)).trans r3;have nj:=hid (Zz (fO.trans (eU.mono dp)) lp);have Yc:=hid qK;clear lp eU qK;go_wp2_with fail;rw[Yc.out];refine (KW S F T _ n c x.f b1 gf.out _).mono ?_;rintro e w2 ⟨rfl,v2⟩;have Jz:=nj.out.1.trans (v2.mono (by have:=nj.out.2;omega));rcases b1 with _|_
  ·have HZ:Hid (uy S L F T=false):=gq.out (by rw[HX.out];rfl);clear d0 d1 d2 d3 d4 d5 d6 s0 s1 s2 s3 v2;have HH:=hid (HB.out.1.trans (Jz.mono (by rw[HB.out.2];omega)));clear Jz;go_wp2;go_ret;exact⟨by rw[HZ.out];rfl,HH.out⟩
  have Mw:=nj.out.2;have IV:w.heap.size<W1.heap.size:=by omega
  have XP:wr.heap.size<W1.heap.size:=by omega
  have q0:=(v2.cell (p:=⟨w.heap.size,0,none⟩) IV).trans s0;have q1:=(v2.cell (p:=⟨w.heap.size,1,none⟩) IV).trans s1;have q2:=(v2.cell (p:=⟨w.heap.size,2,none⟩) IV).trans s2;have q3:=(v2.cell (p:=⟨w.heap.size,3,none⟩) IV).trans s3;have e1:=(v2.cell (p:=⟨wr.heap.size,1,none⟩) XP).trans d1;clear d0 d1 d2 d3 d4 d5 d6 s0 s1 s2 s3 v2 IV XP Mw;have HH:=hid Jz;clear Jz;go_wp2_with fail;refine (KW S F T _ n c x.t b2 jW.out _).mono ?_;rintro e w3 ⟨rfl,v3⟩;have K0:=hid (HH.out.trans (v3.mono HH.out.size));clear v3 q0 q1 q2 q3 e1;rcases b2 with _|_
  ·have HZ:Hid (uy S L F T=false):=gq.out (by rw[HX.out];rfl);go_wp2;go_ret;exact⟨by rw[HZ.out];rfl,HB.out.1.trans (K0.out.mono (by rw[HB.out.2];omega))⟩
  have HZ:Hid ((L.take (k+1)).all (xL S)=true):=HS.out _ (by rw[HX.out];rfl);go_wp2;go_roundw
  ·exact⟨k+1,by go_num,by omega,HZ,K0.out⟩
  simp[intOf];omega
 obtain rfl:k=n:=by omega
 have HZ:Hid (uy S L F T=(pE S F && pE S T)):=by
  show _=_;have:=HA.out;rw[List.take_of_length_le (by rw[HL.out.2];exact le_refl _)] at this;simp[uy,this]
 obtain⟨b1,eU⟩:∃b1,pE S F=b1:=⟨_,rfl⟩
 obtain⟨b2,bZ⟩:∃b2,pE S T=b2:=⟨_,rfl⟩
 have gf:=hid eU;have jW:=hid bZ;have HX:Hid (uy S L F T=(b1 && b2)):=by show _=_;rw[HZ.out,eU,bZ]
 have HH:=hid fO;clear eU bZ HZ fO;go_wp2_with fail;refine (KW S F T _ _ c F b1 gf.out _).mono ?_;rintro e w2 ⟨rfl,v2⟩;have Dx:=hid (HH.out.trans (v2.mono HH.out.size));rcases b1 with _|_
 ·clear v2 r0 r1 r2 r3;go_wp2;go_ret;exact⟨by rw[HX.out];rfl,HB.out.1.trans (Dx.out.mono (by rw[HB.out.2];omega))⟩
 have q0:=(v2.cell (p:=⟨w.heap.size,0,none⟩) zI).trans r0;have q1:=(v2.cell (p:=⟨w.heap.size,1,none⟩) zI).trans r1;have q2:=(v2.cell (p:=⟨w.heap.size,2,none⟩) zI).trans r2;have q3:=(v2.cell (p:=⟨w.heap.size,3,none⟩) zI).trans r3;clear v2 r0 r1 r2 r3;go_wp2_with fail;refine (KW S F T _ _ c T b2 jW.out _).mono ?_;rintro e w3 ⟨rfl,v3⟩;have K0:=hid (Dx.out.trans (v3.mono Dx.out.size));clear v3 q0 q1 q2 q3;go_wp2;go_ret;exact⟨by rw[HX.out];rfl,HB.out.1.trans (K0.out.mono (by rw[HB.out.2];omega))⟩
def QW(w:World)(g o:Nat)(x:En):Prop:=
 w.cell? ⟨g,o,none⟩=some (.int .i64 (x.f:Int))/\w.cell? ⟨g,o+1,none⟩=some (.int .i64 (x.t:Int))/\w.cell? ⟨g,o+2,none⟩=some (.int .u64 ((wd x.p 0:Nat):Int))/\w.cell? ⟨g,o+3,none⟩=some (.int .u64 ((wd x.p 1:Nat):Int))/\
  w.cell? ⟨g,o+4,none⟩=some (.int .u64 ((wd x.p 2:Nat):Int))/\w.cell? ⟨g,o+5,none⟩=some (.int .u64 ((wd x.p 3:Nat):Int))/\w.cell? ⟨g,o+6,none⟩=some (.bool x.b)
theorem ke.Qz{l:List En}(h:ke w a (l.map En.z))(k:Nat)(hk:k<l.length):
  ∃g off,a=some ⟨g,off,none⟩/\g<w.heap.size/\QW w g (off+k*7) l[k]:=by
 obtain⟨g,off,h1,h2,h3⟩:=h.get k (by simpa using hk);rw[List.getElem_map] at h3;exact⟨g,off,h1,h2,h3⟩
open Go.ChangeShapes Go.WideShapes Go.ChangeAt Go.Deep
open Go.Maps Go.WideElems Go.ChangeMaps Go.MapKept
def cy(l:List Nat):List Value:=l.map fun n=>.int .i64 ((n:Nat):Int)
theorem xw(l:List Nat)(n:Nat):cy (l++[n])=cy l++[.int .i64 (n:Int)]:=by simp[cy]
theorem AD(l:List Nat)(j:Nat)(h:j<l.length):(cy l)[j]?=some (.int .i64 ((l[j]:Nat):Int)):=by simp[cy,List.getElem?_eq_getElem h]
theorem CC:Keyed prog 3:=int_keyed underlying3
theorem Kl(w:World):(zeroValue 3).run prog w=.ok (.int .i64 0) w:=by kernel_rfl
theorem az:(prog.info? 3).map (fun i=>(i.zero,i.size,i.bytes))=some (some (.int .i64 0),1,8):=by kernel_rfl
theorem JX(k:Nat)(hk:k<=9223372036854775807):keyOf prog 3 (.int .i64 (k:Int))=some (.int .i64 (k:Int)):=by
 have hw:(Lit.int .i64 (k:Int)).wf=true:=IS (by omega);unfold keyOf;simp[underlying3,mapKey,hw]
theorem PE{a b:Nat}(h:(Value.int .i64 (a:Int))=.int .i64 (b:Int)):a=b:=by
 injection h with _ h;exact Int.ofNat.inj h
theorem aD.ox{k e:TypeId}{b:Nat}{Q:Value->Value->Prop}(h:aD w k b n Q)(K:Keyed prog k)(ht:prog.underlying t=some (.map k e)){z:Value}(hz:(zeroValue e).run prog w=.ok z w)
  {key:Value}{kl:Lit}(ek:keyOf prog k key=some kl):
  ((Instr.lookup t (.map (some b)) key true).run prog w=.ok (.tuple #[z,.bool false]) w/\∀y,¬Q key y)\/∃v,Q key v/\(Instr.lookup t (.map (some b)) key true).run prog w=.ok (.tuple #[v,.bool true]) w:=by
 obtain⟨es,clock,hb,F,_,hq,ea⟩:=h;rcases Maps.fit_look true K ht hz hb F ek with ⟨bS,iG,_⟩|⟨e0,y,hm,hk,bS,_⟩
 ·refine Or.inl ⟨by simpa using bS,fun y hy=>?_⟩;obtain⟨e1,h1,h2⟩:=ea _ _ hy;exact iG e1 h1 h2
 exact Or.inr ⟨e0.val,by rw[<-hk];exact hq e0 hm,by simpa using bS⟩
def yu(nm:List Nat)(x y:Value):Prop:=∃k s:Nat,nm[k]?=some s/\x=.int .i64 ((s:Nat):Int)/\y=.int .i64 ((k:Nat):Int)
theorem dR:(prog.info? 43).map (fun i=>(i.zero,i.size,i.bytes))=some (some (.slice none 0 0),1,24):=by kernel_rfl
theorem Wr(N:Nat)(hN:N<=2147483647)(W:World):(Instr.makeSlice 99 (.int .i64 (N:Int)) (.int .i64 (N:Int))).run prog W=.ok (.slice (some ⟨W.heap.size,0,none⟩) N N) (W.alloc (.cells (madeCells #[.slice none 0 0] N) 43)):=by
 have:=run_make_row' (P:=prog) 99 43 (.slice none 0 0) 24 underlying99 dR rfl .i64 .i64 N (by omega) (by omega) W;simpa using this
def dO(w:World)(B ts te sz g M:Nat)(vs:Nat->Value)(len:Nat->Nat)(xs:Nat->List Value):Prop:=
 St w ts g ((range M).map vs).toArray/\(∀i,i<M->w.ownsRow B te sz (vs i) (len i) (xs i))/\∀i j,i<M->j<M->i≠j->∀b,(vs i).ownBlock=some b->(vs j).ownBlock≠some b
theorem dO.aa{sz:Nat}{len:Nat->Nat}(h:dO w B ts te sz g M vs len xs)(k:Below w.heap.size w w'):dO w' B ts te sz g M vs len xs:=
 ⟨h.1.aa k,fun i hi=>dr (h.2.1 i hi) k,h.2.2⟩
theorem dO.cell{sz:Nat}{len:Nat->Nat}(h:dO w B ts te sz g M vs len xs)(i:Nat)(hi:i<M):w.cell? ⟨g,i,none⟩=some (vs i)/\w.frozen? ⟨g,i,none⟩=false:=
 ⟨by rw[h.1.at_];simp[hi],h.1.aX i⟩
theorem dO.congr{sz:Nat}{len vo:Nat->Nat}{tH:Nat->List Value}(h:dO w B ts te sz g M vs len xs)(e:∀i,i<M->len i=vo i/\xs i=tH i):dO w B ts te sz g M vs vo tH:=
 ⟨h.1,fun i hi=>by rw[<-(e i hi).1,<-(e i hi).2];exact h.2.1 i hi,h.2.2⟩
theorem dO.made(w:World)(B ts te sz M:Nat):dO (w.alloc (.cells (madeCells #[.slice none 0 0] M) ts)) B ts te sz w.heap.size M (fun _=>.slice none 0 0) (fun _=>0) (fun _=>[]):=by
 refine⟨?_,fun i _=>World.ownsRow_nil _ _ _ _,fun i j _ _ _ b h=>by simp[Value.ownBlock] at h⟩;have e1:madeCells #[.slice none 0 0] M=((range M).map (fun _=>Value.slice none 0 0)).toArray:=by
  apply Array.ext';apply ext_getElem?;intro i;by_cases hi:i<M
  ·simp[madeCells,hi,Nat.mod_one]
  simp[madeCells,hi]
 rw[<-e1];exact St.new _ _ _
theorem dO.app{w w':World}{B ts te sz g M:Nat}{vs:Nat->Value}{len:Nat->Nat}{xs:Nat->List Value}(h:dO w B ts te sz g M vs len xs)(ht:te≠ts){i:Nat}(hi:i<M){v':Value}{n':Nat}{ys:List Value}(ho:w'.ownsRow B te sz v' n' ys)(hg:w.grownBy w' (vs i).ownBlock)
  (eu:∀b,v'.ownBlock=some b->(vs i).ownBlock=some b\/w.heap.size<=b):dO (w'.setCell ⟨g,i,none⟩ v') B ts te sz g M (fun j=>if j=i then v' else vs j) (fun j=>if j=i then n' else len j) (fun j=>if j=i then ys else xs j):=by
 have hs:=h.1.af (h.2.1 i hi) ht hg;have av:∀j,j<M->∀b,(vs j).ownBlock=some b->b<w.heap.size:=fun j hj b e=>by
  obtain⟨c,fz,hc⟩:=pG (h.2.1 j hj) b e;exact (Array.getElem?_eq_some_iff.1 hc).1
 refine⟨?_,fun j hj=>?_,fun j k hj hk hjk b=>?_⟩
 ·have:=hs.set i v';have e:(((range M).map vs).toArray).setIfInBounds i v'=((range M).map (fun j=>if j=i then v' else vs j)).toArray:=by
   apply Array.ext';apply ext_getElem?;intro j;rw[Array.toList_setIfInBounds,List.getElem?_set];by_cases e:i=j
   ·subst e;simp[hi]
   have e':¬j=i:=(fun h=>e h.symm);simp only[if_neg e,List.getElem?_map];by_cases hj:j<M
   ·simp[hj,e']
   simp[hj]
  rw[e] at this;exact this
 ·by_cases e:j=i
  ·subst e;simp only[if_pos rfl];exact ju ho hs ht j v'
  simp only[if_neg e];refine ju (qc (h.2.1 j hj) hg (fun b e1 e2=>h.2.2 j i hj hi e b e1 e2.symm)) hs ht i v'
 by_cases e1:j=i
 ·subst e1;have e2:¬k=j:=fun e=>hjk e.symm
  simp only[if_pos rfl,if_neg e2];intro e3 e4;rcases eu b e3 with h1|h1
  ·exact h.2.2 j k hj hk hjk b h1 e4
  have:=av k hk b e4;omega
 by_cases e2:k=i
 ·subst e2;simp only[if_pos rfl,if_neg e1];intro e3 e4;rcases eu b e4 with h1|h1
  ·exact h.2.2 j k hj hk hjk b e3 h1
  have:=av j hj b e3;omega
 simp only[if_neg e1,if_neg e2];exact h.2.2 j k hj hk hjk b
def dJ(L:List En)(i:Nat):List Nat:=(L.filter fun e=>e.b && e.f == i).map (·.t)
def cq(L:List En)(i:Nat):List En:=L.filter fun e=>!e.b && e.f == i
theorem XU(L:List En)(x:En)(i:Nat):dJ (L++[x]) i=if x.b=true/\x.f=i then dJ L i++[x.t] else dJ L i:=by
 unfold dJ;rw[List.filter_append,List.map_append];by_cases h:x.b=true/\x.f=i
 ·rw[if_pos h];simp[h.1,h.2]
 rw[if_neg h];by_cases hb:x.b=true
 ·have:¬x.f=i:=fun e=>h ⟨hb,e⟩
  simp[hb,this]
 simp[hb]
theorem CF(L:List En)(x:En)(i:Nat):cq (L++[x]) i=if x.b=false/\x.f=i then cq L i++[x] else cq L i:=by
 unfold cq;rw[List.filter_append];by_cases h:x.b=false/\x.f=i
 ·rw[if_pos h];simp[h.1,h.2]
 rw[if_neg h];by_cases hb:x.b=false
 ·have:¬x.f=i:=fun e=>h ⟨hb,e⟩
  simp[hb,this]
 simp[hb]
theorem Ut(L:List En)(i:Nat):(dJ L i).length<=L.length:=by simp[dJ];exact List.length_filter_le _ _
theorem SL(L:List En)(i:Nat):(cq L i).length<=L.length:=List.length_filter_le _ _
theorem Qm(L:List En)(i y:Nat):y∈dJ L i↔∃e∈L,e.b=true/\e.f=i/\e.t=y:=by
 simp only[dJ,List.mem_map,List.mem_filter,Bool.and_eq_true,beq_iff_eq];exact⟨fun ⟨e,⟨h1,h2,h3⟩,h4⟩=>⟨e,h1,h2,h3,h4⟩,fun ⟨e,h1,h2,h3,h4⟩=>⟨e,⟨h1,h2,h3⟩,h4⟩⟩
theorem LN(L:List En)(i:Nat)(e:En):e∈cq L i↔e∈L/\e.b=false/\e.f=i:=by
 simp[cq,List.mem_filter]
end Go.Proofs.YtiijebameffenaaGreat
