import Derived.Test.YtkkhakmdjinenaaGreatZPEqv
import Derived.Test.YtkkhakmdjinenaaGreatZQExp
set_option linter.all false
set_option maxHeartbeats 4000000
set_option maxRecDepth 100000
open Go.Lib (hid)
namespace Go.Proofs.YtkkhakmdjinenaaGreat
open Go.RowKit Go.Maps Go.WideElems Go.ChangeMaps Go.MapKept Go.Proofs.Tryz
open Nat (le_of_lt zero_add zero_le)
open Or (inl inr)
open List (ext_getElem? filter_cons getD_eq_getElem?_getD getElem_mem length_append length_cons length_map length_nil map_cons mem_cons_of_mem range range_succ)
open Classical (choose_spec)
open Act (put)
variable {A:Nat->Option Addr}{B C F c j k n x:Nat}{D:Dd}{L nm:List Nat}{L':List En}{M:Nat->NF}{R:List (List Int)}{SS:List (Nat->Bool)}{T:Nat->Rx}{W0 W1 w w':World}{a:Option Addr}{e:Ending}{f s0:Nat->Bool}{mf:Nat->Int}{r:Int}{t t':Rx}
structure Ru where
 nm:ByteArray
 k:Int
 rx:ByteArray
def eD(t:Ru):List Value:=[.string t.nm,.int .i64 t.k,.string t.rx]
def zu(l:List Ru):List Value:=l.flatMap eD
theorem zkm(l:List Ru):(zu l).length=l.length*3:=by
 induction l with
 | nil=>rfl
 | cons x l ih=>simp[zu,eD] at ih⊢;omega
theorem OT(l:List Ru)(i:Nat)(h:i<l.length)(j:Nat)(hj:j<3):(zu l)[i*3+j]?=(eD l[i])[j]?:=by
 induction l generalizing i with
 | nil=>simp at h
 | cons x l ih=>
  have hc:(eD x).length=3:=by simp[eD]
  show (eD x++zu l)[i*3+j]?=_
  match i,h with
  | 0,_=>
   rw[Nat.zero_mul,zero_add,List.getElem?_append_left (by omega)];rfl
  | i+1,h=>
   rw[List.getElem?_append_right (by omega),hc,show (i+1)*3+j-3=i*3+j by omega,ih i (by simpa using h)];rfl
def fR(w:World)(a:Option Addr)(l:List Ru):Prop:=0<l.length->∃g off,a=some ⟨g,off,none⟩/\g<w.heap.size/\∀j,j<l.length*3->w.cell? ⟨g,off+j,none⟩=(zu l)[j]?
theorem fR.below{l:List Ru}(h:fR w a l)(k:Below w.heap.size w w'):fR w' a l:=by
 intro h0;obtain⟨g,off,rfl,hg,hc⟩:=h h0;have:=k.size;exact⟨g,off,rfl,by omega,fun j hj=>(k.cell (p:=⟨g,off+j,none⟩) hg).trans (hc j hj)⟩
theorem fR.get{l:List Ru}(h:fR w a l)(k:Nat)(hk:k<l.length):
  ∃g off,a=some ⟨g,off,none⟩/\g<w.heap.size/\w.cell? ⟨g,off+k*3,none⟩=some (.string l[k].nm)/\w.cell? ⟨g,off+k*3+1,none⟩=some (.int .i64 l[k].k)/\w.cell? ⟨g,off+k*3+2,none⟩=some (.string l[k].rx):=by
 obtain⟨g,off,rfl,hg,hc⟩:=h (by omega);refine⟨g,off,rfl,hg,?_,?_,?_⟩
 ·have:=OT l k hk 0 (by omega);rw[hc _ (by omega)];exact this
 all_goals
  rw[Nat.add_assoc,hc _ (by omega),OT l k hk _ (by omega)]
  rfl
theorem fR.take{l:List Ru}(h:fR w a l)(k:Nat):fR w a (l.take k):=by
 intro h0;have hl:=List.length_take_le k l;have h1:(l.take k).length<=l.length:=by simp;omega
 obtain⟨g,off,e,hg,hc⟩:=h (by omega);refine⟨g,off,e,hg,fun j hj=>?_⟩;have h3:zu l=zu (l.take k)++zu (l.drop k):=by
  unfold zu;rw[<-List.flatMap_append,List.take_append_drop]
 rw[hc j (by omega),h3,List.getElem?_append_left (by rw[zkm];exact hj)]
theorem zlX(a b:ByteArray):(a.toList == b.toList)=true↔a=b:=by
 rw[beq_iff_eq,ByteArray.toList_eq,ByteArray.toList_eq];exact⟨IZ,fun h=>by rw[h]⟩
theorem zlY(x:Ru)(b:Nat)(s:ByteArray)(w:World)(hc:w.cell? ⟨b,0,none⟩=some (.string s))(hb:b<w.heap.size):
  Calls prog 97 #[.agg #[.string x.nm,.int .i64 x.k,.string x.rx],.pointer (some ⟨b,0,none⟩)] w (tz (x.nm=s) w):=by
 have k1:=al w (.cells #[.string x.nm,.int .i64 x.k,.string x.rx] 48);have fB:=(k1.cell (p:=⟨b,0,none⟩) hb).trans hc;have hne:¬w.heap.size=b:=by omega
 have HB:=hid k1;have HQ:=hid (zlX x.nm s);obtain⟨nm,k,rx⟩:=x;dsimp only at fB HB HQ⊢;clear k1 hb;go_in;go_wp2;go_ret;exact⟨_,rfl,HQ.out,HB.out⟩
def qN(l:List Ru)(s:ByteArray)(r:Int):Prop:=(r=-1/\∀j (h:j<l.length),l[j].nm≠s)\/∃(i:Nat) (h:i<l.length),r=((i:Nat):Int)/\l[i].nm=s/\∀j (h:j<l.length),j<i->l[j].nm≠s
def SC(l:List Ru)(s:ByteArray)(w:World)(e:Ending)(w':World):Prop:=∃r,e=.returned (.int .i64 r)/\qN l s r/\Below w.heap.size w w'
theorem zkn:∀(args:Array Value) (W:World),(callFunc 97 args).run prog W=.ok (.enter 97 args) W:=fun _ _=>by rfl
theorem zh8(n c b:Nat)(a:Option Addr)(l:List Ru)(s:ByteArray)(hl:l.length=n)(hn:n<=9223372036854775807)(w:World)(h1:fR w a l)(hc:w.cell? ⟨b,0,none⟩=some (.string s))(hb:b<w.heap.size):
  Calls prog 96 #[.slice a n c,.func (.func 97) #[] #[.pointer (some ⟨b,0,none⟩)]] w (SC l s w):=by
 have H:=ψ h1 hl hc hb;have Pj:=zkn;clear h1 hl hc hb;go_in;go_wp2;go_loopw [5,8] (fun _ v wr=>∃k:Nat,v=.int .i64 k/\k<=n/\Hid (Below w.heap.size w wr/\∀j (h:j<l.length),j<k->l[j].nm≠s)) (fun _ v _=>n-(intOf v).toNat)
 ·exact⟨0,rfl,zero_le _,Below.refl _ _,fun j _ h=>by omega⟩
 obtain⟨k,rfl,hk,HL⟩:=hrel;by_cases aq:k<n
 ·have hkl:k<l.length:=by rw[H.out.2.1];exact aq
  obtain⟨g1,o1,rfl,_,x0,x1,x2⟩:=(H.out.1.below HL.out.1).get k hkl;have HF:=hid (zlY l[k] b s wr ((HL.out.1.cell (p:=⟨b,0,none⟩) H.out.2.2.2).trans H.out.2.2.1) (by have:=H.out.2.2.2;have:=HL.out.1.size;omega));have HS:Hid (l[k].nm≠s->∀j (h:j<l.length),j<k+1->l[j].nm≠s):=fun h j hj hjk=>by
   by_cases e:j=k
   ·subst e;exact h
   exact HL.out.2 j hj (by omega)
  have HY:Hid (l[k].nm=s->qN l s (k:Int)):=fun h=>inr ⟨k,hkl,rfl,h,HL.out.2⟩
  have i1:(k:Int)<n:=by omega
  generalize l[k]=x at x0 x1 x2 HF HS HY;obtain⟨nm,kk,rx⟩:=x;dsimp only at x0 x1 x2 HF HS HY;clear hkl;go_wp2_with fail;refine HF.out.mono ?_;rintro e w2 ⟨y,rfl,hy,b2⟩;have H2:=ζ (HL.out.1.trans (b2.mono HL.out.1.size)) hy;clear b2 hy HF x0 x1 x2;rcases y with _|_
  ·have HZ:=hid (HS.out (fun h=>by have:=H2.out.2.2 h;cases this));go_wp2;go_roundw
   ·exact⟨k+1,by go_num,by omega,H2.out.1,HZ.out⟩
   simp[intOf];omega
  have HZ:=hid (HY.out (H2.out.2.1 rfl));go_wp2;go_ret;exact⟨_,rfl,HZ.out,H2.out.1⟩
 obtain rfl:k=n:=by omega
 have HZ:Hid (qN l s (-1)):=inl ⟨rfl,fun j h=>HL.out.2 j h (by have:=H.out.2.1;omega)⟩;go_wp2;go_ret;exact⟨_,rfl,HZ.out,HL.out.1⟩
theorem zlZ(n c:Nat)(a:Option Addr)(l:List Ru)(s:ByteArray)(hl:l.length=n)(hn:n<=9223372036854775807)(w:World)(h1:fR w a l):
  Calls prog 61 #[.slice a n c,.string s] w (SC l s w):=by
 have k1:=al w (.cells #[.string s] 9);have HI:=hid (zh8 n c w.heap.size a l s hl hn (w.alloc (.cells #[.string s] 9)) (h1.below k1) ((St.new w 9 #[.string s]).at_ 0) (by simp));have HB:=hid k1;have D5:∀(fn:Fn) (first cap:Array Value) (w:World),(Instr.makeFunc fn first cap).run prog w=.ok (.func fn first cap) w:=fun _ _ _ _=>rfl
 clear k1 hl h1;go_in;go_wp2_with fail;refine HI.out.mono ?_;rintro e w2 ⟨r,rfl,hr,b2⟩;have HF:=ζ hr (HB.out.trans (b2.mono HB.out.size));clear hr b2 HI;go_wp2;go_ret;exact⟨r,rfl,HF.out.1,HF.out.2⟩
theorem Z4(K:Nat->Lit):∀(n i:Nat) (h:i<(rl K n).length),cls K (rl K n)[i]=i/\(rl K n)[i]<n:=by
 intro n
 induction n with
 | zero=>intro i h;simp[rl] at h
 | succ n ih=>
  intro i h;by_cases e:cls K n=(rl K n).length
  ·have e2:rl K (n+1)=rl K n++[n]:=(by rw[rl,if_pos e]);simp only[e2] at h⊢;by_cases hi:i<(rl K n).length
   ·rw[List.getElem_append_left hi];have:=ih i hi;exact⟨this.1,by omega⟩
   have lI:i=(rl K n).length:=(by simp at h;omega);subst lI;simp[e]
  have e2:rl K (n+1)=rl K n:=by rw[rl,if_neg e]
  simp only[e2] at h⊢;have:=ih i h;exact⟨this.1,by omega⟩
theorem zqP(K:Nat->Lit):qH (cls K) (rl K 256).length/\∀c,c<(rl K 256).length->∃j,j<256/\cls K j=c:=by
 have hg:∀c,c<(rl K 256).length->∃j,j<256/\cls K j=c:=fun c hc=>⟨(rl K 256)[c],(Z4 K 256 c hc).2,(Z4 K 256 c hc).1⟩
 have hp:0<(rl K 256).length:=by rw[zB];exact Zh K
 refine⟨⟨fun j hj=>(zip K j hj).1,?_⟩,hg⟩;obtain⟨j,hj,e⟩:=hg ((rl K 256).length-1) (by omega);exact⟨j,hj,by omega⟩
theorem bU.in_{A:Nat->Prop}(h:bU mf A r)(hm:∀x,mf x<32768):-1<=r/\r<32768:=by
 rcases h with ⟨h1,_⟩|⟨h1,⟨x,_,h2⟩,_⟩
 ·omega
 have:=hm x;omega
theorem zo0{L:List En}{cD:Array Value}{f0:Nat}{ms:List Int}(hm:∀x,mf x<32768)
  (h:Made L F nm L' f0 s0 k R SS) (dc:cD.size=258) (ho:∀v∈cD.toList,v.oneCell'=true) (hk:SS.length=k) (fm:k<=2000) (hD:jO w cD (dQ L) R ms (rl (dQ L) 256).length) (ma:ms.length=k)
  (lW:∀j (h:j<SS.length) (h2:j<ms.length),bU (fun i=>mf (nm.getD i 0)) (fun x=>x<nm.length/\SS[j] x=true) ms[j]):
  ∃D:Dd,D.cD=cD/\DM w D/\DR D (rl (dQ L) 256).length/\D.n=k/\∀(z:Nat->Nat) (m:Nat),(∀j,z j<256)->bU mf (ct L F z m) (bu D (bD D 0 z m)):=by
 obtain⟨aN,cN,A,hN,hzN⟩:=hD.rows;obtain⟨aK,cK,hK,hzK⟩:=hD.marks;have mL:=h.run.len;have dF:∀r∈R,r.length=(rl (dQ L) 256).length:=h.run.tC;obtain⟨hC,hg⟩:=zqP (dQ L);have ka:1<=k:=by
  have:=h.run.pre.length_le;simp at this;omega
 refine⟨⟨cD,cls (dQ L),aN,R.length,cN,A,fun _=>(rl (dQ L) 256).length,fun _=>(rl (dQ L) 256).length,fun i x=>(R.getD i []).getD x 0,aK,ms.length,cK,fun i=>ms.getD i 0⟩,rfl,⟨dc,ho,hD.cl,fun j hj=>?_,hN,hK,hzN,hzK⟩,⟨hC,by show 1<=R.length;omega,by show R.length<=32768;omega,by show ms.length=R.length;omega,hg,fun i _=>rfl,fun i hi=>?_,fun i c hi hc=>?_⟩,by show R.length=k;omega,fun z m hz=>?_⟩
 ·have:=Ov (dQ L) j;show cls (dQ L) j<256;omega
 ·have hi:i<R.length:=hi;have hl:=lW i (by omega) (by omega);have h1:=hl.in_ (fun x=>hm _);show -1<=ms.getD i 0/\ms.getD i 0<32768;rw[getD_eq_getElem?_getD,List.getElem?_eq_getElem (by omega)];exact h1
 ·have hi:i<R.length:=hi;have hc:c<(rl (dQ L) 256).length:=hc;have wM:=dF R[i] (getElem_mem hi);obtain⟨hs,ht⟩:=h.run.pI i hi;have h1:=ht c (by omega);have e:(R.getD i []).getD c 0=R[i][c]'(by omega):=by simp[getD_eq_getElem?_getD,hi,wM,hc]
  show -1<=(R.getD i []).getD c 0/\(R.getD i []).getD c 0<(R.length:Int);rw[e];rcases h1 with ⟨h2,_⟩|⟨_,j,hj,h2,_⟩
  ·omega
  omega
 have RL:∀t,tA nm.length SS (ct L' f0 z t) (bD ⟨cD,cls (dQ L),aN,R.length,cN,A,fun _=>(rl (dQ L) 256).length,fun _=>(rl (dQ L) 256).length,fun i x=>(R.getD i []).getD x 0,aK,ms.length,cK,fun i=>ms.getD i 0⟩ 0 z t):=by
  intro t
  induction t with
  | zero=>exact h.start z
  | succ t ih=>
   show tA _ _ _ (bK _ (bD _ 0 z t) (z t));generalize bD ⟨cD,cls (dQ L),aN,R.length,cN,A,fun _=>(rl (dQ L) 256).length,fun _=>(rl (dQ L) 256).length,fun i x=>(R.getD i []).getD x 0,aK,ms.length,cK,fun i=>ms.getD i 0⟩ 0 z t=a at ih;rcases ih with ⟨rfl,hd⟩|⟨j,hj,rfl,hS⟩
   ·exact inl ⟨by unfold bK;rw[if_neg (by omega)],ct.dead hd⟩
   obtain⟨Ke,hc,hs⟩:=h.step hk z t j (hz t) (inr ⟨j,hj,rfl,hS⟩);unfold bK;rw[if_pos ⟨by omega,by show (j:Int)<(R.length:Int);omega⟩];have e:(R.getD ((j:Int)).toNat []).getD (cls (dQ L) (z t)) 0=R[j][cls (dQ L) (z t)]'hc:=by
    have h9:((j:Int)).toNat=j:=(by omega);rw[h9];simp[getD_eq_getElem?_getD,Ke,hc]
   show tA _ _ _ ((R.getD ((j:Int)).toNat []).getD (cls (dQ L) (z t)) 0);rw[e];exact hs
 have jd:=RL m;generalize bD ⟨cD,cls (dQ L),aN,R.length,cN,A,fun _=>(rl (dQ L) 256).length,fun _=>(rl (dQ L) 256).length,fun i x=>(R.getD i []).getD x 0,aK,ms.length,cK,fun i=>ms.getD i 0⟩ 0 z m=a at jd;rcases jd with ⟨rfl,hd⟩|⟨j,hj,rfl,hS⟩
 ·have e:∀D:Dd,bu D (-1)=-1:=fun D=>by unfold bu;rw[if_neg (by omega)]
  rw[e];exact inl ⟨rfl,fun x hx=>by
   obtain⟨i,hi,_⟩:=((h.names z m).2 x).1 hx
   exact absurd hi (hd i)⟩
 have h9:((j:Int)).toNat=j:=by omega
 unfold bu;rw[if_pos ⟨by omega,by show (j:Int)<(R.length:Int);omega⟩];show bU mf (ct L F z m) (ms.getD ((j:Int)).toNat 0);rw[h9,getD_eq_getElem?_getD,List.getElem?_eq_getElem (by omega)];exact h.mark hj (inr ⟨j,hj,rfl,hS⟩) (lW j hj (by omega))
theorem VC{α β:Type}{f:α->β}{l:List α}(hn:l.Nodup)(h:∀a∈l,∀b∈l,f a=f b->a=b):(l.map f).Nodup:=by
 induction l with
 | nil=>simp
 | cons a l ih=>
  rw[map_cons,List.nodup_cons];obtain⟨h1,h2⟩:=List.nodup_cons.1 hn;refine⟨fun hm=>?_,ih h2 (fun x hx y hy=>h x (mem_cons_of_mem _ hx) y (mem_cons_of_mem _ hy))⟩;obtain⟨b,hb,e⟩:=List.mem_map.1 hm;exact h1 (h b (mem_cons_of_mem _ hb) a (by simp) e ▸ hb)
theorem zg2{α:Type}(p:α->Bool)(l:List α):l.length=(l.filter p).length+(l.filter fun x=>!p x).length:=by
 induction l with
 | nil=>rfl
 | cons a l ih=>
  simp only[filter_cons,length_cons];cases p a <;> simp <;> omega
theorem zqQ:∀(n:Nat) (l:List (List Bool)),l.Nodup->(∀v∈l,v.length=n)->l.length<=2 ^ n:=by
 intro n
 induction n with
 | zero=>
  intro l hn h
  match l,hn,h with
  | [],_,_=>simp
  | [a],_,_=>simp
  | a :: b :: l,hn,h=>
   have h1:=List.length_eq_zero_iff.1 (h a (by simp));have h2:=List.length_eq_zero_iff.1 (h b (by simp));subst h1 h2;simp at hn
 | succ n ih=>
  intro l hn h;have key:∀(p:List Bool->Bool) (x:Bool),(∀v∈l,p v=true->v=x :: v.tail)->(l.filter p).length<=2 ^ n:=fun p x hp=>by
   have h1:((l.filter p).map List.tail).Nodup:=VC (hn.filter p) (fun a ha b hb e=>by
    obtain⟨ha1,ha2⟩:=List.mem_filter.1 ha
    obtain⟨eQ,cv⟩:=List.mem_filter.1 hb
    rw[hp a ha1 ha2,hp b eQ cv,e])
   have h2:=ih _ h1 (fun v hv=>by
    obtain⟨u,hu,rfl⟩:=List.mem_map.1 hv
    have:=h u (List.mem_filter.1 hu).1
    simp[this])
   simpa using h2
  have a1:=key (fun v=>v.headD false) true (fun v hv hp=>by
   have:=h v hv
   match v,this,hp with
   | x :: v,_,hp=>simp at hp;rw[hp];rfl)
  have a2:=key (fun v=>!v.headD false) false (fun v hv hp=>by
   have:=h v hv
   match v,this,hp with
   | x :: v,_,hp=>simp at hp;rw[hp];rfl)
  have a3:=zg2 (fun v:List Bool=>v.headD false) l;rw[Nat.pow_succ];omega
def nB(L:List En):Nat:=(L.filter fun e=>!e.b).length
theorem zqR(nm:List Nat)(L:List En):nB (L.map (En.oG nm))=nB L:=by
 unfold nB
 induction L with
 | nil=>rfl
 | cons e L ih=>
  have h:(En.oG nm e).b=e.b:=rfl;simp only[map_cons,filter_cons,h];cases e.b <;> simp_all
theorem zfa{L:List En}{f0:Nat}(h:Made L F nm L' f0 s0 k R SS):SS.length<=1+2 ^ nB L:=by
 have hd:sL nm.length SS:=h.run.ye (fun i j hi hj _=>by simp at hi hj;omega);have jQ:=h.run.src;have hx:∀i,∃(g:Nat->Bool) (d:Nat),∀(hi:i+1<SS.length) (x:Nat),x<nm.length->(SS[i+1] x=true↔EU L' nm.length (qg (dQ L)) g d x):=fun i=>by
  by_cases hi:i+1<SS.length
  ·obtain⟨i',hi',d,_,_,_,h2⟩:=jQ (i+1) hi (by simp);exact⟨SS[i'],d,fun _=>h2⟩
  exact⟨fun _=>false,0,fun h=>absurd h hi⟩
 obtain⟨G,hG⟩:∃G:Nat->(Nat->Bool) × Nat,∀i (hi:i+1<SS.length) (x:Nat),x<nm.length->(SS[i+1] x=true↔EU L' nm.length (qg (dQ L)) (G i).1 (G i).2 x):=
  ⟨fun i=>(Classical.choose (hx i),Classical.choose (choose_spec (hx i))),fun i=>choose_spec (choose_spec (hx i))⟩
 have e1:nB L'=nB L:=by rw[h.oG,zqR]
 have h1:=zqQ (nB L') ((range (SS.length-1)).map fun i=>(L'.filter fun e=>!e.b).map fun e=>e.p (qg (dQ L) (G i).2) && (G i).1 e.f) (VC List.nodup_range (fun i hi j hj e=>by
  have hi:i<SS.length-1:=by simpa using hi
  have hj:j<SS.length-1:=by simpa using hj
  have he:∀e∈L',e.b=false->(e.p (qg (dQ L) (G i).2) && (G i).1 e.f)=(e.p (qg (dQ L) (G j).2) && (G j).1 e.f):=fun x hx hb=>by
   have:=List.map_inj_left.1 e x (List.mem_filter.2 ⟨hx,by simp[hb]⟩)
   exact this
  have hM:∀y,Mv L' (fun y=>y<nm.length/\(G i).1 y=true) (qg (dQ L) (G i).2) y↔Mv L' (fun y=>y<nm.length/\(G j).1 y=true) (qg (dQ L) (G j).2) y:=fun y=>by
   constructor
   ·rintro⟨e,h1,h2,h3,h4,h5⟩
    have:=he e h1 h2
    rw[h3,h4.2] at this
    have h6:e.p (qg (dQ L) (G j).2)=true/\(G j).1 e.f=true:=by simpa using this.symm
    exact⟨e,h1,h2,h6.1,⟨h4.1,h6.2⟩,h5⟩
   ·rintro⟨e,h1,h2,h3,h4,h5⟩
    have:=he e h1 h2
    rw[h3,h4.2] at this
    have h6:e.p (qg (dQ L) (G i).2)=true/\(G i).1 e.f=true:=by simpa using this
    exact⟨e,h1,h2,h6.1,⟨h4.1,h6.2⟩,h5⟩
  have h9:=hd (i+1) (j+1) (by omega) (by omega) (fun x hx=>by
   rw[Bool.eq_iff_iff,hG i (by omega) x hx,hG j (by omega) x hx]
   exact FR.congr hM x)
  omega)) (fun v hv=>by
   obtain⟨i,_,rfl⟩:=List.mem_map.1 hv
   simp[nB])
 rw[e1] at h1;simp at h1;omega
theorem O7(t:Rx):∀o,(eY t o).length<=4*t.flat.length:=by
 induction t with
 | leaf x=>intro o;simp[eY,gv,Rx.flat]
 | un x a ih=>
  intro o;have h1:=ih o;have h2:(fw x.k (o+a.flat.length-1) (o+a.flat.length)).length<=4:=by
   unfold fw;split <;> split <;> simp
  simp only[eY,Rx.flat,length_append,length_cons,length_nil];omega
 | bin x a b ih jh=>
  intro o;have h1:=ih o;have h2:=jh (o+a.flat.length);have h3:(di x.k (o+a.flat.length-1) (o+a.flat.length+b.flat.length-1) (o+a.flat.length+b.flat.length)).length<=4:=by
   unfold di;split <;> simp
  simp only[eY,Rx.flat,length_append,length_cons,length_nil];omega
theorem Y9(a b:List En):nB (a++b)=nB a+nB b:=by simp[nB]
theorem XV(t:Rx):∀o,2*nB (eY t o)<=t.flat.length+1:=by
 induction t with
 | leaf x=>
  intro o;have:=List.length_filter_le (fun e:En=>!e.b) (gv x o);have h2:(gv x o).length=1:=rfl;simp only[eY,Rx.flat,length_cons,length_nil,nB];omega
 | un x a ih=>
  intro o;have h1:=ih o;have h2:nB (fw x.k (o+a.flat.length-1) (o+a.flat.length))=0:=by
   unfold nB fw bG;split <;> split <;> simp
  simp only[eY,Rx.flat,Y9,length_append,length_cons,length_nil];omega
 | bin x a b ih jh=>
  intro o;have h1:=ih o;have h2:=jh (o+a.flat.length);have h3:nB (di x.k (o+a.flat.length-1) (o+a.flat.length+b.flat.length-1) (o+a.flat.length+b.flat.length))=0:=by
   unfold nB di bG;split <;> simp
  simp only[eY,Rx.flat,Y9,length_append,length_cons,length_nil];omega
theorem U7(L:List En):(cH (L.map En.z)).length=nB L:=by
 unfold nB
 induction L with
 | nil=>rfl
 | cons e L ih=>
  have h:(En.z e).b=e.b:=rfl;simp only[cH,map_cons,filter_cons,h] at ih⊢;cases e.b <;> simp_all
theorem zp2{s:List Nat}{l:List Pc}(h:bh (dA 99) ([],s)=some (l,[])):l.length<2*s.length:=by
 have:=(QA (yP 99) _ _ h).2;simpa using this
theorem zqS(t:Rx):sc ((2*t.flat.length:Nat):Int) ((eY t 0).map En.z) ((2*eG t 0:Nat):Int) ((2*eG t 0+1:Nat):Int)=true:=by
 have h1:=Pa t 0;unfold sc;rw[Bool.and_eq_true,Bool.and_eq_true,List.all_eq_true];refine⟨fun x hx=>?_,I8.2 ⟨by omega,by omega⟩,I8.2 ⟨by omega,by omega⟩⟩;obtain⟨e,he,rfl⟩:=List.mem_map.1 hx;have h2:=Ff t 0 e he;unfold xo;rw[Bool.and_eq_true];exact⟨I8.2 ⟨by show (0:Int)<=(e.f:Int);omega,by show (e.f:Int)<_;omega⟩,I8.2 ⟨by show (0:Int)<=(e.t:Int);omega,by show (e.t:Int)<_;omega⟩⟩
def fu(s:ByteArray)(t:Rx):Prop:=t.wf/\bh (dA 99) ([],aa s)=some (t.flat,[])/\t.flat.length<=400
def Pv(t:Rx)(X:Dd):Prop:=∀(z:Nat->Nat) (m:Nat),(∀j,z j<256)->(dI t ((range m).map z)->bu X (bD X 0 z m)=0)/\(¬dI t ((range m).map z)->bu X (bD X 0 z m)=-1)
def CY(s:ByteArray)(w:World)(e:Ending)(w':World):Prop:=Below w.heap.size w w'/\
 (
  (∃er:Nat,nh s er/\e=.returned (.tuple #[.agg (zC 29),.int .i64 (er:Int)]))\/
  (∃t,fu s t/\((2000<1+2 ^ nB (eY t 0)/\e=.returned (.tuple #[.agg (zC 29),.int .i64 6]))\/∃(X:Dd) (C:Nat),e=.returned (.tuple #[.agg X.cD,.int .i64 0])/\DM w' X/\Mn X C/\Pv t X)))
theorem zia{T:Nat}{A:Nat->Prop}(h:bU (fun x=>if x=T then 0 else -1) A r):(A T->r=0)/\(¬A T->r=-1):=by
 rcases h with ⟨h1,h2⟩|⟨h1,⟨x,hx,h2⟩,h3⟩
 ·refine⟨fun h=>?_,fun _=>h1⟩;have:=h2 T h;simp at this
 by_cases e:x=T
 ·subst e;simp at h2;exact⟨fun _=>h2.symm,fun h=>absurd hx h⟩
 simp[e] at h2;omega
theorem znN(s:ByteArray)(hs:s.size<=1600)(w:World):Calls prog 16 #[.string s] w (CY s w):=by
 have k0:=al w (.cells (zC 29) 29);have HB:=ζ (St.new w 29 (zC 29)) k0;have nb:=hid (Y5 s hs (w.alloc (.cells (zC 29) 29)));clear k0;go_in;go_upto_region 1 with (refine og rfl 29 rfl (zC 29) (lN _) ?_);generalize ay:w.heap.size=b0 at HB⊢;have bW:=hid ay;clear ay;generalize w.alloc (.cells (zC 29) 29)=W0 at HB nb⊢;go_wp2_with (go_at_call 30;refine nb.out.mono ?_);rintro e w1 hp;rcases hp with ⟨er,hE,rfl,b1⟩|⟨t,hw,qF,hle,a,c,rfl,hO,b1⟩
 ·have H1:=ζ (HB.out.1.ab b1) (HB.out.2.trans (b1.mono (by have:=HB.out.2.size;have:=bW.out;omega)));have eQ:=b1.size;have HER:Hid (nh s er):=hE;have Bc:((er:Int) != 0)=true:=by
   rcases hE with ⟨rfl,_⟩|⟨rfl,_⟩ <;> rfl
  have HF:Hid (CY s w (.returned (.tuple #[.agg (zC 29),.int .i64 (er:Int)])) ((w1.alloc (.cells #[.int .i64 0,.slice none 0 0,.int .i64 0,.int .i64 0] 55)).setRow b0 (zC 29))):=by
   refine⟨?_,inl ⟨er,hE,rfl⟩⟩;have hz:=H1.out.2.size;have h1:Below b0 w (w1.alloc (.cells #[.int .i64 0,.slice none 0 0,.int .i64 0,.int .i64 0] 55)):=H1.out.2.trans ((al w1 _).mono (by have:=bW.out;omega));have:=kZ h1 (Nat.le_refl b0) (zC 29);rw[bW.out];exact this
  have gY:=hid (H1.out.1.alloc (.cells #[.int .i64 0,.slice none 0 0,.int .i64 0,.int .i64 0] 55));clear hE b1 nb;go_wp2_with (first
   | (refine AH rfl 29 _ rfl #[] (by first|rfl|kernel_rfl|(go_simp;done)) (.agg (zC 29)) (GG _) ?_)
   | (refine lO rfl 29 _ _ rfl b0 29 (zC 29) (zC 29) rfl rfl gY.out rfl (by rw[fH,ia]) zS ?_))
  refine bodyPost_ret (xu rfl _ _ b0 (zC 29) _ rfl gY.out.setRow.part underlying29 rfl (by rw[fH,ia])) rfl ?_;exact HF.out
 have HT:Hid (fu s t):=⟨hw,qF,hle⟩
 have H1:=ξ (HB.out.1.ab b1) (HB.out.2.trans (b1.mono (by have:=HB.out.2.size;have:=bW.out;omega))) hO;have eQ:=b1.size;have VH:=hid (zqS t);have Hln:=hid (O7 t 0);have DP:=hid (XV t 0);have VF:=hid (Pa t 0);have Hin:=hid (Ff t 0);obtain⟨S,hS⟩:∃S:Nat,2*t.flat.length=S:=⟨_,rfl⟩
 obtain⟨F,hF⟩:∃F:Nat,2*eG t 0=F:=⟨_,rfl⟩
 obtain⟨T,hT⟩:∃T:Nat,2*eG t 0+1=T:=⟨_,rfl⟩
 obtain⟨m,ju⟩:∃m,(eY t 0).length=m:=⟨_,rfl⟩
 have HQ:=ψ hS hF hT ju;rw[ju] at H1 Hln;rw[hS,hT,hF] at VH;rw[hS,hT,hF,ju];clear hS hF hT ju hw qF b1 hO nb;have kN:=al w1 (.cells #[.int .i64 (S:Int),.slice a m c,.int .i64 (F:Int),.int .i64 (T:Int)] 55);have HN:=ζ kN (St.new w1 55 #[.int .i64 (S:Int),.slice a m c,.int .i64 (F:Int),.int .i64 (T:Int)]);clear kN;go_upto_region 4 with fail;generalize w1.alloc (.cells #[.int .i64 (S:Int),.slice a m c,.int .i64 (F:Int),.int .i64 (T:Int)] 55)=W2 at HN⊢;obtain⟨bN,Lq⟩:∃bN,w1.heap.size=bN:=⟨_,rfl⟩
 rw[Lq] at HN;rw[Lq];have H2:Hid (St W2 29 b0 (zC 29)/\Below b0 w W2/\b0<=W2.heap.size):=by
  have hk:Below w1.heap.size w1 W2:=by rw[Lq];exact HN.out.1
  have hz:=H1.out.2.1.size;have cG:=hk.size;exact⟨H1.out.1.ab hk,H1.out.2.1.trans (hk.mono (by have:=bW.out;omega)),by have:=bW.out;omega⟩
 obtain⟨r0,r1,r2,r3⟩:=HN.out.2.bZ;have hEd:gV W2 a ((eY t 0).map En.z):=by
  have h1:gV w1 a ((eY t 0).map En.z):=by
   intro h0;obtain⟨g,e,_,hg,hc⟩:=eC H1.out.2.2 (by rw[length_map,HQ.out.2.2.2] at h0;exact h0);exact⟨g,0,e,hg,fun j hj=>by rw[zero_add,(hc j (by rw[length_map,HQ.out.2.2.2] at hj;exact hj)).1]⟩
  exact h1.below (by rw[Lq];exact HN.out.1)
 have HO:=hid (zqm (S:Int) F T (eY t 0) a m c W2 hEd HQ.out.2.2.2 (by have:=Hln.out;omega) (by rw[U7];have:=DP.out;omega) (by have:=HQ.out;have:=VF.out;omega) (by have:=HQ.out;have:=VF.out;omega) (fun e he=>by have:=Hin.out e he;omega) VH.out);clear hEd;go_upto_region 5 with (first
  | (go_at_call 31;refine HO.out.mono ?_;rintro e w3 ⟨cD,er,nm,L',f0,s0,k,R,SS,rfl,b3,Iz,dc,Dm,uY⟩)
  | (refine og rfl 29 rfl (zC 29) (lN _) ?_)
  | (refine lO rfl 29 _ _ rfl w3.heap.size 29 (zC 29) cD rfl rfl (St.new w3 _ _) (by rw[ia,dc]) (by rw[fH,dc]) Dm ?_))
 try simp only[put,sA]
 have I9:=ζ dc Dm;have KA:=hid Iz;have kV:Below w3.heap.size w3 ((w3.alloc (.cells (zC 29) 29)).setRow w3.heap.size cD):=kZ (al w3 _) (Nat.le_refl _) _;have sV:St ((w3.alloc (.cells (zC 29) 29)).setRow w3.heap.size cD) 29 w3.heap.size cD:=(St.new w3 _ _).setRow;have zF:=b3.size;have H7:Hid (St ((w3.alloc (.cells (zC 29) 29)).setRow w3.heap.size cD) 29 b0 (zC 29)/\Below b0 w ((w3.alloc (.cells (zC 29) 29)).setRow w3.heap.size cD)):=by
  have hz:=H2.out.2.2;exact⟨(H2.out.1.ab b3).ab kV,(H2.out.2.1.trans (b3.mono hz)).trans (kV.mono (by omega))⟩
 have pn:Hid (b0<=w3.heap.size):=by have:=H2.out.2.2;show b0<=_;omega
 obtain⟨b7,uW⟩:∃b7,w3.heap.size=b7:=⟨_,rfl⟩
 have Gp:=hid uW;rw[uW] at kV sV H7;rw[uW];clear uW Iz dc Dm zF b3 HO r0 r1 r2 r3;rcases uY with ⟨rfl,lz,rfl⟩|⟨rfl,hk,fm,ms,hD,ma,lW⟩
 ·generalize (w3.alloc (.cells (zC 29) 29)).setRow b7 (zC 29)=V at kV sV H7⊢;have HF:Hid (CY s w (.returned (.tuple #[.agg (zC 29),.int .i64 6])) (V.setRow b0 (zC 29))):=by
   refine⟨?_,inr ⟨t,HT.out,inl ⟨?_,rfl⟩⟩⟩
   ·have:=kZ H7.out.2 (Nat.le_refl b0) (zC 29);rw[bW.out];exact this
   have:=zfa KA.out;omega
  clear lz kV sV;go_wp2_with (first
   | (refine AH rfl 29 _ rfl #[] (by first|rfl|kernel_rfl|(go_simp;done)) (.agg (zC 29)) (GG _) ?_)
   | (refine lO rfl 29 _ _ rfl b0 29 (zC 29) (zC 29) rfl rfl H7.out.1 rfl (by rw[fH,ia]) zS ?_))
  refine bodyPost_ret (xu rfl _ _ b0 (zC 29) _ rfl H7.out.1.setRow.part underlying29 rfl (by rw[fH,ia])) rfl ?_;exact HF.out
 obtain⟨D,rfl,Ha,E5,TF,BL⟩:=zo0 (mf:=fun x=>if x=T then 0 else -1) (fun x=>by show (if x=T then (0:Int) else -1)<32768;split <;> omega) KA.out I9.out.1 I9.out.2 hk fm hD ma lW;have tR:=Ha.below (by rw[Gp.out];exact kV);generalize (w3.alloc (.cells (zC 29) 29)).setRow b7 D.cD=V at kV sV H7 tR⊢;have HX:Hid (∀z m,(∀j,z j<256)->bU (fun x=>if x=T then 0 else -1) (ct (eY t 0) F z m) (bu D (bD D 0 z m))):=BL;have AG:=hid (Vo D _ E5 V tR);have Kk:=ζ sV tR;have TV:Hid (b0<=V.heap.size):=by have:=pn.out;have:=kV.size;have:=Gp.out;show b0<=_;omega
 have HRD:=hid E5;clear Ha E5 TF BL hk fm hD ma lW kV sV tR;go_upto_region 7 with fail;go_wp2_with (first
  | (refine js (by rfl) 29 _ rfl ⟨b7,0,none⟩ rfl D.cD _ Kk.out.1.part underlying29 rfl Kk.out.2.info ?_)
  | (go_at_call 23;refine AG.out.mono ?_;rintro e w9 ⟨X,C',rfl,qG,pr,Rr,_,b9⟩)
  | (refine lO rfl 29 _ _ rfl b0 29 (zC 29) X.cD rfl rfl (H7.out.1.ab b9) (by rw[ia,qG.sz]) (by rw[fH,qG.sz]) qG.one ?_))
 refine bodyPost_ret (xu rfl _ _ b0 X.cD _ rfl (H7.out.1.ab b9).setRow.part underlying29 rfl (by rw[fH,qG.sz])) rfl ?_;refine⟨?_,inr ⟨t,HT.out,inr ⟨X,C',rfl,(bg.stored pr.r qG (H7.out.1.ab b9)).dm,pr,fun z k hz=>?_⟩⟩⟩
 ·have:=kZ (H7.out.2.trans (b9.mono TV.out)) (Nat.le_refl b0) X.cD;rw[bW.out];exact this
 rw[Rr z k hz];have h1:=zia (HX.out z k hz);have h2:=N0 t HT.out.1 z hz k;rw[HQ.out.2.2.1,HQ.out.2.1] at h2;exact⟨fun h=>h1.1 (h2.2 h),fun h=>h1.2 (fun hh=>h (h2.1 hh))⟩
def Db(b:Bool):Int:=if b then 0 else 8
theorem zg4(s:ByteArray)(w:World)(hs:s.size<=maxLen):
  Calls prog 60 #[.string s] w fun e w'=>e=.returned (.int .i64 (Db (dN s)))/\w'=w:=by
 go_in;go_wp2_with fail;refine (znv s _ hs).mono ?_;rintro e w1 ⟨rfl,rfl⟩;rcases hn:dN s with _|_
 ·have HN:=hid hn;clear hn;go_wp2;go_ret;exact⟨by rw[HN.out];rfl,rfl⟩
 have HN:=hid hn;clear hn;go_wp2;go_ret;exact⟨by rw[HN.out];rfl,rfl⟩
def ir(k:Int):Bool:=k == 0 || (k == 1 || k == 2)
theorem zko(k:Int)(w:World):Calls prog 62 #[.int .i64 k] w fun e w'=>e=.returned (.bool (ir k))/\w'=w:=by
 have HZ:Hid (∀a b c,(k == 0)=a->(k == 1)=b->(k == 2)=c->ir k=(a || (b || c))):=fun a b c h1 h2 h3=>by unfold ir;rw[h1,h2,h3]
 rcases h0:(k == 0) with _|_
 ·rcases h1:(k == 1) with _|_
  ·rcases h2:(k == 2) with _|_
   ·have HV:=hid (HZ.out _ _ _ h0 h1 h2);go_in;go_wp2;go_ret;exact⟨by rw[HV.out];rfl,rfl⟩
   have HV:=hid (HZ.out _ _ _ h0 h1 h2);go_in;go_wp2;go_ret;exact⟨by rw[HV.out];rfl,rfl⟩
  have HV:=hid (HZ.out _ _ _ h0 h1 rfl);go_in;go_wp2;go_ret;exact⟨by rw[HV.out];rfl,rfl⟩
 have HV:=hid (HZ.out _ _ _ h0 rfl rfl);go_in;go_wp2;go_ret;exact⟨by rw[HV.out];rfl,rfl⟩
def yo(pre:List Ru)(x:Ru)(er:Int):Prop:=
 (dN x.nm=false/\er=8)\/(dN x.nm=true/\
  ((
   (∃y∈pre,y.nm=x.nm)/\er=9)\/((∀y∈pre,y.nm≠x.nm)/\
   ((
    ir x.k=false/\er=1)\/(ir x.k=true/\
    ((∃e5:Nat,nh x.rx e5/\er=(e5:Int))\/(∃t,fu x.rx t/\((2000<1+2 ^ nB (eY t 0)/\er=6)\/(dI t []/\er=14)\/(¬dI t []/\er=0)))))))))
def q8(pre:List Ru)(x:Ru)(w:World)(e:Ending)(w':World):Prop:=∃er,e=.returned (.int .i64 er)/\yo pre x er/\Below w.heap.size w w'
theorem qN.mem{l:List Ru}{s:ByteArray}(h:qN l s r):(0<=r->∃y∈l,y.nm=s)/\(¬0<=r->∀y∈l,y.nm≠s):=by
 rcases h with ⟨rfl,h⟩|⟨i,hi,rfl,h,_⟩
 ·refine⟨fun h=>by omega,fun _ y hy=>?_⟩;obtain⟨j,hj,rfl⟩:=List.getElem_of_mem hy;exact h j hj
 exact⟨fun _=>⟨_,getElem_mem hi,h⟩,fun h=>by omega⟩
theorem zf2(n c:Nat)(a:Option Addr)(l:List Ru)(hl:l.length=n)(hn:n<=100000)(zn:n<=c)(i:Nat)(hi:i<l.length)(kh:l[i].nm.size<=maxLen)(Bw:l[i].rx.size<=1600)(w:World)(h1:fR w a l):
  Calls prog 36 #[.slice a n c,.int .i64 (i:Int)] w (q8 (l.take i) l[i] w):=by
 obtain⟨g1,o1,rfl,l7,x0,x1,x2⟩:=h1.get i hi;have nJ:i<n:=by omega
 have i1:(i:Int)<n:=by omega
 have i2:(i:Int)<=n:=by omega
 have i3:i<=c:=by omega
 have JB:=hid (h1.take i);have E0:Hid ((l.take i).length=i):=by show _=_;rw[List.length_take];omega
 generalize l.take i=pre at JB E0⊢;generalize l[i]=x at x0 x1 x2 kh Bw⊢;obtain⟨nm,kk,rx⟩:=x;dsimp only at x0 x1 x2 kh Bw;have k1:=al w (.cells #[.string nm,.int .i64 kk,.string rx] 48);have HB:=ζ k1 (St.new w 48 #[.string nm,.int .i64 kk,.string rx]);have Hrx:=hid Bw;have Lv:=hid kh;clear k1 h1 hl hi Bw kh;go_in;go_upto_region 2 with fail;clear x0 x1 x2;obtain⟨b,ay⟩:∃b,w.heap.size=b:=⟨_,rfl⟩
 have bW:=hid ay;rw[ay] at HB l7;rw[ay];clear ay;generalize w.alloc (.cells #[.string nm,.int .i64 kk,.string rx] 48)=W0 at HB⊢;have mh:Hid (∀W',Below W0.heap.size W0 W'->Below w.heap.size w W'):=fun W' h=>by
  have hz:=HB.out.1.size;rw[bW.out];exact HB.out.1.trans (h.mono (by have:=bW.out;omega))
 have T2:Hid (∀W',Below W0.heap.size W0 W'->W'.cell? ⟨b,0,none⟩=some (.string nm)/\W'.cell? ⟨b,1,none⟩=some (.int .i64 kk)/\W'.cell? ⟨b,2,none⟩=some (.string rx)):=fun W' h=>⟨(HB.out.2.ab h).at_ 0,(HB.out.2.ab h).at_ 1,(HB.out.2.ab h).at_ 2⟩
 obtain⟨c0,c1,c2⟩:=T2.out W0 (Below.refl _ _);have ZP:=hid (zg4 nm W0 Lv.out);go_upto_region 3 with (go_at_call 60;refine ZP.out.mono ?_;rintro e w1 ⟨rfl,h1⟩;rw[h1];clear h1);rcases hN:dN nm with _|_
 ·have HZ:Hid (q8 pre ⟨nm,kk,rx⟩ w (.returned (.int .i64 8)) W0):=⟨8,rfl,inl ⟨hN,rfl⟩,mh.out _ (Below.refl _ _)⟩
  rw[show Db false=8 from rfl];clear hN;go_wp2;go_ret;exact HZ.out
 rw[show Db true=0 from rfl];have HN:=hid hN;clear hN ZP;have rL:Hid (∀W,Below W0.heap.size W0 W->Calls prog 61 #[.slice (some ⟨g1,o1,none⟩) i c,.string nm] W (SC pre nm W)):=fun W h=>zlZ i c _ pre nm E0.out (by omega) W (JB.out.below (mh.out W h))
 go_upto_region 5 with fail;clear c0 c1 c2;have cZ:Hid (∀W',Below W0.heap.size W0 W'->Below W0.heap.size W0 W'/\W'.cell? ⟨b,0,none⟩=some (.string nm)):=fun W' h=>⟨h,(T2.out W' h).1⟩
 refine wp_region_held_drew (S:=fun W'=>Below W0.heap.size W0 W'/\W'.cell? ⟨b,0,none⟩=some (.string nm)) (by kernel_rfl) (cZ.out _ (Below.refl _ _).drew) (fun η=>?_)
 (refine an 0 ?_;refine an 1 ?_;refine an 2 ?_;try simp only[put,sA];refine an 3 ?_;refine an 4 ?_;try simp only[put,sA])
 refine bc 5 (fun K hK=>?_);skip;go_simp;go_at_call 61;refine (rL.out _ η.1).mono ?_;rintro e w2 ⟨r,rfl,hr,v2⟩;have bz:Below W0.heap.size W0 w2:=η.1.trans (v2.mono η.1.size);clear v2
 try go_wp2_with fail
 refine hK.out _ _ (cZ.out _ bz) fun η=>?_;clear hK K
 try simp only[put,sA]
 (refine an 6 ?_;try simp only[put,sA])
 refine wpAnyH_done (by kernel_rfl) ?_ _;have p9:=ζ bz hr;clear η bz hr;obtain⟨c0,c1,c2⟩:=T2.out w2 p9.out.1;by_cases h9:0<=r
 ·have HZ:Hid (q8 pre ⟨nm,kk,rx⟩ w (.returned (.int .i64 9)) w2):=⟨9,rfl,inr ⟨HN.out,inl ⟨p9.out.2.mem.1 h9,rfl⟩⟩,mh.out _ p9.out.1⟩
  go_wp2;go_ret;exact HZ.out
 have ox:=hid (p9.out.2.mem.2 h9);have HK:=hid (zko kk w2);rcases A2:ir kk with _|_
 ·have HZ:Hid (q8 pre ⟨nm,kk,rx⟩ w (.returned (.int .i64 1)) w2):=⟨1,rfl,inr ⟨HN.out,inr ⟨ox.out,inl ⟨A2,rfl⟩⟩⟩,mh.out _ p9.out.1⟩
  rw[A2] at HK;clear A2;go_wp2_with (go_at_call 62;refine HK.out.mono ?_;rintro e w3 ⟨rfl,h3⟩;rw[h3];clear h3);go_ret;exact HZ.out
 have Dj:=hid A2;rw[A2] at HK;have Xg:=hid (znN rx Hrx.out w2);clear A2;go_upto_region 9 with (go_at_call 62;refine HK.out.mono ?_;rintro e w3 ⟨rfl,h3⟩;rw[h3];clear h3);go_wp2_with (go_at_call 16;refine Xg.out.mono ?_);rintro e w3 ⟨b3,uY⟩;have H3:=hid (p9.out.1.trans (b3.mono p9.out.1.size));clear b3 Xg HK;rcases uY with ⟨er,hE,rfl⟩|⟨t,hT,⟨lz,rfl⟩|⟨X,C,rfl,qG,pr,WM⟩⟩
 ·have Bc:((er:Int) != 0)=true:=by
   rcases hE with ⟨rfl,_⟩|⟨rfl,_⟩ <;> rfl
  have dM:Below W0.heap.size W0 ((w3.alloc (.cells (zC 29) 29)).setRow w3.heap.size (zC 29)):=kZ (H3.out.trans ((al w3 _).mono H3.out.size)) H3.out.size _;have HZ:Hid (q8 pre ⟨nm,kk,rx⟩ w (.returned (.int .i64 (er:Int))) ((w3.alloc (.cells (zC 29) 29)).setRow w3.heap.size (zC 29))):=⟨_,rfl,inr ⟨HN.out,inr ⟨ox.out,inr ⟨Dj.out,inl ⟨er,hE,rfl⟩⟩⟩⟩,mh.out _ dM⟩
  clear hE dM;go_wp2_with (first
   | (refine og rfl 29 rfl (zC 29) (lN _) ?_)
   | (refine lO rfl 29 _ _ rfl w3.heap.size 29 (zC 29) (zC 29) rfl rfl (St.new w3 _ _) rfl (by rw[fH,ia]) zS ?_))
  go_ret;exact HZ.out
 ·have dM:Below W0.heap.size W0 ((w3.alloc (.cells (zC 29) 29)).setRow w3.heap.size (zC 29)):=kZ (H3.out.trans ((al w3 _).mono H3.out.size)) H3.out.size _;have HZ:Hid (q8 pre ⟨nm,kk,rx⟩ w (.returned (.int .i64 6)) ((w3.alloc (.cells (zC 29) 29)).setRow w3.heap.size (zC 29))):=⟨_,rfl,inr ⟨HN.out,inr ⟨ox.out,inr ⟨Dj.out,inr ⟨t,hT,inl ⟨lz,rfl⟩⟩⟩⟩⟩,mh.out _ dM⟩
  clear hT lz dM;go_wp2_with (first
   | (refine og rfl 29 rfl (zC 29) (lN _) ?_)
   | (refine lO rfl 29 _ _ rfl w3.heap.size 29 (zC 29) (zC 29) rfl rfl (St.new w3 _ _) rfl (by rw[fH,ia]) zS ?_))
  go_ret;exact HZ.out
 have Oh:=ψ qG pr WM hT;have dM:Below W0.heap.size W0 ((w3.alloc (.cells (zC 29) 29)).setRow w3.heap.size X.cD):=kZ (H3.out.trans ((al w3 _).mono H3.out.size)) H3.out.size _;have kV:Below w3.heap.size w3 ((w3.alloc (.cells (zC 29) 29)).setRow w3.heap.size X.cD):=kZ (al w3 _) (Nat.le_refl _) _;have sV:St ((w3.alloc (.cells (zC 29) 29)).setRow w3.heap.size X.cD) 29 w3.heap.size X.cD:=(St.new w3 _ _).setRow;go_upto_region 10 with (first
  | (refine og rfl 29 rfl (zC 29) (lN _) ?_)
  | (refine lO rfl 29 _ _ rfl w3.heap.size 29 (zC 29) X.cD rfl rfl (St.new w3 _ _) (by rw[ia,qG.sz]) (by rw[fH,qG.sz]) qG.one ?_))
 try simp only[put,sA]
 have tR:=qG.below kV;generalize (w3.alloc (.cells (zC 29) 29)).setRow w3.heap.size X.cD=V at dM kV sV tR⊢;generalize w3.heap.size=b7 at kV sV⊢;have HV:=ξ sV tR dM;have HH:=hid (zop X C Oh.out.2.1.r ⟨#[]⟩ 0 rfl (by omega) V tR);have HL:=hid (Oh.out.2.2.1 (eW ⟨#[]⟩) 0 (fun j=>uT _ j));generalize bu X (bD X 0 (eW ⟨#[]⟩) 0)=mk at HH HL;clear dM kV sV tR qG pr WM hT;by_cases ud:dI t []
 ·have h0:mk=0:=HL.out.1 ud;rw[h0] at HH;clear h0;have HZ:Hid (∀W,Below V.heap.size V W->q8 pre ⟨nm,kk,rx⟩ w (.returned (.int .i64 14)) W):=fun W h=>⟨_,rfl,inr ⟨HN.out,inr ⟨ox.out,inr ⟨Dj.out,inr ⟨t,Oh.out.2.2.2,inr (inl ⟨ud,rfl⟩)⟩⟩⟩⟩,mh.out _ (HV.out.2.2.trans (h.mono HV.out.2.2.size))⟩
  go_wp2_with (first
   | (refine js (by rfl) 29 _ rfl ⟨b7,0,none⟩ rfl X.cD _ HV.out.1.part underlying29 rfl HV.out.2.1.info ?_)
   | (go_at_call 63;refine HH.out.mono ?_;rintro e w9 ⟨rfl,b9⟩))
  go_ret;exact HZ.out _ b9
 have h0:mk=-1:=HL.out.2 ud;rw[h0] at HH;clear h0;have HZ:Hid (∀W,Below V.heap.size V W->q8 pre ⟨nm,kk,rx⟩ w (.returned (.int .i64 0)) W):=fun W h=>⟨_,rfl,inr ⟨HN.out,inr ⟨ox.out,inr ⟨Dj.out,inr ⟨t,Oh.out.2.2.2,inr (inr ⟨ud,rfl⟩)⟩⟩⟩⟩,mh.out _ (HV.out.2.2.trans (h.mono HV.out.2.2.size))⟩
 go_wp2_with (first
  | (refine js (by rfl) 29 _ rfl ⟨b7,0,none⟩ rfl X.cD _ HV.out.1.part underlying29 rfl HV.out.2.1.info ?_)
  | (go_at_call 63;refine HH.out.mono ?_;rintro e w9 ⟨rfl,b9⟩))
 go_ret;exact HZ.out _ b9
def NO(l:List Ru):Prop:=∀j (h:j<l.length),l[j].nm.size<=maxLen/\l[j].rx.size<=1600
def fU(l:List Ru)(k:Nat):Prop:=∀j (h:j<l.length),j<k->yo (l.take j) l[j] 0
def F8(l:List Ru)(w:World)(e:Ending)(w':World):Prop:=Below w.heap.size w w'/\
 (
  (60<l.length/\e=.returned (.tuple #[.int .i64 (l.length:Int),.int .i64 6]))\/
  (∃(i:Nat) (h:i<l.length) (er:Int),er≠0/\fU l i/\yo (l.take i) l[i] er/\e=.returned (.tuple #[.int .i64 (i:Int),.int .i64 er]))\/
  (l.length<=60/\fU l l.length/\e=.returned (.tuple #[.int .i64 (l.length:Int),.int .i64 0])))
theorem zkp(n c:Nat)(a:Option Addr)(l:List Ru)(hl:l.length=n)(hn:n<=100000)(zn:n<=c)(hB:NO l)(w:World)(h1:fR w a l):
  Calls prog 20 #[.slice a n c] w (F8 l w):=by
 have H:=ξ h1 hB hl;clear h1 hB hl;go_in;by_cases h6:60<n
 ·have i1:(60:Int)<n:=by omega
  have HZ:Hid (F8 l w (.returned (.tuple #[.int .i64 (n:Int),.int .i64 6])) w):=by
   refine⟨Below.refl _ _,inl ⟨?_,?_⟩⟩
   ·rw[H.out.2.2];exact h6
   rw[H.out.2.2]
  go_wp2;go_ret2;exact HZ.out
 have i1:¬((60:Int)<n):=by omega
 go_wp2;go_loopw [4,5,13] (fun _ _ v wr=>∃k:Nat,v=.int .i64 k/\k<=n/\Hid (Below w.heap.size w wr/\fU l k)) (fun _ _ v _=>n-(intOf v).toNat)
 ·exact⟨0,rfl,zero_le _,Below.refl _ _,fun j _ h=>by omega⟩
 obtain⟨k,rfl,hk,HL⟩:=hrel;by_cases aq:k<n
 ·have hkl:k<l.length:=by rw[H.out.2.2];exact aq
  have i2:(k:Int)<n:=by omega
  have HC:=hid (zf2 n c a l H.out.2.2 hn zn k hkl (H.out.2.1 k hkl).1 (H.out.2.1 k hkl).2 wr (H.out.1.below HL.out.1));go_wp2_with (go_at_call 36;refine HC.out.mono ?_);rintro e w2 ⟨er,rfl,hE,b2⟩;have H2:=ζ (HL.out.1.trans (b2.mono HL.out.1.size)) hE;clear b2 hE HC;by_cases h0:er=0
  ·subst h0;have HN:Hid (fU l (k+1)):=fun j hj hjk=>by
    by_cases e:j=k
    ·subst e;exact H2.out.2
    exact HL.out.2 j hj (by omega)
   skip;go_wp2;go_roundw
   ·exact⟨k+1,by go_num,by omega,H2.out.1,HN.out⟩
   simp[intOf];omega
  have i3:((er:Int) != 0)=true:=by rw[bne_iff_ne];exact h0
  have HZ:Hid (F8 l w (.returned (.tuple #[.int .i64 (k:Int),.int .i64 er])) w2):=⟨H2.out.1,inr (inl ⟨k,hkl,er,h0,HL.out.2,H2.out.2,rfl⟩)⟩
  clear h0;go_wp2;go_ret2;exact HZ.out
 obtain rfl:k=n:=by omega
 have HZ:Hid (F8 l w (.returned (.tuple #[.int .i64 (k:Int),.int .i64 0])) wr):=by
  refine⟨HL.out.1,inr (inr ⟨?_,?_,?_⟩)⟩
  ·rw[H.out.2.2];omega
  ·rw[H.out.2.2];exact HL.out.2
  rw[H.out.2.2]
 go_wp2;go_ret2;exact HZ.out
theorem IB(hw:t.wf)(NV:t'.wf)(h:t.flat=t'.flat):eY t 0=eY t' 0:=by rw[<-QZ t hw,<-QZ t' NV,h]
theorem IN(hw:t.wf)(NV:t'.wf)(h:t.flat=t'.flat)(z:Nat->Nat)(hz:∀j,z j<256)(m:Nat):dI t ((range m).map z)↔dI t' ((range m).map z):=by
 rw[<-N0 t hw z hz m,<-N0 t' NV z hz m,IB hw NV h];unfold eG;rw[h]
theorem fu.flat{s:ByteArray}(h:fu s t)(h':fu s t'):t.flat=t'.flat:=by
 have:=h.2.1.symm.trans h'.2.1;simpa using this
theorem fu.ng{s:ByteArray}(h:fu s t){er:Nat}(he:nh s er):False:=by
 rcases he with ⟨_,he⟩|⟨_,l,he,hl⟩
 ·exact he _ h.2.1
 have e:=he.symm.trans h.2.1;simp at e;have:=h.2.2;rw[e] at hl;omega
theorem zf3(s:ByteArray)(hs:s.size<=1600)(t:Rx)(h:fu s t)(w:World):Calls prog 30 #[.string s] w (s9 t t.flat.length w):=by
 refine (Y5 s hs w).mono ?_;intro e w' hp;rcases hp with ⟨er,he,_⟩|⟨t',hw,qF,hle,hN⟩
 ·exact (h.ng he).elim
 have hf:t'.flat=t.flat:=fu.flat ⟨hw,qF,hle⟩ h;have hE:=IB hw h.1 hf;unfold s9 at hN⊢;rw[hE] at hN;unfold eG at hN⊢;rw[hf] at hN;exact hN
def gj(t:Rx):NF:=⟨2*t.flat.length,2*eG t 0,2*eG t 0+1,eY t 0⟩
theorem B6(t:Rx):(gj t).ok:=by
 have h1:=Pa t 0;refine⟨?_,?_,fun e he=>?_⟩
 ·show 2*eG t 0<2*t.flat.length;omega
 ·show 2*eG t 0+1<2*t.flat.length;omega
 have h2:=Ff t 0 e he;show e.f<2*t.flat.length/\e.t<2*t.flat.length;omega
theorem vz:(prog.info? 55).map (fun i=>(i.zero,i.size,i.bytes))=some (some (.agg #[.int .i64 0,.slice none 0 0,.int .i64 0,.int .i64 0]),4,48):=by kernel_rfl
def F9(M:NF)(a:Option Addr)(c:Nat):List Value:=[.int .i64 ((M.N:Nat):Int),.slice a M.L.length c,.int .i64 ((M.F:Nat):Int),.int .i64 ((M.T:Nat):Int)]
def B5(M:Nat->NF)(A:Nat->Option Addr)(C:Nat->Nat)(k:Nat):List Value:=(range k).flatMap fun j=>F9 (M j) (A j) (C j)
theorem JK(M:Nat->NF)(A:Nat->Option Addr)(C:Nat->Nat)(k:Nat):B5 M A C (k+1)=B5 M A C k++F9 (M k) (A k) (C k):=by
 unfold B5;rw[range_succ,List.flatMap_append];simp
theorem zp3(M:Nat->NF)(A:Nat->Option Addr)(C:Nat->Nat)(k:Nat):(B5 M A C k).length=k*4:=by
 induction k with
 | zero=>rfl
 | succ k ih=>rw[JK,length_append,ih];simp[F9];omega
theorem Lm(M:Nat->NF)(A:Nat->Option Addr)(C:Nat->Nat)(k i:Nat)(h:i<k)(j:Nat)(hj:j<4):(B5 M A C k)[i*4+j]?=(F9 (M i) (A i) (C i))[j]?:=by
 induction k with
 | zero=>omega
 | succ k ih=>
  have hl:=zp3 M A C k;rw[JK];by_cases e:i<k
  ·rw[List.getElem?_append_left (by omega)];exact ih e
  obtain rfl:i=k:=by omega
  rw[List.getElem?_append_right (by omega),hl,show i*4+j-i*4=j by omega]
theorem zl1{A':Nat->Option Addr}{C C':Nat->Nat}(h:∀j,j<k->A j=A' j/\C j=C' j):B5 M A C k=B5 M A' C' k:=by
 induction k with
 | zero=>rfl
 | succ k ih=>rw[JK,JK,ih (fun j hj=>h j (by omega)),(h k (by omega)).1,(h k (by omega)).2]
structure tB (W0:World)(M:Nat->NF)(k:Nat)(v:Value)(A:Nat->Option Addr)(C:Nat->Nat)(w:World):Prop where
 own:w.ownsRow W0.heap.size 55 4 v k (B5 M A C k)
 ed:∀j,j<k->w.ownsRow W0.heap.size 117 7 (.slice (A j) (M j).L.length (C j)) (M j).L.length (dj ((M j).L.map En.z))
 below:Below W0.heap.size W0 w
theorem tB.ab{v:Value}{C:Nat->Nat}(h:tB W0 M k v A C w)(kk:Below w.heap.size w w'):tB W0 M k v A C w':=
 ⟨db h.own kk,fun j hj=>db (h.ed j hj) kk,h.below.trans (kk.mono h.below.size)⟩
theorem tB.mg{C:Nat->Nat}(h:tB W0 M k (.slice a k c) A C w):yp w a k (fun j=>(M j).mg (A j) (C j)):=by
 intro h0;obtain⟨g,e,_,hg,hc⟩:=eC h.own h0;refine⟨g,0,e,hg,fun j hj=>⟨⟨?_,?_,?_,?_⟩,?_⟩⟩
 ·have:=Lm M A C k j hj 0 (by omega);rw[zero_add,(hc (j*4) (by omega)).1,show j*4=j*4+0 by omega,this];rfl
 ·rw[zero_add,(hc (j*4+1) (by omega)).1,Lm M A C k j hj 1 (by omega)];simp[F9,NF.mg]
 ·rw[zero_add,(hc (j*4+2) (by omega)).1,Lm M A C k j hj 2 (by omega)];rfl
 ·rw[zero_add,(hc (j*4+3) (by omega)).1,Lm M A C k j hj 3 (by omega)];rfl
 intro h1;have hl:((M j).L.map En.z).length=(M j).L.length:=length_map ..;have Xy:0<((M j).L.map En.z).length:=h1;obtain⟨g',e',_,zA,hc'⟩:=eC (h.ed j hj) (by omega);refine⟨g',0,e',zA,fun i hi=>?_⟩;have hi':i<((M j).L.map En.z).length*7:=hi;rw[zero_add,(hc' i (by omega)).1];rfl
def mw(la:Nat->Nat):Nat->Nat->Int
 | 0=>fun _=>-1
 | k+1=>fun x=>if x=la k then (k:Int) else mw la k x
theorem znO(la:Nat->Nat)(N k:Nat)(hk:la k<N):(ints ((range N).map (mw la k))).set (la k) (.int .i64 (k:Int))=ints ((range N).map (mw la (k+1))):=by
 apply ext_getElem?;intro i;rw[List.getElem?_set];by_cases hi:i<N
 ·by_cases e:la k=i
  ·subst e;simp[ints,hi,mw]
  have e':¬i=la k:=fun h=>e h.symm
  simp[ints,hi,mw,e,e']
 by_cases e:la k=i
 ·omega
 simp[ints,e,hi]
theorem NR(M:Nat->NF):∀(n i:Nat),i<n->(jZ M n).getD i 0=uo M i+(M i).T:=by
 intro n
 induction n with
 | zero=>intro i h;omega
 | succ n ih=>
  intro i hi;have hl:=zmq M n;simp only[jZ];by_cases e:i<n
  ·have:=ih i e;rw[getD_eq_getElem?_getD,List.getElem?_append_left (by omega),<-getD_eq_getElem?_getD];exact this
  obtain rfl:i=n:=by omega
  rw[getD_eq_getElem?_getD,List.getElem?_append_right (by omega),hl];simp
theorem X9(M:Nat->NF)(n:Nat)(h:∀k,k<n->(M k).ok)(i:Nat)(hi:i<n):(jZ M n).getD i 0<uo M n:=by
 rw[NR M n i hi];have h1:=(h i hi).t;have h2:=TD M (show i+1<=n by omega);have h3:uo M (i+1)=uo M i+(M i).N:=rfl;omega
theorem zqT{L:List Eg}(h:w.ownsRow B 117 7 (.slice a n c) n (dj L))(hn:L.length=n):gV w a L:=by
 intro h0;obtain⟨g,e,_,hg,hc⟩:=eC h (by omega);exact⟨g,0,e,hg,fun j hj=>by rw[zero_add,(hc j (by omega)).1]⟩
theorem zqU{z:Nat->Int}(h:w.ownsRow B 3 1 (.slice a n c) n (ints ((range n).map z))):kY w a n z:=by
 intro h0;obtain⟨g,e,_,hg,hc⟩:=eC h (by omega);refine⟨g,0,e,hg,fun j hj=>?_⟩;rw[zero_add,(hc j (by omega)).1];simp[ints,hj]
def Pn(M:Nat->NF)(n:Nat)(w:World)(e:Ending)(w':World):Prop:=
 ∃aE cE aM cM,e=.returned (.tuple #[.agg #[.int .i64 (uo M n),.slice aE (uE M n).length cE,.int .i64 0,.int .i64 0],.slice aM (uo M n) cM])/\
  gV w' aE ((uE M n).map En.z)/\kY w' aM (uo M n) (mw (fun i=>(jZ M n).getD i 0) n)/\Below w.heap.size w w'
theorem zeL(n c:Nat)(a:Option Addr)(l:List Ru)(T:Nat->Rx)(hl:l.length=n)(hn:n<=20)(hT:∀j (h:j<l.length),fu l[j].rx (T j)/\(T j).flat.length<=80/\l[j].rx.size<=1600)(w:World)(h1:fR w a l):
  Calls prog 22 #[.slice a n c] w (Pn (fun j=>gj (T j)) n w):=by
 have H:=ξ h1 hl hT;have kn:=al w (.cells #[.int .i64 0,.slice none 0 0,.int .i64 0,.int .i64 0] 55);have HB:=ζ (St.new w 55 #[.int .i64 0,.slice none 0 0,.int .i64 0,.int .i64 0]) kn;clear h1 hl hT kn;go_in;go_wp2_with fail;generalize cv:w.heap.size=b2 at HB⊢;have Ea:=hid cv;clear cv;generalize w.alloc (.cells #[.int .i64 0,.slice none 0 0,.int .i64 0,.int .i64 0] 55)=W0 at HB⊢;go_loopw [4,6,7,8,16] (fun v4 _ _ _ v wr=>∃(k:Nat) (aA:Option Addr) (cA:Nat) (A:Nat->Option Addr) (C:Nat->Nat),v=.int .i64 k/\v4=.slice aA k cA/\k<=n/\Hid (tB W0 (fun j=>gj (T j)) k v4 A C wr)) (fun _ _ _ _ v _=>n-(intOf v).toNat)
 ·exact⟨0,none,0,fun _=>none,fun _=>0,rfl,rfl,zero_le _,World.ownsRow_nil _ _ _ _,fun j hj=>absurd hj (by omega),Below.refl _ _⟩
 obtain⟨k,aA,cA,A,C,rfl,rfl,hk,HL⟩:=hrel;have Ps:Hid (∀W',Below W0.heap.size W0 W'->Below b2 w W'):=fun W' h=>HB.out.2.trans (h.mono (by have:=HB.out.2.size;have:=Ea.out;omega))
 by_cases aq:k<n
 ·have hkl:k<l.length:=by rw[H.out.2.1];exact aq
  have i1:(k:Int)<n:=by omega
  obtain⟨g1,o1,rfl,_,x0,x1,x2⟩:=(H.out.1.below (by rw[Ea.out];exact Ps.out _ HL.out.below)).get k hkl;have A1:=hid (H.out.2.2 k hkl);generalize l[k]=x at x0 x1 x2 A1;obtain⟨nm,kk,rx⟩:=x;dsimp only at x0 x1 x2 A1;have k1:=al wr (.cells #[.string nm,.int .i64 kk,.string rx] 48);have H1:=hid (HL.out.ab k1);have nb:=hid (zf3 rx A1.out.2.2 (T k) A1.out.1 (wr.alloc (.cells #[.string nm,.int .i64 kk,.string rx] 48)));clear k1 hkl;go_wp2_with (go_at_call 30;refine nb.out.mono ?_);rintro e w2 ⟨a2,c2,rfl,ho2,EJ⟩;have H2:=ζ (H1.out.ab EJ) (gn ho2 (by have:=H1.out.below.size;exact this));obtain⟨S,hS⟩:∃S:Nat,2*(T k).flat.length=S:=⟨_,rfl⟩
  obtain⟨F,hF⟩:∃F:Nat,2*eG (T k) 0=F:=⟨_,rfl⟩
  obtain⟨Tt,SR⟩:∃Tt:Nat,2*eG (T k) 0+1=Tt:=⟨_,rfl⟩
  obtain⟨m,ju⟩:∃m,(eY (T k) 0).length=m:=⟨_,rfl⟩
  have HQ:Hid (F9 (gj (T k)) a2 c2=[.int .i64 (S:Int),.slice a2 m c2,.int .i64 (F:Int),.int .i64 (Tt:Int)]/\(gj (T k)).L=eY (T k) 0/\(eY (T k) 0).length=m):=by
   refine⟨?_,rfl,ju⟩;rw[<-hS,<-hF,<-SR,<-ju];rfl
  rw[ju] at H2;rw[SR,hS,hF,ju];clear hS hF SR ju ho2 EJ H1 nb;have k3:=al w2 (.cells #[.int .i64 (S:Int),.slice a2 m c2,.int .i64 (F:Int),.int .i64 (Tt:Int)] 55);have s3:=St.new w2 55 #[.int .i64 (S:Int),.slice a2 m c2,.int .i64 (F:Int),.int .i64 (Tt:Int)];have H3:=ζ (H2.out.1.ab k3) (db H2.out.2 k3);have cG:W0.heap.size<=w2.heap.size:=H2.out.1.below.size;go_upto_region 6 with fail;generalize w2.alloc (.cells #[.int .i64 (S:Int),.slice a2 m c2,.int .i64 (F:Int),.int .i64 (Tt:Int)] 55)=W3 at k3 s3 H3⊢;obtain⟨b7,uW⟩:∃b7,w2.heap.size=b7:=⟨_,rfl⟩
  rw[uW] at s3;rw[uW];obtain⟨q0,q1,q2,q3⟩:=s3.bZ;have zF:W0.heap.size<=W3.heap.size:=H3.out.1.below.size;clear x0 x1 x2 H2 k3 s3 uW cG;have hO:=H3.out.1.own;obtain⟨iT,hT,rh,IU,QU⟩:=info_parts vz;go_wp2_with (at_builtin;refine wpList_append_own _ rfl _ _ 77 rfl W0.heap.size 55 iT (.agg #[.int .i64 0,.slice none 0 0,.int .i64 0,.int .i64 0]) 4 48 underlying77 hT rh IU QU rfl (by decide) _ _ _ rfl (hO.alloc _) ⟨W3.heap.size,0,none⟩ 1 1 (#[.int .i64 (S:Int),.slice a2 m c2,.int .i64 (F:Int),.int .i64 (Tt:Int)]).toList rfl rfl (World.news_of_block (cs:=#[.int .i64 (S:Int),.slice a2 m c2,.int .i64 (F:Int),.int .i64 (Tt:Int)]) (St.new _ _ _)) ?_ ?_ ?_ ?_ ?_)
  ·exact⟨rfl,rfl,rfl,rfl⟩
  ·unfold maxLen;omega
  ·omega
  ·simp;omega
  intro v' w5 ah ag _;obtain⟨a5,c5,rfl⟩:=bP ah;have HG5:Hid (tB W0 (fun j=>gj (T j)) (k+1) (.slice a5 (k+1) c5) (fun j=>if j=k then a2 else A j) (fun j=>if j=k then c2 else C j) w5):=by
   have qF:=al W3 (.cells #[.int .i64 (S:Int),.slice a2 m c2,.int .i64 (F:Int),.int .i64 (Tt:Int)] 55);have wL:Kept [55] [] (W3.alloc (.cells #[.int .i64 (S:Int),.slice a2 m c2,.int .i64 (F:Int),.int .i64 (Tt:Int)] 55)) w5:=(Kept.refl _ _ _).ae (hO.alloc _) (by simp) ag;refine⟨?_,fun j hj=>?_,(H3.out.1.below.trans (qF.mono zF)).grown ag (by simp;omega) (fun g e=>(hO.lt g e).1)⟩
   ·have e:=JK (fun j=>gj (T j)) (fun j=>if j=k then a2 else A j) (fun j=>if j=k then c2 else C j) k;rw[e,zl1 (A':=A) (C':=C) (fun j hj=>by simp[show j≠k by omega])];simp only[if_true];rw[HQ.out.1];exact ah
   by_cases e:j=k
   ·subst e;simp only[if_true];have h9:=fI (db H3.out.2 qF) wL (by decide) (by simp);show w5.ownsRow _ _ _ (.slice a2 (gj (T j)).L.length c2) (gj (T j)).L.length (dj ((gj (T j)).L.map En.z));rw[HQ.out.2.1,HQ.out.2.2];exact h9
   simp only[if_neg e];exact fI (db (H3.out.1.ed j (by omega)) qF) wL (by decide) (by simp)
  clear ah ag hO q0 q1 q2 q3;go_wp2;go_roundw
  ·exact⟨k+1,a5,c5,_,_,by go_num,rfl,by omega,HG5⟩
  simp[intOf];omega
 obtain rfl:k=n:=by omega
 have HU:=hid (zmr (fun j=>gj (T j)) k (fun j hj=>⟨B6 _,by
  have:=(H.out.2.2 j (by rw[H.out.2.1];exact hj)).2.1
  show 2*(T j).flat.length<=1000
  omega,by
  have:=(H.out.2.2 j (by rw[H.out.2.1];exact hj)).2.1
  have h2:=O7 (T j) 0
  show (eY (T j) 0).length<=1000
  omega⟩) (by omega) A C aA cA wr HL.out.mg)
 have Xe:Hid (1<=uo (fun j=>gj (T j)) k/\uo (fun j=>gj (T j)) k<=1+20*160):=by
  refine⟨Nr _ _,?_⟩;have h9:=OA (fun j=>gj (T j)) k 160 (fun j hj=>by
   have:=(H.out.2.2 j (by rw[H.out.2.1];exact hj)).2.1
   show 2*(T j).flat.length<=160
   omega)
  have h10:k*160<=20*160:=Nat.mul_le_mul_right _ (by omega);omega
 have HLu:=hid (zmq (fun j=>gj (T j)) k);have E4:Hid (∀i,i<k->(jZ (fun j=>gj (T j)) k).getD i 0<uo (fun j=>gj (T j)) k):=by
  exact fun i hi=>X9 (fun j=>gj (T j)) k (fun j _=>B6 _) i hi
 go_wp2_with (go_at_call 39;refine HU.out.mono ?_);rintro e w2 ⟨aE,cE,aL,cL,rfl,OK,EV,EJ⟩;obtain⟨U,hU⟩:∃U,uo (fun j=>gj (T j)) k=U:=⟨_,rfl⟩
 obtain⟨mE,Nl⟩:∃mE,(uE (fun j=>gj (T j)) k).length=mE:=⟨_,rfl⟩
 obtain⟨la,ud⟩:∃la:Nat->Nat,(fun i=>(jZ (fun j=>gj (T j)) k).getD i 0)=la:=⟨_,rfl⟩
 have Ka:Hid (∀e w',(∃aE cE aM cM,e=.returned (.tuple #[.agg #[.int .i64 (U:Int),.slice aE mE cE,.int .i64 0,.int .i64 0],.slice aM U cM])/\gV w' aE ((uE (fun j=>gj (T j)) k).map En.z)/\kY w' aM U (mw la k)/\Below w.heap.size w w')->Pn (fun j=>gj (T j)) k w e w'):=fun e w' h=>by
  unfold Pn;rw[hU,Nl,ud];exact h
 have HLa:Hid (∀i,i<k->la i<U):=fun i hi=>by
  rw[<-ud,<-hU];exact E4.out i hi
 have Va:Hid (cY (jZ (fun j=>gj (T j)) k)=(range k).map fun i=>.int .i64 (la i)):=by
  show _=_;apply ext_getElem?;intro i;by_cases hi:i<k
  ·have e:la i=(jZ (fun j=>gj (T j)) k).getD i 0:=(by rw[<-ud]);have yN:=HLu.out;simp[cY,hi,e,getD_eq_getElem?_getD,yN]
  have yN:=HLu.out;simp[cY,hi,yN]
 rw[Va.out] at EV;rw[Nl] at OK⊢;rw[hU] at Xe;rw[hU];have H2:Hid (w2.ownsRow b2 117 7 (.slice aE mE cE) mE (dj ((uE (fun j=>gj (T j)) k).map En.z))/\w2.ownsRow b2 3 1 (.slice aL k cL) k ((range k).map fun i=>.int .i64 (la i))/\St w2 55 b2 #[.int .i64 0,.slice none 0 0,.int .i64 0,.int .i64 0]/\Below b2 w w2/\b2<w2.heap.size):=by
  have h3:=HL.out.below.size;have h4:=EJ.size;have h5:=HB.out.1.lt;exact⟨gn OK (by omega),gn EV (by omega),(HB.out.1.ab HL.out.below).ab EJ,(Ps.out _ HL.out.below).trans (EJ.mono (by omega)),by omega⟩
 have HmE:=hid Nl;clear OK EV EJ Nl ud hU HU HL E4 Va;have k3:=al w2 (.cells #[.int .i64 (U:Int),.slice aE mE cE,.int .i64 0,.int .i64 0] 55);have s3:=St.new w2 55 #[.int .i64 (U:Int),.slice aE mE cE,.int .i64 0,.int .i64 0];have H3:=φ (db H2.out.1 k3) (db H2.out.2.1 k3) (H2.out.2.2.1.ab k3) (H2.out.2.2.2.1.trans (k3.mono (le_of_lt H2.out.2.2.2.2))) (Nat.lt_of_lt_of_le H2.out.2.2.2.2 k3.size);go_upto_region 9 with fail;generalize w2.alloc (.cells #[.int .i64 (U:Int),.slice aE mE cE,.int .i64 0,.int .i64 0] 55)=W3 at k3 s3 H3⊢;obtain⟨b9,oV⟩:∃b9,w2.heap.size=b9:=⟨_,rfl⟩
 rw[oV] at s3;rw[oV];clear oV k3 H2;have q0:=(s3.ab (al W3 (.cells #[.int .i64 (-1)] 3))).bZ.1;have Wz:Hid (1<=U/\U<=3201):=Xe.out;have my:Hid (∀(W:World) (g:Nat),W.cell? ⟨g,0,none⟩=some (.int .i64 (-1))->g<W.heap.size->Calls prog 40 #[.slice (some ⟨g,0,none⟩) 1 1,.int .i64 (U:Int)] W (NI U W)):=fun W g h1 h2=>ze6 U Wz.out.1 (by have:=Wz.out.2;omega) g W h1 h2
 have YI:=hid s3;clear s3;go_wp2_with fail;refine (my.out _ _ (by exact cell_one_new _ _ _ 0 _ rfl) (by simp)).mono ?_;rintro e w5 ⟨gM,rfl,o5,b5⟩;have H5:Hid (∃W4:World,Below W4.heap.size W4 w5/\W4.heap.size<=gM/\w5.ownsRow W4.heap.size 3 1 (.slice (some ⟨gM,0,none⟩) U U) U (ints ((range U).map (mw la 0)))/\W4.ownsRow b2 117 7 (.slice aE mE cE) mE (dj ((uE (fun j=>gj (T j)) k).map En.z))/\W4.ownsRow b2 3 1 (.slice aL k cL) k ((range k).map fun i=>.int .i64 (la i))/\St W4 55 b2 #[.int .i64 0,.slice none 0 0,.int .i64 0,.int .i64 0]/\Below b2 w W4/\St W4 55 b9 #[.int .i64 (U:Int),.slice aE mE cE,.int .i64 0,.int .i64 0]/\b2<W4.heap.size):=by
  have k2:=al W3 (.cells #[.int .i64 (-1)] 3);refine⟨_,b5,kL o5 gM rfl,?_,db H3.out.1 k2,db H3.out.2.1 k2,H3.out.2.2.1.ab k2,H3.out.2.2.2.1.trans (k2.mono (le_of_lt H3.out.2.2.2.2)),YI.out.ab k2,Nat.lt_of_lt_of_le H3.out.2.2.2.2 k2.size⟩;have e:(range U).map (mw la 0)=List.replicate U (-1):=by
   apply ext_getElem?;intro i;by_cases hi:i<U
   ·simp[hi,mw]
   simp[hi]
  rw[e];exact o5
 obtain⟨W4,h4⟩:=H5.out;have H4:=hid h4.2.2.2;have HP:Hid (w5.ownsRow W4.heap.size 3 1 (.slice (some ⟨gM,0,none⟩) U U) U (ints ((range U).map (mw la 0)))/\Below W4.heap.size W4 w5):=⟨h4.2.2.1,h4.1⟩
 have Hg:=hid h4.2.1;clear h4 H5 o5 b5 H3 YI q0 my H Ps HB;go_wp2;go_loopw [12,13,42] (fun _ _ v wr=>∃(i:Nat),v=.int .i64 i/\i<=k/\Hid (wr.ownsRow W4.heap.size 3 1 (.slice (some ⟨gM,0,none⟩) U U) U (ints ((range U).map (mw la i)))/\Below W4.heap.size W4 wr)) (fun _ _ v _=>k-(intOf v).toNat)
 ·exact⟨0,rfl,zero_le _,HP⟩
 obtain⟨i,rfl,hi,HI⟩:=hrel;by_cases aq:i<k
 ·have i1:(i:Int)<k:=by omega
  obtain⟨gL,rfl,_,_,hcL⟩:=eC (db H4.out.2.1 HI.out.2) (by omega);have c0:=(hcL i (by omega)).1;rw[show ((range k).map fun i=>(Value.int .i64 (la i)))[i]?=some (.int .i64 (la i)) by simp[aq]] at c0;have ud:=HLa.out i aq;have l1:¬((la i:Nat):Int)<0:=by omega
  obtain⟨gM',eM,_,pW,No⟩:=eC HI.out.1 (by omega);cases eM;have c1:=No (la i) (by rw[Nat.mul_one];exact ud);have c2:=c1.1;have c3:=c1.2;rw[show (ints ((range U).map (mw la i)))[la i]?=some (.int .i64 (mw la i (la i))) by simp[ints,ud]] at c2;clear c1 hcL No;go_wp2;go_roundw
  ·exact⟨i+1,by go_num,by omega,by rw[<-znO la U i ud];exact uj HI.out.1 (la i) ud _,HI.out.2.setCell (p:=⟨gM,la i,none⟩) Hg.out _⟩
  simp[intOf];omega
 obtain rfl:i=k:=by omega
 have HW:Hid (wr.ownsRow b2 117 7 (.slice aE mE cE) mE (dj ((uE (fun j=>gj (T j)) i).map En.z))/\wr.ownsRow b2 3 1 (.slice (some ⟨gM,0,none⟩) U U) U (ints ((range U).map (mw la i)))/\St wr 55 b2 #[.int .i64 0,.slice none 0 0,.int .i64 0,.int .i64 0]/\Below b2 w wr):=⟨db H4.out.1 HI.out.2,gn HI.out.1 (le_of_lt H4.out.2.2.2.2.2),H4.out.2.2.1.ab HI.out.2,H4.out.2.2.2.1.trans (HI.out.2.mono (le_of_lt H4.out.2.2.2.2.2))⟩
 obtain⟨z0,z1,z2,z3⟩:=(H4.out.2.2.2.2.1.ab HI.out.2).bZ;obtain⟨x0,x1,x2,x3,g0,g1,g2,g3⟩:=bQ HW.out.2.2.1;have pg:Hid (St ((((wr.setCell ⟨b2,0,none⟩ (.int .i64 (U:Int))).setCell ⟨b2,1,none⟩ (.slice aE mE cE)).setCell ⟨b2,2,none⟩ (.int .i64 0)).setCell ⟨b2,3,none⟩ (.int .i64 0)) 55 b2 #[.int .i64 (U:Int),.slice aE mE cE,.int .i64 0,.int .i64 0]):=HW.out.2.2.1.mG _ _ _ _;have HF:=ξ (Fx HW.out.1 HW.out.2.2.1 (by decide) (.int .i64 (U:Int)) (.slice aE mE cE) (.int .i64 0) (.int .i64 0)) (Fx HW.out.2.1 HW.out.2.2.1 (by decide) (.int .i64 (U:Int)) (.slice aE mE cE) (.int .i64 0) (.int .i64 0)) (qA HW.out.2.2.2 (Nat.le_refl _) (.int .i64 (U:Int)) (.slice aE mE cE) (.int .i64 0) (.int .i64 0));go_wp2_with fail;generalize (((wr.setCell ⟨b2,0,none⟩ (.int .i64 (U:Int))).setCell ⟨b2,1,none⟩ (.slice aE mE cE)).setCell ⟨b2,2,none⟩ (.int .i64 0)).setCell ⟨b2,3,none⟩ (.int .i64 0)=Wf at HF pg⊢;obtain⟨v0,v1,v2,v3⟩:=pg.out.bZ;refine bodyPost_ret (v:=.tuple #[.agg #[.int .i64 (U:Int),.slice aE mE cE,.int .i64 0,.int .i64 0],.slice (some ⟨gM,0,none⟩) U U]) (by simp[results,results22,go_sem,v0,v1,v2,v3]) rfl (Ka.out _ _ ⟨aE,cE,some ⟨gM,0,none⟩,U,rfl,zqT HF.out.1 ?_,zqU HF.out.2.1,?_⟩)
 ·rw[length_map];exact HmE.out
 rw[Ea.out];exact HF.out.2.2
theorem zp5(M:Nat->NF)(n:Nat)(h:∀k,k<n->(M k).ok):sc ((uo M n:Nat):Int) ((uE M n).map En.z) ((0:Nat):Int) 0=true:=by
 have hp:=Nr M n;simp only[sc,Bool.and_eq_true,List.all_eq_true,xo,I8,List.mem_map];refine⟨?_,by omega,by omega⟩;rintro e ⟨x,hx,rfl⟩;obtain⟨h1,h2,h3⟩:=Nz M n h x hx;simp only[En.z];omega
theorem zri(o:Nat)(L:List En):nB (L.map (En.by o))=nB L:=by
 unfold nB;rw[List.filter_map,length_map];rfl
theorem VY(M:Nat->NF)(B:Nat):∀n,(∀k,k<n->nB (M k).L<=B)->nB (uE M n)<=n*B:=by
 intro n
 induction n with
 | zero=>intro _;exact Nat.le_of_eq (by simp[uE,nB])
 | succ n ih=>
  intro h;have h1:=ih fun k hk=>h k (by omega)
  have h2:=h n (by omega);have h3:nB (uE M (n+1))=nB (uE M n)+nB (M n).L:=by
   rw[<-zri (uo M n) (M n).L];simp[uE,nB,bG,filter_cons]
  rw[h3,Nat.succ_mul];omega
theorem znP(M:Nat->NF)(n:Nat)(h:∀k,k<n->(M k).ok){i:Nat}(hij:i<j)(hj:j<n):(jZ M n).getD i 0<(jZ M n).getD j 0:=by
 rw[NR M n i (by omega),NR M n j hj];have h1:=(h i (by omega)).t;have h2:=TD M (show i+1<=j by omega);have h3:uo M (i+1)=uo M i+(M i).N:=rfl;omega
theorem zqW(la:Nat->Nat):∀(n i:Nat),(∀i j,i<j->j<n->la i<la j)->i<n->mw la n (la i)=((i:Nat):Int):=by
 intro n
 induction n with
 | zero=>intro i _ h;omega
 | succ n ih=>
  intro i hm hi;show (if la i=la n then (n:Int) else mw la n (la i))=_;by_cases e:i=n
  ·subst e;rw[if_pos rfl]
  rw[if_neg (by have:=hm i n (by omega) (by omega);omega)];exact ih i (fun i j h1 h2=>hm i j h1 (by omega)) (by omega)
theorem zqX(la:Nat->Nat)(x:Nat):∀n,(∀i,i<n->x≠la i)->mw la n x=-1:=by
 intro n
 induction n with
 | zero=>intro _;rfl
 | succ n ih=>
  intro h;show (if x=la n then (n:Int) else mw la n x)=_;rw[if_neg (h n (by omega))];exact ih fun i hi=>h i (by omega)
def gP(n:Nat)(P:Nat->Prop)(r:Int):Prop:=(r=-1/\∀i,i<n->¬P i)\/∃i,i<n/\r=((i:Nat):Int)/\P i/\∀j,j<i->¬P j
theorem gP.congr{P Q:Nat->Prop}(h:gP n P r)(e:∀i,i<n->(P i↔Q i)):gP n Q r:=by
 rcases h with ⟨h1,h2⟩|⟨i,hi,h1,h2,h3⟩
 ·exact inl ⟨h1,fun i hi hq=>h2 i hi ((e i hi).2 hq)⟩
 exact inr ⟨i,hi,h1,(e i hi).1 h2,fun j hj hq=>h3 j hj ((e j (by omega)).2 hq)⟩
theorem zib(h:∀k,k<n->(M k).ok){A:Nat->Prop}(hl:bU (iC (uo M n) (mw (fun i=>(jZ M n).getD i 0) n)) A r):gP n (fun i=>A ((jZ M n).getD i 0)) r:=by
 have hm:∀i j,i<j->j<n->(fun i=>(jZ M n).getD i 0) i<(fun i=>(jZ M n).getD i 0) j:=fun i j h1 h2=>znP M n h h1 h2
 have fx:∀i,i<n->iC (uo M n) (mw (fun i=>(jZ M n).getD i 0) n) ((jZ M n).getD i 0)=((i:Nat):Int):=fun i hi=>by
  have h1:=zqW (fun i=>(jZ M n).getD i 0) n i hm hi;unfold iC;rw[if_pos (X9 M n h i hi),if_pos (by rw[h1];omega)];exact h1
 have gm:∀x,(∀i,i<n->x≠(jZ M n).getD i 0)->iC (uo M n) (mw (fun i=>(jZ M n).getD i 0) n) x=-1:=fun x hx=>by
  have h1:=zqX (fun i=>(jZ M n).getD i 0) x n hx;unfold iC;rw[h1];split <;> rfl
 rcases hl with ⟨h1,h2⟩|⟨h1,⟨x,hx,h2⟩,h3⟩
 ·refine inl ⟨h1,fun i hi ha=>?_⟩;have:=h2 _ ha;rw[fx i hi] at this;omega
 by_cases e:∃i,i<n/\x=(jZ M n).getD i 0
 ·obtain⟨i,hi,rfl⟩:=e;rw[fx i hi] at h2;refine inr ⟨i,hi,h2.symm,hx,fun j hj ha=>?_⟩;rcases h3 _ ha with h4|h4
  ·rw[fx j (by omega)] at h4;omega
  rw[fx j (by omega)] at h4;omega
 have:=gm x fun i hi he=>e ⟨i,hi,he⟩
 omega
def Jy(n:Nat)(T:Nat->Rx)(X:Dd):Prop:=∀(z:Nat->Nat) (m:Nat),(∀j,z j<256)->gP n (fun i=>dI (T i) ((range m).map z)) (bu X (bD X 0 z m))
theorem zl2(hw:∀i,i<n->(T i).wf){z:Nat->Nat}{m:Nat}(hz:∀j,z j<256)(hl:bU (iC (uo (fun j=>gj (T j)) n) (mw (fun i=>(jZ (fun j=>gj (T j)) n).getD i 0) n)) (ct (uE (fun j=>gj (T j)) n) 0 z m) r):gP n (fun i=>dI (T i) ((range m).map z)) r:=by
 refine (zib (fun k _=>B6 _) hl).congr fun i hi=>?_
 rw[NR _ n i hi];rw[(zqC (fun j=>gj (T j)) n (fun k _=>B6 _) i hi).run (B6 _) z m _ (B6 _).t];exact N0 (T i) (hw i hi) z hz m
def MG(l:List Ru)(w:World)(e:Ending)(w':World):Prop:=Below w.heap.size w w'/\
 (
  (∃(i:Nat) (h:i<l.length) (er:Int),er≠0/\fU l i/\yo (l.take i) l[i] er/\e=.returned (.tuple #[.agg (zC 29),.int .i64 er]))\/
  (fU l l.length/\∃T:Nat->Rx,(∀j (h:j<l.length),fu l[j].rx (T j))/\
   (
    (2000<1+2 ^ nB (uE (fun j=>gj (T j)) l.length)/\e=.returned (.tuple #[.agg (zC 29),.int .i64 6]))\/
    ∃(X:Dd) (C:Nat),e=.returned (.tuple #[.agg X.cD,.int .i64 0])/\DM w' X/\Mn X C/\Jy l.length T X)))
theorem fU.rx{l:List Ru}(h:fU l l.length):∃T:Nat->Rx,∀j (hj:j<l.length),fu l[j].rx (T j):=by
 have hx:∀j:Nat,∃t:Rx,∀hj:j<l.length,fu l[j].rx t:=by
  intro j;by_cases hj:j<l.length
  ·rcases h j hj hj with ⟨_,h1⟩|⟨_,⟨_,h1⟩|⟨_,⟨_,h1⟩|⟨_,⟨e5,h1,h2⟩|⟨t,ht,_⟩⟩⟩⟩
   ·omega
   ·omega
   ·omega
   ·rcases h1 with ⟨rfl,_⟩|⟨rfl,_⟩ <;> simp at h2
   exact⟨t,fun _=>ht⟩
  exact⟨.leaf ⟨0,fun _=>false⟩,fun h=>absurd h hj⟩
 exact⟨fun j=>Classical.choose (hx j),fun j hj=>choose_spec (hx j) hj⟩
def CJ(l:List Ru):Prop:=∀j (h:j<l.length),l[j].nm.size<=maxLen/\l[j].rx.size<=40
theorem CJ.b{l:List Ru}(h:CJ l):NO l:=fun j hj=>⟨(h j hj).1,by have:=(h j hj).2;omega⟩
theorem CJ.flat{l:List Ru}(h:CJ l){hj:j<l.length}(ht:fu l[j].rx (T j)):(T j).flat.length<=79:=by
 have h1:=zp2 ht.2.1;have h2:=(h j hj).2;rw[show (aa l[j].rx).length=l[j].rx.size by simp[aa]] at h1;omega
theorem zqY(la:Nat->Nat)(x:Nat):∀k,mw la k x<=((k:Nat):Int):=by
 intro k
 induction k with
 | zero=>show (-1:Int)<=_;omega
 | succ k ih=>
  show (if x=la k then (k:Int) else mw la k x)<=_;split <;> omega
theorem zic{l:List Ru}(hS:CJ l)(hn:l.length<=20)(hT:∀j (h:j<l.length),fu l[j].rx (T j)):
  (uE (fun j=>gj (T j)) l.length).length<=6400/\nB (uE (fun j=>gj (T j)) l.length)<=1000/\uo (fun j=>gj (T j)) l.length<=3201:=by
 refine⟨?_,?_,?_⟩
 ·have h1:=YO (fun j=>gj (T j)) l.length 316 (fun j hj=>by
   have h2:=O7 (T j) 0
   have h3:=hS.flat (hT j hj)
   show (eY (T j) 0).length<=316
   omega)
  have h2:l.length*(316+1)<=20*317:=Nat.mul_le_mul_right _ hn;omega
 ·have h1:=VY (fun j=>gj (T j)) 40 l.length (fun j hj=>by
   have h2:=XV (T j) 0
   have h3:=hS.flat (hT j hj)
   show nB (eY (T j) 0)<=40
   omega)
  have h2:l.length*40<=20*40:=Nat.mul_le_mul_right _ hn;omega
 have h1:=OA (fun j=>gj (T j)) l.length 160 (fun j hj=>by
  have h3:=hS.flat (hT j hj)
  show 2*(T j).flat.length<=160
  omega)
 have h2:l.length*160<=20*160:=Nat.mul_le_mul_right _ hn;omega
theorem zep(n c:Nat)(a:Option Addr)(l:List Ru)(hl:l.length=n)(hn:n<=20)(zn:n<=c)(hS:CJ l)(w:World)(h1:fR w a l):
  Calls prog 7 #[.slice a n c] w (MG l w):=by
 have k0:=al w (.cells (zC 29) 29);have HB:=ζ (St.new w 29 (zC 29)) k0;have H:=ξ h1 hl hS;have A8:=hid (zkp n c a l hl (by omega) zn hS.b (w.alloc (.cells (zC 29) 29)) (h1.below k0));clear k0 h1 hl hS;go_in;go_upto_region 1 with (refine og rfl 29 rfl (zC 29) (lN _) ?_);generalize ay:w.heap.size=b0 at HB⊢;have bW:=hid ay;clear ay;generalize w.alloc (.cells (zC 29) 29)=W0 at HB A8⊢;go_wp2_with (go_at_call 20;refine A8.out.mono ?_);rintro e w1 ⟨b1,⟨lz,rfl⟩|⟨i,hi,er,Bc,nP,hru,rfl⟩|⟨_,nP,rfl⟩⟩
 ·exfalso;have:=H.out.2.1;omega
 ·have H1:=ζ (HB.out.1.ab b1) (HB.out.2.trans (b1.mono (by have:=HB.out.2.size;have:=bW.out;omega)));have her':(er != 0)=true:=by simp[Bc]
  have HF:Hid (MG l w (.returned (.tuple #[.agg (zC 29),.int .i64 er])) (w1.setRow b0 (zC 29))):=by
   refine⟨?_,inl ⟨i,hi,er,Bc,nP,hru,rfl⟩⟩;have:=kZ H1.out.2 (Nat.le_refl b0) (zC 29);rw[bW.out];exact this
  clear nP hru b1 A8 Bc;go_wp2_with (first
   | (refine AH rfl 29 _ rfl #[] (by first|rfl|kernel_rfl|(go_simp;done)) (.agg (zC 29)) (GG _) ?_)
   | (refine lO rfl 29 _ _ rfl b0 29 (zC 29) (zC 29) rfl rfl H1.out.1 rfl (by rw[fH,ia]) zS ?_))
  refine bodyPost_ret (xu rfl _ _ b0 (zC 29) _ rfl H1.out.1.setRow.part underlying29 rfl (by rw[fH,ia])) rfl ?_;exact HF.out
 obtain⟨T,hT⟩:=nP.rx;have rL:=ζ nP hT;have H1:=ξ (HB.out.1.ab b1) (HB.out.2.trans (b1.mono (by have:=HB.out.2.size;have:=bW.out;omega))) (by have:=b1.size;have:=HB.out.2.size;have:=HB.out.1.lt;show b0<=w1.heap.size;omega);have Xr:=hid (zeL n c a l T H.out.2.1 hn (fun j hj=>⟨hT j hj,by have:=H.out.2.2.flat (hT j hj);omega,by have:=(H.out.2.2 j hj).2;omega⟩) w1 ((H.out.1.below (by rw[bW.out];exact HB.out.2)).below b1));have p9:=hid (zic H.out.2.2 (by rw[H.out.2.1];exact hn) hT);have XS:Hid (∀k,k<=1+2 ^ nB (uE (fun j=>gj (T j)) n)->2000<k->2000<1+2 ^ nB (uE (fun j=>gj (T j)) l.length)):=fun k h1 h2=>by
  rw[H.out.2.1];omega
 have HE:Hid (∃(EE:List En) (zz:Nat->Int) (U mE:Nat),EE.length=mE/\mE<=6400/\nB EE<=1000/\U<=3201/\sc (U:Int) (EE.map En.z) ((0:Nat):Int) 0=true/\(∀e∈EE,e.f<=9223372036854775807/\e.t<=9223372036854775807)/\(∀x,iC U zz x<32768)/\
   (∀k,k<=1+2 ^ nB EE->2000<k->2000<1+2 ^ nB (uE (fun j=>gj (T j)) l.length))/\
   (∀(z:Nat->Nat) (m:Nat) (r:Int),(∀j,z j<256)->bU (iC U zz) (ct EE 0 z m) r->gP l.length (fun i=>dI (T i) ((range m).map z)) r)/\
   Calls prog 22 #[.slice a n c] w1 (fun e w'=>∃aE cE aM cM,e=.returned (.tuple #[.agg #[.int .i64 (U:Int),.slice aE mE cE,.int .i64 0,.int .i64 0],.slice aM U cM])/\(gV w' aE (EE.map En.z)/\kY w' aM U zz)/\Below w1.heap.size w1 w')):=by
  refine⟨uE (fun j=>gj (T j)) n,mw (fun i=>(jZ (fun j=>gj (T j)) n).getD i 0) n,uo (fun j=>gj (T j)) n,_,rfl,?_,?_,?_,zp5 _ n (fun k _=>B6 _),fun e he=>?_,fun x=>?_,XS.out,fun z m r hz hL=>?_,?_⟩
  ·have:=p9.out.1;rw[H.out.2.1] at this;exact this
  ·have:=p9.out.2.1;rw[H.out.2.1] at this;exact this
  ·have:=p9.out.2.2;rw[H.out.2.1] at this;exact this
  ·have h3:=Nz (fun j=>gj (T j)) n (fun k _=>B6 _) e he
   have h4:=p9.out.2.2
   rw[H.out.2.1] at h4
   omega
  ·have h3:=zqY (fun i=>(jZ (fun j=>gj (T j)) n).getD i 0) x n
   unfold iC
   split
   ·split <;> omega
   ·omega
  ·rw[H.out.2.1]
   exact zl2 (fun i hi=>(hT i (by rw[H.out.2.1];exact hi)).1) hz hL
  ·exact Xr.out.mono fun e w' ⟨aE,cE,aM,cM,h1,h2,h3,h4⟩=>⟨aE,cE,aM,cM,h1,⟨h2,h3⟩,h4⟩
 obtain⟨EE,zz,U,mE,h1,h2,h3,h4,h5,h6,h7,h8,h9,hA⟩:=HE.out;have HSb:=hid hA;have OE:=ξ h7 h8 h9;have cZ:Hid (∀(W:World) (aE:Option Addr) (cE:Nat) (aM:Option Addr) (cM:Nat),gV W aE (EE.map En.z)/\kY W aM U zz->Calls prog 21 #[.agg #[.int .i64 (U:Int),.slice aE mE cE,.int .i64 0,.int .i64 0],.slice aM U cM] W (oZ EE 0 (iC U zz) W)):=fun W aE cE aM cM hh=>zql _ 0 0 EE aE mE cE aM U cM zz W hh.2 (by omega) hh.1 h1 h2 (by rw[U7];exact h3) (by omega) h6 h5
 clear nP b1 A8 HE XS Xr h1 h2 h3 h4 h5 h6 h7 h8 h9 hA hT;go_upto_region 4 with fail;go_upto_region 5 with (first
  | (go_at_call 22;refine HSb.out.mono ?_;rintro e w2 ⟨aE,cE,aM,cM,rfl,Z2,b2⟩)
  | (go_at_call 21;refine (cZ.out _ _ _ _ _ Z2).mono ?_;rintro e w3 ⟨cD,er,nm,L',f0,s0,k,R,SS,rfl,b3,Iz,dc,Dm,uY⟩)
  | (refine og rfl 29 rfl (zC 29) (lN _) ?_)
  | (refine lO rfl 29 _ _ rfl w3.heap.size 29 (zC 29) cD rfl rfl (St.new w3 _ _) (by rw[ia,dc]) (by rw[fH,dc]) Dm ?_))
 try simp only[put,sA]
 have I9:=ζ dc Dm;have KA:=hid Iz;have kV:Below w3.heap.size w3 ((w3.alloc (.cells (zC 29) 29)).setRow w3.heap.size cD):=kZ (al w3 _) (Nat.le_refl _) _;have sV:St ((w3.alloc (.cells (zC 29) 29)).setRow w3.heap.size cD) 29 w3.heap.size cD:=(St.new w3 _ _).setRow;have zF:=b3.size;have cG:=b2.size;have H7:Hid (St ((w3.alloc (.cells (zC 29) 29)).setRow w3.heap.size cD) 29 b0 (zC 29)/\Below b0 w ((w3.alloc (.cells (zC 29) 29)).setRow w3.heap.size cD)):=by
  have hz:=H1.out.2.2;exact⟨((H1.out.1.ab b2).ab b3).ab kV,((H1.out.2.1.trans (b2.mono hz)).trans (b3.mono (by omega))).trans (kV.mono (by omega))⟩
 have pn:Hid (b0<=w3.heap.size):=by have:=H1.out.2.2;show b0<=_;omega
 obtain⟨b7,uW⟩:∃b7,w3.heap.size=b7:=⟨_,rfl⟩
 have Gp:=hid uW;rw[uW] at kV sV H7;rw[uW];clear uW Iz dc Dm zF cG b3 b2 Z2 HSb cZ;rcases uY with ⟨rfl,lz,rfl⟩|⟨rfl,hk,fm,ms,hD,ma,lW⟩
 ·generalize (w3.alloc (.cells (zC 29) 29)).setRow b7 (zC 29)=V at kV sV H7⊢;have HF:Hid (MG l w (.returned (.tuple #[.agg (zC 29),.int .i64 6])) (V.setRow b0 (zC 29))):=by
   refine⟨?_,inr ⟨rL.out.1,T,rL.out.2,inl ⟨?_,rfl⟩⟩⟩
   ·have:=kZ H7.out.2 (Nat.le_refl b0) (zC 29);rw[bW.out];exact this
   exact OE.out.2.1 _ (zfa KA.out) lz
  clear lz kV sV;go_wp2_with (first
   | (refine AH rfl 29 _ rfl #[] (by first|rfl|kernel_rfl|(go_simp;done)) (.agg (zC 29)) (GG _) ?_)
   | (refine lO rfl 29 _ _ rfl b0 29 (zC 29) (zC 29) rfl rfl H7.out.1 rfl (by rw[fH,ia]) zS ?_))
  refine bodyPost_ret (xu rfl _ _ b0 (zC 29) _ rfl H7.out.1.setRow.part underlying29 rfl (by rw[fH,ia])) rfl ?_;exact HF.out
 obtain⟨D,rfl,Ha,E5,TF,BL⟩:=zo0 (mf:=iC U zz) OE.out.1 KA.out I9.out.1 I9.out.2 hk fm hD ma lW;have tR:=Ha.below (by rw[Gp.out];exact kV);generalize (w3.alloc (.cells (zC 29) 29)).setRow b7 D.cD=V at kV sV H7 tR⊢;have HX:Hid (∀z m,(∀j,z j<256)->bU (iC U zz) (ct EE 0 z m) (bu D (bD D 0 z m))):=BL;have AG:=hid (Vo D _ E5 V tR);have Kk:=ζ sV tR;have TV:Hid (b0<=V.heap.size):=by have:=pn.out;have:=kV.size;have:=Gp.out;show b0<=_;omega
 clear Ha E5 TF BL hk fm hD ma lW kV sV tR;go_upto_region 7 with fail;go_wp2_with (first
  | (refine js (by rfl) 29 _ rfl ⟨b7,0,none⟩ rfl D.cD _ Kk.out.1.part underlying29 rfl Kk.out.2.info ?_)
  | (go_at_call 23;refine AG.out.mono ?_;rintro e w9 ⟨X,C',rfl,qG,pr,Rr,_,b9⟩)
  | (refine lO rfl 29 _ _ rfl b0 29 (zC 29) X.cD rfl rfl (H7.out.1.ab b9) (by rw[ia,qG.sz]) (by rw[fH,qG.sz]) qG.one ?_))
 refine bodyPost_ret (xu rfl _ _ b0 X.cD _ rfl (H7.out.1.ab b9).setRow.part underlying29 rfl (by rw[fH,qG.sz])) rfl ?_;refine⟨?_,inr ⟨rL.out.1,T,rL.out.2,inr ⟨X,C',rfl,(bg.stored pr.r qG (H7.out.1.ab b9)).dm,pr,fun z k hz=>?_⟩⟩⟩
 ·have:=kZ (H7.out.2.trans (b9.mono TV.out)) (Nat.le_refl b0) X.cD;rw[bW.out];exact this
 rw[Rr z k hz];exact OE.out.2.2 z k _ hz (HX.out z k hz)
theorem dV.again{k t e:TypeId}{b:Nat}{Q:Value->Value->Prop}(h:dV w k b n Q)(K:Keyed prog k)(ht:prog.underlying t=some (.map k e))
  {key val:Value}{kl:Lit}(ef:keyOf prog k key=some kl) (hv:Q key val):
  ∃w',(Instr.mapUpdate t (.map (some b)) key val).run prog w=.ok () w'/\dV w' k b n Q/\w.grownBy w' (some b):=by
 obtain⟨es,clock,hb,F,hs,hq,eo⟩:=h;rcases K.find w ef es.toList F.keys with ⟨h1,h2⟩|⟨j,e0,h1,h2,h3⟩
 ·obtain⟨e1,h4,h5⟩:=eo _ _ hv;exact absurd h5 (h2 e1 h4)
 have hj:es[j]?=some e0:=by simpa using h2
 have hjl:j<es.toList.length:=(List.getElem?_eq_some_iff.1 h2).1;have re:∀e',es[j]?=some e'->({ e' with key:=key,val:=val }:MapEntry).key=e'.key:=fun e' jX=>by rw[hj] at jX;cases jX;exact h3.symm
 have jV:(es.modify j (fun e'=>{ e' with key:=key,val:=val })).toList=es.toList.set j { e0 with key:=key,val:=val }:=by rw[Array.toList_modify,modify_eq_set _ _ _ _ h2]
 have Bz:∀x∈es.toList.set j { e0 with key:=key,val:=val },x={ e0 with key:=key,val:=val }\/x∈es.toList:=by
  intro x hx;obtain⟨i,hi,ex⟩:=List.getElem_of_mem hx;rw[List.getElem_set] at ex;split at ex
  ·exact inl ex.symm
  exact inr (ex ▸ getElem_mem _)
 refine⟨setBlock w b (.map (es.modify j (fun e'=>{ e' with key:=key,val:=val })) clock),?_,⟨_,clock,heap_setBlock_same hb _,⟨by simpa using F.size,stamped_modify F.stamped _ _ (fun _ _=>rfl) (fun e' _ jX=>re e' jX),fun x hx=>?_⟩,by simpa using hs,fun x hx=>?_,fun x y hx=>?_⟩,⟨rfl,rfl,rfl,by simp[setBlock],fun i _ hi=>heap_setBlock_other hb _ (fun e=>hi (by rw[e]))⟩⟩
 ·simp[Instr.mapUpdate,run_underlying ht,MapKept.run_getObj_map hb,K.check w false ef,h1,hj,h3,K.stays w ef,MapKept.run_setObj_map _ hb,Result.andThen,setBlock]
 ·rw[jV] at hx;rcases Bz x hx with rfl|xr
  ·exact⟨(kl,.held val),by unfold WideElems.rd fP;rw[ef];rfl⟩
  exact F.reads x xr
 ·rw[jV] at hx;rcases Bz x hx with rfl|xr
  ·exact hv
  exact hq x xr
 obtain⟨e1,h4,h5⟩:=eo x y hx;obtain⟨i,hi,ex⟩:=List.getElem_of_mem h4;rw[jV];by_cases hij:j=i
 ·subst hij;have:e0=e1:=by rw[<-ex];exact (Option.some.inj ((List.getElem?_eq_getElem hi).symm.trans h2)).symm
  exact⟨{ e0 with key:=key,val:=val },List.mem_of_getElem? (by rw[List.getElem?_set_self hjl]),by show key=x;rw[<-h3,this,h5]⟩
 exact⟨e1,by rw[<-ex,<-List.getElem_set_ne hij (by simpa using hi)];exact getElem_mem _,h5⟩
def Q2(L:List Nat)(x y:Value):Prop:=∃s:Nat,s∈L/\x=.int .i64 ((s:Nat):Int)/\y=.agg #[]
def jA(w:World)(b:Nat)(L:List Nat):Prop:=L.Nodup/\dV w 3 b L.length (Q2 L)
theorem jA.ab{b:Nat}(h:jA w b L)(k:Below w.heap.size w w'):jA w' b L:=⟨h.1,h.2.same (k.block _ h.2.lt)⟩
theorem jA.put{b:Nat}(h:jA w b L)(hx:x<=1000000)(hn:L.length<maxLen):
  ∃w' L',(Instr.mapUpdate 70 (.map (some b)) (.int .i64 (x:Int)) (.agg #[])).run prog w=.ok () w'/\jA w' b L'/\(∀y,y∈L'↔y∈L\/y=x)/\L'.length<=L.length+1/\w.grownBy w' (some b):=by
 by_cases e:x∈L
 ·obtain⟨w',h1,h2,h3⟩:=h.2.again zc underlying70 (Cc x (by omega)) (val:=.agg #[]) ⟨x,e,rfl,rfl⟩;exact⟨w',L,h1,⟨h.1,h2⟩,fun y=>⟨inl,fun hh=>hh.elim id fun hh=>hh ▸ e⟩,by omega,h3⟩
 obtain⟨w',h1,h2,h3⟩:=h.2.update (Q':=Q2 (x :: L)) zc underlying70 hn (Cc x (by omega)) (val:=.agg #[]) (by
   rintro y ⟨s,hs,h2,_⟩
   rw[<-JP h2] at hs
   exact e hs) (by
   rintro a b ⟨s,hs,h2,h3⟩
   exact⟨s,mem_cons_of_mem _ hs,h2,h3⟩) ⟨x,List.mem_cons_self ..,rfl,rfl⟩ (by
   rintro a b ⟨s,hs,h2,h3⟩ hne
   rcases List.mem_cons.1 hs with rfl|hs
   ·exact absurd h2 hne
   ·exact⟨b,s,hs,h2,h3⟩)
 exact⟨w',x :: L,h1,⟨List.nodup_cons.2 ⟨e,h.1⟩,h2⟩,fun y=>by rw[List.mem_cons];exact or_comm,by simp,h3⟩
theorem zh2(w:World):(zeroValue 72).run prog w=.ok (.agg #[]) w:=by kernel_rfl
theorem zka(W:World):(Instr.makeMap 70 none).run prog W=.ok (.map (some W.heap.size)) (W.alloc (.map #[] 0)):=by
 kernel_rfl
theorem jA.made(w:World):jA (w.alloc (.map #[] 0)) w.heap.size []:=⟨List.nodup_nil,dV.made w _ (Q2 []) fun x y ⟨s,h,_⟩=>by simp at h⟩
theorem jA.look{b:Nat}(h:jA w b L)(hx:x<=1000000):
  (Instr.lookup 70 (.map (some b)) (.int .i64 (x:Int)) true).run prog w=.ok (.tuple #[.agg #[],.bool (decide (x∈L))]) w:=by
 rcases h.2.ex.nH zc underlying70 (zh2 w) (Cc _ (by omega:x<=9223372036854775807)) with ⟨cy,gm⟩|⟨v,⟨s,h1,h2,rfl⟩,cy⟩
 ·have:¬x∈L:=fun hm=>gm _ ⟨x,hm,rfl,rfl⟩
  simp only[this,decide_false];exact cy
 rw[<-JP h2] at h1;simp only[h1,decide_true];exact cy
theorem jA.len{b:Nat}{ty:TypeId}(h:jA w b L):(Builtin.len_ #[70] ty #[.map (some b)]).run prog w=.ok (.int .i64 (L.length:Int)) w:=
 h.2.len (t:=70) (ty:=ty) (by rw[underlying70];rfl)
def Gw(D:Dd)(n k:Nat)(L:List Nat):Prop:=∀y,y∈L↔y<n/\∃st,st<k/\AP D 0 st/\bu D ((st:Nat):Int)=((y:Nat):Int)
def G6(D:Dd)(n:Nat)(w:World)(e:Ending)(w':World):Prop:=∃b L,e=.returned (.map (some b))/\jA w' b L/\Gw D n D.n L/\Below w.heap.size w w'
structure nv (D:Dd)(n:Nat)(W1:World)(k:Nat)(f:Nat->Bool)(a:Option Addr)(c:Nat)(w:World)(L:List Nat):Prop where
 set:jA w W1.heap.size L
 mem:Gw D n k L
 len:L.length<=k
 own:w.ownsRow W1.heap.size 4 1 (.slice a D.n c) D.n (fG f D.n)
 below:Below W1.heap.size W1 w
theorem nv.ab(h:nv D n W1 k f a c w L)(kk:Below w.heap.size w w'):nv D n W1 k f a c w' L:=
 ⟨h.set.ab kk,h.mem,h.len,db h.own kk,h.below.trans (kk.mono h.below.size)⟩
theorem nv.skip(h:nv D n W1 k f a c w L)(gm:¬(AP D 0 k/\0<=bu D (k:Int)/\bu D (k:Int)<n)):nv D n W1 (k+1) f a c w L:=by
 refine⟨h.set,fun y=>?_,by have:=h.len;omega,h.own,h.below⟩;rw[h.mem y];refine⟨fun ⟨h1,st,h2,h3⟩=>⟨h1,st,by omega,h3⟩,fun ⟨h1,st,h2,h3,h4⟩=>⟨h1,st,?_,h3,h4⟩⟩;by_cases e:st=k
 ·subst e;exact absurd ⟨h3,by omega,by omega⟩ gm
 omega
theorem nv.put(h:nv D n W1 k f a c w L)(hk:k<=1000000)(hx:x<=1000000)(hr:AP D 0 k)(he:bu D (k:Int)=x)(hn:x<n):
  ∃w' L',(Instr.mapUpdate 70 (.map (some W1.heap.size)) (.int .i64 (x:Int)) (.agg #[])).run prog w=.ok () w'/\nv D n W1 (k+1) f a c w' L':=by
 have hl:=h.len;obtain⟨w',L',h1,h2,h3,h4,h5⟩:=h.set.put hx (by unfold maxLen;omega);refine⟨w',L',h1,h2,fun y=>?_,by omega,wV h.own h.set.2.ex.of h5,h.below.grown h5 h.below.size (fun g e=>by injection e with e;omega)⟩;rw[h3,h.mem y];constructor
 ·rintro (⟨h1,st,h2,h6⟩|rfl)
  ·exact⟨h1,st,by omega,h6⟩
  exact⟨hn,k,by omega,hr,he⟩
 rintro⟨h1,st,h2,h6,h7⟩;by_cases e:st=k
 ·subst e;rw[he] at h7;exact inr (Int.ofNat.inj h7).symm
 exact inl ⟨h1,st,by omega,h6,h7⟩
theorem znC(hR:DR D C)(st:Int):-1<=bu D st/\bu D st<32768:=by
 unfold bu;split
 ·exact hR.q _ (by omega)
 omega
theorem zlQ(D:Dd)(C:Nat)(hR:DR D C)(n:Nat)(hn:n<=1000000)(w:World)(hD:DM w D):
  Calls prog 35 #[.agg D.cD,.int .i64 (n:Int)] w (G6 D n w):=by
 have ju:=zka;have cU:=hR.n2;have HB:=ξ (bg.new hD) (al w (.cells D.cD 29)) hR;clear hD hR;go_in;go_upto_region 1 with fail;generalize w.alloc (.cells D.cD 29)=W0 at HB⊢;generalize ay:w.heap.size=b0 at HB⊢;have bW:=hid ay;clear ay;go_upto_region 2 with fail;have k1:=al W0 (.map #[] 0);have uB:=hid (HB.out.1.ab k1);have RE:=hid (ziv D C 0 (W0.alloc (.map #[] 0)) uB.out.dm HB.out.2.2);have FY:=ζ (jA.made W0) k1;clear k1;obtain⟨W2,kq⟩:∃W2,W0.alloc (.map #[] 0)=W2:=⟨_,rfl⟩
 rw[kq] at uB RE FY;rw[kq];obtain⟨bM,oo⟩:∃bM,W0.heap.size=bM:=⟨_,rfl⟩
 have O9:Hid (W0.heap.size=bM/\bM<=W2.heap.size):=⟨oo,by rw[<-oo,<-kq];simp⟩
 rw[oo];clear oo kq;have hS:=uB.out.st.part;go_wp2_with (first
  | (refine js (by rfl) 29 _ rfl ⟨b0,0,none⟩ rfl D.cD _ uB.out.st.part underlying29 rfl uB.out.dm.info ?_)
  | (go_at_call 58;refine RE.out.mono ?_;rintro e w3 ⟨f,a,c,rfl,hO,hf,b3⟩))
 have HI:Hid (nv D n W0 0 f a c w3 []):=by
  have h1:=FY.out.2;have h2:=O9.out;refine⟨FY.out.1.ab b3,fun y=>⟨fun h=>by simp at h,fun ⟨_,st,h,_⟩=>absurd h (by omega)⟩,by simp,gn hO (by omega),h1.trans (b3.mono (by omega))⟩
 have Hf:=hid hf;clear hO hf b3 FY RE hS;go_loopw [6,7,8,13] (fun _ _ _ v wr=>∃k:Nat,v=.int .i64 k/\k<=D.n/\Hid (∃L,nv D n W0 k f a c wr L)) (fun _ _ _ v _=>D.n-(intOf v).toNat)
 ·exact⟨0,rfl,zero_le _,_,HI.out⟩
 obtain⟨k,rfl,hk,HL⟩:=hrel;by_cases aq:k<D.n
 ·obtain⟨L,hI⟩:=HL.out;obtain⟨g,off,rfl,hg,hc⟩:=Ix hI.own (by omega);have d0:=hc k aq;have i1:(k:Int)<(D.n:Int):=by omega
  have HI:=hid hI;have Md:=hid (HB.out.1.ab hI.below);have uv:=hid (zhe D C HB.out.2.2 (k:Int) wr Md.out.dm);have hmb:=znC HB.out.2.2 (k:Int);obtain⟨m,hm⟩:∃m,bu D (k:Int)=m:=⟨_,rfl⟩
  rw[hm] at hmb;have Hm:=hid hm;clear hI hg hc HL;go_upto_region 6 with (first
   | (refine js (by rfl) 29 _ rfl ⟨b0,0,none⟩ rfl D.cD _ Md.out.st.part underlying29 rfl Md.out.dm.info ?_)
   | (go_at_call 59;refine uv.out.mono ?_;rintro e w4 ⟨rfl,b4⟩))
  try rw[hm]
  have zZ:=hid (HI.out.ab b4);clear b4 uv Md hm HI;have Cy:=Hf.out k aq;by_cases yK:f k=true
  ·have Py:=hid (Cy.1 yK);clear Cy;rw[yK];by_cases jd:m=-1
   ·subst jd;have HN:=hid (zZ.out.skip fun h=>by have h2:=h.2.1;rw[Hm.out] at h2;omega);go_wp2;go_roundw
    ·exact⟨k+1,by go_num,by omega,L,HN.out⟩
    simp[intOf];omega
   obtain⟨x,rfl⟩:∃x:Nat,m=(x:Int):=(⟨m.toNat,by omega⟩);have i2:((x:Int) != -1)=true:=(by simp);by_cases jl:x<n
   ·have i3:(x:Int)<n:=(by omega);obtain⟨w5,L5,wF,xm⟩:=zZ.out.put (by omega) (by omega) Py.out Hm.out jl;rw[O9.out.1] at wF;have Gh:=hid xm;clear xm;go_wp2;go_roundw
    ·exact⟨k+1,by go_num,by omega,L5,Gh.out⟩
    simp[intOf];omega
   have i3:¬(x:Int)<n:=(by omega);have HN:=hid (zZ.out.skip fun h=>by have h2:=h.2.2;rw[Hm.out] at h2;omega);go_wp2;go_roundw
   ·exact⟨k+1,by go_num,by omega,L,HN.out⟩
   simp[intOf];omega
  have Py:Hid (¬AP D 0 k):=fun h=>yK (Cy.2 h)
  clear Cy;rw[Bool.eq_false_iff.2 yK];have HN:=hid (zZ.out.skip fun h=>Py.out h.1);go_wp2;go_roundw
  ·exact⟨k+1,by go_num,by omega,L,HN.out⟩
  simp[intOf];omega
 obtain rfl:k=D.n:=by omega
 obtain⟨L,hI⟩:=HL.out;have HI:=hid hI;have HZ:Hid (G6 D n w (.returned (.map (some bM))) wr):=by
  have h1:=O9.out.1;have h2:=HB.out.2.1;have h3:=HI.out.below;have h4:=h2.size;refine⟨bM,L,rfl,by rw[<-h1];exact HI.out.set,HI.out.mem,?_⟩;rw[bW.out];exact h2.trans (h3.mono (by have:=HB.out.1.st.lt;omega))
 clear hI HL;go_wp2;go_ret;exact HZ.out
theorem zkb:∀(n:Nat) (L:List Nat),L.Nodup->(∀y∈L,y<n)->L.length<=n/\(n<=L.length->∀y,y<n->y∈L):=by
 intro n
 induction n with
 | zero=>
  intro L _ h
  cases L with
  | nil=>exact⟨Nat.le_refl _,fun _ y hy=>absurd hy (by omega)⟩
  | cons x l=>exact absurd (h x (List.mem_cons_self ..)) (by omega)
 | succ n ih=>
  intro L hn h;by_cases e:n∈L
  ·have h1:=ih (L.erase n) (hn.erase n) fun y hy=>by
    have h2:=h y (List.mem_of_mem_erase hy);have h3:y≠n:=((List.Nodup.mem_erase_iff hn).1 hy).1;omega
   have h4:=List.length_erase_of_mem e;have h5:0<L.length:=List.length_pos_of_mem e;refine⟨by omega,fun hl y hy=>?_⟩;by_cases e2:y=n
   ·rw[e2];exact e
   exact List.mem_of_mem_erase (h1.2 (by omega) y (by omega))
  have h1:=ih L hn fun y hy=>by
   have h2:=h y hy;have h3:y≠n:=(fun e3=>e (e3 ▸ hy));omega
  exact⟨by omega,fun hl=>absurd hl (by omega)⟩
def Cm(D:Dd)(y:Nat):Prop:=∃st,st<D.n/\AP D 0 st/\bu D ((st:Nat):Int)=((y:Nat):Int)
def Ar(D:Dd)(n:Nat)(w:World)(e:Ending)(w':World):Prop:=∃(a:Option Addr) (m c:Nat) (p:Nat->Bool),e=.returned (.slice a m c)/\(∀y,y<n->(p y=true↔¬Cm D y))/\
 w'.ownsRow w.heap.size 3 1 (.slice a m c) m (cY ((range n).filter p))/\Below w.heap.size w w'
theorem zkc(D:Dd)(C:Nat)(hR:DR D C)(n:Nat)(hn:n<=1000000)(w:World)(hD:DM w D):
  Calls prog 19 #[.agg D.cD,.int .i64 (n:Int)] w (Ar D n w):=by
 have cU:=hR.n2;have HB:=ξ (bg.new hD) (al w (.cells D.cD 29)) hR;have tq:=(hR.il hD.kl).2;clear hD hR;go_in;go_upto_region 1 with fail;generalize w.alloc (.cells D.cD 29)=W0 at HB⊢;generalize ay:w.heap.size=b0 at HB⊢;have bW:=hid ay;clear ay;have GS:=hid (zj5 D (by omega) (by rw[HB.out.2.2.m];omega) (fun i hi=>by rw[HB.out.2.2.len i hi];omega) W0 HB.out.1.dm);go_upto_region 3 with (first
  | (refine js (by rfl) 29 _ rfl ⟨b0,0,none⟩ rfl D.cD _ HB.out.1.st.part underlying29 rfl HB.out.1.dm.info ?_)
  | (go_at_call 34;refine GS.out.mono ?_))
 rintro e w1 ⟨bt,rfl,km,b1⟩;obtain rfl:bt=true:=km.2 ⟨C,HB.out.2.2⟩;have H1:=ζ (HB.out.1.ab b1) (HB.out.2.1.trans (b1.mono (by have:=HB.out.1.st.lt;omega)));have B9:=hid (zlQ D C HB.out.2.2 n hn w1 H1.out.1.dm);clear km b1 GS;go_upto_region 4 with (first
  | (refine js (by rfl) 29 _ rfl ⟨b0,0,none⟩ rfl D.cD _ H1.out.1.st.part underlying29 rfl H1.out.1.dm.info ?_)
  | (go_at_call 35;refine B9.out.mono ?_;rintro e w2 ⟨bL,L,rfl,Au,tm,b2⟩))
 have hlen:=Au.len (ty:=3);have B7:=zkb n L Au.1 fun y hy=>((tm y).1 hy).1
 have H2:=ξ Au tm (H1.out.2.trans (b2.mono (by have:=H1.out.1.st.lt;omega)));have ay:b0<w2.heap.size:=by have:=H1.out.1.st.lt;have:=b2.size;omega
 obtain⟨ln,lC⟩:∃ln,L.length=ln:=⟨_,rfl⟩
 rw[lC] at hlen B7;have Hcn:=hid B7.2;have gq:=B7.1;obtain⟨oO,Pq⟩:∃oO,n-ln=oO:=⟨_,rfl⟩
 have e1:IntKind.i64.wrap ((n:Int)-(ln:Int))=(oO:Int):=by
  rw[IntWalk.i64_in _ (by omega)];omega
 clear Au tm b2 B9 B7;by_cases h0:oO=0
 ·have HZ:Hid (Ar D n w (.returned (.slice none 0 0)) w2):=by
   refine⟨none,0,0,fun _=>false,rfl,fun y hy=>⟨fun h=>by simp at h,fun h=>absurd ?_ h⟩,?_,by rw[bW.out];exact H2.out.2.2⟩
   ·exact ((H2.out.2.1 y).1 (Hcn.out (by omega) y hy)).2
   rw[show (range n).filter (fun _=>false)=[] by simp];exact World.ownsRow_nil _ _ _ _
  subst h0;have i2:((0:Nat):Int)<=0:=by omega
  go_wp2;go_ret;exact HZ.out
 have i2:¬(oO:Int)<=0:=by omega
 have i3:¬(oO:Int) > 2147483647:=by omega
 have fJ:=Px oO (by omega);have hO:=RX oO (by omega) w2 b0 (by omega);have k2:=al w2 (.cells (madeCells #[.int .i64 0] oO) 3);go_upto_region 8 with fail;have H3:=ξ (H2.out.1.ab k2) (H2.out.2.2.trans (k2.mono (by omega))) hO;generalize w2.alloc (.cells (madeCells #[.int .i64 0] oO) 3)=W3 at H3⊢;clear hO k2 fJ e1 i2 i3 hlen Pq lC;go_wp2;go_loopw [7,8,9,10,30] (fun v7 _ _ _ v wr=>∃(k m:Nat) (a:Option Addr) (c:Nat),v=.int .i64 k/\k<=n/\v7=.slice a m c/\m<=k/\Hid (wr.ownsRow b0 3 1 (.slice a m c) m (cY ((range k).filter fun y=>!decide (y∈L)))/\jA wr bL L/\Below b0 w wr)) (fun _ _ _ _ v _=>n-(intOf v).toNat)
 ·exact⟨0,0,_,_,rfl,zero_le _,rfl,Nat.le_refl _,H3.out.2.2,H3.out.1,H3.out.2.1⟩
 obtain⟨k,m,a,c,rfl,hk,rfl,fJ,HI⟩:=hrel;by_cases aq:k<n
 ·have i1:(k:Int)<n:=by omega
  have dE:=HI.out.2.1.look (x:=k) (by omega);by_cases Fs:k∈L
  ·simp only[Fs,decide_true] at dE;have HK:=hid Fs;clear Fs;have k3:=al wr (.cells #[] 72);have HN:Hid ((wr.alloc (.cells #[] 72)).ownsRow b0 3 1 (.slice a m c) m (cY ((range (k+1)).filter fun y=>!decide (y∈L)))/\jA (wr.alloc (.cells #[] 72)) bL L/\Below b0 w (wr.alloc (.cells #[] 72))):=by
    refine⟨?_,HI.out.2.1.ab k3,HI.out.2.2.trans (k3.mono (by have:=HI.out.2.2.size;have:=bW.out;omega))⟩;have e:(range (k+1)).filter (fun y=>!decide (y∈L))=(range k).filter fun y=>!decide (y∈L):=by
     rw[range_succ,List.filter_append];simp[HK.out]
    rw[e];exact db HI.out.1 k3
   clear k3;go_wp2;go_roundw
   ·exact⟨k+1,m,a,c,by go_num,by omega,rfl,by omega,HN.out⟩
   simp[intOf];omega
  simp only[Fs,decide_false] at dE;have HK:=hid Fs;clear Fs;have k3:=al wr (.cells #[] 72);have HN:Hid ((wr.alloc (.cells #[] 72)).ownsRow b0 3 1 (.slice a m c) m (cY ((range k).filter fun y=>!decide (y∈L)))/\jA (wr.alloc (.cells #[] 72)) bL L/\Below b0 w (wr.alloc (.cells #[] 72))):=
   ⟨db HI.out.1 k3,HI.out.2.1.ab k3,HI.out.2.2.trans (k3.mono (by have:=HI.out.2.2.size;have:=bW.out;omega))⟩
  clear k3;go_upto_region 13 with fail;generalize wr.alloc (.cells #[] 72)=W4 at HN⊢;obtain⟨i0,hi,dv,cP,cG⟩:=info_parts aG;have dc:b0<=W4.heap.size:=by have:=HN.out.2.2.size;have:=bW.out;omega
  go_wp2_with (at_builtin;refine wpList_append_own_at _ rfl _ _ 27 rfl b0 3 i0 (.int .i64 0) 1 8 underlying27 hi dv cP cG rfl (by decide) _ _ _ rfl (HN.out.1.alloc _) ⟨W4.heap.size,0,none⟩ 1 1 [.int .i64 (k:Int)] rfl rfl (cell_one_new _ _ _) ?d2 ?d3 ?d4 ?d5 ?_)
  case d2=>first|(intro u hu;simp at hu;subst hu;rfl)|rfl
  case d3=>unfold maxLen;omega
  case d4=>omega
  case d5=>first|(simp;omega)|omega
  intro v' w5 ah ag _ bJ;obtain⟨a5,c5,rfl⟩:=bP ah;have HF:Hid (w5.ownsRow b0 3 1 (.slice a5 (m+1) c5) (m+1) (cY ((range (k+1)).filter fun y=>!decide (y∈L)))/\jA w5 bL L/\Below b0 w w5):=by
   have kA:=al W4 (.cells #[.int .i64 (k:Int)] 3);have e:(range (k+1)).filter (fun y=>!decide (y∈L))=((range k).filter fun y=>!decide (y∈L))++[k]:=by
    rw[range_succ,List.filter_append];simp[HK.out]
   refine⟨?_,⟨HN.out.2.1.1,(HN.out.2.1.ab kA).2.ae (HN.out.1.alloc _) ag⟩,fL (HN.out.2.2.trans (kA.mono dc)) (HN.out.1.alloc _) (by have:=kA.size;omega) ag⟩;rw[e];unfold cY at ah⊢;rw[List.map_append];exact ah
  clear ah ag bJ;go_wp2;go_roundw
  ·exact⟨k+1,m+1,a5,c5,by go_num,by omega,rfl,by omega,HF.out⟩
  simp[intOf];omega
 obtain rfl:k=n:=by omega
 have HZ:Hid (Ar D k w (.returned (.slice a m c)) wr):=by
  refine⟨a,m,c,fun y=>!decide (y∈L),rfl,fun y hy=>?_,by rw[bW.out];exact HI.out.1,by rw[bW.out];exact HI.out.2.2⟩;have:=H2.out.2.1 y;simp only[Bool.not_eq_true',decide_eq_false_iff_not];rw[this];exact⟨fun h hs=>h ⟨hy,hs⟩,fun h hs=>h hs.2⟩
 go_wp2;go_ret;exact HZ.out
theorem zke(hR:DR D C)(st:Int){b:Nat}(hb:b<256):-1<=bK D st b/\bK D st b<(D.n:Int):=by
 unfold bK;split
 ·next h=>exact hR.nx st.toNat (D.K b) (by omega) (hR.c.1 b hb)
 omega
def My:Rx:=.bin ⟨2,aJ⟩ (.leaf ⟨1,eP (fun _=>105) 1⟩) (.leaf ⟨1,eP (fun _=>102) 1⟩)
def G7:Nat->Bool:=fun x=>aJ x || ar 97 (122+1-97) x
def Ey:Rx:=.un ⟨5,aJ⟩ (.leaf ⟨1,G7⟩)
def fW:ByteArray:=⟨#[105,102]⟩
def pY:ByteArray:=⟨#[105,100]⟩
def ri:ByteArray:=⟨#[91,97,45,122,93,43]⟩
def jU:List Ru:=[⟨fW,0,fW⟩,⟨pY,0,ri⟩]
theorem Nt:fu fW My:=⟨⟨rfl,by decide +kernel,⟨rfl,by decide +kernel⟩,⟨rfl,by decide +kernel⟩⟩,by kernel_rfl,by decide +kernel⟩
theorem Nq:fu ri Ey:=⟨⟨rfl,by decide +kernel,⟨rfl,by decide +kernel⟩⟩,by kernel_rfl,by decide +kernel⟩
theorem YV:nB (eY My 0)<=2:=by decide +kernel
theorem UF:nB (eY Ey 0)<=2:=by decide +kernel
theorem MZ(c:Nat)(hc:c<256)(s:List Nat):dI (.leaf ⟨1,eP (fun _=>c) 1⟩) s↔s=[c]:=by
 rw[yX,if_pos rfl];constructor
 ·rintro⟨b,rfl,_,h⟩;obtain⟨j,_,e⟩:=(Pb _ _ _).1 h;rw[<-e]
 rintro rfl;exact⟨c,rfl,hc,(Pb _ _ _).2 ⟨0,by omega,rfl⟩⟩
theorem Wj(s:List Nat):dI My s↔s=[105,102]:=by
 unfold My;rw[Ds,if_pos rfl];constructor
 ·rintro⟨u,v,rfl,h1,h2⟩;rw[(MZ 105 (by omega) u).1 h1,(MZ 102 (by omega) v).1 h2];rfl
 rintro rfl;exact⟨[105],[102],rfl,(MZ 105 (by omega) _).2 rfl,(MZ 102 (by omega) _).2 rfl⟩
theorem OI(b:Nat)(h1:97<=b)(h2:b<=122):dI (.leaf ⟨1,G7⟩) [b]:=by
 rw[yX,if_pos rfl];refine⟨b,rfl,by omega,?_⟩;show (aJ b || ar 97 (122+1-97) b)=true;simp[aJ,ar];omega
theorem zpX:dI Ey [105,102,115]:=by
 unfold Ey;rw[zj,if_neg (by decide),if_pos rfl];exact⟨[105],[102,115],rfl,OI 105 (by omega) (by omega),dH.app (u:=[102]) (OI 102 (by omega) (by omega)) (dH.one (OI 115 (by omega) (by omega)))⟩
theorem zpY:¬dI Ey []:=by
 unfold Ey;rw[zj,if_neg (by decide),if_pos rfl];rintro⟨u,v,h,h1,_⟩;rw[yX,if_pos rfl] at h1;obtain⟨b,rfl,_⟩:=h1;simp at h
theorem znG:dN fW=true/\dN pY=true/\fW≠pY/\ir 0=true:=by
 refine⟨by decide +kernel,by decide +kernel,fun h=>?_,by decide⟩;have:fW.data=pY.data:=by rw[h]
 revert this;decide
theorem Yc{pre:List Ru}{x:Ru}{er:Int}(h:yo pre x er)(h1:dN x.nm=true)(h2:∀y∈pre,y.nm≠x.nm)(h3:ir x.k=true)(ht:fu x.rx t)(hn:nB (eY t 0)<=2)(he:¬dI t []):er=0:=by
 rcases h with ⟨h4,_⟩|⟨_,⟨⟨y,hy,e⟩,_⟩|⟨_,⟨h4,_⟩|⟨_,⟨e5,h4,_⟩|⟨t',rZ,h5⟩⟩⟩⟩
 ·rw[h1] at h4;cases h4
 ·exact absurd e (h2 y hy)
 ·rw[h3] at h4;cases h4
 ·exact (ht.ng h4).elim
 have hf:=rZ.flat ht;have hE:=IB rZ.1 ht.1 hf;rcases h5 with ⟨h6,_⟩|⟨h6,_⟩|⟨_,h6⟩
 ·rw[hE] at h6;have:2 ^ nB (eY t 0)<=2 ^ 2:=Nat.pow_le_pow_right (by omega) hn;omega
 ·refine absurd ?_ he;have:=(IN rZ.1 ht.1 hf (fun _=>0) (fun _=>by omega) 0).1;exact this h6
 exact h6
theorem znH(hR:DR D C)(z:Nat->Nat)(hz:∀j,z j<256):∀m,0<=bD D 0 z m->bD D 0 z m<(D.n:Int)/\AP D 0 (bD D 0 z m).toNat:=by
 intro m;have hn:=hR.n1
 induction m with
 | zero=>exact fun _=>⟨by show (0:Int)<_;omega,Int.le_refl _,by omega,jI.base rfl⟩
 | succ m ih=>
  intro h;have h1:bD D 0 z (m+1)=bK D (bD D 0 z m) (z m):=rfl;have h2:=zke hR (bD D 0 z m) (hz m);rw[h1] at h⊢;by_cases e:0<=bD D 0 z m/\bD D 0 z m<(D.n:Int)
  ·obtain⟨h3,h4,h5,h6⟩:=ih e.1;refine⟨h2.2,h4,h5,?_⟩;refine h6.step ⟨by omega,D.K (z m),?_,?_⟩
   ·rw[hR.len _ (by omega)];exact hR.c.1 _ (hz m)
   have e2:bK D (bD D 0 z m) (z m)=D.nx (bD D 0 z m).toNat (D.K (z m)):=(by unfold bK;rw[if_pos e]);rw[<-e2];omega
  unfold bK at h;rw[if_neg e] at h;omega
theorem VO(hR:DR D C)(z:Nat->Nat)(hz:∀j,z j<256)(m y:Nat)(h:bu D (bD D 0 z m)=(y:Int)):Cm D y:=by
 have h0:0<=bD D 0 z m:=by
  by_cases e:0<=bD D 0 z m
  ·exact e
  unfold bu at h;rw[if_neg (by omega)] at h;omega
 obtain⟨h1,h2⟩:=znH hR z hz m h0;refine⟨(bD D 0 z m).toNat,by omega,h2,?_⟩;rw[show (((bD D 0 z m).toNat:Nat):Int)=bD D 0 z m by omega];exact h
def o0:ByteArray:=⟨#[105,102,115]⟩
theorem zpZ(h:MG jU w e w'):∃(X:Dd) (C:Nat),e=.returned (.tuple #[.agg X.cD,.int .i64 0])/\DM w' X/\Mn X C/\bu X (bD X 0 (eW fW) 2)=0/\bu X (bD X 0 (eW o0) 3)=1/\Cm X 0/\Cm X 1/\Below w.heap.size w w':=by
 obtain⟨da,cU,lD,Sl⟩:=znG;have hne:jU.length=2:=rfl;have hr0:∀er,yo (jU.take 0) jU[0] er->er=0:=fun er hr=>Yc hr da (fun y hy=>by simp at hy) Sl Nt YV (fun hh=>by have:=(Wj []).1 hh;simp at this)
 have Bg:∀er,yo (jU.take 1) jU[1] er->er=0:=fun er hr=>Yc hr cU (fun y hy=>by
  have:y=jU[0]:=by simpa [jU] using hy
  rw[this];exact lD) Sl Nq UF zpY
 obtain⟨hb,⟨i,hi,er,he,_,hr,_⟩|⟨_,T,hT,h1⟩⟩:=h
 ·exfalso;have lI:i=0\/i=1:=by omega
  rcases lI with rfl|rfl
  ·exact he (hr0 er hr)
  exact he (Bg er hr)
 have rh:fu fW (T 0):=hT 0 (by omega);have IU:fu ri (T 1):=hT 1 (by omega);have J3:=rh.flat Nt;have FO:=IU.flat Nq;rcases h1 with ⟨h1,_⟩|⟨X,C,rfl,hX,pr,hL⟩
 ·exfalso;rw[hne] at h1;have:=VY (fun j=>gj (T j)) 2 2 (fun k hk=>by
   have fm:k=0\/k=1:=by omega
   rcases fm with rfl|rfl
   ·show nB (eY (T 0) 0)<=2
    rw[IB rh.1 Nt.1 J3];exact YV
   ·show nB (eY (T 1) 0)<=2
    rw[IB IU.1 Nq.1 FO];exact UF)
  have h2:2 ^ nB (uE (fun j=>gj (T j)) 2)<=2 ^ (2*2):=Nat.pow_le_pow_right (by omega) this;omega
 have kB:∀(z:Nat->Nat) (m:Nat),(∀j,z j<256)->(dI (T 0) ((range m).map z)↔(range m).map z=[105,102]):=fun z m hz=>by
  rw[IN rh.1 Nt.1 J3 z hz m,Wj]
 have jD:∀(z:Nat->Nat) (m:Nat),(∀j,z j<256)->(dI (T 1) ((range m).map z)↔dI Ey ((range m).map z)):=fun z m hz=>IN IU.1 Nq.1 FO z hz m
 have e2:(range 2).map (eW fW)=[105,102]:=by decide +kernel
 have e3:(range 3).map (eW o0)=[105,102,115]:=by decide +kernel
 have m0:bu X (bD X 0 (eW fW) 2)=0:=by
  rcases hL (eW fW) 2 (fun j=>uT _ j) with ⟨_,h2⟩|⟨i,hi,h2,_,h4⟩
  ·exact absurd ((kB _ _ (fun j=>uT _ j)).2 e2) (h2 0 (by omega))
  by_cases e:i=0
  ·rw[h2,e];rfl
  exact absurd ((kB _ _ (fun j=>uT _ j)).2 e2) (h4 0 (by omega))
 have m1:bu X (bD X 0 (eW o0) 3)=1:=by
  have kT:¬dI (T 0) ((range 3).map (eW o0)):=fun hh=>by
   have:=(kB _ _ (fun j=>uT _ j)).1 hh;rw[e3] at this;simp at this
  have xe:dI (T 1) ((range 3).map (eW o0)):=(jD _ _ (fun j=>uT _ j)).2 (by rw[e3];exact zpX);rcases hL (eW o0) 3 (fun j=>uT _ j) with ⟨_,h2⟩|⟨i,hi,h2,h3,h4⟩
  ·exact absurd xe (h2 1 (by omega))
  have lI:i=0\/i=1:=by omega
  rcases lI with rfl|rfl
  ·exact absurd h3 kT
  rw[h2];rfl
 exact⟨X,C,rfl,hX,pr,m0,m1,VO pr.r (eW fW) (fun j=>uT _ j) 2 0 m0,VO pr.r (eW o0) (fun j=>uT _ j) 3 1 m1,hb⟩
theorem znB(h:∀y,y<n->Cm D y)(hp:Ar D n w e w'):∃a c,e=.returned (.slice a 0 c)/\Below w.heap.size w w':=by
 obtain⟨a,m,c,p,rfl,h1,h2,h3⟩:=hp;have hf:(range n).filter p=[]:=by
  rw[List.filter_eq_nil_iff];intro y hy hp;have:=List.mem_range.1 hy;exact ((h1 y this).1 hp) (h y this)
 have hl:=h2.1;rw[hf] at hl;have:m=0:=by simpa [cY] using hl.symm
 subst this;exact⟨a,c,rfl,h3⟩
theorem UB(hR:DR D C)(st:Int):kj D st=bu D st:=by
 unfold kj bu;rw[hR.m]
theorem zh1(w:World):Calls prog 5 #[] w fun e w'=>e=.returned (.bool true)/\Below w.heap.size w w':=by
 have kb:=al w (.cells #[.string fW,.int .i64 0,.string fW,.string pY,.int .i64 0,.string ri] 48);have sb:=St.new w 48 #[.string fW,.int .i64 0,.string fW,.string pY,.int .i64 0,.string ri];have XU:fR (w.alloc (.cells #[.string fW,.int .i64 0,.string fW,.string pY,.int .i64 0,.string ri] 48)) (some ⟨w.heap.size,0,none⟩) jU:=fun _=>⟨_,0,rfl,by simp,fun j hj=>by rw[zero_add,sb.at_,show zu jU=[.string fW,.int .i64 0,.string fW,.string pY,.int .i64 0,.string ri] from rfl,List.getElem?_toArray]⟩
 have HM:Hid (Calls prog 7 #[.slice (some ⟨w.heap.size,0,none⟩) 2 2] (w.alloc (.cells #[.string fW,.int .i64 0,.string fW,.string pY,.int .i64 0,.string ri] 48)) fun e w'=>∃(X:Dd) (C:Nat),e=.returned (.tuple #[.agg X.cD,.int .i64 0])/\DM w' X/\(Mn X C/\bu X (bD X 0 (eW fW) 2)=0/\bu X (bD X 0 (eW o0) 3)=1/\Cm X 0/\Cm X 1)/\Below w.heap.size w w'):=by
  refine (zep 2 2 _ jU rfl (by omega) (by omega) (fun j hj=>?_) _ XU).mono fun e w' h=>?_
  ·have hj2:j=0\/j=1:=(by have:j<2:=hj;omega);rcases hj2 with rfl|rfl
   ·exact⟨by show (2:Nat)<=_;decide,by show (2:Nat)<=40;omega⟩
   exact⟨by show (2:Nat)<=_;decide,by show (6:Nat)<=40;omega⟩
  obtain⟨X,C,h1,h2,h3,h4,h5,h6,h7,h8⟩:=zpZ h;exact⟨X,C,h1,h2,⟨h3,h4,h5,h6,h7⟩,kb.trans (h8.mono kb.size)⟩
 clear kb sb XU;go_in;go_upto_region 1 with fail;go_wp2_with (first
  | (go_at_call 7;refine HM.out.mono ?_))
 rintro e w1 ⟨X,C',rfl,xE,hx,b1⟩;have HX:=hid hx;have uz:=hid xE;have ep:=hid (St.new w1 29 (zC 29));have H5:Hid (bg ((w1.alloc (.cells (zC 29) 29)).setRow w1.heap.size X.cD) w1.heap.size X/\Below w.heap.size w ((w1.alloc (.cells (zC 29) 29)).setRow w1.heap.size X.cD)):=
  ⟨bg.stored hx.1.r (xE.below (al _ _)) (St.new _ _ _),b1.trans ((kZ (al _ _) (Nat.le_refl _) _).mono b1.size)⟩
 clear xE hx b1 HM;go_upto_region 2 with (first
  | (refine og rfl 29 rfl (zC 29) (lN _) ?_)
  | (refine lO rfl 29 _ _ rfl w1.heap.size 29 (zC 29) X.cD rfl rfl ep.out (by rw[ia,uz.out.sz]) (by rw[fH,uz.out.sz]) uz.out.one ?_))
 try simp only[put,sA]
 obtain⟨b5,ku⟩:∃b5,w1.heap.size=b5:=⟨_,rfl⟩
 rw[ku] at H5
 try rw[ku]
 generalize (w1.alloc (.cells (zC 29) 29)).setRow b5 X.cD=V at H5⊢;clear ku ep;have cZ:Hid (∀W',Below V.heap.size V W'->Below V.heap.size V W'/\bg W' b5 X):=fun W' h=>⟨h,H5.out.1.ab h⟩
 have mh:Hid (∀W',Below V.heap.size V W'->Below w.heap.size w W'):=fun W' h=>H5.out.2.trans (h.mono H5.out.2.size)
 have Hm0:Hid (kj X (bD X 0 (eW fW) 2)=0):=(UB HX.out.1.r _).trans HX.out.2.1;have Kz:Hid (kj X (bD X 0 (eW o0) 3)=1):=(UB HX.out.1.r _).trans HX.out.2.2.1;refine wp_region_held_drew (S:=fun W'=>Below V.heap.size V W'/\bg W' b5 X) (by kernel_rfl) (cZ.out _ (Below.refl _ _).drew) (fun η=>?_)
 (refine an 0 ?_;refine an 1 ?_;refine an 2 ?_)
 (refine an 3 (v:=.agg X.cD) ?_ (hy:=by intro wz hSw;exact ob (o:=_) (ρ:=_) wz 29 (.tmp 1) rfl ⟨b5,0,none⟩ rfl X.cD _ (bg.st (And.right hSw)).part underlying29 rfl (bg.dm (And.right hSw)).info))
 (refine an 4 (v:=.agg X.cD) ?_ (hy:=by intro wz hSw;exact ob (o:=_) (ρ:=_) wz 29 (.tmp 1) rfl ⟨b5,0,none⟩ rfl X.cD _ (bg.st (And.right hSw)).part underlying29 rfl (bg.dm (And.right hSw)).info);try simp only[put,sA])
 refine bc 5 (fun K hK=>?_);skip;go_simp;go_at_call 11;refine (Qg X C' HX.out.1.r 0 fW 2 rfl (by omega) _ η.2.dm).mono ?_;rintro e w5 ⟨rfl,vv⟩;have bz:Below V.heap.size V w5:=η.1.trans (vv.mono η.1.size);clear vv
 try go_wp2_with fail
 refine hK.out _ _ (cZ.out _ bz) fun η=>?_;clear hK K
 try simp only[put,sA]
 clear bz;refine bc 6 (fun K hK=>?_);skip;go_simp;go_at_call 10;refine (Ku X _ _ η.2.dm (by have:=HX.out.1.r.m;have:=HX.out.1.r.n2;omega)).mono ?_;rintro e w6 ⟨rfl,vv⟩;rw[Hm0.out];have bz:Below V.heap.size V w6:=η.1.trans (vv.mono η.1.size);clear vv
 try go_wp2_with fail
 refine hK.out _ _ (cZ.out _ bz) fun η=>?_;clear hK K
 try simp only[put,sA]
 clear bz
 (refine an 7 ?_;refine an 8 ?_;refine an 9 ?_)
 (refine an 10 (v:=.agg X.cD) ?_ (hy:=by intro wz hSw;exact ob (o:=_) (ρ:=_) wz 29 (.tmp 1) rfl ⟨b5,0,none⟩ rfl X.cD _ (bg.st (And.right hSw)).part underlying29 rfl (bg.dm (And.right hSw)).info))
 (refine an 11 (v:=.agg X.cD) ?_ (hy:=by intro wz hSw;exact ob (o:=_) (ρ:=_) wz 29 (.tmp 1) rfl ⟨b5,0,none⟩ rfl X.cD _ (bg.st (And.right hSw)).part underlying29 rfl (bg.dm (And.right hSw)).info);try simp only[put,sA])
 refine bc 12 (fun K hK=>?_);skip;go_simp;go_at_call 11;refine (Qg X C' HX.out.1.r 0 o0 3 rfl (by omega) _ η.2.dm).mono ?_;rintro e w7 ⟨rfl,vv⟩;have bz:Below V.heap.size V w7:=η.1.trans (vv.mono η.1.size);clear vv
 try go_wp2_with fail
 refine hK.out _ _ (cZ.out _ bz) fun η=>?_;clear hK K
 try simp only[put,sA]
 clear bz;refine bc 13 (fun K hK=>?_);skip;go_simp;go_at_call 10;refine (Ku X _ _ η.2.dm (by have:=HX.out.1.r.m;have:=HX.out.1.r.n2;omega)).mono ?_;rintro e w8 ⟨rfl,vv⟩;rw[Kz.out];have bz:Below V.heap.size V w8:=η.1.trans (vv.mono η.1.size);clear vv
 try go_wp2_with fail
 refine hK.out _ _ (cZ.out _ bz) fun η=>?_;clear hK K
 try simp only[put,sA]
 clear bz
 (refine an 14 ?_;refine an 15 ?_;refine an 16 ?_)
 (refine an 17 (v:=.agg X.cD) ?_ (hy:=by intro wz hSw;exact ob (o:=_) (ρ:=_) wz 29 (.tmp 1) rfl ⟨b5,0,none⟩ rfl X.cD _ (bg.st (And.right hSw)).part underlying29 rfl (bg.dm (And.right hSw)).info);try simp only[put,sA])
 refine bc 18 (fun K hK=>?_);skip;go_simp;go_at_call 19;refine (zkc X C' HX.out.1.r 2 (by omega) _ η.2.dm).mono ?_;intro e w9 hp;obtain⟨a9,c9,rfl,vv⟩:=znB (fun y hy=>by
  have nc:y=0\/y=1:=by omega
  rcases nc with rfl|rfl
  ·exact HX.out.2.2.2.1
  ·exact HX.out.2.2.2.2) hp
 clear hp;have bz:Below V.heap.size V w9:=η.1.trans (vv.mono η.1.size);clear vv
 try go_wp2_with fail
 refine hK.out _ _ (cZ.out _ bz) fun η=>?_;clear hK K
 try simp only[put,sA]
 clear bz
 (refine an 19 ?_;refine an 20 ?_;refine an 21 ?_;try simp only[put,sA];refine an 22 ?_;try simp only[put,sA])
 refine wpAnyH_done (by kernel_rfl) ?_ _;have HF:=hid (mh.out _ η.1);clear η;go_wp2;go_ret;exact⟨rfl,HF.out⟩
