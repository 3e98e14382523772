import Derived.Test.YtkkhakmdjinenaaGreatZPRef8
import Derived.Test.YtkkhakmdjinenaaGreatZQExp
set_option linter.all false
set_option maxHeartbeats 4000000
set_option maxRecDepth 100000
open Go.Lib (hid)
namespace Go.Proofs.YtkkhakmdjinenaaGreat
open Go.RowKit Go.Maps Go.WideElems Go.ChangeMaps Go.MapKept Go.Proofs.Tryz
open List (ext_getElem? filter_cons getD_eq_getElem?_getD getElem_mem length_append length_cons length_map length_nil map_cons mem_cons_of_mem range range_succ)
open Or (inl inr)
open Classical (choose_spec)
open Nat (le_of_lt zero_add zero_le)
open Act (put)
variable {A:Nat->Option Addr}{B C F c j k n x:Nat}{D:Dd}{L nm:List Nat}{L':List En}{M:Nat->NF}{R:List (List Int)}{SS:List (Nat->Bool)}{T:Nat->Rx}{W0 W1 w w':World}{a:Option Addr}{e:Ending}{f s0:Nat->Bool}{mf:Nat->Int}{r:Int}{t t':Rx}
theorem T9(K:Nat->Lit):∀(n i:Nat) (h:i<(rl K n).length),cls K (rl K n)[i]=i/\(rl K n)[i]<n:=by
 intro n
 induction n with
 | zero=>intro i h;simp[rl] at h
 | succ n ih=>
  intro i h;by_cases e:cls K n=(rl K n).length
  ·have e2:rl K (n+1)=rl K n++[n]:=(by rw[rl,if_pos e]);simp only[e2] at h⊢;by_cases hi:i<(rl K n).length
   ·rw[List.getElem_append_left hi];have:=ih i hi;exact⟨this.1,by omega⟩
   have lv:i=(rl K n).length:=(by simp at h;omega);subst lv;simp[e]
  have e2:rl K (n+1)=rl K n:=by rw[rl,if_neg e]
  simp only[e2] at h⊢;have:=ih i h;exact⟨this.1,by omega⟩
theorem zqv(K:Nat->Lit):qi (cls K) (rl K 256).length/\∀c,c<(rl K 256).length->∃j,j<256/\cls K j=c:=by
 have hg:∀c,c<(rl K 256).length->∃j,j<256/\cls K j=c:=fun c hc=>⟨(rl K 256)[c],(T9 K 256 c hc).2,(T9 K 256 c hc).1⟩
 have hp:0<(rl K 256).length:=by rw[zD];exact VX K
 refine⟨⟨fun j hj=>(Tw K j hj).1,?_⟩,hg⟩;obtain⟨j,hj,e⟩:=hg ((rl K 256).length-1) (by omega);exact⟨j,hj,by omega⟩
theorem bQ.in_{A:Nat->Prop}(h:bQ mf A r)(hm:∀x,mf x<32768):-1<=r/\r<32768:=by
 rcases h with ⟨h1,_⟩|⟨h1,⟨x,_,h2⟩,_⟩
 ·omega
 have:=hm x;omega
theorem WS{L:List En}{cD:Array Value}{f0:Nat}{ms:List Int}(hm:∀x,mf x<32768)
  (h:Made L F nm L' f0 s0 k R SS) (cZ:cD.size=258) (ho:∀v∈cD.toList,v.oneCell'=true) (hk:SS.length=k) (fm:k<=2000) (hD:jH w cD (dM L) R ms (rl (dM L) 256).length) (l5:ms.length=k)
  (lP:∀j (h:j<SS.length) (h2:j<ms.length),bQ (fun i=>mf (nm.getD i 0)) (fun x=>x<nm.length/\SS[j] x=true) ms[j]):
  ∃D:Dd,D.cD=cD/\DM w D/\DR D (rl (dM L) 256).length/\D.n=k/\∀(z:Nat->Nat) (m:Nat),(∀j,z j<256)->bQ mf (cy L F z m) (bp D (bB D 0 z m)):=by
 obtain⟨aN,cN,A,hN,hzN⟩:=hD.rows;obtain⟨aK,cK,hK,hzK⟩:=hD.marks;have mB:=h.run.len;have dD:∀r∈R,r.length=(rl (dM L) 256).length:=h.run.sR;obtain⟨hC,hg⟩:=zqv (dM L);have j9:1<=k:=by
  have:=h.run.pre.length_le;simp at this;omega
 refine⟨⟨cD,cls (dM L),aN,R.length,cN,A,fun _=>(rl (dM L) 256).length,fun _=>(rl (dM L) 256).length,fun i x=>(R.getD i []).getD x 0,aK,ms.length,cK,fun i=>ms.getD i 0⟩,rfl,⟨cZ,ho,hD.cl,fun j hj=>?_,hN,hK,hzN,hzK⟩,⟨hC,by show 1<=R.length;omega,by show R.length<=32768;omega,by show ms.length=R.length;omega,hg,fun i _=>rfl,fun i hi=>?_,fun i c hi hc=>?_⟩,by show R.length=k;omega,fun z m hz=>?_⟩
 ·have:=S4 (dM L) j;show cls (dM L) j<256;omega
 ·have hi:i<R.length:=hi;have hl:=lP i (by omega) (by omega);have h1:=hl.in_ (fun x=>hm _);show -1<=ms.getD i 0/\ms.getD i 0<32768;rw[getD_eq_getElem?_getD,List.getElem?_eq_getElem (by omega)];exact h1
 ·have hi:i<R.length:=hi;have hc:c<(rl (dM L) 256).length:=hc;have wh:=dD R[i] (getElem_mem hi);obtain⟨hs,ht⟩:=h.run.ph i hi;have h1:=ht c (by omega);have e:(R.getD i []).getD c 0=R[i][c]'(by omega):=by simp[getD_eq_getElem?_getD,hi,wh,hc]
  show -1<=(R.getD i []).getD c 0/\(R.getD i []).getD c 0<(R.length:Int);rw[e];rcases h1 with ⟨h2,_⟩|⟨_,j,hj,h2,_⟩
  ·omega
  omega
 have SX:∀t,tf nm.length SS (cy L' f0 z t) (bB ⟨cD,cls (dM L),aN,R.length,cN,A,fun _=>(rl (dM L) 256).length,fun _=>(rl (dM L) 256).length,fun i x=>(R.getD i []).getD x 0,aK,ms.length,cK,fun i=>ms.getD i 0⟩ 0 z t):=by
  intro t
  induction t with
  | zero=>exact h.start z
  | succ t ih=>
   show tf _ _ _ (bK _ (bB _ 0 z t) (z t));generalize bB ⟨cD,cls (dM L),aN,R.length,cN,A,fun _=>(rl (dM L) 256).length,fun _=>(rl (dM L) 256).length,fun i x=>(R.getD i []).getD x 0,aK,ms.length,cK,fun i=>ms.getD i 0⟩ 0 z t=a at ih;rcases ih with ⟨rfl,hd⟩|⟨j,hj,rfl,hS⟩
   ·exact inl ⟨by unfold bK;rw[if_neg (by omega)],cy.dead hd⟩
   obtain⟨Gm,hc,hs⟩:=h.step hk z t j (hz t) (inr ⟨j,hj,rfl,hS⟩);unfold bK;rw[if_pos ⟨by omega,by show (j:Int)<(R.length:Int);omega⟩];have e:(R.getD ((j:Int)).toNat []).getD (cls (dM L) (z t)) 0=R[j][cls (dM L) (z t)]'hc:=by
    have h9:((j:Int)).toNat=j:=(by omega);rw[h9];simp[getD_eq_getElem?_getD,Gm,hc]
   show tf _ _ _ ((R.getD ((j:Int)).toNat []).getD (cls (dM L) (z t)) 0);rw[e];exact hs
 have iF:=SX m;generalize bB ⟨cD,cls (dM L),aN,R.length,cN,A,fun _=>(rl (dM L) 256).length,fun _=>(rl (dM L) 256).length,fun i x=>(R.getD i []).getD x 0,aK,ms.length,cK,fun i=>ms.getD i 0⟩ 0 z m=a at iF;rcases iF with ⟨rfl,hd⟩|⟨j,hj,rfl,hS⟩
 ·have e:∀D:Dd,bp D (-1)=-1:=fun D=>by unfold bp;rw[if_neg (by omega)]
  rw[e];exact inl ⟨rfl,fun x hx=>by
   obtain⟨i,hi,_⟩:=((h.names z m).2 x).1 hx
   exact absurd hi (hd i)⟩
 have h9:((j:Int)).toNat=j:=by omega
 unfold bp;rw[if_pos ⟨by omega,by show (j:Int)<(R.length:Int);omega⟩];show bQ mf (cy L F z m) (ms.getD ((j:Int)).toNat 0);rw[h9,getD_eq_getElem?_getD,List.getElem?_eq_getElem (by omega)];exact h.mark hj (inr ⟨j,hj,rfl,hS⟩) (lP j hj (by omega))
theorem VJ{α β:Type}{f:α->β}{l:List α}(hn:l.Nodup)(h:∀a∈l,∀b∈l,f a=f b->a=b):(l.map f).Nodup:=by
 induction l with
 | nil=>simp
 | cons a l ih=>
  rw[map_cons,List.nodup_cons];obtain⟨h1,h2⟩:=List.nodup_cons.1 hn;refine⟨fun hm=>?_,ih h2 (fun x hx y hy=>h x (mem_cons_of_mem _ hx) y (mem_cons_of_mem _ hy))⟩;obtain⟨b,hb,e⟩:=List.mem_map.1 hm;exact h1 (h b (mem_cons_of_mem _ hb) a (by simp) e ▸ hb)
theorem zgU{α:Type}(p:α->Bool)(l:List α):l.length=(l.filter p).length+(l.filter fun x=>!p x).length:=by
 induction l with
 | nil=>rfl
 | cons a l ih=>
  simp only[filter_cons,length_cons];cases p a <;> simp <;> omega
theorem zqw:∀(n:Nat) (l:List (List Bool)),l.Nodup->(∀v∈l,v.length=n)->l.length<=2 ^ n:=by
 intro n
 induction n with
 | zero=>
  intro l hn h
  match l,hn,h with
  | [],_,_=>simp
  | [a],_,_=>simp
  | a :: b :: l,hn,h=>
   have h1:=List.length_eq_zero_iff.1 (h a (by simp));have h2:=List.length_eq_zero_iff.1 (h b (by simp));subst h1 h2;simp at hn
 | succ n ih=>
  intro l hn h;have key:∀(p:List Bool->Bool) (x:Bool),(∀v∈l,p v=true->v=x :: v.tail)->(l.filter p).length<=2 ^ n:=fun p x hp=>by
   have h1:((l.filter p).map List.tail).Nodup:=VJ (hn.filter p) (fun a ha b hb e=>by
    obtain⟨ha1,ha2⟩:=List.mem_filter.1 ha
    obtain⟨eG,cr⟩:=List.mem_filter.1 hb
    rw[hp a ha1 ha2,hp b eG cr,e])
   have h2:=ih _ h1 (fun v hv=>by
    obtain⟨u,hu,rfl⟩:=List.mem_map.1 hv
    have:=h u (List.mem_filter.1 hu).1
    simp[this])
   simpa using h2
  have a1:=key (fun v=>v.headD false) true (fun v hv hp=>by
   have:=h v hv
   match v,this,hp with
   | x :: v,_,hp=>simp at hp;rw[hp];rfl)
  have a2:=key (fun v=>!v.headD false) false (fun v hv hp=>by
   have:=h v hv
   match v,this,hp with
   | x :: v,_,hp=>simp at hp;rw[hp];rfl)
  have a3:=zgU (fun v:List Bool=>v.headD false) l;rw[Nat.pow_succ];omega
def nB(L:List En):Nat:=(L.filter fun e=>!e.b).length
theorem zqx(nm:List Nat)(L:List En):nB (L.map (En.ov nm))=nB L:=by
 unfold nB
 induction L with
 | nil=>rfl
 | cons e L ih=>
  have h:(En.ov nm e).b=e.b:=rfl;simp only[map_cons,filter_cons,h];cases e.b <;> simp_all
theorem T0{L:List En}{f0:Nat}(h:Made L F nm L' f0 s0 k R SS):SS.length<=1+2 ^ nB L:=by
 have hd:su nm.length SS:=h.run.xS (fun i j hi hj _=>by simp at hi hj;omega);have jK:=h.run.src;have hx:∀i,∃(g:Nat->Bool) (d:Nat),∀(hi:i+1<SS.length) (x:Nat),x<nm.length->(SS[i+1] x=true↔EW L' nm.length (pZ (dM L)) g d x):=fun i=>by
  by_cases hi:i+1<SS.length
  ·obtain⟨i',hi',d,_,_,_,h2⟩:=jK (i+1) hi (by simp);exact⟨SS[i'],d,fun _=>h2⟩
  exact⟨fun _=>false,0,fun h=>absurd h hi⟩
 obtain⟨G,hG⟩:∃G:Nat->(Nat->Bool) × Nat,∀i (hi:i+1<SS.length) (x:Nat),x<nm.length->(SS[i+1] x=true↔EW L' nm.length (pZ (dM L)) (G i).1 (G i).2 x):=
  ⟨fun i=>(Classical.choose (hx i),Classical.choose (choose_spec (hx i))),fun i=>choose_spec (choose_spec (hx i))⟩
 have e1:nB L'=nB L:=by rw[h.ov,zqx]
 have h1:=zqw (nB L') ((range (SS.length-1)).map fun i=>(L'.filter fun e=>!e.b).map fun e=>e.p (pZ (dM L) (G i).2) && (G i).1 e.f) (VJ List.nodup_range (fun i hi j hj e=>by
  have hi:i<SS.length-1:=by simpa using hi
  have hj:j<SS.length-1:=by simpa using hj
  have he:∀e∈L',e.b=false->(e.p (pZ (dM L) (G i).2) && (G i).1 e.f)=(e.p (pZ (dM L) (G j).2) && (G j).1 e.f):=fun x hx hb=>by
   have:=List.map_inj_left.1 e x (List.mem_filter.2 ⟨hx,by simp[hb]⟩)
   exact this
  have hM:∀y,Mv L' (fun y=>y<nm.length/\(G i).1 y=true) (pZ (dM L) (G i).2) y↔Mv L' (fun y=>y<nm.length/\(G j).1 y=true) (pZ (dM L) (G j).2) y:=fun y=>by
   constructor
   ·rintro⟨e,h1,h2,h3,h4,h5⟩
    have:=he e h1 h2
    rw[h3,h4.2] at this
    have h6:e.p (pZ (dM L) (G j).2)=true/\(G j).1 e.f=true:=by simpa using this.symm
    exact⟨e,h1,h2,h6.1,⟨h4.1,h6.2⟩,h5⟩
   ·rintro⟨e,h1,h2,h3,h4,h5⟩
    have:=he e h1 h2
    rw[h3,h4.2] at this
    have h6:e.p (pZ (dM L) (G i).2)=true/\(G i).1 e.f=true:=by simpa using this
    exact⟨e,h1,h2,h6.1,⟨h4.1,h6.2⟩,h5⟩
  have h9:=hd (i+1) (j+1) (by omega) (by omega) (fun x hx=>by
   rw[Bool.eq_iff_iff,hG i (by omega) x hx,hG j (by omega) x hx]
   exact FR.congr hM x)
  omega)) (fun v hv=>by
   obtain⟨i,_,rfl⟩:=List.mem_map.1 hv
   simp[nB])
 rw[e1] at h1;simp at h1;omega
theorem Rt(t:Rx):∀o,(eJ t o).length<=4*t.flat.length:=by
 induction t with
 | leaf x=>intro o;simp[eJ,gv,Rx.flat]
 | un x a ih=>
  intro o;have h1:=ih o;have h2:(eZ x.k (o+a.flat.length-1) (o+a.flat.length)).length<=4:=by
   unfold eZ;split <;> split <;> simp
  simp only[eJ,Rx.flat,length_append,length_cons,length_nil];omega
 | bin x a b ih jh=>
  intro o;have h1:=ih o;have h2:=jh (o+a.flat.length);have h3:(di x.k (o+a.flat.length-1) (o+a.flat.length+b.flat.length-1) (o+a.flat.length+b.flat.length)).length<=4:=by
   unfold di;split <;> simp
  simp only[eJ,Rx.flat,length_append,length_cons,length_nil];omega
theorem Wg(a b:List En):nB (a++b)=nB a+nB b:=by simp[nB]
theorem Vk(t:Rx):∀o,2*nB (eJ t o)<=t.flat.length+1:=by
 induction t with
 | leaf x=>
  intro o;have:=List.length_filter_le (fun e:En=>!e.b) (gv x o);have h2:(gv x o).length=1:=rfl;simp only[eJ,Rx.flat,length_cons,length_nil,nB];omega
 | un x a ih=>
  intro o;have h1:=ih o;have h2:nB (eZ x.k (o+a.flat.length-1) (o+a.flat.length))=0:=by
   unfold nB eZ bG;split <;> split <;> simp
  simp only[eJ,Rx.flat,Wg,length_append,length_cons,length_nil];omega
 | bin x a b ih jh=>
  intro o;have h1:=ih o;have h2:=jh (o+a.flat.length);have h3:nB (di x.k (o+a.flat.length-1) (o+a.flat.length+b.flat.length-1) (o+a.flat.length+b.flat.length))=0:=by
   unfold nB di bG;split <;> simp
  simp only[eJ,Rx.flat,Wg,length_append,length_cons,length_nil];omega
theorem zi3(L:List En):(cG (L.map En.z)).length=nB L:=by
 unfold nB
 induction L with
 | nil=>rfl
 | cons e L ih=>
  have h:(En.z e).b=e.b:=rfl;simp only[cG,map_cons,filter_cons,h] at ih⊢;cases e.b <;> simp_all
theorem zpI{s:List Nat}{l:List Pc}(h:bh (dB 99) ([],s)=some (l,[])):l.length<2*s.length:=by
 have:=(Oe (yN 99) _ _ h).2;simpa using this
theorem zqy(t:Rx):si ((2*t.flat.length:Nat):Int) ((eJ t 0).map En.z) ((2*eB t 0:Nat):Int) ((2*eB t 0+1:Nat):Int)=true:=by
 have h1:=Ro t 0;unfold si;rw[Bool.and_eq_true,Bool.and_eq_true,List.all_eq_true];refine⟨fun x hx=>?_,F7.2 ⟨by omega,by omega⟩,F7.2 ⟨by omega,by omega⟩⟩;obtain⟨e,he,rfl⟩:=List.mem_map.1 hx;have h2:=FY t 0 e he;unfold wP;rw[Bool.and_eq_true];exact⟨F7.2 ⟨by show (0:Int)<=(e.f:Int);omega,by show (e.f:Int)<_;omega⟩,F7.2 ⟨by show (0:Int)<=(e.t:Int);omega,by show (e.t:Int)<_;omega⟩⟩
def fU(s:ByteArray)(t:Rx):Prop:=t.wf/\bh (dB 99) ([],aa s)=some (t.flat,[])/\t.flat.length<=400
def J6(t:Rx)(X:Dd):Prop:=∀(z:Nat->Nat) (m:Nat),(∀j,z j<256)->(ec t ((range m).map z)->bp X (bB X 0 z m)=0)/\(¬ec t ((range m).map z)->bp X (bB X 0 z m)=-1)
def DA(s:ByteArray)(w:World)(e:Ending)(w':World):Prop:=Below w.heap.size w w'/\
 (
  (∃er:Nat,nu s er/\e=.returned (.tuple #[.agg (zC 29),.int .i64 (er:Int)]))\/
  (∃t,fU s t/\((2000<1+2 ^ nB (eJ t 0)/\e=.returned (.tuple #[.agg (zC 29),.int .i64 6]))\/∃(X:Dd) (C:Nat),e=.returned (.tuple #[.agg X.cD,.int .i64 0])/\DM w' X/\Mn X C/\J6 t X)))
theorem zhX{T:Nat}{A:Nat->Prop}(h:bQ (fun x=>if x=T then 0 else -1) A r):(A T->r=0)/\(¬A T->r=-1):=by
 rcases h with ⟨h1,h2⟩|⟨h1,⟨x,hx,h2⟩,h3⟩
 ·refine⟨fun h=>?_,fun _=>h1⟩;have:=h2 T h;simp at this
 by_cases e:x=T
 ·subst e;simp at h2;exact⟨fun _=>h2.symm,fun h=>absurd hx h⟩
 simp[e] at h2;omega
theorem Z0(s:ByteArray)(hs:s.size<=1600)(w:World):Calls prog 16 #[.string s] w (DA s w):=by
 have k0:=al w (.cells (zC 29) 29);have HB:=hid (Zz (St.new w 29 (zC 29)) k0);have mW:=hid (WL s hs (w.alloc (.cells (zC 29) 29)));clear k0;go_in;go_upto_region 1 with (refine nR rfl 29 rfl (zC 29) (lA _) ?_);obtain⟨b0,ay⟩:∃b0,w.heap.size=b0:=⟨_,rfl⟩
 have bW:=hid ay;rw[ay] at HB;rw[ay];clear ay;generalize w.alloc (.cells (zC 29) 29)=W0 at HB mW⊢;go_wp2_with (go_at_call 30;refine mW.out.mono ?_);rintro e w1 hp;rcases hp with ⟨er,hE,rfl,b1⟩|⟨t,hw,qs,hle,a,c,rfl,hO,b1⟩
 ·have H1:=hid (Zz (HB.out.1.ab b1) (HB.out.2.trans (b1.mono (by have:=HB.out.2.size;have:=bW.out;omega))));have eG:=b1.size;have HER:Hid (nu s er):=hE;have BI:((er:Int) != 0)=true:=by
   rcases hE with ⟨rfl,_⟩|⟨rfl,_⟩ <;> rfl
  have HF:Hid (DA s w (.returned (.tuple #[.agg (zC 29),.int .i64 (er:Int)])) ((w1.alloc (.cells #[.int .i64 0,.slice none 0 0,.int .i64 0,.int .i64 0] 55)).setRow b0 (zC 29))):=by
   refine⟨?_,inl ⟨er,hE,rfl⟩⟩;have hz:=H1.out.2.size;have h1:Below b0 w (w1.alloc (.cells #[.int .i64 0,.slice none 0 0,.int .i64 0,.int .i64 0] 55)):=H1.out.2.trans ((al w1 _).mono (by have:=bW.out;omega));have:=kT h1 (Nat.le_refl b0) (zC 29);rw[bW.out];exact this
  have gJ:=hid (H1.out.1.alloc (.cells #[.int .i64 0,.slice none 0 0,.int .i64 0,.int .i64 0] 55));clear hE b1 mW;go_wp2_with (first
   | (refine AE rfl 29 _ rfl #[] (by first|rfl|kernel_rfl|(go_simp;done)) (.agg (zC 29)) (Jb _) ?_)
   | (refine lJ rfl 29 _ _ rfl b0 29 (zC 29) (zC 29) rfl rfl gJ.out rfl (by rw[fD,gY]) zM ?_))
  refine bodyPost_ret (ye rfl _ _ b0 (zC 29) _ rfl gJ.out.setRow.part underlying29 rfl (by rw[fD,gY])) rfl ?_;exact HF.out
 have HT:Hid (fU s t):=⟨hw,qs,hle⟩
 have H1:=hid (Zz (HB.out.1.ab b1) (Zz (HB.out.2.trans (b1.mono (by have:=HB.out.2.size;have:=bW.out;omega))) hO));have eG:=b1.size;have YS:=hid (zqy t);have Yj:=hid (Rt t 0);have Cf:=hid (Vk t 0);have VS:=hid (Ro t 0);have Hin:=hid (FY t 0);obtain⟨S,hS⟩:∃S:Nat,2*t.flat.length=S:=⟨_,rfl⟩
 obtain⟨F,hF⟩:∃F:Nat,2*eB t 0=F:=⟨_,rfl⟩
 obtain⟨T,hT⟩:∃T:Nat,2*eB t 0+1=T:=⟨_,rfl⟩
 obtain⟨m,jw⟩:∃m,(eJ t 0).length=m:=⟨_,rfl⟩
 have HQ:=hid (Zz hS (Zz hF (Zz hT jw)));rw[jw] at H1 Yj;rw[hS,hT,hF] at YS;rw[hS,hT,hF,jw];clear hS hF hT jw hw qs b1 hO mW;have kN:=al w1 (.cells #[.int .i64 (S:Int),.slice a m c,.int .i64 (F:Int),.int .i64 (T:Int)] 55);have HN:=hid (Zz kN (St.new w1 55 #[.int .i64 (S:Int),.slice a m c,.int .i64 (F:Int),.int .i64 (T:Int)]));clear kN;go_upto_region 4 with fail;generalize w1.alloc (.cells #[.int .i64 (S:Int),.slice a m c,.int .i64 (F:Int),.int .i64 (T:Int)] 55)=W2 at HN⊢;obtain⟨bN,N0⟩:∃bN,w1.heap.size=bN:=⟨_,rfl⟩
 rw[N0] at HN;rw[N0];have H2:Hid (St W2 29 b0 (zC 29)/\Below b0 w W2/\b0<=W2.heap.size):=by
  have hk:Below w1.heap.size w1 W2:=by rw[N0];exact HN.out.1
  have hz:=H1.out.2.1.size;have cv:=hk.size;exact⟨H1.out.1.ab hk,H1.out.2.1.trans (hk.mono (by have:=bW.out;omega)),by have:=bW.out;omega⟩
 obtain⟨r0,r1,r2,r3⟩:=HN.out.2.bZ;have Ye:gq W2 a ((eJ t 0).map En.z):=by
  have h1:gq w1 a ((eJ t 0).map En.z):=by
   intro h0;obtain⟨g,e,_,hg,hc⟩:=ek H1.out.2.2 (by rw[length_map,HQ.out.2.2.2] at h0;exact h0);exact⟨g,0,e,hg,fun j hj=>by rw[zero_add,(hc j (by rw[length_map,HQ.out.2.2.2] at hj;exact hj)).1]⟩
  exact h1.below (by rw[N0];exact HN.out.1)
 have HO:=hid (zp2 (S:Int) F T (eJ t 0) a m c W2 Ye HQ.out.2.2.2 (by have:=Yj.out;omega) (by rw[zi3];have:=Cf.out;omega) (by have:=HQ.out;have:=VS.out;omega) (by have:=HQ.out;have:=VS.out;omega) (fun e he=>by have:=Hin.out e he;omega) YS.out);clear Ye;go_upto_region 5 with (first
  | (go_at_call 31;refine HO.out.mono ?_;rintro e w3 ⟨cD,er,nm,L',f0,s0,k,R,SS,rfl,b3,G0,cZ,Cw,uN⟩)
  | (refine nR rfl 29 rfl (zC 29) (lA _) ?_)
  | (refine lJ rfl 29 _ _ rfl w3.heap.size 29 (zC 29) cD rfl rfl (St.new w3 _ _) (by rw[gY,cZ]) (by rw[fD,cZ]) Cw ?_))
 try simp only[put,sA]
 have KE:=hid (Zz cZ Cw);have Iw:=hid G0;have kV:Below w3.heap.size w3 ((w3.alloc (.cells (zC 29) 29)).setRow w3.heap.size cD):=kT (al w3 _) (Nat.le_refl _) _;have sV:St ((w3.alloc (.cells (zC 29) 29)).setRow w3.heap.size cD) 29 w3.heap.size cD:=(St.new w3 _ _).setRow;have zK:=b3.size;have H7:Hid (St ((w3.alloc (.cells (zC 29) 29)).setRow w3.heap.size cD) 29 b0 (zC 29)/\Below b0 w ((w3.alloc (.cells (zC 29) 29)).setRow w3.heap.size cD)):=by
  have hz:=H2.out.2.2;exact⟨(H2.out.1.ab b3).ab kV,(H2.out.2.1.trans (b3.mono hz)).trans (kV.mono (by omega))⟩
 have oq:Hid (b0<=w3.heap.size):=by have:=H2.out.2.2;show b0<=_;omega
 obtain⟨b7,uV⟩:∃b7,w3.heap.size=b7:=⟨_,rfl⟩
 have G3:=hid uV;rw[uV] at kV sV H7;rw[uV];clear uV G0 cZ Cw zK b3 HO r0 r1 r2 r3;rcases uN with ⟨rfl,lI,rfl⟩|⟨rfl,hk,fm,ms,hD,l5,lP⟩
 ·generalize (w3.alloc (.cells (zC 29) 29)).setRow b7 (zC 29)=V at kV sV H7⊢;have HF:Hid (DA s w (.returned (.tuple #[.agg (zC 29),.int .i64 6])) (V.setRow b0 (zC 29))):=by
   refine⟨?_,inr ⟨t,HT.out,inl ⟨?_,rfl⟩⟩⟩
   ·have:=kT H7.out.2 (Nat.le_refl b0) (zC 29);rw[bW.out];exact this
   have:=T0 Iw.out;omega
  clear lI kV sV;go_wp2_with (first
   | (refine AE rfl 29 _ rfl #[] (by first|rfl|kernel_rfl|(go_simp;done)) (.agg (zC 29)) (Jb _) ?_)
   | (refine lJ rfl 29 _ _ rfl b0 29 (zC 29) (zC 29) rfl rfl H7.out.1 rfl (by rw[fD,gY]) zM ?_))
  refine bodyPost_ret (ye rfl _ _ b0 (zC 29) _ rfl H7.out.1.setRow.part underlying29 rfl (by rw[fD,gY])) rfl ?_;exact HF.out
 obtain⟨D,rfl,Gc,Ff,Qk,Bk⟩:=WS (mf:=fun x=>if x=T then 0 else -1) (fun x=>by show (if x=T then (0:Int) else -1)<32768;split <;> omega) Iw.out KE.out.1 KE.out.2 hk fm hD l5 lP;have tG:=Gc.below (by rw[G3.out];exact kV);generalize (w3.alloc (.cells (zC 29) 29)).setRow b7 D.cD=V at kV sV H7 tG⊢;have HX:Hid (∀z m,(∀j,z j<256)->bQ (fun x=>if x=T then 0 else -1) (cy (eJ t 0) F z m) (bp D (bB D 0 z m))):=Bk;have zF:=hid (X3 D _ Ff V tG);have Hu:=hid (Zz sV tG);have RL:Hid (b0<=V.heap.size):=by have:=oq.out;have:=kV.size;have:=G3.out;show b0<=_;omega
 have HRD:=hid Ff;clear Gc Ff Qk Bk hk fm hD l5 lP kV sV tG;go_upto_region 7 with fail;go_wp2_with (first
  | (refine jr (by rfl) 29 _ rfl ⟨b7,0,none⟩ rfl D.cD _ Hu.out.1.part underlying29 rfl Hu.out.2.info ?_)
  | (go_at_call 23;refine zF.out.mono ?_;rintro e w9 ⟨X,C',rfl,qj,pE,Q4,_,b9⟩)
  | (refine lJ rfl 29 _ _ rfl b0 29 (zC 29) X.cD rfl rfl (H7.out.1.ab b9) (by rw[gY,qj.sz]) (by rw[fD,qj.sz]) qj.one ?_))
 refine bodyPost_ret (ye rfl _ _ b0 X.cD _ rfl (H7.out.1.ab b9).setRow.part underlying29 rfl (by rw[fD,qj.sz])) rfl ?_;refine⟨?_,inr ⟨t,HT.out,inr ⟨X,C',rfl,(bz.stored pE.r qj (H7.out.1.ab b9)).dm,pE,fun z k hz=>?_⟩⟩⟩
 ·have:=kT (H7.out.2.trans (b9.mono RL.out)) (Nat.le_refl b0) X.cD;rw[bW.out];exact this
 rw[Q4 z k hz];have h1:=zhX (HX.out z k hz);have h2:=Mc t HT.out.1 z hz k;rw[HQ.out.2.2.1,HQ.out.2.1] at h2;exact⟨fun h=>h1.1 (h2.2 h),fun h=>h1.2 (fun hh=>h (h2.1 hh))⟩
structure Ru where
 nm:ByteArray
 k:Int
 rx:ByteArray
def jV(t:Ru):List Value:=[.string t.nm,.int .i64 t.k,.string t.rx]
def yA(l:List Ru):List Value:=l.flatMap jV
theorem zj9(l:List Ru):(yA l).length=l.length*3:=by
 induction l with
 | nil=>rfl
 | cons x l ih=>simp[yA,jV] at ih⊢;omega
theorem ZB(l:List Ru)(i:Nat)(h:i<l.length)(j:Nat)(hj:j<3):(yA l)[i*3+j]?=(jV l[i])[j]?:=by
 induction l generalizing i with
 | nil=>simp at h
 | cons x l ih=>
  have hc:(jV x).length=3:=by simp[jV]
  show (jV x++yA l)[i*3+j]?=_
  match i,h with
  | 0,_=>
   rw[Nat.zero_mul,zero_add,List.getElem?_append_left (by omega)];rfl
  | i+1,h=>
   rw[List.getElem?_append_right (by omega),hc,show (i+1)*3+j-3=i*3+j by omega,ih i (by simpa using h)];rfl
def kv(w:World)(a:Option Addr)(l:List Ru):Prop:=0<l.length->∃g off,a=some ⟨g,off,none⟩/\g<w.heap.size/\∀j,j<l.length*3->w.cell? ⟨g,off+j,none⟩=(yA l)[j]?
theorem kv.below{l:List Ru}(h:kv w a l)(k:Below w.heap.size w w'):kv w' a l:=by
 intro h0;obtain⟨g,off,rfl,hg,hc⟩:=h h0;have:=k.size;exact⟨g,off,rfl,by omega,fun j hj=>(k.cell (p:=⟨g,off+j,none⟩) hg).trans (hc j hj)⟩
theorem kv.get{l:List Ru}(h:kv w a l)(k:Nat)(hk:k<l.length):
  ∃g off,a=some ⟨g,off,none⟩/\g<w.heap.size/\w.cell? ⟨g,off+k*3,none⟩=some (.string l[k].nm)/\w.cell? ⟨g,off+k*3+1,none⟩=some (.int .i64 l[k].k)/\w.cell? ⟨g,off+k*3+2,none⟩=some (.string l[k].rx):=by
 obtain⟨g,off,rfl,hg,hc⟩:=h (by omega);refine⟨g,off,rfl,hg,?_,?_,?_⟩
 ·have:=ZB l k hk 0 (by omega);rw[hc _ (by omega)];exact this
 all_goals
  rw[Nat.add_assoc,hc _ (by omega),ZB l k hk _ (by omega)]
  rfl
theorem kv.take{l:List Ru}(h:kv w a l)(k:Nat):kv w a (l.take k):=by
 intro h0;have hl:=List.length_take_le k l;have h1:(l.take k).length<=l.length:=by simp;omega
 obtain⟨g,off,e,hg,hc⟩:=h (by omega);refine⟨g,off,e,hg,fun j hj=>?_⟩;have h3:yA l=yA (l.take k)++yA (l.drop k):=by
  unfold yA;rw[<-List.flatMap_append,List.take_append_drop]
 rw[hc j (by omega),h3,List.getElem?_append_left (by rw[zj9];exact hj)]
theorem zlM(a b:ByteArray):(a.toList == b.toList)=true↔a=b:=by
 rw[beq_iff_eq,ByteArray.toList_eq,ByteArray.toList_eq];exact⟨N1,fun h=>by rw[h]⟩
theorem zlN(x:Ru)(b:Nat)(s:ByteArray)(w:World)(hc:w.cell? ⟨b,0,none⟩=some (.string s))(hb:b<w.heap.size):
  Calls prog 97 #[.agg #[.string x.nm,.int .i64 x.k,.string x.rx],.pointer (some ⟨b,0,none⟩)] w (th (x.nm=s) w):=by
 have k1:=al w (.cells #[.string x.nm,.int .i64 x.k,.string x.rx] 48);have fp:=(k1.cell (p:=⟨b,0,none⟩) hb).trans hc;have hne:¬w.heap.size=b:=by omega
 have HB:=hid k1;have HQ:=hid (zlM x.nm s);obtain⟨nm,k,rx⟩:=x;dsimp only at fp HB HQ⊢;clear k1 hb;go_in;go_wp2;go_ret;exact⟨_,rfl,HQ.out,HB.out⟩
def rL(l:List Ru)(s:ByteArray)(r:Int):Prop:=(r=-1/\∀j (h:j<l.length),l[j].nm≠s)\/∃(i:Nat) (h:i<l.length),r=((i:Nat):Int)/\l[i].nm=s/\∀j (h:j<l.length),j<i->l[j].nm≠s
def Sf(l:List Ru)(s:ByteArray)(w:World)(e:Ending)(w':World):Prop:=∃r,e=.returned (.int .i64 r)/\rL l s r/\Below w.heap.size w w'
theorem zka:∀(args:Array Value) (W:World),(callFunc 97 args).run prog W=.ok (.enter 97 args) W:=fun _ _=>by rfl
theorem zhY(n c b:Nat)(a:Option Addr)(l:List Ru)(s:ByteArray)(hl:l.length=n)(hn:n<=9223372036854775807)(w:World)(h1:kv w a l)(hc:w.cell? ⟨b,0,none⟩=some (.string s))(hb:b<w.heap.size):
  Calls prog 96 #[.slice a n c,.func (.func 97) #[] #[.pointer (some ⟨b,0,none⟩)]] w (Sf l s w):=by
 have H:=hid (Zz h1 (Zz hl (Zz hc hb)));have RA:=zka;clear h1 hl hc hb;go_in;go_wp2;go_loopw [5,8] (fun _ v wr=>∃k:Nat,v=.int .i64 k/\k<=n/\Hid (Below w.heap.size w wr/\∀j (h:j<l.length),j<k->l[j].nm≠s)) (fun _ v _=>n-(intOf v).toNat)
 ·exact⟨0,rfl,zero_le _,Below.refl _ _,fun j _ h=>by omega⟩
 obtain⟨k,rfl,hk,HL⟩:=hrel;by_cases aq:k<n
 ·have hkl:k<l.length:=by rw[H.out.2.1];exact aq
  obtain⟨g1,o1,rfl,_,x0,x1,x2⟩:=(H.out.1.below HL.out.1).get k hkl;have HF:=hid (zlN l[k] b s wr ((HL.out.1.cell (p:=⟨b,0,none⟩) H.out.2.2.2).trans H.out.2.2.1) (by have:=H.out.2.2.2;have:=HL.out.1.size;omega));have HS:Hid (l[k].nm≠s->∀j (h:j<l.length),j<k+1->l[j].nm≠s):=fun h j hj hjk=>by
   by_cases e:j=k
   ·subst e;exact h
   exact HL.out.2 j hj (by omega)
  have HY:Hid (l[k].nm=s->rL l s (k:Int)):=fun h=>inr ⟨k,hkl,rfl,h,HL.out.2⟩
  have i1:(k:Int)<n:=by omega
  generalize l[k]=x at x0 x1 x2 HF HS HY;obtain⟨nm,kk,rx⟩:=x;dsimp only at x0 x1 x2 HF HS HY;clear hkl;go_wp2_with fail;refine HF.out.mono ?_;rintro e w2 ⟨y,rfl,hy,b2⟩;have H2:=hid (Zz (HL.out.1.trans (b2.mono HL.out.1.size)) hy);clear b2 hy HF x0 x1 x2;rcases y with _|_
  ·have HZ:=hid (HS.out (fun h=>by have:=H2.out.2.2 h;cases this));go_wp2;go_roundw
   ·exact⟨k+1,by go_num,by omega,H2.out.1,HZ.out⟩
   simp[intOf];omega
  have HZ:=hid (HY.out (H2.out.2.1 rfl));go_wp2;go_ret;exact⟨_,rfl,HZ.out,H2.out.1⟩
 obtain rfl:k=n:=by omega
 have HZ:Hid (rL l s (-1)):=inl ⟨rfl,fun j h=>HL.out.2 j h (by have:=H.out.2.1;omega)⟩;go_wp2;go_ret;exact⟨_,rfl,HZ.out,HL.out.1⟩
theorem zlO(n c:Nat)(a:Option Addr)(l:List Ru)(s:ByteArray)(hl:l.length=n)(hn:n<=9223372036854775807)(w:World)(h1:kv w a l):
  Calls prog 61 #[.slice a n c,.string s] w (Sf l s w):=by
 have k1:=al w (.cells #[.string s] 9);have HI:=hid (zhY n c w.heap.size a l s hl hn (w.alloc (.cells #[.string s] 9)) (h1.below k1) ((St.new w 9 #[.string s]).at_ 0) (by simp));have HB:=hid k1;have CY:∀(fn:Fn) (first cap:Array Value) (w:World),(Instr.makeFunc fn first cap).run prog w=.ok (.func fn first cap) w:=fun _ _ _ _=>rfl
 clear k1 hl h1;go_in;go_wp2_with fail;refine HI.out.mono ?_;rintro e w2 ⟨r,rfl,hr,b2⟩;have HF:=hid (Zz hr (HB.out.trans (b2.mono HB.out.size)));clear hr b2 HI;go_wp2;go_ret;exact⟨r,rfl,HF.out.1,HF.out.2⟩
def Dx(b:Bool):Int:=if b then 0 else 8
theorem zgW(s:ByteArray)(w:World)(hs:s.size<=maxLen):
  Calls prog 60 #[.string s] w fun e w'=>e=.returned (.int .i64 (Dx (gk s)))/\w'=w:=by
 go_in;go_wp2_with fail;refine (zng s _ hs).mono ?_;rintro e w1 ⟨rfl,rfl⟩;rcases hn:gk s with _|_
 ·have HN:=hid hn;clear hn;go_wp2;go_ret;exact⟨by rw[HN.out];rfl,rfl⟩
 have HN:=hid hn;clear hn;go_wp2;go_ret;exact⟨by rw[HN.out];rfl,rfl⟩
def l7(k:Int):Bool:=k == 0 || (k == 1 || k == 2)
theorem zkb(k:Int)(w:World):Calls prog 62 #[.int .i64 k] w fun e w'=>e=.returned (.bool (l7 k))/\w'=w:=by
 have HZ:Hid (∀a b c,(k == 0)=a->(k == 1)=b->(k == 2)=c->l7 k=(a || (b || c))):=fun a b c h1 h2 h3=>by unfold l7;rw[h1,h2,h3]
 rcases h0:(k == 0) with _|_
 ·rcases h1:(k == 1) with _|_
  ·rcases h2:(k == 2) with _|_
   ·have HV:=hid (HZ.out _ _ _ h0 h1 h2);go_in;go_wp2;go_ret;exact⟨by rw[HV.out];rfl,rfl⟩
   have HV:=hid (HZ.out _ _ _ h0 h1 h2);go_in;go_wp2;go_ret;exact⟨by rw[HV.out];rfl,rfl⟩
  have HV:=hid (HZ.out _ _ _ h0 h1 rfl);go_in;go_wp2;go_ret;exact⟨by rw[HV.out];rfl,rfl⟩
 have HV:=hid (HZ.out _ _ _ h0 rfl rfl);go_in;go_wp2;go_ret;exact⟨by rw[HV.out];rfl,rfl⟩
def Dc(pre:List Ru)(x:Ru)(er:Int):Prop:=
 (gk x.nm=false/\er=8)\/(gk x.nm=true/\
  ((
   (∃y∈pre,y.nm=x.nm)/\er=9)\/((∀y∈pre,y.nm≠x.nm)/\
   ((
    l7 x.k=false/\er=1)\/(l7 x.k=true/\
    ((∃e5:Nat,nu x.rx e5/\er=(e5:Int))\/(∃t,fU x.rx t/\((2000<1+2 ^ nB (eJ t 0)/\er=6)\/(ec t []/\er=14)\/(¬ec t []/\er=0)))))))))
def qH(pre:List Ru)(x:Ru)(w:World)(e:Ending)(w':World):Prop:=∃er,e=.returned (.int .i64 er)/\Dc pre x er/\Below w.heap.size w w'
theorem rL.mem{l:List Ru}{s:ByteArray}(h:rL l s r):(0<=r->∃y∈l,y.nm=s)/\(¬0<=r->∀y∈l,y.nm≠s):=by
 rcases h with ⟨rfl,h⟩|⟨i,hi,rfl,h,_⟩
 ·refine⟨fun h=>by omega,fun _ y hy=>?_⟩;obtain⟨j,hj,rfl⟩:=List.getElem_of_mem hy;exact h j hj
 exact⟨fun _=>⟨_,getElem_mem hi,h⟩,fun h=>by omega⟩
theorem zfV(n c:Nat)(a:Option Addr)(l:List Ru)(hl:l.length=n)(hn:n<=100000)(MZ:n<=c)(i:Nat)(hi:i<l.length)(k8:l[i].nm.size<=maxLen)(Lz:l[i].rx.size<=1600)(w:World)(h1:kv w a l):
  Calls prog 36 #[.slice a n c,.int .i64 (i:Int)] w (qH (l.take i) l[i] w):=by
 obtain⟨g1,o1,rfl,lU,x0,x1,x2⟩:=h1.get i hi;have od:i<n:=by omega
 have i1:(i:Int)<n:=by omega
 have i2:(i:Int)<=n:=by omega
 have i3:i<=c:=by omega
 have GZ:=hid (h1.take i);have EM:Hid ((l.take i).length=i):=by show _=_;rw[List.length_take];omega
 generalize l.take i=pre at GZ EM⊢;generalize l[i]=x at x0 x1 x2 k8 Lz⊢;obtain⟨nm,kk,rx⟩:=x;dsimp only at x0 x1 x2 k8 Lz;have k1:=al w (.cells #[.string nm,.int .i64 kk,.string rx] 48);have HB:=hid (Zz k1 (St.new w 48 #[.string nm,.int .i64 kk,.string rx]));have Hrx:=hid Lz;have LU:=hid k8;clear k1 h1 hl hi Lz k8;go_in;go_upto_region 2 with fail;clear x0 x1 x2;obtain⟨b,ay⟩:∃b,w.heap.size=b:=⟨_,rfl⟩
 have bW:=hid ay;rw[ay] at HB lU;rw[ay];clear ay;generalize w.alloc (.cells #[.string nm,.int .i64 kk,.string rx] 48)=W0 at HB⊢;have oB:Hid (∀W',Below W0.heap.size W0 W'->Below w.heap.size w W'):=fun W' h=>by
  have hz:=HB.out.1.size;rw[bW.out];exact HB.out.1.trans (h.mono (by have:=bW.out;omega))
 have Od:Hid (∀W',Below W0.heap.size W0 W'->W'.cell? ⟨b,0,none⟩=some (.string nm)/\W'.cell? ⟨b,1,none⟩=some (.int .i64 kk)/\W'.cell? ⟨b,2,none⟩=some (.string rx)):=fun W' h=>⟨(HB.out.2.ab h).at_ 0,(HB.out.2.ab h).at_ 1,(HB.out.2.ab h).at_ 2⟩
 obtain⟨c0,c1,c2⟩:=Od.out W0 (Below.refl _ _);have HEs:=hid (zgW nm W0 LU.out);go_upto_region 3 with (go_at_call 60;refine HEs.out.mono ?_;rintro e w1 ⟨rfl,h1⟩;rw[h1];clear h1);rcases hN:gk nm with _|_
 ·have HZ:Hid (qH pre ⟨nm,kk,rx⟩ w (.returned (.int .i64 8)) W0):=⟨8,rfl,inl ⟨hN,rfl⟩,oB.out _ (Below.refl _ _)⟩
  rw[show Dx false=8 from rfl];clear hN;go_wp2;go_ret;exact HZ.out
 rw[show Dx true=0 from rfl];have HN:=hid hN;clear hN HEs;have tF:Hid (∀W,Below W0.heap.size W0 W->Calls prog 61 #[.slice (some ⟨g1,o1,none⟩) i c,.string nm] W (Sf pre nm W)):=fun W h=>zlO i c _ pre nm EM.out (by omega) W (GZ.out.below (oB.out W h))
 go_upto_region 5 with fail;clear c0 c1 c2;have dc:Hid (∀W',Below W0.heap.size W0 W'->Below W0.heap.size W0 W'/\W'.cell? ⟨b,0,none⟩=some (.string nm)):=fun W' h=>⟨h,(Od.out W' h).1⟩
 refine wp_region_held_drew (S:=fun W'=>Below W0.heap.size W0 W'/\W'.cell? ⟨b,0,none⟩=some (.string nm)) (by kernel_rfl) (dc.out _ (Below.refl _ _).drew) (fun hHeld=>?_)
 (refine an 0 ?_;refine an 1 ?_;refine an 2 ?_;try simp only[put,sA];refine an 3 ?_;refine an 4 ?_;try simp only[put,sA])
 refine bf 5 (fun K hK=>?_);skip;go_simp;go_at_call 61;refine (tF.out _ hHeld.1).mono ?_;rintro e w2 ⟨r,rfl,hr,v2⟩;have bD:Below W0.heap.size W0 w2:=hHeld.1.trans (v2.mono hHeld.1.size);clear v2
 try go_wp2_with fail
 refine hK.out _ _ (dc.out _ bD) fun hHeld=>?_;clear hK K
 try simp only[put,sA]
 (refine an 6 ?_;try simp only[put,sA])
 refine wpAnyH_done (by kernel_rfl) ?_ _;have qb:=hid (Zz bD hr);clear hHeld bD hr;obtain⟨c0,c1,c2⟩:=Od.out w2 qb.out.1;by_cases h9:0<=r
 ·have HZ:Hid (qH pre ⟨nm,kk,rx⟩ w (.returned (.int .i64 9)) w2):=⟨9,rfl,inr ⟨HN.out,inl ⟨qb.out.2.mem.1 h9,rfl⟩⟩,oB.out _ qb.out.1⟩
  go_wp2;go_ret;exact HZ.out
 have sg:=hid (qb.out.2.mem.2 h9);have HK:=hid (zkb kk w2);rcases E4:l7 kk with _|_
 ·have HZ:Hid (qH pre ⟨nm,kk,rx⟩ w (.returned (.int .i64 1)) w2):=⟨1,rfl,inr ⟨HN.out,inr ⟨sg.out,inl ⟨E4,rfl⟩⟩⟩,oB.out _ qb.out.1⟩
  rw[E4] at HK;clear E4;go_wp2_with (go_at_call 62;refine HK.out.mono ?_;rintro e w3 ⟨rfl,h3⟩;rw[h3];clear h3);go_ret;exact HZ.out
 have Dl:=hid E4;rw[E4] at HK;have Ym:=hid (Z0 rx Hrx.out w2);clear E4;go_upto_region 9 with (go_at_call 62;refine HK.out.mono ?_;rintro e w3 ⟨rfl,h3⟩;rw[h3];clear h3);go_wp2_with (go_at_call 16;refine Ym.out.mono ?_);rintro e w3 ⟨b3,uN⟩;have H3:=hid (qb.out.1.trans (b3.mono qb.out.1.size));clear b3 Ym HK;rcases uN with ⟨er,hE,rfl⟩|⟨t,hT,⟨lI,rfl⟩|⟨X,C,rfl,qj,pE,V2⟩⟩
 ·have BI:((er:Int) != 0)=true:=by
   rcases hE with ⟨rfl,_⟩|⟨rfl,_⟩ <;> rfl
  have dJ:Below W0.heap.size W0 ((w3.alloc (.cells (zC 29) 29)).setRow w3.heap.size (zC 29)):=kT (H3.out.trans ((al w3 _).mono H3.out.size)) H3.out.size _;have HZ:Hid (qH pre ⟨nm,kk,rx⟩ w (.returned (.int .i64 (er:Int))) ((w3.alloc (.cells (zC 29) 29)).setRow w3.heap.size (zC 29))):=⟨_,rfl,inr ⟨HN.out,inr ⟨sg.out,inr ⟨Dl.out,inl ⟨er,hE,rfl⟩⟩⟩⟩,oB.out _ dJ⟩
  clear hE dJ;go_wp2_with (first
   | (refine nR rfl 29 rfl (zC 29) (lA _) ?_)
   | (refine lJ rfl 29 _ _ rfl w3.heap.size 29 (zC 29) (zC 29) rfl rfl (St.new w3 _ _) rfl (by rw[fD,gY]) zM ?_))
  go_ret;exact HZ.out
 ·have dJ:Below W0.heap.size W0 ((w3.alloc (.cells (zC 29) 29)).setRow w3.heap.size (zC 29)):=kT (H3.out.trans ((al w3 _).mono H3.out.size)) H3.out.size _;have HZ:Hid (qH pre ⟨nm,kk,rx⟩ w (.returned (.int .i64 6)) ((w3.alloc (.cells (zC 29) 29)).setRow w3.heap.size (zC 29))):=⟨_,rfl,inr ⟨HN.out,inr ⟨sg.out,inr ⟨Dl.out,inr ⟨t,hT,inl ⟨lI,rfl⟩⟩⟩⟩⟩,oB.out _ dJ⟩
  clear hT lI dJ;go_wp2_with (first
   | (refine nR rfl 29 rfl (zC 29) (lA _) ?_)
   | (refine lJ rfl 29 _ _ rfl w3.heap.size 29 (zC 29) (zC 29) rfl rfl (St.new w3 _ _) rfl (by rw[fD,gY]) zM ?_))
  go_ret;exact HZ.out
 have K6:=hid (Zz qj (Zz pE (Zz V2 hT)));have dJ:Below W0.heap.size W0 ((w3.alloc (.cells (zC 29) 29)).setRow w3.heap.size X.cD):=kT (H3.out.trans ((al w3 _).mono H3.out.size)) H3.out.size _;have kV:Below w3.heap.size w3 ((w3.alloc (.cells (zC 29) 29)).setRow w3.heap.size X.cD):=kT (al w3 _) (Nat.le_refl _) _;have sV:St ((w3.alloc (.cells (zC 29) 29)).setRow w3.heap.size X.cD) 29 w3.heap.size X.cD:=(St.new w3 _ _).setRow;go_upto_region 10 with (first
  | (refine nR rfl 29 rfl (zC 29) (lA _) ?_)
  | (refine lJ rfl 29 _ _ rfl w3.heap.size 29 (zC 29) X.cD rfl rfl (St.new w3 _ _) (by rw[gY,qj.sz]) (by rw[fD,qj.sz]) qj.one ?_))
 try simp only[put,sA]
 have tG:=qj.below kV;generalize (w3.alloc (.cells (zC 29) 29)).setRow w3.heap.size X.cD=V at dJ kV sV tG⊢;generalize w3.heap.size=b7 at kV sV⊢;have HV:=hid (Zz sV (Zz tG dJ));have HH:=hid (zn5 X C K6.out.2.1.r ⟨#[]⟩ 0 rfl (by omega) V tG);have HL:=hid (K6.out.2.2.1 (fw ⟨#[]⟩) 0 (fun j=>vy _ j));generalize bp X (bB X 0 (fw ⟨#[]⟩) 0)=mk at HH HL;clear dJ kV sV tG qj pE V2 hT;by_cases tx:ec t []
 ·have h0:mk=0:=HL.out.1 tx;rw[h0] at HH;clear h0;have HZ:Hid (∀W,Below V.heap.size V W->qH pre ⟨nm,kk,rx⟩ w (.returned (.int .i64 14)) W):=fun W h=>⟨_,rfl,inr ⟨HN.out,inr ⟨sg.out,inr ⟨Dl.out,inr ⟨t,K6.out.2.2.2,inr (inl ⟨tx,rfl⟩)⟩⟩⟩⟩,oB.out _ (HV.out.2.2.trans (h.mono HV.out.2.2.size))⟩
  go_wp2_with (first
   | (refine jr (by rfl) 29 _ rfl ⟨b7,0,none⟩ rfl X.cD _ HV.out.1.part underlying29 rfl HV.out.2.1.info ?_)
   | (go_at_call 63;refine HH.out.mono ?_;rintro e w9 ⟨rfl,b9⟩))
  go_ret;exact HZ.out _ b9
 have h0:mk=-1:=HL.out.2 tx;rw[h0] at HH;clear h0;have HZ:Hid (∀W,Below V.heap.size V W->qH pre ⟨nm,kk,rx⟩ w (.returned (.int .i64 0)) W):=fun W h=>⟨_,rfl,inr ⟨HN.out,inr ⟨sg.out,inr ⟨Dl.out,inr ⟨t,K6.out.2.2.2,inr (inr ⟨tx,rfl⟩)⟩⟩⟩⟩,oB.out _ (HV.out.2.2.trans (h.mono HV.out.2.2.size))⟩
 go_wp2_with (first
  | (refine jr (by rfl) 29 _ rfl ⟨b7,0,none⟩ rfl X.cD _ HV.out.1.part underlying29 rfl HV.out.2.1.info ?_)
  | (go_at_call 63;refine HH.out.mono ?_;rintro e w9 ⟨rfl,b9⟩))
 go_ret;exact HZ.out _ b9
def Yh(l:List Ru):Prop:=∀j (h:j<l.length),l[j].nm.size<=maxLen/\l[j].rx.size<=1600
def jG(l:List Ru)(k:Nat):Prop:=∀j (h:j<l.length),j<k->Dc (l.take j) l[j] 0
def N5(l:List Ru)(w:World)(e:Ending)(w':World):Prop:=Below w.heap.size w w'/\
 (
  (60<l.length/\e=.returned (.tuple #[.int .i64 (l.length:Int),.int .i64 6]))\/
  (∃(i:Nat) (h:i<l.length) (er:Int),er≠0/\jG l i/\Dc (l.take i) l[i] er/\e=.returned (.tuple #[.int .i64 (i:Int),.int .i64 er]))\/
  (l.length<=60/\jG l l.length/\e=.returned (.tuple #[.int .i64 (l.length:Int),.int .i64 0])))
theorem zkc(n c:Nat)(a:Option Addr)(l:List Ru)(hl:l.length=n)(hn:n<=100000)(MZ:n<=c)(hB:Yh l)(w:World)(h1:kv w a l):
  Calls prog 20 #[.slice a n c] w (N5 l w):=by
 have H:=hid (Zz h1 (Zz hB hl));clear h1 hB hl;go_in;by_cases h6:60<n
 ·have i1:(60:Int)<n:=by omega
  have HZ:Hid (N5 l w (.returned (.tuple #[.int .i64 (n:Int),.int .i64 6])) w):=by
   refine⟨Below.refl _ _,inl ⟨?_,?_⟩⟩
   ·rw[H.out.2.2];exact h6
   rw[H.out.2.2]
  go_wp2;go_ret2;exact HZ.out
 have i1:¬((60:Int)<n):=by omega
 go_wp2;go_loopw [4,5,13] (fun _ _ v wr=>∃k:Nat,v=.int .i64 k/\k<=n/\Hid (Below w.heap.size w wr/\jG l k)) (fun _ _ v _=>n-(intOf v).toNat)
 ·exact⟨0,rfl,zero_le _,Below.refl _ _,fun j _ h=>by omega⟩
 obtain⟨k,rfl,hk,HL⟩:=hrel;by_cases aq:k<n
 ·have hkl:k<l.length:=by rw[H.out.2.2];exact aq
  have i2:(k:Int)<n:=by omega
  have HC:=hid (zfV n c a l H.out.2.2 hn MZ k hkl (H.out.2.1 k hkl).1 (H.out.2.1 k hkl).2 wr (H.out.1.below HL.out.1));go_wp2_with (go_at_call 36;refine HC.out.mono ?_);rintro e w2 ⟨er,rfl,hE,b2⟩;have H2:=hid (Zz (HL.out.1.trans (b2.mono HL.out.1.size)) hE);clear b2 hE HC;by_cases h0:er=0
  ·subst h0;have HN:Hid (jG l (k+1)):=fun j hj hjk=>by
    by_cases e:j=k
    ·subst e;exact H2.out.2
    exact HL.out.2 j hj (by omega)
   skip;go_wp2;go_roundw
   ·exact⟨k+1,by go_num,by omega,H2.out.1,HN.out⟩
   simp[intOf];omega
  have i3:((er:Int) != 0)=true:=by rw[bne_iff_ne];exact h0
  have HZ:Hid (N5 l w (.returned (.tuple #[.int .i64 (k:Int),.int .i64 er])) w2):=⟨H2.out.1,inr (inl ⟨k,hkl,er,h0,HL.out.2,H2.out.2,rfl⟩)⟩
  clear h0;go_wp2;go_ret2;exact HZ.out
 obtain rfl:k=n:=by omega
 have HZ:Hid (N5 l w (.returned (.tuple #[.int .i64 (k:Int),.int .i64 0])) wr):=by
  refine⟨HL.out.1,inr (inr ⟨?_,?_,?_⟩)⟩
  ·rw[H.out.2.2];omega
  ·rw[H.out.2.2];exact HL.out.2
  rw[H.out.2.2]
 go_wp2;go_ret2;exact HZ.out
theorem Gn(hw:t.wf)(Lo:t'.wf)(h:t.flat=t'.flat):eJ t 0=eJ t' 0:=by rw[<-Ra t hw,<-Ra t' Lo,h]
theorem LI(hw:t.wf)(Lo:t'.wf)(h:t.flat=t'.flat)(z:Nat->Nat)(hz:∀j,z j<256)(m:Nat):ec t ((range m).map z)↔ec t' ((range m).map z):=by
 rw[<-Mc t hw z hz m,<-Mc t' Lo z hz m,Gn hw Lo h];unfold eB;rw[h]
theorem fU.flat{s:ByteArray}(h:fU s t)(h':fU s t'):t.flat=t'.flat:=by
 have:=h.2.1.symm.trans h'.2.1;simpa using this
theorem fU.nE{s:ByteArray}(h:fU s t){er:Nat}(he:nu s er):False:=by
 rcases he with ⟨_,he⟩|⟨_,l,he,hl⟩
 ·exact he _ h.2.1
 have e:=he.symm.trans h.2.1;simp at e;have:=h.2.2;rw[e] at hl;omega
theorem zfW(s:ByteArray)(hs:s.size<=1600)(t:Rx)(h:fU s t)(w:World):Calls prog 30 #[.string s] w (sY t t.flat.length w):=by
 refine (WL s hs w).mono ?_;intro e w' hp;rcases hp with ⟨er,he,_⟩|⟨t',hw,qs,hle,hN⟩
 ·exact (h.nE he).elim
 have hf:t'.flat=t.flat:=fU.flat ⟨hw,qs,hle⟩ h;have hE:=Gn hw h.1 hf;unfold sY at hN⊢;rw[hE] at hN;unfold eB at hN⊢;rw[hf] at hN;exact hN
def fX(t:Rx):NF:=⟨2*t.flat.length,2*eB t 0,2*eB t 0+1,eJ t 0⟩
theorem BL(t:Rx):(fX t).ok:=by
 have h1:=Ro t 0;refine⟨?_,?_,fun e he=>?_⟩
 ·show 2*eB t 0<2*t.flat.length;omega
 ·show 2*eB t 0+1<2*t.flat.length;omega
 have h2:=FY t 0 e he;show e.f<2*t.flat.length/\e.t<2*t.flat.length;omega
theorem uD:(prog.info? 55).map (fun i=>(i.zero,i.size,i.bytes))=some (some (.agg #[.int .i64 0,.slice none 0 0,.int .i64 0,.int .i64 0]),4,48):=by kernel_rfl
def EY(M:NF)(a:Option Addr)(c:Nat):List Value:=[.int .i64 ((M.N:Nat):Int),.slice a M.L.length c,.int .i64 ((M.F:Nat):Int),.int .i64 ((M.T:Nat):Int)]
def Bo(M:Nat->NF)(A:Nat->Option Addr)(C:Nat->Nat)(k:Nat):List Value:=(range k).flatMap fun j=>EY (M j) (A j) (C j)
theorem IE(M:Nat->NF)(A:Nat->Option Addr)(C:Nat->Nat)(k:Nat):Bo M A C (k+1)=Bo M A C k++EY (M k) (A k) (C k):=by
 unfold Bo;rw[range_succ,List.flatMap_append];simp
theorem zpJ(M:Nat->NF)(A:Nat->Option Addr)(C:Nat->Nat)(k:Nat):(Bo M A C k).length=k*4:=by
 induction k with
 | zero=>rfl
 | succ k ih=>rw[IE,length_append,ih];simp[EY];omega
theorem Lw(M:Nat->NF)(A:Nat->Option Addr)(C:Nat->Nat)(k i:Nat)(h:i<k)(j:Nat)(hj:j<4):(Bo M A C k)[i*4+j]?=(EY (M i) (A i) (C i))[j]?:=by
 induction k with
 | zero=>omega
 | succ k ih=>
  have hl:=zpJ M A C k;rw[IE];by_cases e:i<k
  ·rw[List.getElem?_append_left (by omega)];exact ih e
  obtain rfl:i=k:=by omega
  rw[List.getElem?_append_right (by omega),hl,show i*4+j-i*4=j by omega]
theorem zlP{A':Nat->Option Addr}{C C':Nat->Nat}(h:∀j,j<k->A j=A' j/\C j=C' j):Bo M A C k=Bo M A' C' k:=by
 induction k with
 | zero=>rfl
 | succ k ih=>rw[IE,IE,ih (fun j hj=>h j (by omega)),(h k (by omega)).1,(h k (by omega)).2]
structure sH (W0:World)(M:Nat->NF)(k:Nat)(v:Value)(A:Nat->Option Addr)(C:Nat->Nat)(w:World):Prop where
 own:w.ownsRow W0.heap.size 55 4 v k (Bo M A C k)
 ed:∀j,j<k->w.ownsRow W0.heap.size 117 7 (.slice (A j) (M j).L.length (C j)) (M j).L.length (dj ((M j).L.map En.z))
 below:Below W0.heap.size W0 w
theorem sH.ab{v:Value}{C:Nat->Nat}(h:sH W0 M k v A C w)(kk:Below w.heap.size w w'):sH W0 M k v A C w':=
 ⟨cY h.own kk,fun j hj=>cY (h.ed j hj) kk,h.below.trans (kk.mono h.below.size)⟩
theorem sH.mg{C:Nat->Nat}(h:sH W0 M k (.slice a k c) A C w):xn w a k (fun j=>(M j).mg (A j) (C j)):=by
 intro h0;obtain⟨g,e,_,hg,hc⟩:=ek h.own h0;refine⟨g,0,e,hg,fun j hj=>⟨⟨?_,?_,?_,?_⟩,?_⟩⟩
 ·have:=Lw M A C k j hj 0 (by omega);rw[zero_add,(hc (j*4) (by omega)).1,show j*4=j*4+0 by omega,this];rfl
 ·rw[zero_add,(hc (j*4+1) (by omega)).1,Lw M A C k j hj 1 (by omega)];simp[EY,NF.mg]
 ·rw[zero_add,(hc (j*4+2) (by omega)).1,Lw M A C k j hj 2 (by omega)];rfl
 ·rw[zero_add,(hc (j*4+3) (by omega)).1,Lw M A C k j hj 3 (by omega)];rfl
 intro h1;have hl:((M j).L.map En.z).length=(M j).L.length:=length_map ..;have YA:0<((M j).L.map En.z).length:=h1;obtain⟨g',e',_,AB,hc'⟩:=ek (h.ed j hj) (by omega);refine⟨g',0,e',AB,fun i hi=>?_⟩;have hi':i<((M j).L.map En.z).length*7:=hi;rw[zero_add,(hc' i (by omega)).1];rfl
def l6(la:Nat->Nat):Nat->Nat->Int
 | 0=>fun _=>-1
 | k+1=>fun x=>if x=la k then (k:Int) else l6 la k x
theorem znx(la:Nat->Nat)(N k:Nat)(hk:la k<N):(ints ((range N).map (l6 la k))).set (la k) (.int .i64 (k:Int))=ints ((range N).map (l6 la (k+1))):=by
 apply ext_getElem?;intro i;rw[List.getElem?_set];by_cases hi:i<N
 ·by_cases e:la k=i
  ·subst e;simp[ints,hi,l6]
  have e':¬i=la k:=fun h=>e h.symm
  simp[ints,hi,l6,e,e']
 by_cases e:la k=i
 ·omega
 simp[ints,e,hi]
theorem ME(M:Nat->NF):∀(n i:Nat),i<n->(jL M n).getD i 0=uo M i+(M i).T:=by
 intro n
 induction n with
 | zero=>intro i h;omega
 | succ n ih=>
  intro i hi;have hl:=Za M n;simp only[jL];by_cases e:i<n
  ·have:=ih i e;rw[getD_eq_getElem?_getD,List.getElem?_append_left (by omega),<-getD_eq_getElem?_getD];exact this
  obtain rfl:i=n:=by omega
  rw[getD_eq_getElem?_getD,List.getElem?_append_right (by omega),hl];simp
theorem WR(M:Nat->NF)(n:Nat)(h:∀k,k<n->(M k).ok)(i:Nat)(hi:i<n):(jL M n).getD i 0<uo M n:=by
 rw[ME M n i hi];have h1:=(h i hi).t;have h2:=QH M (show i+1<=n by omega);have h3:uo M (i+1)=uo M i+(M i).N:=rfl;omega
theorem zqz{L:List Eg}(h:w.ownsRow B 117 7 (.slice a n c) n (dj L))(hn:L.length=n):gq w a L:=by
 intro h0;obtain⟨g,e,_,hg,hc⟩:=ek h (by omega);exact⟨g,0,e,hg,fun j hj=>by rw[zero_add,(hc j (by omega)).1]⟩
theorem zqA{z:Nat->Int}(h:w.ownsRow B 3 1 (.slice a n c) n (ints ((range n).map z))):kW w a n z:=by
 intro h0;obtain⟨g,e,_,hg,hc⟩:=ek h (by omega);refine⟨g,0,e,hg,fun j hj=>?_⟩;rw[zero_add,(hc j (by omega)).1];simp[ints,hj]
def Tm(M:Nat->NF)(n:Nat)(w:World)(e:Ending)(w':World):Prop:=
 ∃aE cE aM cM,e=.returned (.tuple #[.agg #[.int .i64 ((uo M n:Nat):Int),.slice aE (uE M n).length cE,.int .i64 0,.int .i64 0],.slice aM (uo M n) cM])/\
  gq w' aE ((uE M n).map En.z)/\kW w' aM (uo M n) (l6 (fun i=>(jL M n).getD i 0) n)/\Below w.heap.size w w'
theorem zeI(n c:Nat)(a:Option Addr)(l:List Ru)(T:Nat->Rx)(hl:l.length=n)(hn:n<=20)(hT:∀j (h:j<l.length),fU l[j].rx (T j)/\(T j).flat.length<=80/\l[j].rx.size<=1600)(w:World)(h1:kv w a l):
  Calls prog 22 #[.slice a n c] w (Tm (fun j=>fX (T j)) n w):=by
 have H:=hid (Zz h1 (Zz hl hT));have kn:=al w (.cells #[.int .i64 0,.slice none 0 0,.int .i64 0,.int .i64 0] 55);have HB:=hid (Zz (St.new w 55 #[.int .i64 0,.slice none 0 0,.int .i64 0,.int .i64 0]) kn);clear h1 hl hT kn;go_in;go_wp2_with fail;obtain⟨b2,cr⟩:∃b2,w.heap.size=b2:=⟨_,rfl⟩
 have Cz:=hid cr;rw[cr] at HB;rw[cr];clear cr;generalize w.alloc (.cells #[.int .i64 0,.slice none 0 0,.int .i64 0,.int .i64 0] 55)=W0 at HB⊢;go_loopw [4,6,7,8,16] (fun v4 _ _ _ v wr=>∃(k:Nat) (aA:Option Addr) (cA:Nat) (A:Nat->Option Addr) (C:Nat->Nat),v=.int .i64 k/\v4=.slice aA k cA/\k<=n/\Hid (sH W0 (fun j=>fX (T j)) k v4 A C wr)) (fun _ _ _ _ v _=>n-(intOf v).toNat)
 ·exact⟨0,none,0,fun _=>none,fun _=>0,rfl,rfl,zero_le _,World.ownsRow_nil _ _ _ _,fun j hj=>absurd hj (by omega),Below.refl _ _⟩
 obtain⟨k,aA,cA,A,C,rfl,rfl,hk,HL⟩:=hrel;have Pu:Hid (∀W',Below W0.heap.size W0 W'->Below b2 w W'):=fun W' h=>HB.out.2.trans (h.mono (by have:=HB.out.2.size;have:=Cz.out;omega))
 by_cases aq:k<n
 ·have hkl:k<l.length:=by rw[H.out.2.1];exact aq
  have i1:(k:Int)<n:=by omega
  obtain⟨g1,o1,rfl,_,x0,x1,x2⟩:=(H.out.1.below (by rw[Cz.out];exact Pu.out _ HL.out.below)).get k hkl;have A9:=hid (H.out.2.2 k hkl);generalize l[k]=x at x0 x1 x2 A9;obtain⟨nm,kk,rx⟩:=x;dsimp only at x0 x1 x2 A9;have k1:=al wr (.cells #[.string nm,.int .i64 kk,.string rx] 48);have H1:=hid (HL.out.ab k1);have mW:=hid (zfW rx A9.out.2.2 (T k) A9.out.1 (wr.alloc (.cells #[.string nm,.int .i64 kk,.string rx] 48)));clear k1 hkl;go_wp2_with (go_at_call 30;refine mW.out.mono ?_);rintro e w2 ⟨a2,c2,rfl,ho2,CX⟩;have H2:=hid (Zz (H1.out.ab CX) (ga ho2 (by have:=H1.out.below.size;exact this)));obtain⟨S,hS⟩:∃S:Nat,2*(T k).flat.length=S:=⟨_,rfl⟩
  obtain⟨F,hF⟩:∃F:Nat,2*eB (T k) 0=F:=⟨_,rfl⟩
  obtain⟨Tt,TY⟩:∃Tt:Nat,2*eB (T k) 0+1=Tt:=⟨_,rfl⟩
  obtain⟨m,jw⟩:∃m,(eJ (T k) 0).length=m:=⟨_,rfl⟩
  have HQ:Hid (EY (fX (T k)) a2 c2=[.int .i64 (S:Int),.slice a2 m c2,.int .i64 (F:Int),.int .i64 (Tt:Int)]/\(fX (T k)).L=eJ (T k) 0/\(eJ (T k) 0).length=m):=by
   refine⟨?_,rfl,jw⟩;rw[<-hS,<-hF,<-TY,<-jw];rfl
  rw[jw] at H2;rw[TY,hS,hF,jw];clear hS hF TY jw ho2 CX H1 mW;have k3:=al w2 (.cells #[.int .i64 (S:Int),.slice a2 m c2,.int .i64 (F:Int),.int .i64 (Tt:Int)] 55);have s3:=St.new w2 55 #[.int .i64 (S:Int),.slice a2 m c2,.int .i64 (F:Int),.int .i64 (Tt:Int)];have H3:=hid (Zz (H2.out.1.ab k3) (cY H2.out.2 k3));have cv:W0.heap.size<=w2.heap.size:=H2.out.1.below.size;go_upto_region 6 with fail;generalize w2.alloc (.cells #[.int .i64 (S:Int),.slice a2 m c2,.int .i64 (F:Int),.int .i64 (Tt:Int)] 55)=W3 at k3 s3 H3⊢;obtain⟨b7,uV⟩:∃b7,w2.heap.size=b7:=⟨_,rfl⟩
  rw[uV] at s3;rw[uV];obtain⟨q0,q1,q2,q3⟩:=s3.bZ;have zK:W0.heap.size<=W3.heap.size:=H3.out.1.below.size;clear x0 x1 x2 H2 k3 s3 uV cv;have hO:=H3.out.1.own;obtain⟨iT,hT,sN,I8,OE⟩:=info_parts uD;go_wp2_with (at_builtin;refine wpList_append_own _ rfl _ _ 77 rfl W0.heap.size 55 iT (.agg #[.int .i64 0,.slice none 0 0,.int .i64 0,.int .i64 0]) 4 48 underlying77 hT sN I8 OE rfl (by decide) _ _ _ rfl (hO.alloc _) ⟨W3.heap.size,0,none⟩ 1 1 (#[.int .i64 (S:Int),.slice a2 m c2,.int .i64 (F:Int),.int .i64 (Tt:Int)]).toList rfl rfl (World.news_of_block (cs:=#[.int .i64 (S:Int),.slice a2 m c2,.int .i64 (F:Int),.int .i64 (Tt:Int)]) (St.new _ _ _)) ?_ ?_ ?_ ?_ ?_)
  ·exact⟨rfl,rfl,rfl,rfl⟩
  ·unfold maxLen;omega
  ·omega
  ·simp;omega
  intro v' w5 ah ag _;obtain⟨a5,c5,rfl⟩:=bP ah;have HG5:Hid (sH W0 (fun j=>fX (T j)) (k+1) (.slice a5 (k+1) c5) (fun j=>if j=k then a2 else A j) (fun j=>if j=k then c2 else C j) w5):=by
   have qs:=al W3 (.cells #[.int .i64 (S:Int),.slice a2 m c2,.int .i64 (F:Int),.int .i64 (Tt:Int)] 55);have vY:Kept [55] [] (W3.alloc (.cells #[.int .i64 (S:Int),.slice a2 m c2,.int .i64 (F:Int),.int .i64 (Tt:Int)] 55)) w5:=(Kept.refl _ _ _).ae (hO.alloc _) (by simp) ag;refine⟨?_,fun j hj=>?_,(H3.out.1.below.trans (qs.mono zK)).grown ag (by simp;omega) (fun g e=>(hO.lt g e).1)⟩
   ·have e:=IE (fun j=>fX (T j)) (fun j=>if j=k then a2 else A j) (fun j=>if j=k then c2 else C j) k;rw[e,zlP (A':=A) (C':=C) (fun j hj=>by simp[show j≠k by omega])];simp only[if_true];rw[HQ.out.1];exact ah
   by_cases e:j=k
   ·subst e;simp only[if_true];have h9:=fC (cY H3.out.2 qs) vY (by decide) (by simp);show w5.ownsRow _ _ _ (.slice a2 (fX (T j)).L.length c2) (fX (T j)).L.length (dj ((fX (T j)).L.map En.z));rw[HQ.out.2.1,HQ.out.2.2];exact h9
   simp only[if_neg e];exact fC (cY (H3.out.1.ed j (by omega)) qs) vY (by decide) (by simp)
  clear ah ag hO q0 q1 q2 q3;go_wp2;go_roundw
  ·exact⟨k+1,a5,c5,_,_,by go_num,rfl,by omega,HG5⟩
  simp[intOf];omega
 obtain rfl:k=n:=by omega
 have HU:=hid (zmd (fun j=>fX (T j)) k (fun j hj=>⟨BL _,by
  have:=(H.out.2.2 j (by rw[H.out.2.1];exact hj)).2.1
  show 2*(T j).flat.length<=1000
  omega,by
  have:=(H.out.2.2 j (by rw[H.out.2.1];exact hj)).2.1
  have h2:=Rt (T j) 0
  show (eJ (T j) 0).length<=1000
  omega⟩) (by omega) A C aA cA wr HL.out.mg)
 have Yo:Hid (1<=uo (fun j=>fX (T j)) k/\uo (fun j=>fX (T j)) k<=1+20*160):=by
  refine⟨Mj _ _,?_⟩;have h9:=Su (fun j=>fX (T j)) k 160 (fun j hj=>by
   have:=(H.out.2.2 j (by rw[H.out.2.1];exact hj)).2.1
   show 2*(T j).flat.length<=160
   omega)
  have Uh:k*160<=20*160:=Nat.mul_le_mul_right _ (by omega);omega
 have Zl:=hid (Za (fun j=>fX (T j)) k);have E3:Hid (∀i,i<k->(jL (fun j=>fX (T j)) k).getD i 0<uo (fun j=>fX (T j)) k):=by
  exact fun i hi=>WR (fun j=>fX (T j)) k (fun j _=>BL _) i hi
 go_wp2_with (go_at_call 39;refine HU.out.mono ?_);rintro e w2 ⟨aE,cE,aL,cL,rfl,Pa,FV,CX⟩;obtain⟨U,hU⟩:∃U,uo (fun j=>fX (T j)) k=U:=⟨_,rfl⟩
 obtain⟨mE,Lt⟩:∃mE,(uE (fun j=>fX (T j)) k).length=mE:=⟨_,rfl⟩
 obtain⟨la,tx⟩:∃la:Nat->Nat,(fun i=>(jL (fun j=>fX (T j)) k).getD i 0)=la:=⟨_,rfl⟩
 have Jc:Hid (∀e w',(∃aE cE aM cM,e=.returned (.tuple #[.agg #[.int .i64 (U:Int),.slice aE mE cE,.int .i64 0,.int .i64 0],.slice aM U cM])/\gq w' aE ((uE (fun j=>fX (T j)) k).map En.z)/\kW w' aM U (l6 la k)/\Below w.heap.size w w')->Tm (fun j=>fX (T j)) k w e w'):=fun e w' h=>by
  unfold Tm;rw[hU,Lt,tx];exact h
 have HLa:Hid (∀i,i<k->la i<U):=fun i hi=>by
  rw[<-tx,<-hU];exact E3.out i hi
 have X8:Hid (cW (jL (fun j=>fX (T j)) k)=(range k).map fun i=>.int .i64 ((la i:Nat):Int)):=by
  show _=_;apply ext_getElem?;intro i;by_cases hi:i<k
  ·have e:la i=(jL (fun j=>fX (T j)) k).getD i 0:=(by rw[<-tx]);have yy:=Zl.out;simp[cW,hi,e,getD_eq_getElem?_getD,yy]
  have yy:=Zl.out;simp[cW,hi,yy]
 rw[X8.out] at FV;rw[Lt] at Pa⊢;rw[hU] at Yo;rw[hU];have H2:Hid (w2.ownsRow b2 117 7 (.slice aE mE cE) mE (dj ((uE (fun j=>fX (T j)) k).map En.z))/\w2.ownsRow b2 3 1 (.slice aL k cL) k ((range k).map fun i=>.int .i64 ((la i:Nat):Int))/\St w2 55 b2 #[.int .i64 0,.slice none 0 0,.int .i64 0,.int .i64 0]/\Below b2 w w2/\b2<w2.heap.size):=by
  have h3:=HL.out.below.size;have h4:=CX.size;have h5:=HB.out.1.lt;exact⟨ga Pa (by omega),ga FV (by omega),(HB.out.1.ab HL.out.below).ab CX,(Pu.out _ HL.out.below).trans (CX.mono (by omega)),by omega⟩
 have HmE:=hid Lt;clear Pa FV CX Lt tx hU HU HL E3 X8;have k3:=al w2 (.cells #[.int .i64 (U:Int),.slice aE mE cE,.int .i64 0,.int .i64 0] 55);have s3:=St.new w2 55 #[.int .i64 (U:Int),.slice aE mE cE,.int .i64 0,.int .i64 0];have H3:=hid (Zz (cY H2.out.1 k3) (Zz (cY H2.out.2.1 k3) (Zz (H2.out.2.2.1.ab k3) (Zz (H2.out.2.2.2.1.trans (k3.mono (le_of_lt H2.out.2.2.2.2))) (Nat.lt_of_lt_of_le H2.out.2.2.2.2 k3.size)))));go_upto_region 9 with fail;generalize w2.alloc (.cells #[.int .i64 (U:Int),.slice aE mE cE,.int .i64 0,.int .i64 0] 55)=W3 at k3 s3 H3⊢;obtain⟨b9,pL⟩:∃b9,w2.heap.size=b9:=⟨_,rfl⟩
 rw[pL] at s3;rw[pL];clear pL k3 H2;have q0:=(s3.ab (al W3 (.cells #[.int .i64 (-1)] 3))).bZ.1;have Yg:Hid (1<=U/\U<=3201):=Yo.out;have mm:Hid (∀(W:World) (g:Nat),W.cell? ⟨g,0,none⟩=some (.int .i64 (-1))->g<W.heap.size->Calls prog 40 #[.slice (some ⟨g,0,none⟩) 1 1,.int .i64 (U:Int)] W (Nt U W)):=fun W g h1 h2=>VL U Yg.out.1 (by have:=Yg.out.2;omega) g W h1 h2
 have ZA:=hid s3;clear s3;go_wp2_with fail;refine (mm.out _ _ (by exact cell_one_new _ _ _ 0 _ rfl) (by simp)).mono ?_;rintro e w5 ⟨gM,rfl,o5,b5⟩;have H5:Hid (∃W4:World,Below W4.heap.size W4 w5/\W4.heap.size<=gM/\w5.ownsRow W4.heap.size 3 1 (.slice (some ⟨gM,0,none⟩) U U) U (ints ((range U).map (l6 la 0)))/\W4.ownsRow b2 117 7 (.slice aE mE cE) mE (dj ((uE (fun j=>fX (T j)) k).map En.z))/\W4.ownsRow b2 3 1 (.slice aL k cL) k ((range k).map fun i=>.int .i64 ((la i:Nat):Int))/\St W4 55 b2 #[.int .i64 0,.slice none 0 0,.int .i64 0,.int .i64 0]/\Below b2 w W4/\St W4 55 b9 #[.int .i64 (U:Int),.slice aE mE cE,.int .i64 0,.int .i64 0]/\b2<W4.heap.size):=by
  have k2:=al W3 (.cells #[.int .i64 (-1)] 3);refine⟨_,b5,kD o5 gM rfl,?_,cY H3.out.1 k2,cY H3.out.2.1 k2,H3.out.2.2.1.ab k2,H3.out.2.2.2.1.trans (k2.mono (le_of_lt H3.out.2.2.2.2)),ZA.out.ab k2,Nat.lt_of_lt_of_le H3.out.2.2.2.2 k2.size⟩;have e:(range U).map (l6 la 0)=List.replicate U (-1):=by
   apply ext_getElem?;intro i;by_cases hi:i<U
   ·simp[hi,l6]
   simp[hi]
  rw[e];exact o5
 obtain⟨W4,h4⟩:=H5.out;have H4:=hid h4.2.2.2;have HP:Hid (w5.ownsRow W4.heap.size 3 1 (.slice (some ⟨gM,0,none⟩) U U) U (ints ((range U).map (l6 la 0)))/\Below W4.heap.size W4 w5):=⟨h4.2.2.1,h4.1⟩
 have Hg:=hid h4.2.1;clear h4 H5 o5 b5 H3 ZA q0 mm H Pu HB;go_wp2;go_loopw [12,13,42] (fun _ _ v wr=>∃(i:Nat),v=.int .i64 i/\i<=k/\Hid (wr.ownsRow W4.heap.size 3 1 (.slice (some ⟨gM,0,none⟩) U U) U (ints ((range U).map (l6 la i)))/\Below W4.heap.size W4 wr)) (fun _ _ v _=>k-(intOf v).toNat)
 ·exact⟨0,rfl,zero_le _,HP⟩
 obtain⟨i,rfl,hi,HI⟩:=hrel;by_cases aq:i<k
 ·have i1:(i:Int)<k:=by omega
  obtain⟨gL,rfl,_,_,Ua⟩:=ek (cY H4.out.2.1 HI.out.2) (by omega);have c0:=(Ua i (by omega)).1;rw[show ((range k).map fun i=>(Value.int .i64 ((la i:Nat):Int)))[i]?=some (.int .i64 ((la i:Nat):Int)) by simp[aq]] at c0;have tx:=HLa.out i aq;have l1:¬((la i:Nat):Int)<0:=by omega
  obtain⟨gM',eM,_,pY,K9⟩:=ek HI.out.1 (by omega);cases eM;have c1:=K9 (la i) (by rw[Nat.mul_one];exact tx);have c2:=c1.1;have c3:=c1.2;rw[show (ints ((range U).map (l6 la i)))[la i]?=some (.int .i64 (l6 la i (la i))) by simp[ints,tx]] at c2;clear c1 Ua K9;go_wp2;go_roundw
  ·exact⟨i+1,by go_num,by omega,by rw[<-znx la U i tx];exact ua HI.out.1 (la i) tx _,HI.out.2.setCell (p:=⟨gM,la i,none⟩) Hg.out _⟩
  simp[intOf];omega
 obtain rfl:i=k:=by omega
 have HW:Hid (wr.ownsRow b2 117 7 (.slice aE mE cE) mE (dj ((uE (fun j=>fX (T j)) i).map En.z))/\wr.ownsRow b2 3 1 (.slice (some ⟨gM,0,none⟩) U U) U (ints ((range U).map (l6 la i)))/\St wr 55 b2 #[.int .i64 0,.slice none 0 0,.int .i64 0,.int .i64 0]/\Below b2 w wr):=⟨cY H4.out.1 HI.out.2,ga HI.out.1 (le_of_lt H4.out.2.2.2.2.2),H4.out.2.2.1.ab HI.out.2,H4.out.2.2.2.1.trans (HI.out.2.mono (le_of_lt H4.out.2.2.2.2.2))⟩
 obtain⟨z0,z1,z2,z3⟩:=(H4.out.2.2.2.2.1.ab HI.out.2).bZ;obtain⟨x0,x1,x2,x3,g0,g1,g2,g3⟩:=bS HW.out.2.2.1;have oU:Hid (St ((((wr.setCell ⟨b2,0,none⟩ (.int .i64 (U:Int))).setCell ⟨b2,1,none⟩ (.slice aE mE cE)).setCell ⟨b2,2,none⟩ (.int .i64 0)).setCell ⟨b2,3,none⟩ (.int .i64 0)) 55 b2 #[.int .i64 (U:Int),.slice aE mE cE,.int .i64 0,.int .i64 0]):=HW.out.2.2.1.mo _ _ _ _;have HF:=hid (Zz (E9 HW.out.1 HW.out.2.2.1 (by decide) (.int .i64 (U:Int)) (.slice aE mE cE) (.int .i64 0) (.int .i64 0)) (Zz (E9 HW.out.2.1 HW.out.2.2.1 (by decide) (.int .i64 (U:Int)) (.slice aE mE cE) (.int .i64 0) (.int .i64 0)) (qy HW.out.2.2.2 (Nat.le_refl _) (.int .i64 (U:Int)) (.slice aE mE cE) (.int .i64 0) (.int .i64 0))));go_wp2_with fail;generalize (((wr.setCell ⟨b2,0,none⟩ (.int .i64 (U:Int))).setCell ⟨b2,1,none⟩ (.slice aE mE cE)).setCell ⟨b2,2,none⟩ (.int .i64 0)).setCell ⟨b2,3,none⟩ (.int .i64 0)=Wf at HF oU⊢;obtain⟨v0,v1,v2,v3⟩:=oU.out.bZ;refine bodyPost_ret (v:=.tuple #[.agg #[.int .i64 (U:Int),.slice aE mE cE,.int .i64 0,.int .i64 0],.slice (some ⟨gM,0,none⟩) U U]) (by simp[results,results22,go_sem,v0,v1,v2,v3]) rfl (Jc.out _ _ ⟨aE,cE,some ⟨gM,0,none⟩,U,rfl,zqz HF.out.1 ?_,zqA HF.out.2.1,?_⟩)
 ·rw[length_map];exact HmE.out
 rw[Cz.out];exact HF.out.2.2
theorem zpL(M:Nat->NF)(n:Nat)(h:∀k,k<n->(M k).ok):si ((uo M n:Nat):Int) ((uE M n).map En.z) ((0:Nat):Int) 0=true:=by
 have hp:=Mj M n;simp only[si,Bool.and_eq_true,List.all_eq_true,wP,F7,List.mem_map];refine⟨?_,by omega,by omega⟩;rintro e ⟨x,hx,rfl⟩;obtain⟨h1,h2,h3⟩:=LG M n h x hx;simp only[En.z];omega
theorem zqY(o:Nat)(L:List En):nB (L.map (En.by o))=nB L:=by
 unfold nB;rw[List.filter_map,length_map];rfl
theorem zqB(M:Nat->NF)(B:Nat):∀n,(∀k,k<n->nB (M k).L<=B)->nB (uE M n)<=n*B:=by
 intro n
 induction n with
 | zero=>intro _;exact Nat.le_of_eq (by simp[uE,nB])
 | succ n ih=>
  intro h;have h1:=ih fun k hk=>h k (by omega)
  have h2:=h n (by omega);have h3:nB (uE M (n+1))=nB (uE M n)+nB (M n).L:=by
   rw[<-zqY (uo M n) (M n).L];simp[uE,nB,bG,filter_cons]
  rw[h3,Nat.succ_mul];omega
theorem zny(M:Nat->NF)(n:Nat)(h:∀k,k<n->(M k).ok){i:Nat}(hij:i<j)(hj:j<n):(jL M n).getD i 0<(jL M n).getD j 0:=by
 rw[ME M n i (by omega),ME M n j hj];have h1:=(h i (by omega)).t;have h2:=QH M (show i+1<=j by omega);have h3:uo M (i+1)=uo M i+(M i).N:=rfl;omega
theorem zqC(la:Nat->Nat):∀(n i:Nat),(∀i j,i<j->j<n->la i<la j)->i<n->l6 la n (la i)=((i:Nat):Int):=by
 intro n
 induction n with
 | zero=>intro i _ h;omega
 | succ n ih=>
  intro i hm hi;show (if la i=la n then (n:Int) else l6 la n (la i))=_;by_cases e:i=n
  ·subst e;rw[if_pos rfl]
  rw[if_neg (by have:=hm i n (by omega) (by omega);omega)];exact ih i (fun i j h1 h2=>hm i j h1 (by omega)) (by omega)
theorem zqD(la:Nat->Nat)(x:Nat):∀n,(∀i,i<n->x≠la i)->l6 la n x=-1:=by
 intro n
 induction n with
 | zero=>intro _;rfl
 | succ n ih=>
  intro h;show (if x=la n then (n:Int) else l6 la n x)=_;rw[if_neg (h n (by omega))];exact ih fun i hi=>h i (by omega)
def kB(n:Nat)(P:Nat->Prop)(r:Int):Prop:=(r=-1/\∀i,i<n->¬P i)\/∃i,i<n/\r=((i:Nat):Int)/\P i/\∀j,j<i->¬P j
theorem kB.congr{P Q:Nat->Prop}(h:kB n P r)(e:∀i,i<n->(P i↔Q i)):kB n Q r:=by
 rcases h with ⟨h1,h2⟩|⟨i,hi,h1,h2,h3⟩
 ·exact inl ⟨h1,fun i hi hq=>h2 i hi ((e i hi).2 hq)⟩
 exact inr ⟨i,hi,h1,(e i hi).1 h2,fun j hj hq=>h3 j hj ((e j (by omega)).2 hq)⟩
theorem zhZ(h:∀k,k<n->(M k).ok){A:Nat->Prop}(hl:bQ (ik (uo M n) (l6 (fun i=>(jL M n).getD i 0) n)) A r):kB n (fun i=>A ((jL M n).getD i 0)) r:=by
 have hm:∀i j,i<j->j<n->(fun i=>(jL M n).getD i 0) i<(fun i=>(jL M n).getD i 0) j:=fun i j h1 h2=>zny M n h h1 h2
 have fu:∀i,i<n->ik (uo M n) (l6 (fun i=>(jL M n).getD i 0) n) ((jL M n).getD i 0)=((i:Nat):Int):=fun i hi=>by
  have h1:=zqC (fun i=>(jL M n).getD i 0) n i hm hi;unfold ik;rw[if_pos (WR M n h i hi),if_pos (by rw[h1];omega)];exact h1
 have gd:∀x,(∀i,i<n->x≠(jL M n).getD i 0)->ik (uo M n) (l6 (fun i=>(jL M n).getD i 0) n) x=-1:=fun x hx=>by
  have h1:=zqD (fun i=>(jL M n).getD i 0) x n hx;unfold ik;rw[h1];split <;> rfl
 rcases hl with ⟨h1,h2⟩|⟨h1,⟨x,hx,h2⟩,h3⟩
 ·refine inl ⟨h1,fun i hi ha=>?_⟩;have:=h2 _ ha;rw[fu i hi] at this;omega
 by_cases e:∃i,i<n/\x=(jL M n).getD i 0
 ·obtain⟨i,hi,rfl⟩:=e;rw[fu i hi] at h2;refine inr ⟨i,hi,h2.symm,hx,fun j hj ha=>?_⟩;rcases h3 _ ha with h4|h4
  ·rw[fu j (by omega)] at h4;omega
  rw[fu j (by omega)] at h4;omega
 have:=gd x fun i hi he=>e ⟨i,hi,he⟩
 omega
def PB(n:Nat)(T:Nat->Rx)(X:Dd):Prop:=∀(z:Nat->Nat) (m:Nat),(∀j,z j<256)->kB n (fun i=>ec (T i) ((range m).map z)) (bp X (bB X 0 z m))
theorem zlQ(hw:∀i,i<n->(T i).wf){z:Nat->Nat}{m:Nat}(hz:∀j,z j<256)(hl:bQ (ik (uo (fun j=>fX (T j)) n) (l6 (fun i=>(jL (fun j=>fX (T j)) n).getD i 0) n)) (cy (uE (fun j=>fX (T j)) n) 0 z m) r):kB n (fun i=>ec (T i) ((range m).map z)) r:=by
 refine (zhZ (fun k _=>BL _) hl).congr fun i hi=>?_
 rw[ME _ n i hi];rw[(zqi (fun j=>fX (T j)) n (fun k _=>BL _) i hi).run (BL _) z m _ (BL _).t];exact Mc (T i) (hw i hi) z hz m
def M9(l:List Ru)(w:World)(e:Ending)(w':World):Prop:=Below w.heap.size w w'/\
 (
  (∃(i:Nat) (h:i<l.length) (er:Int),er≠0/\jG l i/\Dc (l.take i) l[i] er/\e=.returned (.tuple #[.agg (zC 29),.int .i64 er]))\/
  (jG l l.length/\∃T:Nat->Rx,(∀j (h:j<l.length),fU l[j].rx (T j))/\
   (
    (2000<1+2 ^ nB (uE (fun j=>fX (T j)) l.length)/\e=.returned (.tuple #[.agg (zC 29),.int .i64 6]))\/
    ∃(X:Dd) (C:Nat),e=.returned (.tuple #[.agg X.cD,.int .i64 0])/\DM w' X/\Mn X C/\PB l.length T X)))
theorem jG.rx{l:List Ru}(h:jG l l.length):∃T:Nat->Rx,∀j (hj:j<l.length),fU l[j].rx (T j):=by
 have hx:∀j:Nat,∃t:Rx,∀hj:j<l.length,fU l[j].rx t:=by
  intro j;by_cases hj:j<l.length
  ·rcases h j hj hj with ⟨_,h1⟩|⟨_,⟨_,h1⟩|⟨_,⟨_,h1⟩|⟨_,⟨e5,h1,h2⟩|⟨t,ht,_⟩⟩⟩⟩
   ·omega
   ·omega
   ·omega
   ·rcases h1 with ⟨rfl,_⟩|⟨rfl,_⟩ <;> simp at h2
   exact⟨t,fun _=>ht⟩
  exact⟨.leaf ⟨0,fun _=>false⟩,fun h=>absurd h hj⟩
 exact⟨fun j=>Classical.choose (hx j),fun j hj=>choose_spec (hx j) hj⟩
def FO(l:List Ru):Prop:=∀j (h:j<l.length),l[j].nm.size<=maxLen/\l[j].rx.size<=40
theorem FO.b{l:List Ru}(h:FO l):Yh l:=fun j hj=>⟨(h j hj).1,by have:=(h j hj).2;omega⟩
theorem FO.flat{l:List Ru}(h:FO l){hj:j<l.length}(ht:fU l[j].rx (T j)):(T j).flat.length<=79:=by
 have h1:=zpI ht.2.1;have h2:=(h j hj).2;rw[show (aa l[j].rx).length=l[j].rx.size by simp[aa]] at h1;omega
theorem zqE(la:Nat->Nat)(x:Nat):∀k,l6 la k x<=((k:Nat):Int):=by
 intro k
 induction k with
 | zero=>show (-1:Int)<=_;omega
 | succ k ih=>
  show (if x=la k then (k:Int) else l6 la k x)<=_;split <;> omega
theorem zh0{l:List Ru}(hS:FO l)(hn:l.length<=20)(hT:∀j (h:j<l.length),fU l[j].rx (T j)):
  (uE (fun j=>fX (T j)) l.length).length<=6400/\nB (uE (fun j=>fX (T j)) l.length)<=1000/\uo (fun j=>fX (T j)) l.length<=3201:=by
 refine⟨?_,?_,?_⟩
 ·have h1:=XW (fun j=>fX (T j)) l.length 316 (fun j hj=>by
   have h2:=Rt (T j) 0
   have h3:=hS.flat (hT j hj)
   show (eJ (T j) 0).length<=316
   omega)
  have h2:l.length*(316+1)<=20*317:=Nat.mul_le_mul_right _ hn;omega
 ·have h1:=zqB (fun j=>fX (T j)) 40 l.length (fun j hj=>by
   have h2:=Vk (T j) 0
   have h3:=hS.flat (hT j hj)
   show nB (eJ (T j) 0)<=40
   omega)
  have h2:l.length*40<=20*40:=Nat.mul_le_mul_right _ hn;omega
 have h1:=Su (fun j=>fX (T j)) l.length 160 (fun j hj=>by
  have h3:=hS.flat (hT j hj)
  show 2*(T j).flat.length<=160
  omega)
 have h2:l.length*160<=20*160:=Nat.mul_le_mul_right _ hn;omega
theorem zh1(n c:Nat)(a:Option Addr)(l:List Ru)(hl:l.length=n)(hn:n<=20)(MZ:n<=c)(hS:FO l)(w:World)(h1:kv w a l):
  Calls prog 7 #[.slice a n c] w (M9 l w):=by
 have k0:=al w (.cells (zC 29) 29);have HB:=hid (Zz (St.new w 29 (zC 29)) k0);have H:=hid (Zz h1 (Zz hl hS));have BN:=hid (zkc n c a l hl (by omega) MZ hS.b (w.alloc (.cells (zC 29) 29)) (h1.below k0));clear k0 h1 hl hS;go_in;go_upto_region 1 with (refine nR rfl 29 rfl (zC 29) (lA _) ?_);obtain⟨b0,ay⟩:∃b0,w.heap.size=b0:=⟨_,rfl⟩
 have bW:=hid ay;rw[ay] at HB;rw[ay];clear ay;generalize w.alloc (.cells (zC 29) 29)=W0 at HB BN⊢;go_wp2_with (go_at_call 20;refine BN.out.mono ?_);rintro e w1 ⟨b1,⟨lI,rfl⟩|⟨i,hi,er,BI,r9,ZN,rfl⟩|⟨_,r9,rfl⟩⟩
 ·exfalso;have:=H.out.2.1;omega
 ·have H1:=hid (Zz (HB.out.1.ab b1) (HB.out.2.trans (b1.mono (by have:=HB.out.2.size;have:=bW.out;omega))));have her':(er != 0)=true:=by simp[BI]
  have HF:Hid (M9 l w (.returned (.tuple #[.agg (zC 29),.int .i64 er])) (w1.setRow b0 (zC 29))):=by
   refine⟨?_,inl ⟨i,hi,er,BI,r9,ZN,rfl⟩⟩;have:=kT H1.out.2 (Nat.le_refl b0) (zC 29);rw[bW.out];exact this
  clear r9 ZN b1 BN BI;go_wp2_with (first
   | (refine AE rfl 29 _ rfl #[] (by first|rfl|kernel_rfl|(go_simp;done)) (.agg (zC 29)) (Jb _) ?_)
   | (refine lJ rfl 29 _ _ rfl b0 29 (zC 29) (zC 29) rfl rfl H1.out.1 rfl (by rw[fD,gY]) zM ?_))
  refine bodyPost_ret (ye rfl _ _ b0 (zC 29) _ rfl H1.out.1.setRow.part underlying29 rfl (by rw[fD,gY])) rfl ?_;exact HF.out
 obtain⟨T,hT⟩:=r9.rx;have tF:=hid (Zz r9 hT);have H1:=hid (Zz (HB.out.1.ab b1) (Zz (HB.out.2.trans (b1.mono (by have:=HB.out.2.size;have:=bW.out;omega))) (by have:=b1.size;have:=HB.out.2.size;have:=HB.out.1.lt;show b0<=w1.heap.size;omega)));have Yf:=hid (zeI n c a l T H.out.2.1 hn (fun j hj=>⟨hT j hj,by have:=H.out.2.2.flat (hT j hj);omega,by have:=(H.out.2.2 j hj).2;omega⟩) w1 ((H.out.1.below (by rw[bW.out];exact HB.out.2)).below b1));have qb:=hid (zh0 H.out.2.2 (by rw[H.out.2.1];exact hn) hT);have UF:Hid (∀k,k<=1+2 ^ nB (uE (fun j=>fX (T j)) n)->2000<k->2000<1+2 ^ nB (uE (fun j=>fX (T j)) l.length)):=fun k h1 h2=>by
  rw[H.out.2.1];omega
 have HE:Hid (∃(EE:List En) (zz:Nat->Int) (U mE:Nat),EE.length=mE/\mE<=6400/\nB EE<=1000/\U<=3201/\si (U:Int) (EE.map En.z) ((0:Nat):Int) 0=true/\(∀e∈EE,e.f<=9223372036854775807/\e.t<=9223372036854775807)/\(∀x,ik U zz x<32768)/\
   (∀k,k<=1+2 ^ nB EE->2000<k->2000<1+2 ^ nB (uE (fun j=>fX (T j)) l.length))/\
   (∀(z:Nat->Nat) (m:Nat) (r:Int),(∀j,z j<256)->bQ (ik U zz) (cy EE 0 z m) r->kB l.length (fun i=>ec (T i) ((range m).map z)) r)/\
   Calls prog 22 #[.slice a n c] w1 (fun e w'=>∃aE cE aM cM,e=.returned (.tuple #[.agg #[.int .i64 (U:Int),.slice aE mE cE,.int .i64 0,.int .i64 0],.slice aM U cM])/\(gq w' aE (EE.map En.z)/\kW w' aM U zz)/\Below w1.heap.size w1 w')):=by
  refine⟨uE (fun j=>fX (T j)) n,l6 (fun i=>(jL (fun j=>fX (T j)) n).getD i 0) n,uo (fun j=>fX (T j)) n,_,rfl,?_,?_,?_,zpL _ n (fun k _=>BL _),fun e he=>?_,fun x=>?_,UF.out,fun z m r hz hL=>?_,?_⟩
  ·have:=qb.out.1;rw[H.out.2.1] at this;exact this
  ·have:=qb.out.2.1;rw[H.out.2.1] at this;exact this
  ·have:=qb.out.2.2;rw[H.out.2.1] at this;exact this
  ·have h3:=LG (fun j=>fX (T j)) n (fun k _=>BL _) e he
   have h4:=qb.out.2.2
   rw[H.out.2.1] at h4
   omega
  ·have h3:=zqE (fun i=>(jL (fun j=>fX (T j)) n).getD i 0) x n
   unfold ik
   split
   ·split <;> omega
   ·omega
  ·rw[H.out.2.1]
   exact zlQ (fun i hi=>(hT i (by rw[H.out.2.1];exact hi)).1) hz hL
  ·exact Yf.out.mono fun e w' ⟨aE,cE,aM,cM,h1,h2,h3,h4⟩=>⟨aE,cE,aM,cM,h1,⟨h2,h3⟩,h4⟩
 obtain⟨EE,zz,U,mE,h1,h2,h3,h4,h5,h6,h7,h8,h9,hA⟩:=HE.out;have Vi:=hid hA;have RG:=hid (Zz h7 (Zz h8 h9));have dc:Hid (∀(W:World) (aE:Option Addr) (cE:Nat) (aM:Option Addr) (cM:Nat),gq W aE (EE.map En.z)/\kW W aM U zz->Calls prog 21 #[.agg #[.int .i64 (U:Int),.slice aE mE cE,.int .i64 0,.int .i64 0],.slice aM U cM] W (oo EE 0 (ik U zz) W)):=fun W aE cE aM cM hh=>zp1 _ 0 0 EE aE mE cE aM U cM zz W hh.2 (by omega) hh.1 h1 h2 (by rw[zi3];exact h3) (by omega) h6 h5
 clear r9 b1 BN HE UF Yf h1 h2 h3 h4 h5 h6 h7 h8 h9 hA hT;go_upto_region 4 with fail;go_upto_region 5 with (first
  | (go_at_call 22;refine Vi.out.mono ?_;rintro e w2 ⟨aE,cE,aM,cM,rfl,Yn,b2⟩)
  | (go_at_call 21;refine (dc.out _ _ _ _ _ Yn).mono ?_;rintro e w3 ⟨cD,er,nm,L',f0,s0,k,R,SS,rfl,b3,G0,cZ,Cw,uN⟩)
  | (refine nR rfl 29 rfl (zC 29) (lA _) ?_)
  | (refine lJ rfl 29 _ _ rfl w3.heap.size 29 (zC 29) cD rfl rfl (St.new w3 _ _) (by rw[gY,cZ]) (by rw[fD,cZ]) Cw ?_))
 try simp only[put,sA]
 have KE:=hid (Zz cZ Cw);have Iw:=hid G0;have kV:Below w3.heap.size w3 ((w3.alloc (.cells (zC 29) 29)).setRow w3.heap.size cD):=kT (al w3 _) (Nat.le_refl _) _;have sV:St ((w3.alloc (.cells (zC 29) 29)).setRow w3.heap.size cD) 29 w3.heap.size cD:=(St.new w3 _ _).setRow;have zK:=b3.size;have cv:=b2.size;have H7:Hid (St ((w3.alloc (.cells (zC 29) 29)).setRow w3.heap.size cD) 29 b0 (zC 29)/\Below b0 w ((w3.alloc (.cells (zC 29) 29)).setRow w3.heap.size cD)):=by
  have hz:=H1.out.2.2;exact⟨((H1.out.1.ab b2).ab b3).ab kV,((H1.out.2.1.trans (b2.mono hz)).trans (b3.mono (by omega))).trans (kV.mono (by omega))⟩
 have oq:Hid (b0<=w3.heap.size):=by have:=H1.out.2.2;show b0<=_;omega
 obtain⟨b7,uV⟩:∃b7,w3.heap.size=b7:=⟨_,rfl⟩
 have G3:=hid uV;rw[uV] at kV sV H7;rw[uV];clear uV G0 cZ Cw zK cv b3 b2 Yn Vi dc;rcases uN with ⟨rfl,lI,rfl⟩|⟨rfl,hk,fm,ms,hD,l5,lP⟩
 ·generalize (w3.alloc (.cells (zC 29) 29)).setRow b7 (zC 29)=V at kV sV H7⊢;have HF:Hid (M9 l w (.returned (.tuple #[.agg (zC 29),.int .i64 6])) (V.setRow b0 (zC 29))):=by
   refine⟨?_,inr ⟨tF.out.1,T,tF.out.2,inl ⟨?_,rfl⟩⟩⟩
   ·have:=kT H7.out.2 (Nat.le_refl b0) (zC 29);rw[bW.out];exact this
   exact RG.out.2.1 _ (T0 Iw.out) lI
  clear lI kV sV;go_wp2_with (first
   | (refine AE rfl 29 _ rfl #[] (by first|rfl|kernel_rfl|(go_simp;done)) (.agg (zC 29)) (Jb _) ?_)
   | (refine lJ rfl 29 _ _ rfl b0 29 (zC 29) (zC 29) rfl rfl H7.out.1 rfl (by rw[fD,gY]) zM ?_))
  refine bodyPost_ret (ye rfl _ _ b0 (zC 29) _ rfl H7.out.1.setRow.part underlying29 rfl (by rw[fD,gY])) rfl ?_;exact HF.out
 obtain⟨D,rfl,Gc,Ff,Qk,Bk⟩:=WS (mf:=ik U zz) RG.out.1 Iw.out KE.out.1 KE.out.2 hk fm hD l5 lP;have tG:=Gc.below (by rw[G3.out];exact kV);generalize (w3.alloc (.cells (zC 29) 29)).setRow b7 D.cD=V at kV sV H7 tG⊢;have HX:Hid (∀z m,(∀j,z j<256)->bQ (ik U zz) (cy EE 0 z m) (bp D (bB D 0 z m))):=Bk;have zF:=hid (X3 D _ Ff V tG);have Hu:=hid (Zz sV tG);have RL:Hid (b0<=V.heap.size):=by have:=oq.out;have:=kV.size;have:=G3.out;show b0<=_;omega
 clear Gc Ff Qk Bk hk fm hD l5 lP kV sV tG;go_upto_region 7 with fail;go_wp2_with (first
  | (refine jr (by rfl) 29 _ rfl ⟨b7,0,none⟩ rfl D.cD _ Hu.out.1.part underlying29 rfl Hu.out.2.info ?_)
  | (go_at_call 23;refine zF.out.mono ?_;rintro e w9 ⟨X,C',rfl,qj,pE,Q4,_,b9⟩)
  | (refine lJ rfl 29 _ _ rfl b0 29 (zC 29) X.cD rfl rfl (H7.out.1.ab b9) (by rw[gY,qj.sz]) (by rw[fD,qj.sz]) qj.one ?_))
 refine bodyPost_ret (ye rfl _ _ b0 X.cD _ rfl (H7.out.1.ab b9).setRow.part underlying29 rfl (by rw[fD,qj.sz])) rfl ?_;refine⟨?_,inr ⟨tF.out.1,T,tF.out.2,inr ⟨X,C',rfl,(bz.stored pE.r qj (H7.out.1.ab b9)).dm,pE,fun z k hz=>?_⟩⟩⟩
 ·have:=kT (H7.out.2.trans (b9.mono RL.out)) (Nat.le_refl b0) X.cD;rw[bW.out];exact this
 rw[Q4 z k hz];exact RG.out.2.2 z k _ hz (HX.out z k hz)
theorem dV.again{k t e:TypeId}{b:Nat}{Q:Value->Value->Prop}(h:dV w k b n Q)(K:Keyed prog k)(ht:prog.underlying t=some (.map k e))
  {key val:Value}{kl:Lit}(ea:keyOf prog k key=some kl) (hv:Q key val):
  ∃w',(Instr.mapUpdate t (.map (some b)) key val).run prog w=.ok () w'/\dV w' k b n Q/\w.grownBy w' (some b):=by
 obtain⟨es,clock,hb,F,hs,hq,eu⟩:=h;rcases K.find w ea es.toList F.keys with ⟨h1,h2⟩|⟨j,e0,h1,h2,h3⟩
 ·obtain⟨e1,h4,h5⟩:=eu _ _ hv;exact absurd h5 (h2 e1 h4)
 have hj:es[j]?=some e0:=by simpa using h2
 have hjl:j<es.toList.length:=(List.getElem?_eq_some_iff.1 h2).1;have rP:∀e',es[j]?=some e'->({ e' with key:=key,val:=val }:MapEntry).key=e'.key:=fun e' jJ=>by rw[hj] at jJ;cases jJ;exact h3.symm
 have jM:(es.modify j (fun e'=>{ e' with key:=key,val:=val })).toList=es.toList.set j { e0 with key:=key,val:=val }:=by rw[Array.toList_modify,modify_eq_set _ _ _ _ h2]
 have Bt:∀x∈es.toList.set j { e0 with key:=key,val:=val },x={ e0 with key:=key,val:=val }\/x∈es.toList:=by
  intro x hx;obtain⟨i,hi,ex⟩:=List.getElem_of_mem hx;rw[List.getElem_set] at ex;split at ex
  ·exact inl ex.symm
  exact inr (ex ▸ getElem_mem _)
 refine⟨setBlock w b (.map (es.modify j (fun e'=>{ e' with key:=key,val:=val })) clock),?_,⟨_,clock,heap_setBlock_same hb _,⟨by simpa using F.size,stamped_modify F.stamped _ _ (fun _ _=>rfl) (fun e' _ jJ=>rP e' jJ),fun x hx=>?_⟩,by simpa using hs,fun x hx=>?_,fun x y hx=>?_⟩,⟨rfl,rfl,rfl,by simp[setBlock],fun i _ hi=>heap_setBlock_other hb _ (fun e=>hi (by rw[e]))⟩⟩
 ·simp[Instr.mapUpdate,run_underlying ht,MapKept.run_getObj_map hb,K.check w false ea,h1,hj,h3,K.stays w ea,MapKept.run_setObj_map _ hb,Result.andThen,setBlock]
 ·rw[jM] at hx;rcases Bt x hx with rfl|xH
  ·exact⟨(kl,.held val),by unfold WideElems.rd fE;rw[ea];rfl⟩
  exact F.reads x xH
 ·rw[jM] at hx;rcases Bt x hx with rfl|xH
  ·exact hv
  exact hq x xH
 obtain⟨e1,h4,h5⟩:=eu x y hx;obtain⟨i,hi,ex⟩:=List.getElem_of_mem h4;rw[jM];by_cases hij:j=i
 ·subst hij;have:e0=e1:=by rw[<-ex];exact (Option.some.inj ((List.getElem?_eq_getElem hi).symm.trans h2)).symm
  exact⟨{ e0 with key:=key,val:=val },List.mem_of_getElem? (by rw[List.getElem?_set_self hjl]),by show key=x;rw[<-h3,this,h5]⟩
 exact⟨e1,by rw[<-ex,<-List.getElem_set_ne hij (by simpa using hi)];exact getElem_mem _,h5⟩
def Ph(L:List Nat)(x y:Value):Prop:=∃s:Nat,s∈L/\x=.int .i64 ((s:Nat):Int)/\y=.agg #[]
def jd(w:World)(b:Nat)(L:List Nat):Prop:=L.Nodup/\dV w 3 b L.length (Ph L)
theorem jd.ab{b:Nat}(h:jd w b L)(k:Below w.heap.size w w'):jd w' b L:=⟨h.1,h.2.same (k.block _ h.2.lt)⟩
theorem jd.put{b:Nat}(h:jd w b L)(hx:x<=1000000)(hn:L.length<maxLen):
  ∃w' L',(Instr.mapUpdate 70 (.map (some b)) (.int .i64 (x:Int)) (.agg #[])).run prog w=.ok () w'/\jd w' b L'/\(∀y,y∈L'↔y∈L\/y=x)/\L'.length<=L.length+1/\w.grownBy w' (some b):=by
 by_cases e:x∈L
 ·obtain⟨w',h1,h2,h3⟩:=h.2.again y9 underlying70 (Ct x (by omega)) (val:=.agg #[]) ⟨x,e,rfl,rfl⟩;exact⟨w',L,h1,⟨h.1,h2⟩,fun y=>⟨inl,fun hh=>hh.elim id fun hh=>hh ▸ e⟩,by omega,h3⟩
 obtain⟨w',h1,h2,h3⟩:=h.2.update (Q':=Ph (x :: L)) y9 underlying70 hn (Ct x (by omega)) (val:=.agg #[]) (by
   rintro y ⟨s,hs,h2,_⟩
   rw[<-JL h2] at hs
   exact e hs) (by
   rintro a b ⟨s,hs,h2,h3⟩
   exact⟨s,mem_cons_of_mem _ hs,h2,h3⟩) ⟨x,List.mem_cons_self ..,rfl,rfl⟩ (by
   rintro a b ⟨s,hs,h2,h3⟩ hne
   rcases List.mem_cons.1 hs with rfl|hs
   ·exact absurd h2 hne
   ·exact⟨b,s,hs,h2,h3⟩)
 exact⟨w',x :: L,h1,⟨List.nodup_cons.2 ⟨e,h.1⟩,h2⟩,fun y=>by rw[List.mem_cons];exact or_comm,by simp,h3⟩
theorem zhT(w:World):(zeroValue 72).run prog w=.ok (.agg #[]) w:=by kernel_rfl
theorem zjX(W:World):(Instr.makeMap 70 none).run prog W=.ok (.map (some W.heap.size)) (W.alloc (.map #[] 0)):=by
 kernel_rfl
theorem jd.made(w:World):jd (w.alloc (.map #[] 0)) w.heap.size []:=⟨List.nodup_nil,dV.made w _ (Ph []) fun x y ⟨s,h,_⟩=>by simp at h⟩
theorem jd.look{b:Nat}(h:jd w b L)(hx:x<=1000000):
  (Instr.lookup 70 (.map (some b)) (.int .i64 (x:Int)) true).run prog w=.ok (.tuple #[.agg #[],.bool (decide (x∈L))]) w:=by
 rcases h.2.ex.nf y9 underlying70 (zhT w) (Ct _ (by omega:x<=9223372036854775807)) with ⟨ct,gd⟩|⟨v,⟨s,h1,h2,rfl⟩,ct⟩
 ·have:¬x∈L:=fun hm=>gd _ ⟨x,hm,rfl,rfl⟩
  simp only[this,decide_false];exact ct
 rw[<-JL h2] at h1;simp only[h1,decide_true];exact ct
theorem jd.len{b:Nat}{ty:TypeId}(h:jd w b L):(Builtin.len_ #[70] ty #[.map (some b)]).run prog w=.ok (.int .i64 (L.length:Int)) w:=
 h.2.len (t:=70) (ty:=ty) (by rw[underlying70];rfl)
def Ik(D:Dd)(n k:Nat)(L:List Nat):Prop:=∀y,y∈L↔y<n/\∃st,st<k/\Ax D 0 st/\bp D ((st:Nat):Int)=((y:Nat):Int)
def JD(D:Dd)(n:Nat)(w:World)(e:Ending)(w':World):Prop:=∃b L,e=.returned (.map (some b))/\jd w' b L/\Ik D n D.n L/\Below w.heap.size w w'
structure nK (D:Dd)(n:Nat)(W1:World)(k:Nat)(f:Nat->Bool)(a:Option Addr)(c:Nat)(w:World)(L:List Nat):Prop where
 set:jd w W1.heap.size L
 mem:Ik D n k L
 len:L.length<=k
 own:w.ownsRow W1.heap.size 4 1 (.slice a D.n c) D.n (fB f D.n)
 below:Below W1.heap.size W1 w
theorem nK.ab(h:nK D n W1 k f a c w L)(kk:Below w.heap.size w w'):nK D n W1 k f a c w' L:=
 ⟨h.set.ab kk,h.mem,h.len,cY h.own kk,h.below.trans (kk.mono h.below.size)⟩
theorem nK.skip(h:nK D n W1 k f a c w L)(gd:¬(Ax D 0 k/\0<=bp D (k:Int)/\bp D (k:Int)<n)):nK D n W1 (k+1) f a c w L:=by
 refine⟨h.set,fun y=>?_,by have:=h.len;omega,h.own,h.below⟩;rw[h.mem y];refine⟨fun ⟨h1,st,h2,h3⟩=>⟨h1,st,by omega,h3⟩,fun ⟨h1,st,h2,h3,h4⟩=>⟨h1,st,?_,h3,h4⟩⟩;by_cases e:st=k
 ·subst e;exact absurd ⟨h3,by omega,by omega⟩ gd
 omega
theorem nK.put(h:nK D n W1 k f a c w L)(hk:k<=1000000)(hx:x<=1000000)(hr:Ax D 0 k)(he:bp D (k:Int)=x)(hn:x<n):
  ∃w' L',(Instr.mapUpdate 70 (.map (some W1.heap.size)) (.int .i64 (x:Int)) (.agg #[])).run prog w=.ok () w'/\nK D n W1 (k+1) f a c w' L':=by
 have hl:=h.len;obtain⟨w',L',h1,h2,h3,h4,h5⟩:=h.set.put hx (by unfold maxLen;omega);refine⟨w',L',h1,h2,fun y=>?_,by omega,yk h.own h.set.2.ex.of h5,h.below.grown h5 h.below.size (fun g e=>by injection e with e;omega)⟩;rw[h3,h.mem y];constructor
 ·rintro (⟨h1,st,h2,h6⟩|rfl)
  ·exact⟨h1,st,by omega,h6⟩
  exact⟨hn,k,by omega,hr,he⟩
 rintro⟨h1,st,h2,h6,h7⟩;by_cases e:st=k
 ·subst e;rw[he] at h7;exact inr (Int.ofNat.inj h7).symm
 exact inl ⟨h1,st,by omega,h6,h7⟩
theorem znn(hR:DR D C)(st:Int):-1<=bp D st/\bp D st<32768:=by
 unfold bp;split
 ·exact hR.q _ (by omega)
 omega
theorem zlD(D:Dd)(C:Nat)(hR:DR D C)(n:Nat)(hn:n<=1000000)(w:World)(hD:DM w D):
  Calls prog 35 #[.agg D.cD,.int .i64 (n:Int)] w (JD D n w):=by
 have jw:=zjX;have cU:=hR.n2;have HB:=hid (Zz (bz.new hD) (Zz (al w (.cells D.cD 29)) hR));clear hD hR;go_in;go_upto_region 1 with fail;generalize w.alloc (.cells D.cD 29)=W0 at HB⊢;obtain⟨b0,ay⟩:∃b0,w.heap.size=b0:=⟨_,rfl⟩
 have bW:=hid ay;rw[ay] at HB;rw[ay];clear ay;go_upto_region 2 with fail;have k1:=al W0 (.map #[] 0);have vb:=hid (HB.out.1.ab k1);have QP:=hid (zij D C 0 (W0.alloc (.map #[] 0)) vb.out.dm HB.out.2.2);have FD:=hid (Zz (jd.made W0) k1);clear k1;obtain⟨W2,ke⟩:∃W2,W0.alloc (.map #[] 0)=W2:=⟨_,rfl⟩
 rw[ke] at vb QP FD;rw[ke];obtain⟨bM,nP⟩:∃bM,W0.heap.size=bM:=⟨_,rfl⟩
 have RU:Hid (W0.heap.size=bM/\bM<=W2.heap.size):=⟨nP,by rw[<-nP,<-ke];simp⟩
 rw[nP];clear nP ke;have hS:=vb.out.st.part;go_wp2_with (first
  | (refine jr (by rfl) 29 _ rfl ⟨b0,0,none⟩ rfl D.cD _ vb.out.st.part underlying29 rfl vb.out.dm.info ?_)
  | (go_at_call 58;refine QP.out.mono ?_;rintro e w3 ⟨f,a,c,rfl,hO,hf,b3⟩))
 have HI:Hid (nK D n W0 0 f a c w3 []):=by
  have h1:=FD.out.2;have h2:=RU.out;refine⟨FD.out.1.ab b3,fun y=>⟨fun h=>by simp at h,fun ⟨_,st,h,_⟩=>absurd h (by omega)⟩,by simp,ga hO (by omega),h1.trans (b3.mono (by omega))⟩
 have Hf:=hid hf;clear hO hf b3 FD QP hS;go_loopw [6,7,8,13] (fun _ _ _ v wr=>∃k:Nat,v=.int .i64 k/\k<=D.n/\Hid (∃L,nK D n W0 k f a c wr L)) (fun _ _ _ v _=>D.n-(intOf v).toNat)
 ·exact⟨0,rfl,zero_le _,_,HI.out⟩
 obtain⟨k,rfl,hk,HL⟩:=hrel;by_cases aq:k<D.n
 ·obtain⟨L,hI⟩:=HL.out;obtain⟨g,off,rfl,hg,hc⟩:=Ko hI.own (by omega);have d0:=hc k aq;have i1:(k:Int)<(D.n:Int):=by omega
  have HI:=hid hI;have LH:=hid (HB.out.1.ab hI.below);have vu:=hid (ZU D C HB.out.2.2 (k:Int) wr LH.out.dm);have hmb:=znn HB.out.2.2 (k:Int);obtain⟨m,hm⟩:∃m,bp D (k:Int)=m:=⟨_,rfl⟩
  rw[hm] at hmb;have Hm:=hid hm;clear hI hg hc HL;go_upto_region 6 with (first
   | (refine jr (by rfl) 29 _ rfl ⟨b0,0,none⟩ rfl D.cD _ LH.out.st.part underlying29 rfl LH.out.dm.info ?_)
   | (go_at_call 59;refine vu.out.mono ?_;rintro e w4 ⟨rfl,b4⟩))
  try rw[hm]
  have Al:=hid (HI.out.ab b4);clear b4 vu LH hm HI;have CV:=Hf.out k aq;by_cases zc:f k=true
  ·have OD:=hid (CV.1 zc);clear CV;rw[zc];by_cases iF:m=-1
   ·subst iF;have HN:=hid (Al.out.skip fun h=>by have h2:=h.2.1;rw[Hm.out] at h2;omega);go_wp2;go_roundw
    ·exact⟨k+1,by go_num,by omega,L,HN.out⟩
    simp[intOf];omega
   obtain⟨x,rfl⟩:∃x:Nat,m=(x:Int):=(⟨m.toNat,by omega⟩);have i2:((x:Int) != -1)=true:=(by simp);by_cases iX:x<n
   ·have i3:(x:Int)<n:=(by omega);obtain⟨w5,L5,vx,xC⟩:=Al.out.put (by omega) (by omega) OD.out Hm.out iX;rw[RU.out.1] at vx;have GI:=hid xC;clear xC;go_wp2;go_roundw
    ·exact⟨k+1,by go_num,by omega,L5,GI.out⟩
    simp[intOf];omega
   have i3:¬(x:Int)<n:=(by omega);have HN:=hid (Al.out.skip fun h=>by have h2:=h.2.2;rw[Hm.out] at h2;omega);go_wp2;go_roundw
   ·exact⟨k+1,by go_num,by omega,L,HN.out⟩
   simp[intOf];omega
  have OD:Hid (¬Ax D 0 k):=fun h=>zc (CV.2 h)
  clear CV;rw[Bool.eq_false_iff.2 zc];have HN:=hid (Al.out.skip fun h=>OD.out h.1);go_wp2;go_roundw
  ·exact⟨k+1,by go_num,by omega,L,HN.out⟩
  simp[intOf];omega
 obtain rfl:k=D.n:=by omega
 obtain⟨L,hI⟩:=HL.out;have HI:=hid hI;have HZ:Hid (JD D n w (.returned (.map (some bM))) wr):=by
  have h1:=RU.out.1;have h2:=HB.out.2.1;have h3:=HI.out.below;have h4:=h2.size;refine⟨bM,L,rfl,by rw[<-h1];exact HI.out.set,HI.out.mem,?_⟩;rw[bW.out];exact h2.trans (h3.mono (by have:=HB.out.1.st.lt;omega))
 clear hI HL;go_wp2;go_ret;exact HZ.out
theorem zjY:∀(n:Nat) (L:List Nat),L.Nodup->(∀y∈L,y<n)->L.length<=n/\(n<=L.length->∀y,y<n->y∈L):=by
 intro n
 induction n with
 | zero=>
  intro L _ h
  cases L with
  | nil=>exact⟨Nat.le_refl _,fun _ y hy=>absurd hy (by omega)⟩
  | cons x l=>exact absurd (h x (List.mem_cons_self ..)) (by omega)
 | succ n ih=>
  intro L hn h;by_cases e:n∈L
  ·have h1:=ih (L.erase n) (hn.erase n) fun y hy=>by
    have h2:=h y (List.mem_of_mem_erase hy);have h3:y≠n:=((List.Nodup.mem_erase_iff hn).1 hy).1;omega
   have h4:=List.length_erase_of_mem e;have h5:0<L.length:=List.length_pos_of_mem e;refine⟨by omega,fun hl y hy=>?_⟩;by_cases e2:y=n
   ·rw[e2];exact e
   exact List.mem_of_mem_erase (h1.2 (by omega) y (by omega))
  have h1:=ih L hn fun y hy=>by
   have h2:=h y hy;have h3:y≠n:=(fun e3=>e (e3 ▸ hy));omega
  exact⟨by omega,fun hl=>absurd hl (by omega)⟩
def DG(D:Dd)(y:Nat):Prop:=∃st,st<D.n/\Ax D 0 st/\bp D ((st:Nat):Int)=((y:Nat):Int)
def zY(D:Dd)(n:Nat)(w:World)(e:Ending)(w':World):Prop:=∃(a:Option Addr) (m c:Nat) (p:Nat->Bool),e=.returned (.slice a m c)/\(∀y,y<n->(p y=true↔¬DG D y))/\
 w'.ownsRow w.heap.size 3 1 (.slice a m c) m (cW ((range n).filter p))/\Below w.heap.size w w'
theorem zjZ(D:Dd)(C:Nat)(hR:DR D C)(n:Nat)(hn:n<=1000000)(w:World)(hD:DM w D):
  Calls prog 19 #[.agg D.cD,.int .i64 (n:Int)] w (zY D n w):=by
 have cU:=hR.n2;have HB:=hid (Zz (bz.new hD) (Zz (al w (.cells D.cD 29)) hR));have tX:=(hR.iq hD.kl).2;clear hD hR;go_in;go_upto_region 1 with fail;generalize w.alloc (.cells D.cD 29)=W0 at HB⊢;obtain⟨b0,ay⟩:∃b0,w.heap.size=b0:=⟨_,rfl⟩
 have bW:=hid ay;rw[ay] at HB;rw[ay];clear ay;have J9:=hid (zjS D (by omega) (by rw[HB.out.2.2.m];omega) (fun i hi=>by rw[HB.out.2.2.len i hi];omega) W0 HB.out.1.dm);go_upto_region 3 with (first
  | (refine jr (by rfl) 29 _ rfl ⟨b0,0,none⟩ rfl D.cD _ HB.out.1.st.part underlying29 rfl HB.out.1.dm.info ?_)
  | (go_at_call 34;refine J9.out.mono ?_))
 rintro e w1 ⟨bt,rfl,kc,b1⟩;obtain rfl:bt=true:=kc.2 ⟨C,HB.out.2.2⟩;have H1:=hid (Zz (HB.out.1.ab b1) (HB.out.2.1.trans (b1.mono (by have:=HB.out.1.st.lt;omega))));have D6:=hid (zlD D C HB.out.2.2 n hn w1 H1.out.1.dm);clear kc b1 J9;go_upto_region 4 with (first
  | (refine jr (by rfl) 29 _ rfl ⟨b0,0,none⟩ rfl D.cD _ H1.out.1.st.part underlying29 rfl H1.out.1.dm.info ?_)
  | (go_at_call 35;refine D6.out.mono ?_;rintro e w2 ⟨bL,L,rfl,zV,sW,b2⟩))
 have hlen:=zV.len (ty:=3);have Bn:=zjY n L zV.1 fun y hy=>((sW y).1 hy).1
 have H2:=hid (Zz zV (Zz sW (H1.out.2.trans (b2.mono (by have:=H1.out.1.st.lt;omega)))));have ay:b0<w2.heap.size:=by have:=H1.out.1.st.lt;have:=b2.size;omega
 obtain⟨ln,lx⟩:∃ln,L.length=ln:=⟨_,rfl⟩
 rw[lx] at hlen Bn;have Hcn:=hid Bn.2;have iJ:=Bn.1;obtain⟨oP,Sr⟩:∃oP,n-ln=oP:=⟨_,rfl⟩
 have e1:IntKind.i64.wrap ((n:Int)-(ln:Int))=(oP:Int):=by
  rw[IntWalk.i64_in _ (by omega)];omega
 clear zV sW b2 D6 Bn;by_cases h0:oP=0
 ·have HZ:Hid (zY D n w (.returned (.slice none 0 0)) w2):=by
   refine⟨none,0,0,fun _=>false,rfl,fun y hy=>⟨fun h=>by simp at h,fun h=>absurd ?_ h⟩,?_,by rw[bW.out];exact H2.out.2.2⟩
   ·exact ((H2.out.2.1 y).1 (Hcn.out (by omega) y hy)).2
   rw[show (range n).filter (fun _=>false)=[] by simp];exact World.ownsRow_nil _ _ _ _
  subst h0;have i2:((0:Nat):Int)<=0:=by omega
  go_wp2;go_ret;exact HZ.out
 have i2:¬(oP:Int)<=0:=by omega
 have i3:¬(oP:Int) > 2147483647:=by omega
 have eR:=RI oP (by omega);have hO:=PU oP (by omega) w2 b0 (by omega);have k2:=al w2 (.cells (madeCells #[.int .i64 0] oP) 3);go_upto_region 8 with fail;have H3:=hid (Zz (H2.out.1.ab k2) (Zz (H2.out.2.2.trans (k2.mono (by omega))) hO));generalize w2.alloc (.cells (madeCells #[.int .i64 0] oP) 3)=W3 at H3⊢;clear hO k2 eR e1 i2 i3 hlen Sr lx;go_wp2;go_loopw [7,8,9,10,30] (fun v7 _ _ _ v wr=>∃(k m:Nat) (a:Option Addr) (c:Nat),v=.int .i64 k/\k<=n/\v7=.slice a m c/\m<=k/\Hid (wr.ownsRow b0 3 1 (.slice a m c) m (cW ((range k).filter fun y=>!decide (y∈L)))/\jd wr bL L/\Below b0 w wr)) (fun _ _ _ _ v _=>n-(intOf v).toNat)
 ·exact⟨0,0,_,_,rfl,zero_le _,rfl,Nat.le_refl _,H3.out.2.2,H3.out.1,H3.out.2.1⟩
 obtain⟨k,m,a,c,rfl,hk,rfl,eR,HI⟩:=hrel;by_cases aq:k<n
 ·have i1:(k:Int)<n:=by omega
  have dE:=HI.out.2.1.look (x:=k) (by omega);by_cases EV:k∈L
  ·simp only[EV,decide_true] at dE;have HK:=hid EV;clear EV;have k3:=al wr (.cells #[] 72);have HN:Hid ((wr.alloc (.cells #[] 72)).ownsRow b0 3 1 (.slice a m c) m (cW ((range (k+1)).filter fun y=>!decide (y∈L)))/\jd (wr.alloc (.cells #[] 72)) bL L/\Below b0 w (wr.alloc (.cells #[] 72))):=by
    refine⟨?_,HI.out.2.1.ab k3,HI.out.2.2.trans (k3.mono (by have:=HI.out.2.2.size;have:=bW.out;omega))⟩;have e:(range (k+1)).filter (fun y=>!decide (y∈L))=(range k).filter fun y=>!decide (y∈L):=by
     rw[range_succ,List.filter_append];simp[HK.out]
    rw[e];exact cY HI.out.1 k3
   clear k3;go_wp2;go_roundw
   ·exact⟨k+1,m,a,c,by go_num,by omega,rfl,by omega,HN.out⟩
   simp[intOf];omega
  simp only[EV,decide_false] at dE;have HK:=hid EV;clear EV;have k3:=al wr (.cells #[] 72);have HN:Hid ((wr.alloc (.cells #[] 72)).ownsRow b0 3 1 (.slice a m c) m (cW ((range k).filter fun y=>!decide (y∈L)))/\jd (wr.alloc (.cells #[] 72)) bL L/\Below b0 w (wr.alloc (.cells #[] 72))):=
   ⟨cY HI.out.1 k3,HI.out.2.1.ab k3,HI.out.2.2.trans (k3.mono (by have:=HI.out.2.2.size;have:=bW.out;omega))⟩
  clear k3;go_upto_region 13 with fail;generalize wr.alloc (.cells #[] 72)=W4 at HN⊢;obtain⟨i0,hi,dy,cJ,cv⟩:=info_parts aG;have cZ:b0<=W4.heap.size:=by have:=HN.out.2.2.size;have:=bW.out;omega
  go_wp2_with (at_builtin;refine wpList_append_own_at _ rfl _ _ 27 rfl b0 3 i0 (.int .i64 0) 1 8 underlying27 hi dy cJ cv rfl (by decide) _ _ _ rfl (HN.out.1.alloc _) ⟨W4.heap.size,0,none⟩ 1 1 [.int .i64 (k:Int)] rfl rfl (cell_one_new _ _ _) ?d2 ?d3 ?d4 ?d5 ?_)
  case d2=>first|(intro u hu;simp at hu;subst hu;rfl)|rfl
  case d3=>unfold maxLen;omega
  case d4=>omega
  case d5=>first|(simp;omega)|omega
  intro v' w5 ah ag _ bJ;obtain⟨a5,c5,rfl⟩:=bP ah;have HF:Hid (w5.ownsRow b0 3 1 (.slice a5 (m+1) c5) (m+1) (cW ((range (k+1)).filter fun y=>!decide (y∈L)))/\jd w5 bL L/\Below b0 w w5):=by
   have kA:=al W4 (.cells #[.int .i64 (k:Int)] 3);have e:(range (k+1)).filter (fun y=>!decide (y∈L))=((range k).filter fun y=>!decide (y∈L))++[k]:=by
    rw[range_succ,List.filter_append];simp[HK.out]
   refine⟨?_,⟨HN.out.2.1.1,(HN.out.2.1.ab kA).2.ae (HN.out.1.alloc _) ag⟩,fG (HN.out.2.2.trans (kA.mono cZ)) (HN.out.1.alloc _) (by have:=kA.size;omega) ag⟩;rw[e];unfold cW at ah⊢;rw[List.map_append];exact ah
  clear ah ag bJ;go_wp2;go_roundw
  ·exact⟨k+1,m+1,a5,c5,by go_num,by omega,rfl,by omega,HF.out⟩
  simp[intOf];omega
 obtain rfl:k=n:=by omega
 have HZ:Hid (zY D k w (.returned (.slice a m c)) wr):=by
  refine⟨a,m,c,fun y=>!decide (y∈L),rfl,fun y hy=>?_,by rw[bW.out];exact HI.out.1,by rw[bW.out];exact HI.out.2.2⟩;have:=H2.out.2.1 y;simp only[Bool.not_eq_true',decide_eq_false_iff_not];rw[this];exact⟨fun h hs=>h ⟨hy,hs⟩,fun h hs=>h hs.2⟩
 go_wp2;go_ret;exact HZ.out
theorem zj1(hR:DR D C)(st:Int){b:Nat}(hb:b<256):-1<=bK D st b/\bK D st b<(D.n:Int):=by
 unfold bK;split
 ·next h=>exact hR.nx st.toNat (D.K b) (by omega) (hR.c.1 b hb)
 omega
def Mw:Rx:=.bin ⟨2,aJ⟩ (.leaf ⟨1,eH (fun _=>105) 1⟩) (.leaf ⟨1,eH (fun _=>102) 1⟩)
def Gu:Nat->Bool:=fun x=>aJ x || ar 97 (122+1-97) x
def Ee:Rx:=.un ⟨5,aJ⟩ (.leaf ⟨1,Gu⟩)
def fJ:ByteArray:=⟨#[105,102]⟩
def qc:ByteArray:=⟨#[105,100]⟩
def qZ:ByteArray:=⟨#[91,97,45,122,93,43]⟩
def jP:List Ru:=[⟨fJ,0,fJ⟩,⟨qc,0,qZ⟩]
theorem MF:fU fJ Mw:=⟨⟨rfl,by decide +kernel,⟨rfl,by decide +kernel⟩,⟨rfl,by decide +kernel⟩⟩,by kernel_rfl,by decide +kernel⟩
theorem NV:fU qZ Ee:=⟨⟨rfl,by decide +kernel,⟨rfl,by decide +kernel⟩⟩,by kernel_rfl,by decide +kernel⟩
theorem Yw:nB (eJ Mw 0)<=2:=by decide +kernel
theorem VF:nB (eJ Ee 0)<=2:=by decide +kernel
theorem NA(c:Nat)(hc:c<256)(s:List Nat):ec (.leaf ⟨1,eH (fun _=>c) 1⟩) s↔s=[c]:=by
 rw[yC,if_pos rfl];constructor
 ·rintro⟨b,rfl,_,h⟩;obtain⟨j,_,e⟩:=(TC _ _ _).1 h;rw[<-e]
 rintro rfl;exact⟨c,rfl,hc,(TC _ _ _).2 ⟨0,by omega,rfl⟩⟩
theorem YW(s:List Nat):ec Mw s↔s=[105,102]:=by
 unfold Mw;rw[CD,if_pos rfl];constructor
 ·rintro⟨u,v,rfl,h1,h2⟩;rw[(NA 105 (by omega) u).1 h1,(NA 102 (by omega) v).1 h2];rfl
 rintro rfl;exact⟨[105],[102],rfl,(NA 105 (by omega) _).2 rfl,(NA 102 (by omega) _).2 rfl⟩
theorem Ou(b:Nat)(h1:97<=b)(h2:b<=122):ec (.leaf ⟨1,Gu⟩) [b]:=by
 rw[yC,if_pos rfl];refine⟨b,rfl,by omega,?_⟩;show (aJ b || ar 97 (122+1-97) b)=true;simp[aJ,ar];omega
theorem zpD:ec Ee [105,102,115]:=by
 unfold Ee;rw[yD,if_neg (by decide),if_pos rfl];exact⟨[105],[102,115],rfl,Ou 105 (by omega) (by omega),dF.app (u:=[102]) (Ou 102 (by omega) (by omega)) (dF.one (Ou 115 (by omega) (by omega)))⟩
theorem zpE:¬ec Ee []:=by
 unfold Ee;rw[yD,if_neg (by decide),if_pos rfl];rintro⟨u,v,h,h1,_⟩;rw[yC,if_pos rfl] at h1;obtain⟨b,rfl,_⟩:=h1;simp at h
theorem znr:gk fJ=true/\gk qc=true/\fJ≠qc/\l7 0=true:=by
 refine⟨by decide +kernel,by decide +kernel,fun h=>?_,by decide⟩;have:fJ.data=qc.data:=by rw[h]
 revert this;decide
theorem ziX{pre:List Ru}{x:Ru}{er:Int}(h:Dc pre x er)(h1:gk x.nm=true)(h2:∀y∈pre,y.nm≠x.nm)(h3:l7 x.k=true)(ht:fU x.rx t)(hn:nB (eJ t 0)<=2)(he:¬ec t []):er=0:=by
 rcases h with ⟨h4,_⟩|⟨_,⟨⟨y,hy,e⟩,_⟩|⟨_,⟨h4,_⟩|⟨_,⟨e5,h4,_⟩|⟨t',rE,h5⟩⟩⟩⟩
 ·rw[h1] at h4;cases h4
 ·exact absurd e (h2 y hy)
 ·rw[h3] at h4;cases h4
 ·exact (ht.nE h4).elim
 have hf:=rE.flat ht;have hE:=Gn rE.1 ht.1 hf;rcases h5 with ⟨h6,_⟩|⟨h6,_⟩|⟨_,h6⟩
 ·rw[hE] at h6;have:2 ^ nB (eJ t 0)<=2 ^ 2:=Nat.pow_le_pow_right (by omega) hn;omega
 ·refine absurd ?_ he;have:=(LI rE.1 ht.1 hf (fun _=>0) (fun _=>by omega) 0).1;exact this h6
 exact h6
theorem zns(hR:DR D C)(z:Nat->Nat)(hz:∀j,z j<256):∀m,0<=bB D 0 z m->bB D 0 z m<(D.n:Int)/\Ax D 0 (bB D 0 z m).toNat:=by
 intro m;have hn:=hR.n1
 induction m with
 | zero=>exact fun _=>⟨by show (0:Int)<_;omega,Int.le_refl _,by omega,jA.base rfl⟩
 | succ m ih=>
  intro h;have h1:bB D 0 z (m+1)=bK D (bB D 0 z m) (z m):=rfl;have h2:=zj1 hR (bB D 0 z m) (hz m);rw[h1] at h⊢;by_cases e:0<=bB D 0 z m/\bB D 0 z m<(D.n:Int)
  ·obtain⟨h3,h4,h5,h6⟩:=ih e.1;refine⟨h2.2,h4,h5,?_⟩;refine h6.step ⟨by omega,D.K (z m),?_,?_⟩
   ·rw[hR.len _ (by omega)];exact hR.c.1 _ (hz m)
   have e2:bK D (bB D 0 z m) (z m)=D.nx (bB D 0 z m).toNat (D.K (z m)):=(by unfold bK;rw[if_pos e]);rw[<-e2];omega
  unfold bK at h;rw[if_neg e] at h;omega
theorem ZS(hR:DR D C)(z:Nat->Nat)(hz:∀j,z j<256)(m y:Nat)(h:bp D (bB D 0 z m)=(y:Int)):DG D y:=by
 have h0:0<=bB D 0 z m:=by
  by_cases e:0<=bB D 0 z m
  ·exact e
  unfold bp at h;rw[if_neg (by omega)] at h;omega
 obtain⟨h1,h2⟩:=zns hR z hz m h0;refine⟨(bB D 0 z m).toNat,by omega,h2,?_⟩;rw[show (((bB D 0 z m).toNat:Nat):Int)=bB D 0 z m by omega];exact h
def oV:ByteArray:=⟨#[105,102,115]⟩
theorem zpF(h:M9 jP w e w'):∃(X:Dd) (C:Nat),e=.returned (.tuple #[.agg X.cD,.int .i64 0])/\DM w' X/\Mn X C/\bp X (bB X 0 (fw fJ) 2)=0/\bp X (bB X 0 (fw oV) 3)=1/\DG X 0/\DG X 1/\Below w.heap.size w w':=by
 obtain⟨da,cU,mq,PC⟩:=znr;have hne:jP.length=2:=rfl;have hr0:∀er,Dc (jP.take 0) jP[0] er->er=0:=fun er hr=>ziX hr da (fun y hy=>by simp at hy) PC MF Yw (fun hh=>by have:=(YW []).1 hh;simp at this)
 have Bs:∀er,Dc (jP.take 1) jP[1] er->er=0:=fun er hr=>ziX hr cU (fun y hy=>by
  have:y=jP[0]:=by simpa [jP] using hy
  rw[this];exact mq) PC NV VF zpE
 obtain⟨hb,⟨i,hi,er,he,_,hr,_⟩|⟨_,T,hT,h1⟩⟩:=h
 ·exfalso;have lv:i=0\/i=1:=by omega
  rcases lv with rfl|rfl
  ·exact he (hr0 er hr)
  exact he (Bs er hr)
 have sN:fU fJ (T 0):=hT 0 (by omega);have I8:fU qZ (T 1):=hT 1 (by omega);have Hc:=sN.flat MF;have FQ:=I8.flat NV;rcases h1 with ⟨h1,_⟩|⟨X,C,rfl,hX,pE,hL⟩
 ·exfalso;rw[hne] at h1;have:=zqB (fun j=>fX (T j)) 2 2 (fun k hk=>by
   have fm:k=0\/k=1:=by omega
   rcases fm with rfl|rfl
   ·show nB (eJ (T 0) 0)<=2
    rw[Gn sN.1 MF.1 Hc];exact Yw
   ·show nB (eJ (T 1) 0)<=2
    rw[Gn I8.1 NV.1 FQ];exact VF)
  have h2:2 ^ nB (uE (fun j=>fX (T j)) 2)<=2 ^ (2*2):=Nat.pow_le_pow_right (by omega) this;omega
 have ko:∀(z:Nat->Nat) (m:Nat),(∀j,z j<256)->(ec (T 0) ((range m).map z)↔(range m).map z=[105,102]):=fun z m hz=>by
  rw[LI sN.1 MF.1 Hc z hz m,YW]
 have jv:∀(z:Nat->Nat) (m:Nat),(∀j,z j<256)->(ec (T 1) ((range m).map z)↔ec Ee ((range m).map z)):=fun z m hz=>LI I8.1 NV.1 FQ z hz m
 have e2:(range 2).map (fw fJ)=[105,102]:=by decide +kernel
 have e3:(range 3).map (fw oV)=[105,102,115]:=by decide +kernel
 have m0:bp X (bB X 0 (fw fJ) 2)=0:=by
  rcases hL (fw fJ) 2 (fun j=>vy _ j) with ⟨_,h2⟩|⟨i,hi,h2,_,h4⟩
  ·exact absurd ((ko _ _ (fun j=>vy _ j)).2 e2) (h2 0 (by omega))
  by_cases e:i=0
  ·rw[h2,e];rfl
  exact absurd ((ko _ _ (fun j=>vy _ j)).2 e2) (h4 0 (by omega))
 have m1:bp X (bB X 0 (fw oV) 3)=1:=by
  have kH:¬ec (T 0) ((range 3).map (fw oV)):=fun hh=>by
   have:=(ko _ _ (fun j=>vy _ j)).1 hh;rw[e3] at this;simp at this
  have yc:ec (T 1) ((range 3).map (fw oV)):=(jv _ _ (fun j=>vy _ j)).2 (by rw[e3];exact zpD);rcases hL (fw oV) 3 (fun j=>vy _ j) with ⟨_,h2⟩|⟨i,hi,h2,h3,h4⟩
  ·exact absurd yc (h2 1 (by omega))
  have lv:i=0\/i=1:=by omega
  rcases lv with rfl|rfl
  ·exact absurd h3 kH
  rw[h2];rfl
 exact⟨X,C,rfl,hX,pE,m0,m1,ZS pE.r (fw fJ) (fun j=>vy _ j) 2 0 m0,ZS pE.r (fw oV) (fun j=>vy _ j) 3 1 m1,hb⟩
theorem znm(h:∀y,y<n->DG D y)(hp:zY D n w e w'):∃a c,e=.returned (.slice a 0 c)/\Below w.heap.size w w':=by
 obtain⟨a,m,c,p,rfl,h1,h2,h3⟩:=hp;have hf:(range n).filter p=[]:=by
  rw[List.filter_eq_nil_iff];intro y hy hp;have:=List.mem_range.1 hy;exact ((h1 y this).1 hp) (h y this)
 have hl:=h2.1;rw[hf] at hl;have:m=0:=by simpa [cW] using hl.symm
 subst this;exact⟨a,c,rfl,h3⟩
theorem Zr(hR:DR D C)(st:Int):ka D st=bp D st:=by
 unfold ka bp;rw[hR.m]
theorem zhS(w:World):Calls prog 5 #[] w fun e w'=>e=.returned (.bool true)/\Below w.heap.size w w':=by
 have kb:=al w (.cells #[.string fJ,.int .i64 0,.string fJ,.string qc,.int .i64 0,.string qZ] 48);have sb:=St.new w 48 #[.string fJ,.int .i64 0,.string fJ,.string qc,.int .i64 0,.string qZ];have WX:kv (w.alloc (.cells #[.string fJ,.int .i64 0,.string fJ,.string qc,.int .i64 0,.string qZ] 48)) (some ⟨w.heap.size,0,none⟩) jP:=fun _=>⟨_,0,rfl,by simp,fun j hj=>by rw[zero_add,sb.at_,show yA jP=[.string fJ,.int .i64 0,.string fJ,.string qc,.int .i64 0,.string qZ] from rfl,List.getElem?_toArray]⟩
 have HM:Hid (Calls prog 7 #[.slice (some ⟨w.heap.size,0,none⟩) 2 2] (w.alloc (.cells #[.string fJ,.int .i64 0,.string fJ,.string qc,.int .i64 0,.string qZ] 48)) fun e w'=>∃(X:Dd) (C:Nat),e=.returned (.tuple #[.agg X.cD,.int .i64 0])/\DM w' X/\(Mn X C/\bp X (bB X 0 (fw fJ) 2)=0/\bp X (bB X 0 (fw oV) 3)=1/\DG X 0/\DG X 1)/\Below w.heap.size w w'):=by
  refine (zh1 2 2 _ jP rfl (by omega) (by omega) (fun j hj=>?_) _ WX).mono fun e w' h=>?_
  ·have hj2:j=0\/j=1:=(by have:j<2:=hj;omega);rcases hj2 with rfl|rfl
   ·exact⟨by show (2:Nat)<=_;decide,by show (2:Nat)<=40;omega⟩
   exact⟨by show (2:Nat)<=_;decide,by show (6:Nat)<=40;omega⟩
  obtain⟨X,C,h1,h2,h3,h4,h5,h6,h7,h8⟩:=zpF h;exact⟨X,C,h1,h2,⟨h3,h4,h5,h6,h7⟩,kb.trans (h8.mono kb.size)⟩
 clear kb sb WX;go_in;go_upto_region 1 with fail;go_wp2_with (first
  | (go_at_call 7;refine HM.out.mono ?_))
 rintro e w1 ⟨X,C',rfl,yl,hx,b1⟩;have HX:=hid hx;have uT:=hid yl;have ee:=hid (St.new w1 29 (zC 29));have H5:Hid (bz ((w1.alloc (.cells (zC 29) 29)).setRow w1.heap.size X.cD) w1.heap.size X/\Below w.heap.size w ((w1.alloc (.cells (zC 29) 29)).setRow w1.heap.size X.cD)):=
  ⟨bz.stored hx.1.r (yl.below (al _ _)) (St.new _ _ _),b1.trans ((kT (al _ _) (Nat.le_refl _) _).mono b1.size)⟩
 clear yl hx b1 HM;go_upto_region 2 with (first
  | (refine nR rfl 29 rfl (zC 29) (lA _) ?_)
  | (refine lJ rfl 29 _ _ rfl w1.heap.size 29 (zC 29) X.cD rfl rfl ee.out (by rw[gY,uT.out.sz]) (by rw[fD,uT.out.sz]) uT.out.one ?_))
 try simp only[put,sA]
 obtain⟨b5,kt⟩:∃b5,w1.heap.size=b5:=⟨_,rfl⟩
 rw[kt] at H5
 try rw[kt]
 generalize (w1.alloc (.cells (zC 29) 29)).setRow b5 X.cD=V at H5⊢;clear kt ee;have dc:Hid (∀W',Below V.heap.size V W'->Below V.heap.size V W'/\bz W' b5 X):=fun W' h=>⟨h,H5.out.1.ab h⟩
 have oB:Hid (∀W',Below V.heap.size V W'->Below w.heap.size w W'):=fun W' h=>H5.out.2.trans (h.mono H5.out.2.size)
 have Hm0:Hid (ka X (bB X 0 (fw fJ) 2)=0):=(Zr HX.out.1.r _).trans HX.out.2.1;have Hj:Hid (ka X (bB X 0 (fw oV) 3)=1):=(Zr HX.out.1.r _).trans HX.out.2.2.1;refine wp_region_held_drew (S:=fun W'=>Below V.heap.size V W'/\bz W' b5 X) (by kernel_rfl) (dc.out _ (Below.refl _ _).drew) (fun hHeld=>?_)
 (refine an 0 ?_;refine an 1 ?_;refine an 2 ?_)
 (refine an 3 (v:=.agg X.cD) ?_ (hy:=by intro wz hSw;exact pt (o:=_) (ρ:=_) wz 29 (.tmp 1) rfl ⟨b5,0,none⟩ rfl X.cD _ (bz.st (And.right hSw)).part underlying29 rfl (bz.dm (And.right hSw)).info))
 (refine an 4 (v:=.agg X.cD) ?_ (hy:=by intro wz hSw;exact pt (o:=_) (ρ:=_) wz 29 (.tmp 1) rfl ⟨b5,0,none⟩ rfl X.cD _ (bz.st (And.right hSw)).part underlying29 rfl (bz.dm (And.right hSw)).info);try simp only[put,sA])
 refine bf 5 (fun K hK=>?_);skip;go_simp;go_at_call 11;refine (Ob X C' HX.out.1.r 0 fJ 2 rfl (by omega) _ hHeld.2.dm).mono ?_;rintro e w5 ⟨rfl,vv⟩;have bD:Below V.heap.size V w5:=hHeld.1.trans (vv.mono hHeld.1.size);clear vv
 try go_wp2_with fail
 refine hK.out _ _ (dc.out _ bD) fun hHeld=>?_;clear hK K
 try simp only[put,sA]
 clear bD;refine bf 6 (fun K hK=>?_);skip;go_simp;go_at_call 10;refine (IZ X _ _ hHeld.2.dm (by have:=HX.out.1.r.m;have:=HX.out.1.r.n2;omega)).mono ?_;rintro e w6 ⟨rfl,vv⟩;rw[Hm0.out];have bD:Below V.heap.size V w6:=hHeld.1.trans (vv.mono hHeld.1.size);clear vv
 try go_wp2_with fail
 refine hK.out _ _ (dc.out _ bD) fun hHeld=>?_;clear hK K
 try simp only[put,sA]
 clear bD
 (refine an 7 ?_;refine an 8 ?_;refine an 9 ?_)
 (refine an 10 (v:=.agg X.cD) ?_ (hy:=by intro wz hSw;exact pt (o:=_) (ρ:=_) wz 29 (.tmp 1) rfl ⟨b5,0,none⟩ rfl X.cD _ (bz.st (And.right hSw)).part underlying29 rfl (bz.dm (And.right hSw)).info))
 (refine an 11 (v:=.agg X.cD) ?_ (hy:=by intro wz hSw;exact pt (o:=_) (ρ:=_) wz 29 (.tmp 1) rfl ⟨b5,0,none⟩ rfl X.cD _ (bz.st (And.right hSw)).part underlying29 rfl (bz.dm (And.right hSw)).info);try simp only[put,sA])
 refine bf 12 (fun K hK=>?_);skip;go_simp;go_at_call 11;refine (Ob X C' HX.out.1.r 0 oV 3 rfl (by omega) _ hHeld.2.dm).mono ?_;rintro e w7 ⟨rfl,vv⟩;have bD:Below V.heap.size V w7:=hHeld.1.trans (vv.mono hHeld.1.size);clear vv
 try go_wp2_with fail
 refine hK.out _ _ (dc.out _ bD) fun hHeld=>?_;clear hK K
 try simp only[put,sA]
 clear bD;refine bf 13 (fun K hK=>?_);skip;go_simp;go_at_call 10;refine (IZ X _ _ hHeld.2.dm (by have:=HX.out.1.r.m;have:=HX.out.1.r.n2;omega)).mono ?_;rintro e w8 ⟨rfl,vv⟩;rw[Hj.out];have bD:Below V.heap.size V w8:=hHeld.1.trans (vv.mono hHeld.1.size);clear vv
 try go_wp2_with fail
 refine hK.out _ _ (dc.out _ bD) fun hHeld=>?_;clear hK K
 try simp only[put,sA]
 clear bD
 (refine an 14 ?_;refine an 15 ?_;refine an 16 ?_)
 (refine an 17 (v:=.agg X.cD) ?_ (hy:=by intro wz hSw;exact pt (o:=_) (ρ:=_) wz 29 (.tmp 1) rfl ⟨b5,0,none⟩ rfl X.cD _ (bz.st (And.right hSw)).part underlying29 rfl (bz.dm (And.right hSw)).info);try simp only[put,sA])
 refine bf 18 (fun K hK=>?_);skip;go_simp;go_at_call 19;refine (zjZ X C' HX.out.1.r 2 (by omega) _ hHeld.2.dm).mono ?_;intro e w9 hp;obtain⟨a9,c9,rfl,vv⟩:=znm (fun y hy=>by
  have mQ:y=0\/y=1:=by omega
  rcases mQ with rfl|rfl
  ·exact HX.out.2.2.2.1
  ·exact HX.out.2.2.2.2) hp
 clear hp;have bD:Below V.heap.size V w9:=hHeld.1.trans (vv.mono hHeld.1.size);clear vv
 try go_wp2_with fail
 refine hK.out _ _ (dc.out _ bD) fun hHeld=>?_;clear hK K
 try simp only[put,sA]
 clear bD
 (refine an 19 ?_;refine an 20 ?_;refine an 21 ?_;try simp only[put,sA];refine an 22 ?_;try simp only[put,sA])
 refine wpAnyH_done (by kernel_rfl) ?_ _;have HF:=hid (oB.out _ hHeld.1);clear hHeld;go_wp2;go_ret;exact⟨rfl,HF.out⟩
