import Derived.Test.YtjehgdjlncofeaaGreatZPOf
import Derived.Test.YtjehgdjlncofeaaGreatZQExp
set_option linter.unusedVariables false
set_option linter.unusedSimpArgs false
set_option maxHeartbeats 0
set_option maxRecDepth 99999
open Go.Lib (hid)
namespace Go.Proofs.YtjehgdjlncofeaaGreat
open Go.RowKit Go.Maps Go.WideElems Go.ChangeMaps Go.MapKept
theorem zjT(K:Nat->Lit):∀(n i:Nat) (h:i<(rl K n).length),cls K (rl K n)[i]=i/\(rl K n)[i]<n:=by
 intro n
 induction n with
 | zero=>intro i h;simp[rl] at h
 | succ n ih=>
  intro i h
  by_cases e:cls K n=(rl K n).length
  ·have e2:rl K (n+1)=rl K n++[n]:=by rw[rl,if_pos e]
   simp only[e2] at h⊢
   by_cases hi:i<(rl K n).length
   ·rw[List.getElem_append_left hi]
    have:=ih i hi
    exact⟨this.1,by omega⟩
   ·have hi2:i=(rl K n).length:=by simp at h;omega
    subst hi2
    simp[e]
  ·have e2:rl K (n+1)=rl K n:=by rw[rl,if_neg e]
   simp only[e2] at h⊢
   have:=ih i h
   exact⟨this.1,by omega⟩
theorem zn9(K:Nat->Lit):IsC (cls K) (rl K 256).length/\∀c,c<(rl K 256).length->∃j,j<256/\cls K j=c:=by
 have hg:∀c,c<(rl K 256).length->∃j,j<256/\cls K j=c:=fun c hc=>⟨(rl K 256)[c],(zjT K 256 c hc).2,(zjT K 256 c hc).1⟩
 have hp:0<(rl K 256).length:=by rw[zcL];exact zfW K
 refine⟨⟨fun j hj=>(zgT K j hj).1,?_⟩,hg⟩
 obtain⟨j,hj,e⟩:=hg ((rl K 256).length-1) (by omega)
 exact⟨j,hj,by omega⟩
theorem Least.in_{mf:Nat->Int}{A:Nat->Prop}{r:Int}(h:Least mf A r)(hm:∀x,mf x<32768):-1<=r/\r<32768:=by
 rcases h with⟨h1,_⟩|⟨h1,⟨x,_,h2⟩,_⟩
 ·omega
 ·have:=hm x
  omega
theorem zmu{L:List En}{F:Nat}{mf:Nat->Int}{w:World}{cD:Array Value}{nm:List Nat}{L':List En}{f0:Nat}{s0:Nat->Bool}{k:Nat}{R:List (List Int)}{SS:List (Nat->Bool)}{ms:List Int}(hm:∀x,mf x<32768)
  (h:Made L F nm L' f0 s0 k R SS) (hsz:cD.size=258) (ho:∀v∈cD.toList,v.oneCell'=true) (hk:SS.length=k) (hk2:k<=2000) (hD:DfaAt w cD (KOf L) R ms (rl (KOf L) 256).length) (hml:ms.length=k)
  (hms:∀j (h:j<SS.length) (h2:j<ms.length),Least (fun i=>mf (nm.getD i 0)) (fun x=>x<nm.length/\SS[j] x=true) ms[j]):
  ∃D:Dd,D.cD=cD/\DM w D/\DR D (rl (KOf L) 256).length/\D.n=k/\∀(z:Nat->Nat) (m:Nat),(∀j,z j<256)->Least mf (RunP L F z m) (markF D (runF D 0 z m)):=by
 obtain⟨aN,cN,A,hN,hzN⟩:=hD.rows
 obtain⟨aK,cK,hK,hzK⟩:=hD.marks
 have hRl:=h.run.len
 have hrow:∀r∈R,r.length=(rl (KOf L) 256).length:=h.run.rowlen
 obtain⟨hC,hg⟩:=zn9 (KOf L)
 have hk1:1<=k:=by
  have:=h.run.pre.length_le
  simp at this
  omega
 refine⟨⟨cD,cls (KOf L),aN,R.length,cN,A,fun _=>(rl (KOf L) 256).length,fun _=>(rl (KOf L) 256).length,fun i x=>(R.getD i []).getD x 0,aK,ms.length,cK,fun i=>ms.getD i 0⟩,rfl,⟨hsz,ho,hD.cl,fun j hj=>?_,hN,hK,hzN,hzK⟩,⟨hC,by show 1<=R.length;omega,by show R.length<=32768;omega,by show ms.length=R.length;omega,hg,fun i _=>rfl,fun i hi=>?_,fun i c hi hc=>?_⟩,by show R.length=k;omega,fun z m hz=>?_⟩
 ·have:=ziP (KOf L) j
  show cls (KOf L) j<256
  omega
 ·have hi:i<R.length:=hi
  have hl:=hms i (by omega) (by omega)
  have h1:=hl.in_ (fun x=>hm _)
  show -1<=ms.getD i 0/\ms.getD i 0<32768
  rw[List.getD_eq_getElem?_getD,List.getElem?_eq_getElem (by omega)]
  exact h1
 ·have hi:i<R.length:=hi
  have hc:c<(rl (KOf L) 256).length:=hc
  have hrl:=hrow R[i] (List.getElem_mem hi)
  obtain⟨hs,ht⟩:=h.run.tells i hi
  have h1:=ht c (by omega)
  have e:(R.getD i []).getD c 0=R[i][c]'(by omega):=by simp[List.getD_eq_getElem?_getD,hi,hrl,hc]
  show -1<=(R.getD i []).getD c 0/\(R.getD i []).getD c 0<(R.length:Int)
  rw[e]
  rcases h1 with⟨h2,_⟩|⟨_,j,hj,h2,_⟩
  ·omega
  ·omega
 ·have hsay:∀t,Says nm.length SS (RunP L' f0 z t) (runF ⟨cD,cls (KOf L),aN,R.length,cN,A,fun _=>(rl (KOf L) 256).length,fun _=>(rl (KOf L) 256).length,fun i x=>(R.getD i []).getD x 0,aK,ms.length,cK,fun i=>ms.getD i 0⟩ 0 z t):=by
   intro t
   induction t with
   | zero=>exact h.start z
   | succ t ih=>
    show Says _ _ _ (stepF _ (runF _ 0 z t) (z t))
    generalize runF ⟨cD,cls (KOf L),aN,R.length,cN,A,fun _=>(rl (KOf L) 256).length,fun _=>(rl (KOf L) 256).length,fun i x=>(R.getD i []).getD x 0,aK,ms.length,cK,fun i=>ms.getD i 0⟩ 0 z t=a at ih
    rcases ih with⟨rfl,hd⟩|⟨j,hj,rfl,hS⟩
    ·exact Or.inl ⟨by unfold stepF;rw[if_neg (by omega)],RunP.dead hd⟩
    ·obtain⟨hjR,hc,hs⟩:=h.step hk z t j (hz t) (Or.inr ⟨j,hj,rfl,hS⟩)
     unfold stepF
     rw[if_pos ⟨by omega,by show (j:Int)<(R.length:Int);omega⟩]
     have e:(R.getD ((j:Int)).toNat []).getD (cls (KOf L) (z t)) 0=R[j][cls (KOf L) (z t)]'hc:=by
      have h9:((j:Int)).toNat=j:=by omega
      rw[h9]
      simp[List.getD_eq_getElem?_getD,hjR,hc]
     show Says _ _ _ ((R.getD ((j:Int)).toNat []).getD (cls (KOf L) (z t)) 0)
     rw[e]
     exact hs
  have hm1:=hsay m
  generalize runF ⟨cD,cls (KOf L),aN,R.length,cN,A,fun _=>(rl (KOf L) 256).length,fun _=>(rl (KOf L) 256).length,fun i x=>(R.getD i []).getD x 0,aK,ms.length,cK,fun i=>ms.getD i 0⟩ 0 z m=a at hm1
  rcases hm1 with⟨rfl,hd⟩|⟨j,hj,rfl,hS⟩
  ·have e:∀D:Dd,markF D (-1)=-1:=fun D=>by unfold markF;rw[if_neg (by omega)]
   rw[e]
   exact Or.inl ⟨rfl,fun x hx=>by
    obtain⟨i,hi,_⟩:=((h.names z m).2 x).1 hx
    exact absurd hi (hd i)⟩
  ·have h9:((j:Int)).toNat=j:=by omega
   unfold markF
   rw[if_pos ⟨by omega,by show (j:Int)<(R.length:Int);omega⟩]
   show Least mf (RunP L F z m) (ms.getD ((j:Int)).toNat 0)
   rw[h9,List.getD_eq_getElem?_getD,List.getElem?_eq_getElem (by omega)]
   exact h.mark hj (Or.inr ⟨j,hj,rfl,hS⟩) (hms j hj (by omega))
theorem zdG{α β:Type}{f:α->β}{l:List α}(hn:l.Nodup)(h:∀a∈l,∀b∈l,f a=f b->a=b):(l.map f).Nodup:=by
 induction l with
 | nil=>simp
 | cons a l ih=>
  rw[List.map_cons,List.nodup_cons]
  obtain⟨h1,h2⟩:=List.nodup_cons.1 hn
  refine⟨fun hm=>?_,ih h2 (fun x hx y hy=>h x (List.mem_cons_of_mem _ hx) y (List.mem_cons_of_mem _ hy))⟩
  obtain⟨b,hb,e⟩:=List.mem_map.1 hm
  exact h1 (h b (List.mem_cons_of_mem _ hb) a (by simp) e ▸ hb)
theorem zfP{α:Type}(p:α->Bool)(l:List α):l.length=(l.filter p).length+(l.filter fun x=>!p x).length:=by
 induction l with
 | nil=>rfl
 | cons a l ih=>
  simp only[List.filter_cons,List.length_cons]
  cases p a<;>simp<;>omega
theorem zoa:∀(n:Nat) (l:List (List Bool)),l.Nodup->(∀v∈l,v.length=n)->l.length<=2 ^ n:=by
 intro n
 induction n with
 | zero=>
  intro l hn h
  match l,hn,h with
  | [],_,_=>simp
  | [a],_,_=>simp
  | a :: b :: l,hn,h=>
   have h1:=List.length_eq_zero_iff.1 (h a (by simp))
   have h2:=List.length_eq_zero_iff.1 (h b (by simp))
   subst h1 h2
   simp at hn
 | succ n ih=>
  intro l hn h
  have key:∀(p:List Bool->Bool) (x:Bool),(∀v∈l,p v=true->v=x :: v.tail)->(l.filter p).length<=2 ^ n:=fun p x hp=>by
   have h1:((l.filter p).map List.tail).Nodup:=zdG (hn.filter p) (fun a ha b hb e=>by
    obtain⟨ha1,ha2⟩:=List.mem_filter.1 ha
    obtain⟨hb1,hb2⟩:=List.mem_filter.1 hb
    rw[hp a ha1 ha2,hp b hb1 hb2,e])
   have h2:=ih _ h1 (fun v hv=>by
    obtain⟨u,hu,rfl⟩:=List.mem_map.1 hv
    have:=h u (List.mem_filter.1 hu).1
    simp[this])
   simpa using h2
  have a1:=key (fun v=>v.headD false) true (fun v hv hp=>by
   have:=h v hv
   match v,this,hp with
   | x :: v,_,hp=>simp at hp;rw[hp];rfl)
  have a2:=key (fun v=>!v.headD false) false (fun v hv hp=>by
   have:=h v hv
   match v,this,hp with
   | x :: v,_,hp=>simp at hp;rw[hp];rfl)
  have a3:=zfP (fun v:List Bool=>v.headD false) l
  rw[Nat.pow_succ]
  omega
def nB(L:List En):Nat:=(L.filter fun e=>!e.b).length
theorem zob(nm:List Nat)(L:List En):nB (L.map (En.ren nm))=nB L:=by
 unfold nB
 induction L with
 | nil=>rfl
 | cons e L ih=>
  have h:(En.ren nm e).b=e.b:=rfl
  simp only[List.map_cons,List.filter_cons,h]
  cases e.b<;>simp_all
theorem zel{L:List En}{F f0 k:Nat}{nm:List Nat}{L':List En}{s0:Nat->Bool}{R:List (List Int)}{SS:List (Nat->Bool)}(h:Made L F nm L' f0 s0 k R SS):SS.length<=1+2 ^ nB L:=by
 have hd:Dist nm.length SS:=h.run.dist (fun i j hi hj _=>by simp at hi hj;omega)
 have hsrc:=h.run.src
 have hx:∀i,∃(g:Nat->Bool) (d:Nat),∀(hi:i+1<SS.length) (x:Nat),x<nm.length->(SS[i+1] x=true↔TTo L' nm.length (rpO (KOf L)) g d x):=fun i=>by
  by_cases hi:i+1<SS.length
  ·obtain⟨i',hi',d,_,_,_,h2⟩:=hsrc (i+1) hi (by simp)
   exact⟨SS[i'],d,fun _=>h2⟩
  ·exact⟨fun _=>false,0,fun h=>absurd h hi⟩
 obtain⟨G,hG⟩:∃G:Nat->(Nat->Bool) × Nat,∀i (hi:i+1<SS.length) (x:Nat),x<nm.length->(SS[i+1] x=true↔TTo L' nm.length (rpO (KOf L)) (G i).1 (G i).2 x):=
  ⟨fun i=>(Classical.choose (hx i),Classical.choose (Classical.choose_spec (hx i))),fun i=>Classical.choose_spec (Classical.choose_spec (hx i))⟩
 have e1:nB L'=nB L:=by rw[h.ren,zob]
 have h1:=zoa (nB L') ((List.range (SS.length-1)).map fun i=>(L'.filter fun e=>!e.b).map fun e=>e.p (rpO (KOf L) (G i).2) && (G i).1 e.f) (zdG List.nodup_range (fun i hi j hj e=>by
  have hi:i<SS.length-1:=by simpa using hi
  have hj:j<SS.length-1:=by simpa using hj
  have he:∀e∈L',e.b=false->(e.p (rpO (KOf L) (G i).2) && (G i).1 e.f)=(e.p (rpO (KOf L) (G j).2) && (G j).1 e.f):=fun x hx hb=>by
   have:=List.map_inj_left.1 e x (List.mem_filter.2 ⟨hx,by simp[hb]⟩)
   exact this
  have hM:∀y,Mv L' (fun y=>y<nm.length/\(G i).1 y=true) (rpO (KOf L) (G i).2) y↔Mv L' (fun y=>y<nm.length/\(G j).1 y=true) (rpO (KOf L) (G j).2) y:=fun y=>by
   constructor
   ·rintro⟨e,h1,h2,h3,h4,h5⟩
    have:=he e h1 h2
    rw[h3,h4.2] at this
    have h6:e.p (rpO (KOf L) (G j).2)=true/\(G j).1 e.f=true:=by simpa using this.symm
    exact⟨e,h1,h2,h6.1,⟨h4.1,h6.2⟩,h5⟩
   ·rintro⟨e,h1,h2,h3,h4,h5⟩
    have:=he e h1 h2
    rw[h3,h4.2] at this
    have h6:e.p (rpO (KOf L) (G i).2)=true/\(G i).1 e.f=true:=by simpa using this
    exact⟨e,h1,h2,h6.1,⟨h4.1,h6.2⟩,h5⟩
  have h9:=hd (i+1) (j+1) (by omega) (by omega) (fun x hx=>by
   rw[Bool.eq_iff_iff,hG i (by omega) x hx,hG j (by omega) x hx]
   exact FR.congr hM x)
  omega)) (fun v hv=>by
   obtain⟨i,_,rfl⟩:=List.mem_map.1 hv
   simp[nB])
 rw[e1] at h1
 simp at h1
 omega
theorem zgI(t:Rx):∀o,(thE t o).length<=4*t.flat.length:=by
 induction t with
 | leaf x=>intro o;simp[thE,leafE,Rx.flat]
 | un x a ih=>
  intro o
  have h1:=ih o
  have h2:(repE x.k (o+a.flat.length-1) (o+a.flat.length)).length<=4:=by
   unfold repE
   split<;>split<;>simp
  simp only[thE,Rx.flat,List.length_append,List.length_cons,List.length_nil]
  omega
 | bin x a b ih jh=>
  intro o
  have h1:=ih o
  have h2:=jh (o+a.flat.length)
  have h3:(pairE x.k (o+a.flat.length-1) (o+a.flat.length+b.flat.length-1) (o+a.flat.length+b.flat.length)).length<=4:=by
   unfold pairE
   split<;>simp
  simp only[thE,Rx.flat,List.length_append,List.length_cons,List.length_nil]
  omega
theorem zfQ(a b:List En):nB (a++b)=nB a+nB b:=by simp[nB]
theorem zhB(t:Rx):∀o,2*nB (thE t o)<=t.flat.length+1:=by
 induction t with
 | leaf x=>
  intro o
  have:=List.length_filter_le (fun e:En=>!e.b) (leafE x o)
  have h2:(leafE x o).length=1:=rfl
  simp only[thE,Rx.flat,List.length_cons,List.length_nil,nB]
  omega
 | un x a ih=>
  intro o
  have h1:=ih o
  have h2:nB (repE x.k (o+a.flat.length-1) (o+a.flat.length))=0:=by
   unfold nB repE fre
   split<;>split<;>simp
  simp only[thE,Rx.flat,zfQ,List.length_append,List.length_cons,List.length_nil]
  omega
 | bin x a b ih jh=>
  intro o
  have h1:=ih o
  have h2:=jh (o+a.flat.length)
  have h3:nB (pairE x.k (o+a.flat.length-1) (o+a.flat.length+b.flat.length-1) (o+a.flat.length+b.flat.length))=0:=by
   unfold nB pairE fre
   split<;>simp
  simp only[thE,Rx.flat,zfQ,List.length_append,List.length_cons,List.length_nil]
  omega
theorem zhC(L:List En):(setsOf (L.map En.z)).length=nB L:=by
 unfold nB
 induction L with
 | nil=>rfl
 | cons e L ih=>
  have h:(En.z e).b=e.b:=rfl
  simp only[setsOf,List.map_cons,List.filter_cons,h] at ih⊢
  cases e.b<;>simp_all
theorem znw{s:List Nat}{l:List Pc}(h:altOf (atomD 99) ([],s)=some (l,[])):l.length<2*s.length:=by
 have:=(zdC (zbh 99) _ _ h).2
 simpa using this
theorem zoc(t:Rx):riB ((2*t.flat.length:Nat):Int) ((thE t 0).map En.z) ((2*rtI t 0:Nat):Int) ((2*rtI t 0+1:Nat):Int)=true:=by
 have h1:=zj1 t 0
 unfold riB
 rw[Bool.and_eq_true,Bool.and_eq_true,List.all_eq_true]
 refine⟨fun x hx=>?_,zds.2 ⟨by omega,by omega⟩,zds.2 ⟨by omega,by omega⟩⟩
 obtain⟨e,he,rfl⟩:=List.mem_map.1 hx
 have h2:=zem t 0 e he
 unfold edB
 rw[Bool.and_eq_true]
 exact⟨zds.2 ⟨by show (0:Int)<=(e.f:Int);omega,by show (e.f:Int)<_;omega⟩,zds.2 ⟨by show (0:Int)<=(e.t:Int);omega,by show (e.t:Int)<_;omega⟩⟩
def RxOf(s:ByteArray)(t:Rx):Prop:=t.wf/\altOf (atomD 99) ([],numsOf s)=some (t.flat,[])/\t.flat.length<=400
def OneX(t:Rx)(X:Dd):Prop:=∀(z:Nat->Nat) (m:Nat),(∀j,z j<256)->(Lan t ((List.range m).map z)->markF X (runF X 0 z m)=0)/\(¬Lan t ((List.range m).map z)->markF X (runF X 0 z m)=-1)
def OneP(s:ByteArray)(w:World)(e:Ending)(w':World):Prop:=Below w.heap.size w w'/\
 (
  (∃er:Nat,ErrP s er/\e=.returned (.tuple #[.agg (zC 39),.int .i64 (er:Int)]))\/
  (∃t,RxOf s t/\((2000<1+2 ^ nB (thE t 0)/\e=.returned (.tuple #[.agg (zC 39),.int .i64 6]))\/∃(X:Dd) (C:Nat),e=.returned (.tuple #[.agg X.cD,.int .i64 0])/\DM w' X/\Mn X C/\OneX t X)))
theorem zgJ{T:Nat}{A:Nat->Prop}{r:Int}(h:Least (fun x=>if x=T then 0 else -1) A r):(A T->r=0)/\(¬A T->r=-1):=by
 rcases h with⟨h1,h2⟩|⟨h1,⟨x,hx,h2⟩,h3⟩
 ·refine⟨fun h=>?_,fun _=>h1⟩
  have:=h2 T h
  simp at this
 ·by_cases e:x=T
  ·subst e
   simp at h2
   exact⟨fun _=>h2.symm,fun h=>absurd hx h⟩
  ·simp[e] at h2
   omega
theorem zly(s:ByteArray)(hs:s.size<=1600)(w:World):Calls Tryz.prog 21 #[.string s] w (OneP s w):=by
 have k0:=al w (.cells (zC 39) 39)
 have HB:=hid (And.intro (St.new w 39 (zC 39)) k0)
 have HEx:=hid (zcD s hs (w.alloc (.cells (zC 39) 39)))
 clear k0
 go_enter Tryz.func21,Tryz.ntmps21
 go_upto_region 1 with (refine zap rfl 39 rfl (zC 39) (zat _) ?_)
 obtain⟨b0,hb0⟩:∃b0,w.heap.size=b0:=⟨_,rfl⟩
 have Hb0:=hid hb0
 rw[hb0] at HB
 rw[hb0]
 clear hb0
 generalize w.alloc (.cells (zC 39) 39)=W0 at HB HEx⊢
 go_wp2_with (go_at_call 39;refine HEx.out.mono ?_)
 rintro e w1 hp
 rcases hp with⟨er,hE,rfl,b1⟩|⟨t,hw,hal,hle,a,c,rfl,hO,b1⟩
 ·have H1:=hid (And.intro (HB.out.1.keep b1) (HB.out.2.trans (b1.mono (by have:=HB.out.2.size;have:=Hb0.out;omega))))
  have hb1:=b1.size
  have HER:Hid (ErrP s er):=hE
  have her:((er:Int) != 0)=true:=by
   rcases hE with⟨rfl,_⟩|⟨rfl,_⟩<;>rfl
  have HF:Hid (OneP s w (.returned (.tuple #[.agg (zC 39),.int .i64 (er:Int)])) ((w1.alloc (.cells #[.int .i64 0,.slice none 0 0,.int .i64 0,.int .i64 0] 67)).setRow b0 (zC 39))):=by
   refine⟨?_,Or.inl ⟨er,hE,rfl⟩⟩
   have hz:=H1.out.2.size
   have h1:Below b0 w (w1.alloc (.cells #[.int .i64 0,.slice none 0 0,.int .i64 0,.int .i64 0] 67)):=H1.out.2.trans ((al w1 _).mono (by have:=Hb0.out;omega))
   have:=zaj h1 (Nat.le_refl b0) (zC 39)
   rw[Hb0.out];exact this
  have HS2:=hid (H1.out.1.alloc (.cells #[.int .i64 0,.slice none 0 0,.int .i64 0,.int .i64 0] 67))
  clear hE b1 HEx
  go_wp2_with (first
   | (refine zaF rfl 39 _ rfl #[] (by first|rfl|kernel_rfl|(go_simp;done)) (.agg (zC 39)) (zbt _) ?_)
   | (refine zaf rfl 39 _ _ rfl b0 39 (zC 39) (zC 39) rfl rfl HS2.out rfl (by rw[zah,zak]) zbw ?_))
  refine bodyPost_ret (zaC rfl _ _ b0 (zC 39) _ rfl HS2.out.setRow.part Tryz.underlying39 rfl (by rw[zah,zak])) rfl ?_
  exact HF.out
 ·have HT:Hid (RxOf s t):=⟨hw,hal,hle⟩
  have H1:=hid (And.intro (HB.out.1.keep b1) (And.intro (HB.out.2.trans (b1.mono (by have:=HB.out.2.size;have:=Hb0.out;omega))) hO))
  have hb1:=b1.size
  have Hri:=hid (zoc t)
  have Hln:=hid (zgI t 0)
  have Hst:=hid (zhB t 0)
  have Hrt:=hid (zj1 t 0)
  have Hin:=hid (zem t 0)
  obtain⟨S,hS⟩:∃S:Nat,2*t.flat.length=S:=⟨_,rfl⟩
  obtain⟨F,hF⟩:∃F:Nat,2*rtI t 0=F:=⟨_,rfl⟩
  obtain⟨T,hT⟩:∃T:Nat,2*rtI t 0+1=T:=⟨_,rfl⟩
  obtain⟨m,hmm⟩:∃m,(thE t 0).length=m:=⟨_,rfl⟩
  have HQ:=hid (And.intro hS (And.intro hF (And.intro hT hmm)))
  rw[hmm] at H1 Hln
  rw[hS,hT,hF] at Hri
  rw[hS,hT,hF,hmm]
  clear hS hF hT hmm hw hal b1 hO HEx
  have kN:=al w1 (.cells #[.int .i64 (S:Int),.slice a m c,.int .i64 (F:Int),.int .i64 (T:Int)] 67)
  have HN:=hid (And.intro kN (St.new w1 67 #[.int .i64 (S:Int),.slice a m c,.int .i64 (F:Int),.int .i64 (T:Int)]))
  clear kN
  go_upto_region 4 with fail
  generalize w1.alloc (.cells #[.int .i64 (S:Int),.slice a m c,.int .i64 (F:Int),.int .i64 (T:Int)] 67)=W2 at HN⊢
  obtain⟨bN,hbN⟩:∃bN,w1.heap.size=bN:=⟨_,rfl⟩
  rw[hbN] at HN
  rw[hbN]
  have H2:Hid (St W2 39 b0 (zC 39)/\Below b0 w W2/\b0<=W2.heap.size):=by
   have hk:Below w1.heap.size w1 W2:=by rw[hbN];exact HN.out.1
   have hz:=H1.out.2.1.size
   have hz2:=hk.size
   exact⟨H1.out.1.keep hk,H1.out.2.1.trans (hk.mono (by have:=Hb0.out;omega)),by have:=Hb0.out;omega⟩
  obtain⟨r0,r1,r2,r3⟩:=HN.out.2.cells4
  have hEd:EdAt W2 a ((thE t 0).map En.z):=by
   have h1:EdAt w1 a ((thE t 0).map En.z):=by
    intro h0
    obtain⟨g,e,_,hg,hc⟩:=zae H1.out.2.2 (by rw[List.length_map,HQ.out.2.2.2] at h0;exact h0)
    exact⟨g,0,e,hg,fun j hj=>by rw[Nat.zero_add,(hc j (by rw[List.length_map,HQ.out.2.2.2] at hj;exact hj)).1]⟩
   exact h1.below (by rw[hbN];exact HN.out.1)
  have HO:=hid (znI (S:Int) F T (thE t 0) a m c W2 hEd HQ.out.2.2.2 (by have:=Hln.out;omega) (by rw[zhC];have:=Hst.out;omega) (by have:=HQ.out;have:=Hrt.out;omega) (by have:=HQ.out;have:=Hrt.out;omega) (fun e he=>by have:=Hin.out e he;omega) Hri.out)
  clear hEd
  go_upto_region 5 with (first
   | (go_at_call 40;refine HO.out.mono ?_;rintro e w3 ⟨cD,er,nm,L',f0,s0,k,R,SS,rfl,b3,hMd,hsz,hon,hor⟩)
   | (refine zap rfl 39 rfl (zC 39) (zat _) ?_)
   | (refine zaf rfl 39 _ _ rfl w3.heap.size 39 (zC 39) cD rfl rfl (St.new w3 _ _) (by rw[zak,hsz]) (by rw[zah,hsz]) hon ?_))
  try simp only[Act.put,sA,sB,sC]
  have HcD:=hid (And.intro hsz hon)
  have HMd:=hid hMd
  have kV:Below w3.heap.size w3 ((w3.alloc (.cells (zC 39) 39)).setRow w3.heap.size cD):=zaj (al w3 _) (Nat.le_refl _) _
  have sV:St ((w3.alloc (.cells (zC 39) 39)).setRow w3.heap.size cD) 39 w3.heap.size cD:=(St.new w3 _ _).setRow
  have hz3:=b3.size
  have H7:Hid (St ((w3.alloc (.cells (zC 39) 39)).setRow w3.heap.size cD) 39 b0 (zC 39)/\Below b0 w ((w3.alloc (.cells (zC 39) 39)).setRow w3.heap.size cD)):=by
   have hz:=H2.out.2.2
   exact⟨(H2.out.1.keep b3).keep kV,(H2.out.2.1.trans (b3.mono hz)).trans (kV.mono (by omega))⟩
  have HB0:Hid (b0<=w3.heap.size):=by have:=H2.out.2.2;show b0<=_;omega
  obtain⟨b7,hb7⟩:∃b7,w3.heap.size=b7:=⟨_,rfl⟩
  have Hb7:=hid hb7
  rw[hb7] at kV sV H7
  rw[hb7]
  clear hb7 hMd hsz hon hz3 b3 HO r0 r1 r2 r3
  rcases hor with⟨rfl,hbig,rfl⟩|⟨rfl,hk,hk2,ms,hD,hml,hms⟩
  ·generalize (w3.alloc (.cells (zC 39) 39)).setRow b7 (zC 39)=V at kV sV H7⊢
   have HF:Hid (OneP s w (.returned (.tuple #[.agg (zC 39),.int .i64 6])) (V.setRow b0 (zC 39))):=by
    refine⟨?_,Or.inr ⟨t,HT.out,Or.inl ⟨?_,rfl⟩⟩⟩
    ·have:=zaj H7.out.2 (Nat.le_refl b0) (zC 39)
     rw[Hb0.out];exact this
    ·have:=zel HMd.out
     omega
   clear hbig kV sV
   go_wp2_with (first
    | (refine zaF rfl 39 _ rfl #[] (by first|rfl|kernel_rfl|(go_simp;done)) (.agg (zC 39)) (zbt _) ?_)
    | (refine zaf rfl 39 _ _ rfl b0 39 (zC 39) (zC 39) rfl rfl H7.out.1 rfl (by rw[zah,zak]) zbw ?_))
   refine bodyPost_ret (zaC rfl _ _ b0 (zC 39) _ rfl H7.out.1.setRow.part Tryz.underlying39 rfl (by rw[zah,zak])) rfl ?_
   exact HF.out
  ·obtain⟨D,rfl,hDM,hDR,hDn,hLs⟩:=zmu (mf:=fun x=>if x=T then 0 else -1) (fun x=>by show (if x=T then (0:Int) else -1)<32768;split<;>omega) HMd.out HcD.out.1 HcD.out.2 hk hk2 hD hml hms
   have hDV:=hDM.below (by rw[Hb7.out];exact kV)
   generalize (w3.alloc (.cells (zC 39) 39)).setRow b7 D.cD=V at kV sV H7 hDV⊢
   have HX:Hid (∀z m,(∀j,z j<256)->Least (fun x=>if x=T then 0 else -1) (RunP (thE t 0) F z m) (markF D (runF D 0 z m))):=hLs
   have HOf:=hid (zhr D _ hDR V hDV)
   have HsV:=hid (And.intro sV hDV)
   have HbV:Hid (b0<=V.heap.size):=by have:=HB0.out;have:=kV.size;have:=Hb7.out;show b0<=_;omega
   have HRD:=hid hDR
   clear hDM hDR hDn hLs hk hk2 hD hml hms kV sV hDV
   go_upto_region 7 with fail
   go_wp2_with (first
    | (refine zad (by rfl) 39 _ rfl ⟨b7,0,none⟩ rfl D.cD _ HsV.out.1.part Tryz.underlying39 rfl HsV.out.2.info ?_)
    | (go_at_call 33;refine HOf.out.mono ?_;rintro e w9 ⟨X,C',rfl,hXM,hMn,hBe,_,b9⟩)
    | (refine zaf rfl 39 _ _ rfl b0 39 (zC 39) X.cD rfl rfl (H7.out.1.keep b9) (by rw[zak,hXM.sz]) (by rw[zah,hXM.sz]) hXM.one ?_))
   refine bodyPost_ret (zaC rfl _ _ b0 X.cD _ rfl (H7.out.1.keep b9).setRow.part Tryz.underlying39 rfl (by rw[zah,hXM.sz])) rfl ?_
   refine⟨?_,Or.inr ⟨t,HT.out,Or.inr ⟨X,C',rfl,(DBx.stored hMn.r hXM (H7.out.1.keep b9)).dm,hMn,fun z k hz=>?_⟩⟩⟩
   ·have:=zaj (H7.out.2.trans (b9.mono HbV.out)) (Nat.le_refl b0) X.cD
    rw[Hb0.out];exact this
   ·rw[hBe z k hz]
    have h1:=zgJ (HX.out z k hz)
    have h2:=zhE t HT.out.1 z hz k
    rw[HQ.out.2.2.1,HQ.out.2.1] at h2
    exact⟨fun h=>h1.1 (h2.2 h),fun h=>h1.2 (fun hh=>h (h2.1 hh))⟩
structure Ru where
 nm:ByteArray
 k:Int
 rx:ByteArray
def ruCells(t:Ru):List Value:=[.string t.nm,.int .i64 t.k,.string t.rx]
def rus(l:List Ru):List Value:=l.flatMap ruCells
theorem ziz(l:List Ru):(rus l).length=l.length*3:=by
 induction l with
 | nil=>rfl
 | cons x l ih=>simp[rus,ruCells] at ih⊢;omega
theorem zjU(l:List Ru)(i:Nat)(h:i<l.length)(j:Nat)(hj:j<3):(rus l)[i*3+j]?=(ruCells l[i])[j]?:=by
 induction l generalizing i with
 | nil=>simp at h
 | cons x l ih=>
  have hc:(ruCells x).length=3:=by simp[ruCells]
  show (ruCells x++rus l)[i*3+j]?=_
  match i,h with
  | 0,_=>
   rw[Nat.zero_mul,Nat.zero_add,List.getElem?_append_left (by omega)]
   rfl
  | i+1,h=>
   rw[List.getElem?_append_right (by omega),hc,show (i+1)*3+j-3=i*3+j by omega,ih i (by simpa using h)]
   rfl
def RuAt(w:World)(a:Option Addr)(l:List Ru):Prop:=0<l.length->∃g off,a=some ⟨g,off,none⟩/\g<w.heap.size/\∀j,j<l.length*3->w.cell? ⟨g,off+j,none⟩=(rus l)[j]?
theorem RuAt.below{w w':World}{a:Option Addr}{l:List Ru}(h:RuAt w a l)(k:Below w.heap.size w w'):RuAt w' a l:=by
 intro h0
 obtain⟨g,off,rfl,hg,hc⟩:=h h0
 have:=k.size
 exact⟨g,off,rfl,by omega,fun j hj=>(k.cell (p:=⟨g,off+j,none⟩) hg).trans (hc j hj)⟩
theorem RuAt.get{w:World}{a:Option Addr}{l:List Ru}(h:RuAt w a l)(k:Nat)(hk:k<l.length):
  ∃g off,a=some ⟨g,off,none⟩/\g<w.heap.size/\w.cell? ⟨g,off+k*3,none⟩=some (.string l[k].nm)/\w.cell? ⟨g,off+k*3+1,none⟩=some (.int .i64 l[k].k)/\w.cell? ⟨g,off+k*3+2,none⟩=some (.string l[k].rx):=by
 obtain⟨g,off,rfl,hg,hc⟩:=h (by omega)
 refine⟨g,off,rfl,hg,?_,?_,?_⟩
 ·have:=zjU l k hk 0 (by omega)
  rw[hc _ (by omega)];exact this
 all_goals
  rw[Nat.add_assoc,hc _ (by omega),zjU l k hk _ (by omega)]
  rfl
theorem RuAt.take{w:World}{a:Option Addr}{l:List Ru}(h:RuAt w a l)(k:Nat):RuAt w a (l.take k):=by
 intro h0
 have hl:=List.length_take_le k l
 have h1:(l.take k).length<=l.length:=by simp;omega
 obtain⟨g,off,e,hg,hc⟩:=h (by omega)
 refine⟨g,off,e,hg,fun j hj=>?_⟩
 have h3:rus l=rus (l.take k)++rus (l.drop k):=by
  unfold rus
  rw[<-List.flatMap_append,List.take_append_drop]
 rw[hc j (by omega),h3,List.getElem?_append_left (by rw[ziz];exact hj)]
theorem zjV(a b:ByteArray):(a.toList == b.toList)=true↔a=b:=by
 rw[beq_iff_eq,ByteArray.toList_eq,ByteArray.toList_eq]
 exact⟨ziM,fun h=>by rw[h]⟩
theorem zjW(x:Ru)(b:Nat)(s:ByteArray)(w:World)(hc:w.cell? ⟨b,0,none⟩=some (.string s))(hb:b<w.heap.size):
  Calls Tryz.prog 30 #[.agg #[.string x.nm,.int .i64 x.k,.string x.rx],.pointer (some ⟨b,0,none⟩)] w (zaV (x.nm=s) w):=by
 have k1:=al w (.cells #[.string x.nm,.int .i64 x.k,.string x.rx] 33)
 have hc2:=(k1.cell (p:=⟨b,0,none⟩) hb).trans hc
 have hne:¬w.heap.size=b:=by omega
 have HB:=hid k1
 have HQ:=hid (zjV x.nm s)
 obtain⟨nm,k,rx⟩:=x
 dsimp only at hc2 HB HQ⊢
 clear k1 hb
 go_enter Tryz.func30,Tryz.ntmps30
 go_wp2_with fail
 go_ret
 exact⟨_,rfl,HQ.out,HB.out⟩
def FindP(l:List Ru)(s:ByteArray)(r:Int):Prop:=(r=-1/\∀j (h:j<l.length),l[j].nm≠s)\/∃(i:Nat) (h:i<l.length),r=((i:Nat):Int)/\l[i].nm=s/\∀j (h:j<l.length),j<i->l[j].nm≠s
def zeX(l:List Ru)(s:ByteArray)(w:World)(e:Ending)(w':World):Prop:=∃r,e=.returned (.int .i64 r)/\FindP l s r/\Below w.heap.size w w'
theorem ziA:∀(args:Array Value) (W:World),(callFunc 30 args).run Tryz.prog W=.ok (.enter 30 args) W:=fun _ _=>by rfl
theorem zgK(n c b:Nat)(a:Option Addr)(l:List Ru)(s:ByteArray)(hl:l.length=n)(hn:n<=9223372036854775807)(w:World)(h1:RuAt w a l)(hc:w.cell? ⟨b,0,none⟩=some (.string s))(hb:b<w.heap.size):
  Calls Tryz.prog 29 #[.slice a n c,.func (.func 30) #[] #[.pointer (some ⟨b,0,none⟩)]] w (zeX l s w):=by
 have H:=hid (And.intro h1 (And.intro hl (And.intro hc hb)))
 have hcf:=ziA
 clear h1 hl hc hb
 go_enter Tryz.func29,Tryz.ntmps29
 go_wp2_with fail
 go_loopw [5,8] (fun _ v wr=>∃k:Nat,v=.int .i64 k/\k<=n/\Hid (Below w.heap.size w wr/\∀j (h:j<l.length),j<k->l[j].nm≠s)) (fun _ v _=>n-(intOf v).toNat)
 case atStart=>exact⟨0,rfl,Nat.zero_le _,Below.refl _ _,fun j _ h=>by omega⟩
 case round=>
  obtain⟨k,rfl,hk,HL⟩:=hrel
  by_cases hlt:k<n
  ·have hkl:k<l.length:=by rw[H.out.2.1];exact hlt
   obtain⟨g1,o1,rfl,_,x0,x1,x2⟩:=(H.out.1.below HL.out.1).get k hkl
   have HF:=hid (zjW l[k] b s wr ((HL.out.1.cell (p:=⟨b,0,none⟩) H.out.2.2.2).trans H.out.2.2.1) (by have:=H.out.2.2.2;have:=HL.out.1.size;omega))
   have HS:Hid (l[k].nm≠s->∀j (h:j<l.length),j<k+1->l[j].nm≠s):=fun h j hj hjk=>by
    by_cases e:j=k
    ·subst e;exact h
    ·exact HL.out.2 j hj (by omega)
   have HY:Hid (l[k].nm=s->FindP l s (k:Int)):=fun h=>Or.inr ⟨k,hkl,rfl,h,HL.out.2⟩
   have i1:(k:Int)<(n:Int):=by omega
   generalize l[k]=x at x0 x1 x2 HF HS HY
   obtain⟨nm,kk,rx⟩:=x
   dsimp only at x0 x1 x2 HF HS HY
   clear hkl
   go_wp2_with fail
   refine HF.out.mono ?_
   rintro e w2 ⟨y,rfl,hy,b2⟩
   have H2:=hid (And.intro (HL.out.1.trans (b2.mono HL.out.1.size)) hy)
   clear b2 hy HF x0 x1 x2
   rcases y with _|_
   ·have HZ:=hid (HS.out (fun h=>by have:=H2.out.2.2 h;cases this))
    go_wp2_with fail
    go_roundw
    case rel=>exact⟨k+1,by go_num,by omega,H2.out.1,HZ.out⟩
    case measure=>simp[intOf];omega
   ·have HZ:=hid (HY.out (H2.out.2.1 rfl))
    go_wp2_with fail
    go_ret
    exact⟨_,rfl,HZ.out,H2.out.1⟩
  ·obtain rfl:k=n:=by omega
   have HZ:Hid (FindP l s (-1)):=Or.inl ⟨rfl,fun j h=>HL.out.2 j h (by have:=H.out.2.1;omega)⟩
   go_wp2_with fail
   go_ret
   exact⟨_,rfl,HZ.out,HL.out.1⟩
theorem zjX(n c:Nat)(a:Option Addr)(l:List Ru)(s:ByteArray)(hl:l.length=n)(hn:n<=9223372036854775807)(w:World)(h1:RuAt w a l):
  Calls Tryz.prog 12 #[.slice a n c,.string s] w (zeX l s w):=by
 have k1:=al w (.cells #[.string s] 9)
 have HI:=hid (zgK n c w.heap.size a l s hl hn (w.alloc (.cells #[.string s] 9)) (h1.below k1) ((St.new w 9 #[.string s]).at_ 0) (by simp))
 have HB:=hid k1
 have hmf:∀(fn:Fn) (first cap:Array Value) (w:World),(Instr.makeFunc fn first cap).run Tryz.prog w=.ok (.func fn first cap) w:=fun _ _ _ _=>rfl
 clear k1 hl h1
 go_enter Tryz.func12,Tryz.ntmps12
 go_wp2_with fail
 refine HI.out.mono ?_
 rintro e w2 ⟨r,rfl,hr,b2⟩
 have HF:=hid (And.intro hr (HB.out.trans (b2.mono HB.out.size)))
 clear hr b2 HI
 go_wp2_with fail
 go_ret
 exact⟨r,rfl,HF.out.1,HF.out.2⟩
def chkN(b:Bool):Int:=if b then 0 else 8
theorem zfR(s:ByteArray)(w:World)(hs:s.size<=maxLen):
  Calls Tryz.prog 47 #[.string s] w fun e w'=>e=.returned (.int .i64 (chkN (nameT s)))/\w'=w:=by
 go_enter Tryz.func47,Tryz.ntmps47
 go_wp2_with fail
 refine(zlg s _ hs).mono ?_
 rintro e w1 ⟨rfl,rfl⟩
 rcases hn:nameT s with _|_
 ·have HN:=hid hn
  clear hn
  go_wp2_with fail
  go_ret
  exact⟨by rw[HN.out];rfl,rfl⟩
 ·have HN:=hid hn
  clear hn
  go_wp2_with fail
  go_ret
  exact⟨by rw[HN.out];rfl,rfl⟩
def kindB(k:Int):Bool:=k == 0 || (k == 1 || k == 2)
theorem ziB(k:Int)(w:World):Calls Tryz.prog 48 #[.int .i64 k] w fun e w'=>e=.returned (.bool (kindB k))/\w'=w:=by
 have HZ:Hid (∀a b c,(k == 0)=a->(k == 1)=b->(k == 2)=c->kindB k=(a || (b || c))):=fun a b c h1 h2 h3=>by unfold kindB;rw[h1,h2,h3]
 rcases h0:(k == 0) with _|_
 ·rcases h1:(k == 1) with _|_
  ·rcases h2:(k == 2) with _|_
   ·have HV:=hid (HZ.out _ _ _ h0 h1 h2)
    go_enter Tryz.func48,Tryz.ntmps48
    go_wp2_with fail
    go_ret
    exact⟨by rw[HV.out];rfl,rfl⟩
   ·have HV:=hid (HZ.out _ _ _ h0 h1 h2)
    go_enter Tryz.func48,Tryz.ntmps48
    go_wp2_with fail
    go_ret
    exact⟨by rw[HV.out];rfl,rfl⟩
  ·have HV:=hid (HZ.out _ _ _ h0 h1 rfl)
   go_enter Tryz.func48,Tryz.ntmps48
   go_wp2_with fail
   go_ret
   exact⟨by rw[HV.out];rfl,rfl⟩
 ·have HV:=hid (HZ.out _ _ _ h0 rfl rfl)
  go_enter Tryz.func48,Tryz.ntmps48
  go_wp2_with fail
  go_ret
  exact⟨by rw[HV.out];rfl,rfl⟩
def RuE(pre:List Ru)(x:Ru)(er:Int):Prop:=
 (nameT x.nm=false/\er=8)\/(nameT x.nm=true/\
  ((
   (∃y∈pre,y.nm=x.nm)/\er=9)\/((∀y∈pre,y.nm≠x.nm)/\
   ((
    kindB x.k=false/\er=1)\/(kindB x.k=true/\
    ((∃e5:Nat,ErrP x.rx e5/\er=(e5:Int))\/(∃t,RxOf x.rx t/\((2000<1+2 ^ nB (thE t 0)/\er=6)\/(Lan t []/\er=14)\/(¬Lan t []/\er=0)))))))))
def RuEP(pre:List Ru)(x:Ru)(w:World)(e:Ending)(w':World):Prop:=∃er,e=.returned (.int .i64 er)/\RuE pre x er/\Below w.heap.size w w'
theorem FindP.mem{l:List Ru}{s:ByteArray}{r:Int}(h:FindP l s r):(0<=r->∃y∈l,y.nm=s)/\(¬0<=r->∀y∈l,y.nm≠s):=by
 rcases h with⟨rfl,h⟩|⟨i,hi,rfl,h,_⟩
 ·refine⟨fun h=>by omega,fun _ y hy=>?_⟩
  obtain⟨j,hj,rfl⟩:=List.getElem_of_mem hy
  exact h j hj
 ·exact⟨fun _=>⟨_,List.getElem_mem hi,h⟩,fun h=>by omega⟩
theorem zeY(n c:Nat)(a:Option Addr)(l:List Ru)(hl:l.length=n)(hn:n<=100000)(hnc:n<=c)(i:Nat)(hi:i<l.length)(hnm:l[i].nm.size<=maxLen)(hrx:l[i].rx.size<=1600)(w:World)(h1:RuAt w a l):
  Calls Tryz.prog 27 #[.slice a n c,.int .i64 (i:Int)] w (RuEP (l.take i) l[i] w):=by
 obtain⟨g1,o1,rfl,hg1,x0,x1,x2⟩:=h1.get i hi
 have hin:i<n:=by omega
 have i1:(i:Int)<(n:Int):=by omega
 have i2:(i:Int)<=(n:Int):=by omega
 have i3:i<=c:=by omega
 have HPre:=hid (h1.take i)
 have HPl:Hid ((l.take i).length=i):=by show _=_;rw[List.length_take];omega
 generalize l.take i=pre at HPre HPl⊢
 generalize l[i]=x at x0 x1 x2 hnm hrx⊢
 obtain⟨nm,kk,rx⟩:=x
 dsimp only at x0 x1 x2 hnm hrx
 have k1:=al w (.cells #[.string nm,.int .i64 kk,.string rx] 33)
 have HB:=hid (And.intro k1 (St.new w 33 #[.string nm,.int .i64 kk,.string rx]))
 have Hrx:=hid hrx
 have Hnm:=hid hnm
 clear k1 h1 hl hi hrx hnm
 go_enter Tryz.func27,Tryz.ntmps27
 go_upto_region 2 with fail
 clear x0 x1 x2
 obtain⟨b,hb0⟩:∃b,w.heap.size=b:=⟨_,rfl⟩
 have Hb0:=hid hb0
 rw[hb0] at HB hg1
 rw[hb0]
 clear hb0
 generalize w.alloc (.cells #[.string nm,.int .i64 kk,.string rx] 33)=W0 at HB⊢
 have HFw:Hid (∀W',Below W0.heap.size W0 W'->Below w.heap.size w W'):=fun W' h=>by
  have hz:=HB.out.1.size
  rw[Hb0.out]
  exact HB.out.1.trans (h.mono (by have:=Hb0.out;omega))
 have HCe:Hid (∀W',Below W0.heap.size W0 W'->W'.cell? ⟨b,0,none⟩=some (.string nm)/\W'.cell? ⟨b,1,none⟩=some (.int .i64 kk)/\W'.cell? ⟨b,2,none⟩=some (.string rx)):=fun W' h=>⟨(HB.out.2.keep h).at_ 0,(HB.out.2.keep h).at_ 1,(HB.out.2.keep h).at_ 2⟩
 obtain⟨c0,c1,c2⟩:=HCe.out W0 (Below.refl _ _)
 have HEs:=hid (zfR nm W0 Hnm.out)
 go_upto_region 3 with (go_at_call 47;refine HEs.out.mono ?_;rintro e w1 ⟨rfl,h1⟩;rw[h1];clear h1)
 rcases hN:nameT nm with _|_
 ·have HZ:Hid (RuEP pre ⟨nm,kk,rx⟩ w (.returned (.int .i64 8)) W0):=⟨8,rfl,Or.inl ⟨hN,rfl⟩,HFw.out _ (Below.refl _ _)⟩
  rw[show chkN false=8 from rfl]
  clear hN
  go_wp2_with fail
  go_ret
  exact HZ.out
 rw[show chkN true=0 from rfl]
 have HN:=hid hN
 clear hN HEs
 have HFi:Hid (∀W,Below W0.heap.size W0 W->Calls Tryz.prog 12 #[.slice (some ⟨g1,o1,none⟩) i c,.string nm] W (zeX pre nm W)):=fun W h=>zjX i c _ pre nm HPl.out (by omega) W (HPre.out.below (HFw.out W h))
 go_upto_region 5 with fail
 clear c0 c1 c2
 have HSo:Hid (∀W',Below W0.heap.size W0 W'->Below W0.heap.size W0 W'/\W'.cell? ⟨b,0,none⟩=some (.string nm)):=fun W' h=>⟨h,(HCe.out W' h).1⟩
 refine wp_region_held_drew (S:=fun W'=>Below W0.heap.size W0 W'/\W'.cell? ⟨b,0,none⟩=some (.string nm)) (by kernel_rfl) (HSo.out _ (Below.refl _ _).drew) (fun hHeld=>?_)
 (refine tkA 0 ?_;refine tkA 1 ?_;refine tkA 2 ?_;refine tkA 3 ?_;refine tkA 4 ?_;try simp only[Act.put,sA,sB,sC])
 refine rd1 5 (fun K hK=>?_)
 ·skip
  go_simp
  go_at_call 12
  refine(HFi.out _ hHeld.1).mono ?_
  rintro e w2 ⟨r,rfl,hr,v2⟩
  have hbn:Below W0.heap.size W0 w2:=hHeld.1.trans (v2.mono hHeld.1.size)
  clear v2
  try go_wp2_with fail
  refine hK.out _ _ (HSo.out _ hbn) (fun hHeld=>?_)
  clear hK K
  try simp only[Act.put,sA,sB,sC]
  (refine tkA 6 ?_;try simp only[Act.put,sA,sB,sC])
  refine wpAnyH_done (by kernel_rfl) ?_ _
  have HBn:=hid (And.intro hbn hr)
  clear hHeld hbn hr
  obtain⟨c0,c1,c2⟩:=HCe.out w2 HBn.out.1
  by_cases h9:0<=r
  ·have HZ:Hid (RuEP pre ⟨nm,kk,rx⟩ w (.returned (.int .i64 9)) w2):=⟨9,rfl,Or.inr ⟨HN.out,Or.inl ⟨HBn.out.2.mem.1 h9,rfl⟩⟩,HFw.out _ HBn.out.1⟩
   go_wp2_with fail
   go_ret
   exact HZ.out
  have HNo:=hid (HBn.out.2.mem.2 h9)
  have HK:=hid (ziB kk w2)
  rcases hkd:kindB kk with _|_
  ·have HZ:Hid (RuEP pre ⟨nm,kk,rx⟩ w (.returned (.int .i64 1)) w2):=⟨1,rfl,Or.inr ⟨HN.out,Or.inr ⟨HNo.out,Or.inl ⟨hkd,rfl⟩⟩⟩,HFw.out _ HBn.out.1⟩
   rw[hkd] at HK
   clear hkd
   go_wp2_with (go_at_call 48;refine HK.out.mono ?_;rintro e w3 ⟨rfl,h3⟩;rw[h3];clear h3)
   go_ret
   exact HZ.out
  have HKd:=hid hkd
  rw[hkd] at HK
  have HOn:=hid (zly rx Hrx.out w2)
  clear hkd
  go_upto_region 9 with (go_at_call 48;refine HK.out.mono ?_;rintro e w3 ⟨rfl,h3⟩;rw[h3];clear h3)
  go_wp2_with (go_at_call 21;refine HOn.out.mono ?_)
  rintro e w3 ⟨b3,hor⟩
  have H3:=hid (HBn.out.1.trans (b3.mono HBn.out.1.size))
  clear b3 HOn HK
  rcases hor with⟨er,hE,rfl⟩|⟨t,hT,⟨hbig,rfl⟩|⟨X,C,rfl,hXM,hMn,hOX⟩⟩
  ·have her:((er:Int) != 0)=true:=by
    rcases hE with⟨rfl,_⟩|⟨rfl,_⟩<;>rfl
   have hb3:Below W0.heap.size W0 ((w3.alloc (.cells (zC 39) 39)).setRow w3.heap.size (zC 39)):=zaj (H3.out.trans ((al w3 _).mono H3.out.size)) H3.out.size _
   have HZ:Hid (RuEP pre ⟨nm,kk,rx⟩ w (.returned (.int .i64 (er:Int))) ((w3.alloc (.cells (zC 39) 39)).setRow w3.heap.size (zC 39))):=⟨_,rfl,Or.inr ⟨HN.out,Or.inr ⟨HNo.out,Or.inr ⟨HKd.out,Or.inl ⟨er,hE,rfl⟩⟩⟩⟩,HFw.out _ hb3⟩
   clear hE hb3
   go_wp2_with (first
    | (refine zap rfl 39 rfl (zC 39) (zat _) ?_)
    | (refine zaf rfl 39 _ _ rfl w3.heap.size 39 (zC 39) (zC 39) rfl rfl (St.new w3 _ _) rfl (by rw[zah,zak]) zbw ?_))
   go_ret
   exact HZ.out
  ·have hb3:Below W0.heap.size W0 ((w3.alloc (.cells (zC 39) 39)).setRow w3.heap.size (zC 39)):=zaj (H3.out.trans ((al w3 _).mono H3.out.size)) H3.out.size _
   have HZ:Hid (RuEP pre ⟨nm,kk,rx⟩ w (.returned (.int .i64 6)) ((w3.alloc (.cells (zC 39) 39)).setRow w3.heap.size (zC 39))):=⟨_,rfl,Or.inr ⟨HN.out,Or.inr ⟨HNo.out,Or.inr ⟨HKd.out,Or.inr ⟨t,hT,Or.inl ⟨hbig,rfl⟩⟩⟩⟩⟩,HFw.out _ hb3⟩
   clear hT hbig hb3
   go_wp2_with (first
    | (refine zap rfl 39 rfl (zC 39) (zat _) ?_)
    | (refine zaf rfl 39 _ _ rfl w3.heap.size 39 (zC 39) (zC 39) rfl rfl (St.new w3 _ _) rfl (by rw[zah,zak]) zbw ?_))
   go_ret
   exact HZ.out
  ·have HXM:=hid (And.intro hXM (And.intro hMn (And.intro hOX hT)))
   have hb3:Below W0.heap.size W0 ((w3.alloc (.cells (zC 39) 39)).setRow w3.heap.size X.cD):=zaj (H3.out.trans ((al w3 _).mono H3.out.size)) H3.out.size _
   have kV:Below w3.heap.size w3 ((w3.alloc (.cells (zC 39) 39)).setRow w3.heap.size X.cD):=zaj (al w3 _) (Nat.le_refl _) _
   have sV:St ((w3.alloc (.cells (zC 39) 39)).setRow w3.heap.size X.cD) 39 w3.heap.size X.cD:=(St.new w3 _ _).setRow
   go_upto_region 10 with (first
    | (refine zap rfl 39 rfl (zC 39) (zat _) ?_)
    | (refine zaf rfl 39 _ _ rfl w3.heap.size 39 (zC 39) X.cD rfl rfl (St.new w3 _ _) (by rw[zak,hXM.sz]) (by rw[zah,hXM.sz]) hXM.one ?_))
   try simp only[Act.put,sA,sB,sC]
   have hDV:=hXM.below kV
   generalize (w3.alloc (.cells (zC 39) 39)).setRow w3.heap.size X.cD=V at hb3 kV sV hDV⊢
   generalize w3.heap.size=b7 at kV sV⊢
   have HV:=hid (And.intro sV (And.intro hDV hb3))
   have HH:=hid (zlW X C HXM.out.2.1.r ⟨#[]⟩ 0 rfl (by omega) V hDV)
   have HL:=hid (HXM.out.2.2.1 (zof ⟨#[]⟩) 0 (fun j=>zb5 _ j))
   generalize markF X (runF X 0 (zof ⟨#[]⟩) 0)=mk at HH HL
   clear hb3 kV sV hDV hXM hMn hOX hT
   by_cases hla:Lan t []
   ·have h0:mk=0:=HL.out.1 hla
    rw[h0] at HH
    clear h0
    have HZ:Hid (∀W,Below V.heap.size V W->RuEP pre ⟨nm,kk,rx⟩ w (.returned (.int .i64 14)) W):=fun W h=>⟨_,rfl,Or.inr ⟨HN.out,Or.inr ⟨HNo.out,Or.inr ⟨HKd.out,Or.inr ⟨t,HXM.out.2.2.2,Or.inr (Or.inl ⟨hla,rfl⟩)⟩⟩⟩⟩,HFw.out _ (HV.out.2.2.trans (h.mono HV.out.2.2.size))⟩
    go_wp2_with (first
     | (refine zad (by rfl) 39 _ rfl ⟨b7,0,none⟩ rfl X.cD _ HV.out.1.part Tryz.underlying39 rfl HV.out.2.1.info ?_)
     | (go_at_call 49;refine HH.out.mono ?_;rintro e w9 ⟨rfl,b9⟩))
    go_ret
    exact HZ.out _ b9
   ·have h0:mk=-1:=HL.out.2 hla
    rw[h0] at HH
    clear h0
    have HZ:Hid (∀W,Below V.heap.size V W->RuEP pre ⟨nm,kk,rx⟩ w (.returned (.int .i64 0)) W):=fun W h=>⟨_,rfl,Or.inr ⟨HN.out,Or.inr ⟨HNo.out,Or.inr ⟨HKd.out,Or.inr ⟨t,HXM.out.2.2.2,Or.inr (Or.inr ⟨hla,rfl⟩)⟩⟩⟩⟩,HFw.out _ (HV.out.2.2.trans (h.mono HV.out.2.2.size))⟩
    go_wp2_with (first
     | (refine zad (by rfl) 39 _ rfl ⟨b7,0,none⟩ rfl X.cD _ HV.out.1.part Tryz.underlying39 rfl HV.out.2.1.info ?_)
     | (go_at_call 49;refine HH.out.mono ?_;rintro e w9 ⟨rfl,b9⟩))
    go_ret
    exact HZ.out _ b9
def RuB(l:List Ru):Prop:=∀j (h:j<l.length),l[j].nm.size<=maxLen/\l[j].rx.size<=1600
def FineTo(l:List Ru)(k:Nat):Prop:=∀j (h:j<l.length),j<k->RuE (l.take j) l[j] 0
def zhD(l:List Ru)(w:World)(e:Ending)(w':World):Prop:=Below w.heap.size w w'/\
 (
  (60<l.length/\e=.returned (.tuple #[.int .i64 (l.length:Int),.int .i64 6]))\/
  (∃(i:Nat) (h:i<l.length) (er:Int),er≠0/\FineTo l i/\RuE (l.take i) l[i] er/\e=.returned (.tuple #[.int .i64 (i:Int),.int .i64 er]))\/
  (l.length<=60/\FineTo l l.length/\e=.returned (.tuple #[.int .i64 (l.length:Int),.int .i64 0])))
theorem ziC(n c:Nat)(a:Option Addr)(l:List Ru)(hl:l.length=n)(hn:n<=100000)(hnc:n<=c)(hB:RuB l)(w:World)(h1:RuAt w a l):
  Calls Tryz.prog 9 #[.slice a n c] w (zhD l w):=by
 have H:=hid (And.intro h1 (And.intro hB hl))
 clear h1 hB hl
 go_enter Tryz.func9,Tryz.ntmps9
 by_cases h6:60<n
 ·have i1:(60:Int)<(n:Int):=by omega
  have HZ:Hid (zhD l w (.returned (.tuple #[.int .i64 (n:Int),.int .i64 6])) w):=by
   refine⟨Below.refl _ _,Or.inl ⟨?_,?_⟩⟩
   ·rw[H.out.2.2];exact h6
   ·rw[H.out.2.2]
  go_wp2_with fail
  go_ret2
  exact HZ.out
 ·have i1:¬((60:Int)<(n:Int)):=by omega
  go_wp2_with fail
  go_loopw [4,5,13] (fun _ _ v wr=>∃k:Nat,v=.int .i64 k/\k<=n/\Hid (Below w.heap.size w wr/\FineTo l k)) (fun _ _ v _=>n-(intOf v).toNat)
  case atStart=>exact⟨0,rfl,Nat.zero_le _,Below.refl _ _,fun j _ h=>by omega⟩
  case round=>
   obtain⟨k,rfl,hk,HL⟩:=hrel
   by_cases hlt:k<n
   ·have hkl:k<l.length:=by rw[H.out.2.2];exact hlt
    have i2:(k:Int)<(n:Int):=by omega
    have HC:=hid (zeY n c a l H.out.2.2 hn hnc k hkl (H.out.2.1 k hkl).1 (H.out.2.1 k hkl).2 wr (H.out.1.below HL.out.1))
    go_wp2_with (go_at_call 27;refine HC.out.mono ?_)
    rintro e w2 ⟨er,rfl,hE,b2⟩
    have H2:=hid (And.intro (HL.out.1.trans (b2.mono HL.out.1.size)) hE)
    clear b2 hE HC
    by_cases h0:er=0
    ·subst h0
     have HN:Hid (FineTo l (k+1)):=fun j hj hjk=>by
      by_cases e:j=k
      ·subst e;exact H2.out.2
      ·exact HL.out.2 j hj (by omega)
     skip
     go_wp2_with fail
     go_roundw
     case rel=>exact⟨k+1,by go_num,by omega,H2.out.1,HN.out⟩
     case measure=>simp[intOf];omega
    ·have i3:((er:Int) != 0)=true:=by rw[bne_iff_ne];exact h0
     have HZ:Hid (zhD l w (.returned (.tuple #[.int .i64 (k:Int),.int .i64 er])) w2):=⟨H2.out.1,Or.inr (Or.inl ⟨k,hkl,er,h0,HL.out.2,H2.out.2,rfl⟩)⟩
     clear h0
     go_wp2_with fail
     go_ret2
     exact HZ.out
   ·obtain rfl:k=n:=by omega
    have HZ:Hid (zhD l w (.returned (.tuple #[.int .i64 (k:Int),.int .i64 0])) wr):=by
     refine⟨HL.out.1,Or.inr (Or.inr ⟨?_,?_,?_⟩)⟩
     ·rw[H.out.2.2];omega
     ·rw[H.out.2.2];exact HL.out.2
     ·rw[H.out.2.2]
    go_wp2_with fail
    go_ret2
    exact HZ.out
theorem zcE{t t':Rx}(hw:t.wf)(hw':t'.wf)(h:t.flat=t'.flat):thE t 0=thE t' 0:=by rw[<-zdD t hw,<-zdD t' hw',h]
theorem zeZ{t t':Rx}(hw:t.wf)(hw':t'.wf)(h:t.flat=t'.flat)(z:Nat->Nat)(hz:∀j,z j<256)(m:Nat):Lan t ((List.range m).map z)↔Lan t' ((List.range m).map z):=by
 rw[<-zhE t hw z hz m,<-zhE t' hw' z hz m,zcE hw hw' h]
 unfold rtI
 rw[h]
theorem RxOf.flat{s:ByteArray}{t t':Rx}(h:RxOf s t)(h':RxOf s t'):t.flat=t'.flat:=by
 have:=h.2.1.symm.trans h'.2.1
 simpa using this
theorem RxOf.no_err{s:ByteArray}{t:Rx}(h:RxOf s t){er:Nat}(he:ErrP s er):False:=by
 rcases he with⟨_,he⟩|⟨_,l,he,hl⟩
 ·exact he _ h.2.1
 ·have e:=he.symm.trans h.2.1
  simp at e
  have:=h.2.2
  rw[e] at hl
  omega
theorem ze0(s:ByteArray)(hs:s.size<=1600)(t:Rx)(h:RxOf s t)(w:World):Calls Tryz.prog 39 #[.string s] w (NofP t t.flat.length w):=by
 refine(zcD s hs w).mono ?_
 intro e w' hp
 rcases hp with⟨er,he,_⟩|⟨t',hw,hal,hle,hN⟩
 ·exact(h.no_err he).elim
 ·have hf:t'.flat=t.flat:=RxOf.flat ⟨hw,hal,hle⟩ h
  have hE:=zcE hw h.1 hf
  unfold NofP at hN⊢
  rw[hE] at hN
  unfold rtI at hN⊢
  rw[hf] at hN
  exact hN
def nfT(t:Rx):NF:=⟨2*t.flat.length,2*rtI t 0,2*rtI t 0+1,thE t 0⟩
theorem zcZ(t:Rx):(nfT t).ok:=by
 have h1:=zj1 t 0
 refine⟨?_,?_,fun e he=>?_⟩
 ·show 2*rtI t 0<2*t.flat.length
  omega
 ·show 2*rtI t 0+1<2*t.flat.length
  omega
 ·have h2:=zem t 0 e he
  show e.f<2*t.flat.length/\e.t<2*t.flat.length
  omega
theorem Tryz.info_nfaQ:(Tryz.prog.info? 67).map (fun i=>(i.zero,i.size,i.bytes))=some (some (.agg #[.int .i64 0,.slice none 0 0,.int .i64 0,.int .i64 0]),4,48):=by kernel_rfl
def nfC(M:NF)(a:Option Addr)(c:Nat):List Value:=[.int .i64 ((M.N:Nat):Int),.slice a M.L.length c,.int .i64 ((M.F:Nat):Int),.int .i64 ((M.T:Nat):Int)]
def nfs(M:Nat->NF)(A:Nat->Option Addr)(C:Nat->Nat)(k:Nat):List Value:=(List.range k).flatMap fun j=>nfC (M j) (A j) (C j)
theorem zcF(M:Nat->NF)(A:Nat->Option Addr)(C:Nat->Nat)(k:Nat):nfs M A C (k+1)=nfs M A C k++nfC (M k) (A k) (C k):=by
 unfold nfs
 rw[List.range_succ,List.flatMap_append]
 simp
theorem znx(M:Nat->NF)(A:Nat->Option Addr)(C:Nat->Nat)(k:Nat):(nfs M A C k).length=k*4:=by
 induction k with
 | zero=>rfl
 | succ k ih=>rw[zcF,List.length_append,ih];simp[nfC];omega
theorem ze1(M:Nat->NF)(A:Nat->Option Addr)(C:Nat->Nat)(k i:Nat)(h:i<k)(j:Nat)(hj:j<4):(nfs M A C k)[i*4+j]?=(nfC (M i) (A i) (C i))[j]?:=by
 induction k with
 | zero=>omega
 | succ k ih=>
  have hl:=znx M A C k
  rw[zcF]
  by_cases e:i<k
  ·rw[List.getElem?_append_left (by omega)]
   exact ih e
  ·obtain rfl:i=k:=by omega
   rw[List.getElem?_append_right (by omega),hl,show i*4+j-i*4=j by omega]
theorem zjY{M:Nat->NF}{A A':Nat->Option Addr}{C C':Nat->Nat}{k:Nat}(h:∀j,j<k->A j=A' j/\C j=C' j):nfs M A C k=nfs M A' C' k:=by
 induction k with
 | zero=>rfl
 | succ k ih=>rw[zcF,zcF,ih (fun j hj=>h j (by omega)),(h k (by omega)).1,(h k (by omega)).2]
structure Gath (W0:World)(M:Nat->NF)(k:Nat)(v:Value)(A:Nat->Option Addr)(C:Nat->Nat)(w:World):Prop where
 own:w.ownsRow W0.heap.size 67 4 v k (nfs M A C k)
 ed:∀j,j<k->w.ownsRow W0.heap.size 128 7 (.slice (A j) (M j).L.length (C j)) (M j).L.length (egs ((M j).L.map En.z))
 below:Below W0.heap.size W0 w
theorem Gath.keep{W0 w w':World}{M:Nat->NF}{k:Nat}{v:Value}{A:Nat->Option Addr}{C:Nat->Nat}(h:Gath W0 M k v A C w)(kk:Below w.heap.size w w'):Gath W0 M k v A C w':=
 ⟨zab h.own kk,fun j hj=>zab (h.ed j hj) kk,h.below.trans (kk.mono h.below.size)⟩
theorem Gath.mg{W0 w:World}{M:Nat->NF}{k c:Nat}{a:Option Addr}{A:Nat->Option Addr}{C:Nat->Nat}(h:Gath W0 M k (.slice a k c) A C w):MgAt w a k (fun j=>(M j).mg (A j) (C j)):=by
 intro h0
 obtain⟨g,e,_,hg,hc⟩:=zae h.own h0
 refine⟨g,0,e,hg,fun j hj=>⟨⟨?_,?_,?_,?_⟩,?_⟩⟩
 ·have:=ze1 M A C k j hj 0 (by omega)
  rw[Nat.zero_add,(hc (j*4) (by omega)).1,show j*4=j*4+0 by omega,this];rfl
 ·rw[Nat.zero_add,(hc (j*4+1) (by omega)).1,ze1 M A C k j hj 1 (by omega)]
  simp[nfC,NF.mg]
 ·rw[Nat.zero_add,(hc (j*4+2) (by omega)).1,ze1 M A C k j hj 2 (by omega)];rfl
 ·rw[Nat.zero_add,(hc (j*4+3) (by omega)).1,ze1 M A C k j hj 3 (by omega)];rfl
 ·intro h1
  have hl:((M j).L.map En.z).length=(M j).L.length:=List.length_map ..
  have h1':0<((M j).L.map En.z).length:=h1
  obtain⟨g',e',_,hg',hc'⟩:=zae (h.ed j hj) (by omega)
  refine⟨g',0,e',hg',fun i hi=>?_⟩
  have hi':i<((M j).L.map En.z).length*7:=hi
  rw[Nat.zero_add,(hc' i (by omega)).1]
  rfl
def mkV(la:Nat->Nat):Nat->Nat->Int
 | 0=>fun _=>-1
 | k+1=>fun x=>if x=la k then (k:Int) else mkV la k x
theorem zlz(la:Nat->Nat)(N k:Nat)(hk:la k<N):(ints ((List.range N).map (mkV la k))).set (la k) (.int .i64 (k:Int))=ints ((List.range N).map (mkV la (k+1))):=by
 apply List.ext_getElem?
 intro i
 rw[List.getElem?_set]
 by_cases hi:i<N
 ·by_cases e:la k=i
  ·subst e
   simp[ints,hi,mkV]
  ·have e':¬i=la k:=fun h=>e h.symm
   simp[ints,hi,mkV,e,e']
 ·by_cases e:la k=i
  ·omega
  ·simp[ints,e,hi]
theorem zdg(M:Nat->NF):∀(n i:Nat),i<n->(ula M n).getD i 0=uo M i+(M i).T:=by
 intro n
 induction n with
 | zero=>intro i h;omega
 | succ n ih=>
  intro i hi
  have hl:=zke M n
  simp only[ula]
  by_cases e:i<n
  ·have:=ih i e
   rw[List.getD_eq_getElem?_getD,List.getElem?_append_left (by omega),<-List.getD_eq_getElem?_getD]
   exact this
  ·obtain rfl:i=n:=by omega
   rw[List.getD_eq_getElem?_getD,List.getElem?_append_right (by omega),hl]
   simp
theorem zmv(M:Nat->NF)(n:Nat)(h:∀k,k<n->(M k).ok)(i:Nat)(hi:i<n):(ula M n).getD i 0<uo M n:=by
 rw[zdg M n i hi]
 have h1:=(h i hi).t
 have h2:=zmW M (show i+1<=n by omega)
 have h3:uo M (i+1)=uo M i+(M i).N:=rfl
 omega
theorem zod{w:World}{B n c:Nat}{a:Option Addr}{L:List Eg}(h:w.ownsRow B 128 7 (.slice a n c) n (egs L))(hn:L.length=n):EdAt w a L:=by
 intro h0
 obtain⟨g,e,_,hg,hc⟩:=zae h (by omega)
 exact⟨g,0,e,hg,fun j hj=>by rw[Nat.zero_add,(hc j (by omega)).1]⟩
theorem zmw{w:World}{B n c:Nat}{a:Option Addr}{z:Nat->Int}(h:w.ownsRow B 3 1 (.slice a n c) n (ints ((List.range n).map z))):ZAt w a n z:=by
 intro h0
 obtain⟨g,e,_,hg,hc⟩:=zae h (by omega)
 refine⟨g,0,e,hg,fun j hj=>?_⟩
 rw[Nat.zero_add,(hc j (by omega)).1]
 simp[ints,hj]
def zny(M:Nat->NF)(n:Nat)(w:World)(e:Ending)(w':World):Prop:=
 ∃aE cE aM cM,e=.returned (.tuple #[.agg #[.int .i64 ((uo M n:Nat):Int),.slice aE (uE M n).length cE,.int .i64 0,.int .i64 0],.slice aM (uo M n) cM])/\
  EdAt w' aE ((uE M n).map En.z)/\ZAt w' aM (uo M n) (mkV (fun i=>(ula M n).getD i 0) n)/\Below w.heap.size w w'
theorem zdX(n c:Nat)(a:Option Addr)(l:List Ru)(T:Nat->Rx)(hl:l.length=n)(hn:n<=20)(hT:∀j (h:j<l.length),RxOf l[j].rx (T j)/\(T j).flat.length<=80/\l[j].rx.size<=1600)(w:World)(h1:RuAt w a l):
  Calls Tryz.prog 32 #[.slice a n c] w (zny (fun j=>nfT (T j)) n w):=by
 have H:=hid (And.intro h1 (And.intro hl hT))
 have kn:=al w (.cells #[.int .i64 0,.slice none 0 0,.int .i64 0,.int .i64 0] 67)
 have HB:=hid (And.intro (St.new w 67 #[.int .i64 0,.slice none 0 0,.int .i64 0,.int .i64 0]) kn)
 clear h1 hl hT kn
 go_enter Tryz.func32,Tryz.ntmps32
 go_wp2_with fail
 obtain⟨b2,hb2⟩:∃b2,w.heap.size=b2:=⟨_,rfl⟩
 have Hb2:=hid hb2
 rw[hb2] at HB
 rw[hb2]
 clear hb2
 generalize w.alloc (.cells #[.int .i64 0,.slice none 0 0,.int .i64 0,.int .i64 0] 67)=W0 at HB⊢
 go_loopw [4,6,7,8,16] (fun v4 _ _ _ v wr=>∃(k:Nat) (aA:Option Addr) (cA:Nat) (A:Nat->Option Addr) (C:Nat->Nat),v=.int .i64 k/\v4=.slice aA k cA/\k<=n/\Hid (Gath W0 (fun j=>nfT (T j)) k v4 A C wr)) (fun _ _ _ _ v _=>n-(intOf v).toNat)
 case atStart=>exact⟨0,none,0,fun _=>none,fun _=>0,rfl,rfl,Nat.zero_le _,World.ownsRow_nil _ _ _ _,fun j hj=>absurd hj (by omega),Below.refl _ _⟩
 case round=>
  obtain⟨k,aA,cA,A,C,rfl,rfl,hk,HL⟩:=hrel
  have Hw0:Hid (∀W',Below W0.heap.size W0 W'->Below b2 w W'):=fun W' h=>HB.out.2.trans (h.mono (by have:=HB.out.2.size;have:=Hb2.out;omega))
  by_cases hlt:k<n
  ·have hkl:k<l.length:=by rw[H.out.2.1];exact hlt
   have i1:(k:Int)<(n:Int):=by omega
   obtain⟨g1,o1,rfl,_,x0,x1,x2⟩:=(H.out.1.below (by rw[Hb2.out];exact Hw0.out _ HL.out.below)).get k hkl
   have HTk:=hid (H.out.2.2 k hkl)
   generalize l[k]=x at x0 x1 x2 HTk
   obtain⟨nm,kk,rx⟩:=x
   dsimp only at x0 x1 x2 HTk
   have k1:=al wr (.cells #[.string nm,.int .i64 kk,.string rx] 33)
   have H1:=hid (HL.out.keep k1)
   have HEx:=hid (ze0 rx HTk.out.2.2 (T k) HTk.out.1 (wr.alloc (.cells #[.string nm,.int .i64 kk,.string rx] 33)))
   clear k1 hkl
   go_wp2_with (go_at_call 39;refine HEx.out.mono ?_)
   rintro e w2 ⟨a2,c2,rfl,ho2,b2'⟩
   have H2:=hid (And.intro (H1.out.keep b2') (zag ho2 (by have:=H1.out.below.size;exact this)))
   obtain⟨S,hS⟩:∃S:Nat,2*(T k).flat.length=S:=⟨_,rfl⟩
   obtain⟨F,hF⟩:∃F:Nat,2*rtI (T k) 0=F:=⟨_,rfl⟩
   obtain⟨Tt,hTt⟩:∃Tt:Nat,2*rtI (T k) 0+1=Tt:=⟨_,rfl⟩
   obtain⟨m,hmm⟩:∃m,(thE (T k) 0).length=m:=⟨_,rfl⟩
   have HQ:Hid (nfC (nfT (T k)) a2 c2=[.int .i64 (S:Int),.slice a2 m c2,.int .i64 (F:Int),.int .i64 (Tt:Int)]/\(nfT (T k)).L=thE (T k) 0/\(thE (T k) 0).length=m):=by
    refine⟨?_,rfl,hmm⟩
    rw[<-hS,<-hF,<-hTt,<-hmm]
    rfl
   rw[hmm] at H2
   rw[hTt,hS,hF,hmm]
   clear hS hF hTt hmm ho2 b2' H1 HEx
   have k3:=al w2 (.cells #[.int .i64 (S:Int),.slice a2 m c2,.int .i64 (F:Int),.int .i64 (Tt:Int)] 67)
   have s3:=St.new w2 67 #[.int .i64 (S:Int),.slice a2 m c2,.int .i64 (F:Int),.int .i64 (Tt:Int)]
   have H3:=hid (And.intro (H2.out.1.keep k3) (zab H2.out.2 k3))
   have hz2:W0.heap.size<=w2.heap.size:=H2.out.1.below.size
   go_upto_region 6 with fail
   generalize w2.alloc (.cells #[.int .i64 (S:Int),.slice a2 m c2,.int .i64 (F:Int),.int .i64 (Tt:Int)] 67)=W3 at k3 s3 H3⊢
   obtain⟨b7,hb7⟩:∃b7,w2.heap.size=b7:=⟨_,rfl⟩
   rw[hb7] at s3
   rw[hb7]
   obtain⟨q0,q1,q2,q3⟩:=s3.cells4
   have hz3:W0.heap.size<=W3.heap.size:=H3.out.1.below.size
   clear x0 x1 x2 H2 k3 s3 hb7 hz2
   have hO:=H3.out.1.own
   obtain⟨iT,hT,hT0,hT1,hT2⟩:=info_parts Tryz.info_nfaQ
   go_wp2_with (at_builtin;refine wpList_append_own _ rfl _ _ 94 rfl W0.heap.size 67 iT (.agg #[.int .i64 0,.slice none 0 0,.int .i64 0,.int .i64 0]) 4 48 Tryz.underlying94 hT hT0 hT1 hT2 rfl (by decide) _ _ _ rfl (hO.alloc _) ⟨W3.heap.size,0,none⟩ 1 1 (#[.int .i64 (S:Int),.slice a2 m c2,.int .i64 (F:Int),.int .i64 (Tt:Int)]).toList rfl rfl (World.news_of_block (cs:=#[.int .i64 (S:Int),.slice a2 m c2,.int .i64 (F:Int),.int .i64 (Tt:Int)]) (St.new _ _ _)) ?_ ?_ ?_ ?_ ?_)
   ·exact⟨rfl,rfl,rfl,rfl⟩
   ·unfold maxLen;omega
   ·omega
   ·simp;omega
   intro v' w5 hown5 hgrow5 _
   obtain⟨a5,c5,rfl⟩:=zaa hown5
   have HG5:Hid (Gath W0 (fun j=>nfT (T j)) (k+1) (.slice a5 (k+1) c5) (fun j=>if j=k then a2 else A j) (fun j=>if j=k then c2 else C j) w5):=by
    have hal:=al W3 (.cells #[.int .i64 (S:Int),.slice a2 m c2,.int .i64 (F:Int),.int .i64 (Tt:Int)] 67)
    have hkp:Kept [67] [] (W3.alloc (.cells #[.int .i64 (S:Int),.slice a2 m c2,.int .i64 (F:Int),.int .i64 (Tt:Int)] 67)) w5:=(Kept.refl _ _ _).grown_own (hO.alloc _) (by simp) hgrow5
    refine⟨?_,fun j hj=>?_,(H3.out.1.below.trans (hal.mono hz3)).grown hgrow5 (by simp;omega) (fun g e=>(hO.lt g e).1)⟩
    ·have e:=zcF (fun j=>nfT (T j)) (fun j=>if j=k then a2 else A j) (fun j=>if j=k then c2 else C j) k
     rw[e,zjY (A':=A) (C':=C) (fun j hj=>by simp[show j≠k by omega])]
     simp only[if_true]
     rw[HQ.out.1]
     exact hown5
    ·by_cases e:j=k
     ·subst e
      simp only[if_true]
      have h9:=zal (zab H3.out.2 hal) hkp (by decide) (by simp)
      show w5.ownsRow _ _ _ (.slice a2 (nfT (T j)).L.length c2) (nfT (T j)).L.length (egs ((nfT (T j)).L.map En.z))
      rw[HQ.out.2.1,HQ.out.2.2]
      exact h9
     ·simp only[if_neg e]
      exact zal (zab (H3.out.1.ed j (by omega)) hal) hkp (by decide) (by simp)
   clear hown5 hgrow5 hO q0 q1 q2 q3
   go_wp2_with fail
   go_roundw
   case rel=>exact⟨k+1,a5,c5,_,_,by go_num,rfl,by omega,HG5⟩
   case measure=>simp[intOf];omega
  ·obtain rfl:k=n:=by omega
   have HU:=hid (zkf (fun j=>nfT (T j)) k (fun j hj=>⟨zcZ _,by
    have:=(H.out.2.2 j (by rw[H.out.2.1];exact hj)).2.1
    show 2*(T j).flat.length<=1000
    omega,by
    have:=(H.out.2.2 j (by rw[H.out.2.1];exact hj)).2.1
    have h2:=zgI (T j) 0
    show (thE (T j) 0).length<=1000
    omega⟩) (by omega) A C aA cA wr HL.out.mg)
   have HUo:Hid (1<=uo (fun j=>nfT (T j)) k/\uo (fun j=>nfT (T j)) k<=1+20*160):=by
    refine⟨zhe _ _,?_⟩
    have h9:=zi6 (fun j=>nfT (T j)) k 160 (fun j hj=>by
     have:=(H.out.2.2 j (by rw[H.out.2.1];exact hj)).2.1
     show 2*(T j).flat.length<=160
     omega)
    have h10:k*160<=20*160:=Nat.mul_le_mul_right _ (by omega)
    omega
   have HLu:=hid (zke (fun j=>nfT (T j)) k)
   have HLl:Hid (∀i,i<k->(ula (fun j=>nfT (T j)) k).getD i 0<uo (fun j=>nfT (T j)) k):=by
    exact fun i hi=>zmv (fun j=>nfT (T j)) k (fun j _=>zcZ _) i hi
   go_wp2_with (go_at_call 53;refine HU.out.mono ?_)
   rintro e w2 ⟨aE,cE,aL,cL,rfl,hoE,hoL,b2'⟩
   obtain⟨U,hU⟩:∃U,uo (fun j=>nfT (T j)) k=U:=⟨_,rfl⟩
   obtain⟨mE,hmE⟩:∃mE,(uE (fun j=>nfT (T j)) k).length=mE:=⟨_,rfl⟩
   obtain⟨la,hla⟩:∃la:Nat->Nat,(fun i=>(ula (fun j=>nfT (T j)) k).getD i 0)=la:=⟨_,rfl⟩
   have HSp:Hid (∀e w',(∃aE cE aM cM,e=.returned (.tuple #[.agg #[.int .i64 (U:Int),.slice aE mE cE,.int .i64 0,.int .i64 0],.slice aM U cM])/\EdAt w' aE ((uE (fun j=>nfT (T j)) k).map En.z)/\ZAt w' aM U (mkV la k)/\Below w.heap.size w w')->zny (fun j=>nfT (T j)) k w e w'):=fun e w' h=>by
    unfold zny
    rw[hU,hmE,hla]
    exact h
   have HLa:Hid (∀i,i<k->la i<U):=fun i hi=>by
    rw[<-hla,<-hU]
    exact HLl.out i hi
   have HNl:Hid (zai (ula (fun j=>nfT (T j)) k)=(List.range k).map fun i=>.int .i64 ((la i:Nat):Int)):=by
    show _=_
    apply List.ext_getElem?
    intro i
    by_cases hi:i<k
    ·have e:la i=(ula (fun j=>nfT (T j)) k).getD i 0:=by rw[<-hla]
     have hl9:=HLu.out
     simp[zai,hi,e,List.getD_eq_getElem?_getD,hl9]
    ·have hl9:=HLu.out
     simp[zai,hi,hl9]
   rw[HNl.out] at hoL
   rw[hmE] at hoE⊢
   rw[hU] at HUo
   rw[hU]
   have H2:Hid (w2.ownsRow b2 128 7 (.slice aE mE cE) mE (egs ((uE (fun j=>nfT (T j)) k).map En.z))/\w2.ownsRow b2 3 1 (.slice aL k cL) k ((List.range k).map fun i=>.int .i64 ((la i:Nat):Int))/\St w2 67 b2 #[.int .i64 0,.slice none 0 0,.int .i64 0,.int .i64 0]/\Below b2 w w2/\b2<w2.heap.size):=by
    have h3:=HL.out.below.size
    have h4:=b2'.size
    have h5:=HB.out.1.lt
    exact⟨zag hoE (by omega),zag hoL (by omega),(HB.out.1.keep HL.out.below).keep b2',(Hw0.out _ HL.out.below).trans (b2'.mono (by omega)),by omega⟩
   have HmE:=hid hmE
   clear hoE hoL b2' hmE hla hU HU HL HLl HNl
   have k3:=al w2 (.cells #[.int .i64 (U:Int),.slice aE mE cE,.int .i64 0,.int .i64 0] 67)
   have s3:=St.new w2 67 #[.int .i64 (U:Int),.slice aE mE cE,.int .i64 0,.int .i64 0]
   have H3:=hid (And.intro (zab H2.out.1 k3) (And.intro (zab H2.out.2.1 k3) (And.intro (H2.out.2.2.1.keep k3) (And.intro (H2.out.2.2.2.1.trans (k3.mono (Nat.le_of_lt H2.out.2.2.2.2))) (Nat.lt_of_lt_of_le H2.out.2.2.2.2 k3.size)))))
   go_upto_region 9 with fail
   generalize w2.alloc (.cells #[.int .i64 (U:Int),.slice aE mE cE,.int .i64 0,.int .i64 0] 67)=W3 at k3 s3 H3⊢
   obtain⟨b9,hb9⟩:∃b9,w2.heap.size=b9:=⟨_,rfl⟩
   rw[hb9] at s3
   rw[hb9]
   clear hb9 k3 H2
   have q0:=(s3.keep (al W3 (.cells #[.int .i64 (-1)] 3))).cells4.1
   have HUb:Hid (1<=U/\U<=3201):=HUo.out
   have HRep:Hid (∀(W:World) (g:Nat),W.cell? ⟨g,0,none⟩=some (.int .i64 (-1))->g<W.heap.size->Calls Tryz.prog 54 #[.slice (some ⟨g,0,none⟩) 1 1,.int .i64 (U:Int)] W (zeS U W)):=fun W g h1 h2=>zee U HUb.out.1 (by have:=HUb.out.2;omega) g W h1 h2
   have Hs3:=hid s3
   clear s3
   go_wp2_with fail
   refine(HRep.out _ _ (by exact cell_one_new _ _ _ 0 _ rfl) (by simp)).mono ?_
   rintro e w5 ⟨gM,rfl,o5,b5⟩
   have H5:Hid (∃W4:World,Below W4.heap.size W4 w5/\W4.heap.size<=gM/\w5.ownsRow W4.heap.size 3 1 (.slice (some ⟨gM,0,none⟩) U U) U (ints ((List.range U).map (mkV la 0)))/\W4.ownsRow b2 128 7 (.slice aE mE cE) mE (egs ((uE (fun j=>nfT (T j)) k).map En.z))/\W4.ownsRow b2 3 1 (.slice aL k cL) k ((List.range k).map fun i=>.int .i64 ((la i:Nat):Int))/\St W4 67 b2 #[.int .i64 0,.slice none 0 0,.int .i64 0,.int .i64 0]/\Below b2 w W4/\St W4 67 b9 #[.int .i64 (U:Int),.slice aE mE cE,.int .i64 0,.int .i64 0]/\b2<W4.heap.size):=by
    have k2:=al W3 (.cells #[.int .i64 (-1)] 3)
    refine⟨_,b5,zas o5 gM rfl,?_,zab H3.out.1 k2,zab H3.out.2.1 k2,H3.out.2.2.1.keep k2,H3.out.2.2.2.1.trans (k2.mono (Nat.le_of_lt H3.out.2.2.2.2)),Hs3.out.keep k2,Nat.lt_of_lt_of_le H3.out.2.2.2.2 k2.size⟩
    have e:(List.range U).map (mkV la 0)=List.replicate U (-1):=by
     apply List.ext_getElem?
     intro i
     by_cases hi:i<U
     ·simp[hi,mkV]
     ·simp[hi]
    rw[e]
    exact o5
   obtain⟨W4,h4⟩:=H5.out
   have H4:=hid h4.2.2.2
   have HP:Hid (w5.ownsRow W4.heap.size 3 1 (.slice (some ⟨gM,0,none⟩) U U) U (ints ((List.range U).map (mkV la 0)))/\Below W4.heap.size W4 w5):=⟨h4.2.2.1,h4.1⟩
   have Hg:=hid h4.2.1
   clear h4 H5 o5 b5 H3 Hs3 q0 HRep H Hw0 HB
   go_wp2_with fail
   go_loopw [12,13,42] (fun _ _ v wr=>∃(i:Nat),v=.int .i64 i/\i<=k/\Hid (wr.ownsRow W4.heap.size 3 1 (.slice (some ⟨gM,0,none⟩) U U) U (ints ((List.range U).map (mkV la i)))/\Below W4.heap.size W4 wr)) (fun _ _ v _=>k-(intOf v).toNat)
   case atStart=>exact⟨0,rfl,Nat.zero_le _,HP⟩
   case round=>
    obtain⟨i,rfl,hi,HI⟩:=hrel
    by_cases hlt:i<k
    ·have i1:(i:Int)<(k:Int):=by omega
     obtain⟨gL,rfl,_,_,hcL⟩:=zae (zab H4.out.2.1 HI.out.2) (by omega)
     have c0:=(hcL i (by omega)).1
     rw[show ((List.range k).map fun i=>(Value.int .i64 ((la i:Nat):Int)))[i]?=some (.int .i64 ((la i:Nat):Int)) by simp[hlt]] at c0
     have hla:=HLa.out i hlt
     have l1:¬((la i:Nat):Int)<0:=by omega
     obtain⟨gM',eM,_,hgM,hcM⟩:=zae HI.out.1 (by omega)
     cases eM
     have c1:=hcM (la i) (by rw[Nat.mul_one];exact hla)
     have c2:=c1.1
     have c3:=c1.2
     rw[show (ints ((List.range U).map (mkV la i)))[la i]?=some (.int .i64 (mkV la i (la i))) by simp[ints,hla]] at c2
     clear c1 hcL hcM
     go_wp2_with fail
     go_roundw
     case rel=>exact⟨i+1,by go_num,by omega,by rw[<-zlz la U i hla];exact za9 HI.out.1 (la i) hla _,HI.out.2.setCell (p:=⟨gM,la i,none⟩) Hg.out _⟩
     case measure=>simp[intOf];omega
    ·obtain rfl:i=k:=by omega
     have HW:Hid (wr.ownsRow b2 128 7 (.slice aE mE cE) mE (egs ((uE (fun j=>nfT (T j)) i).map En.z))/\wr.ownsRow b2 3 1 (.slice (some ⟨gM,0,none⟩) U U) U (ints ((List.range U).map (mkV la i)))/\St wr 67 b2 #[.int .i64 0,.slice none 0 0,.int .i64 0,.int .i64 0]/\Below b2 w wr):=⟨zab H4.out.1 HI.out.2,zag HI.out.1 (Nat.le_of_lt H4.out.2.2.2.2.2),H4.out.2.2.1.keep HI.out.2,H4.out.2.2.2.1.trans (HI.out.2.mono (Nat.le_of_lt H4.out.2.2.2.2.2))⟩
     obtain⟨z0,z1,z2,z3⟩:=(H4.out.2.2.2.2.1.keep HI.out.2).cells4
     obtain⟨x0,x1,x2,x3,g0,g1,g2,g3⟩:=row4 HW.out.2.2.1
     have HSf:Hid (St ((((wr.setCell ⟨b2,0,none⟩ (.int .i64 (U:Int))).setCell ⟨b2,1,none⟩ (.slice aE mE cE)).setCell ⟨b2,2,none⟩ (.int .i64 0)).setCell ⟨b2,3,none⟩ (.int .i64 0)) 67 b2 #[.int .i64 (U:Int),.slice aE mE cE,.int .i64 0,.int .i64 0]):=HW.out.2.2.1.set4 _ _ _ _
     have HF:=hid (And.intro (zbD HW.out.1 HW.out.2.2.1 (by decide) (.int .i64 (U:Int)) (.slice aE mE cE) (.int .i64 0) (.int .i64 0)) (And.intro (zbD HW.out.2.1 HW.out.2.2.1 (by decide) (.int .i64 (U:Int)) (.slice aE mE cE) (.int .i64 0) (.int .i64 0)) (zbp HW.out.2.2.2 (Nat.le_refl _) (.int .i64 (U:Int)) (.slice aE mE cE) (.int .i64 0) (.int .i64 0))))
     go_wp2_with fail
     generalize (((wr.setCell ⟨b2,0,none⟩ (.int .i64 (U:Int))).setCell ⟨b2,1,none⟩ (.slice aE mE cE)).setCell ⟨b2,2,none⟩ (.int .i64 0)).setCell ⟨b2,3,none⟩ (.int .i64 0)=Wf at HF HSf⊢
     obtain⟨v0,v1,v2,v3⟩:=HSf.out.cells4
     refine bodyPost_ret (v:=.tuple #[.agg #[.int .i64 (U:Int),.slice aE mE cE,.int .i64 0,.int .i64 0],.slice (some ⟨gM,0,none⟩) U U]) (by simp[results,Tryz.results32,go_sem,v0,v1,v2,v3]) rfl (HSp.out _ _ ⟨aE,cE,some ⟨gM,0,none⟩,U,rfl,zod HF.out.1 ?_,zmw HF.out.2.1,?_⟩)
     ·rw[List.length_map];exact HmE.out
     ·rw[Hb2.out];exact HF.out.2.2
theorem znz(M:Nat->NF)(n:Nat)(h:∀k,k<n->(M k).ok):riB ((uo M n:Nat):Int) ((uE M n).map En.z) ((0:Nat):Int) 0=true:=by
 have hp:=zhe M n
 simp only[riB,Bool.and_eq_true,List.all_eq_true,edB,zds,List.mem_map]
 refine⟨?_,by omega,by omega⟩
 rintro e ⟨x,hx,rfl⟩
 obtain⟨h1,h2,h3⟩:=zkX M n h x hx
 simp only[En.z]
 omega
theorem zox(o:Nat)(L:List En):nB (L.map (En.by o))=nB L:=by
 unfold nB
 rw[List.filter_map,List.length_map]
 rfl
theorem zoe(M:Nat->NF)(B:Nat):∀n,(∀k,k<n->nB (M k).L<=B)->nB (uE M n)<=n*B:=by
 intro n
 induction n with
 | zero=>intro _;exact Nat.le_of_eq (by simp[uE,nB])
 | succ n ih=>
  intro h
  have h1:=ih fun k hk=>h k (by omega)
  have h2:=h n (by omega)
  have h3:nB (uE M (n+1))=nB (uE M n)+nB (M n).L:=by
   rw[<-zox (uo M n) (M n).L]
   simp[uE,nB,fre,List.filter_cons]
  rw[h3,Nat.succ_mul]
  omega
theorem zlA(M:Nat->NF)(n:Nat)(h:∀k,k<n->(M k).ok){i j:Nat}(hij:i<j)(hj:j<n):(ula M n).getD i 0<(ula M n).getD j 0:=by
 rw[zdg M n i (by omega),zdg M n j hj]
 have h1:=(h i (by omega)).t
 have h2:=zmW M (show i+1<=j by omega)
 have h3:uo M (i+1)=uo M i+(M i).N:=rfl
 omega
theorem zog(la:Nat->Nat):∀(n i:Nat),(∀i j,i<j->j<n->la i<la j)->i<n->mkV la n (la i)=((i:Nat):Int):=by
 intro n
 induction n with
 | zero=>intro i _ h;omega
 | succ n ih=>
  intro i hm hi
  show (if la i=la n then (n:Int) else mkV la n (la i))=_
  by_cases e:i=n
  ·subst e;rw[if_pos rfl]
  ·rw[if_neg (by have:=hm i n (by omega) (by omega);omega)]
   exact ih i (fun i j h1 h2=>hm i j h1 (by omega)) (by omega)
theorem zoh(la:Nat->Nat)(x:Nat):∀n,(∀i,i<n->x≠la i)->mkV la n x=-1:=by
 intro n
 induction n with
 | zero=>intro _;rfl
 | succ n ih=>
  intro h
  show (if x=la n then (n:Int) else mkV la n x)=_
  rw[if_neg (h n (by omega))]
  exact ih fun i hi=>h i (by omega)
def FirstI(n:Nat)(P:Nat->Prop)(r:Int):Prop:=(r=-1/\∀i,i<n->¬P i)\/∃i,i<n/\r=((i:Nat):Int)/\P i/\∀j,j<i->¬P j
theorem FirstI.congr{n:Nat}{P Q:Nat->Prop}{r:Int}(h:FirstI n P r)(e:∀i,i<n->(P i↔Q i)):FirstI n Q r:=by
 rcases h with⟨h1,h2⟩|⟨i,hi,h1,h2,h3⟩
 ·exact Or.inl ⟨h1,fun i hi hq=>h2 i hi ((e i hi).2 hq)⟩
 ·exact Or.inr ⟨i,hi,h1,(e i hi).1 h2,fun j hj hq=>h3 j hj ((e j (by omega)).2 hq)⟩
theorem zgL{M:Nat->NF}{n:Nat}(h:∀k,k<n->(M k).ok){A:Nat->Prop}{r:Int}(hl:Least (mkOf (uo M n) (mkV (fun i=>(ula M n).getD i 0) n)) A r):FirstI n (fun i=>A ((ula M n).getD i 0)) r:=by
 have hm:∀i j,i<j->j<n->(fun i=>(ula M n).getD i 0) i<(fun i=>(ula M n).getD i 0) j:=fun i j h1 h2=>zlA M n h h1 h2
 have hat:∀i,i<n->mkOf (uo M n) (mkV (fun i=>(ula M n).getD i 0) n) ((ula M n).getD i 0)=((i:Nat):Int):=fun i hi=>by
  have h1:=zog (fun i=>(ula M n).getD i 0) n i hm hi
  unfold mkOf
  rw[if_pos (zmv M n h i hi),if_pos (by rw[h1];omega)]
  exact h1
 have hno:∀x,(∀i,i<n->x≠(ula M n).getD i 0)->mkOf (uo M n) (mkV (fun i=>(ula M n).getD i 0) n) x=-1:=fun x hx=>by
  have h1:=zoh (fun i=>(ula M n).getD i 0) x n hx
  unfold mkOf
  rw[h1]
  split<;>rfl
 rcases hl with⟨h1,h2⟩|⟨h1,⟨x,hx,h2⟩,h3⟩
 ·refine Or.inl ⟨h1,fun i hi ha=>?_⟩
  have:=h2 _ ha
  rw[hat i hi] at this
  omega
 ·by_cases e:∃i,i<n/\x=(ula M n).getD i 0
  ·obtain⟨i,hi,rfl⟩:=e
   rw[hat i hi] at h2
   refine Or.inr ⟨i,hi,h2.symm,hx,fun j hj ha=>?_⟩
   rcases h3 _ ha with h4|h4
   ·rw[hat j (by omega)] at h4;omega
   ·rw[hat j (by omega)] at h4;omega
  ·have:=hno x fun i hi he=>e ⟨i,hi,he⟩
   omega
def MacX(n:Nat)(T:Nat->Rx)(X:Dd):Prop:=∀(z:Nat->Nat) (m:Nat),(∀j,z j<256)->FirstI n (fun i=>Lan (T i) ((List.range m).map z)) (markF X (runF X 0 z m))
theorem zjZ{n:Nat}{T:Nat->Rx}(hw:∀i,i<n->(T i).wf){z:Nat->Nat}{m:Nat}(hz:∀j,z j<256){r:Int}(hl:Least (mkOf (uo (fun j=>nfT (T j)) n) (mkV (fun i=>(ula (fun j=>nfT (T j)) n).getD i 0) n)) (RunP (uE (fun j=>nfT (T j)) n) 0 z m) r):FirstI n (fun i=>Lan (T i) ((List.range m).map z)) r:=by
 refine(zgL (fun k _=>zcZ _) hl).congr fun i hi=>?_
 rw[zdg _ n i hi]
 rw[(znX (fun j=>nfT (T j)) n (fun k _=>zcZ _) i hi).run (zcZ _) z m _ (zcZ _).t]
 exact zhE (T i) (hw i hi) z hz m
def zlB(l:List Ru)(w:World)(e:Ending)(w':World):Prop:=Below w.heap.size w w'/\
 (
  (∃(i:Nat) (h:i<l.length) (er:Int),er≠0/\FineTo l i/\RuE (l.take i) l[i] er/\e=.returned (.tuple #[.agg (zC 39),.int .i64 er]))\/
  (FineTo l l.length/\∃T:Nat->Rx,(∀j (h:j<l.length),RxOf l[j].rx (T j))/\
   (
    (2000<1+2 ^ nB (uE (fun j=>nfT (T j)) l.length)/\e=.returned (.tuple #[.agg (zC 39),.int .i64 6]))\/
    ∃(X:Dd) (C:Nat),e=.returned (.tuple #[.agg X.cD,.int .i64 0])/\DM w' X/\Mn X C/\MacX l.length T X)))
theorem FineTo.rx{l:List Ru}(h:FineTo l l.length):∃T:Nat->Rx,∀j (hj:j<l.length),RxOf l[j].rx (T j):=by
 have hx:∀j:Nat,∃t:Rx,∀hj:j<l.length,RxOf l[j].rx t:=by
  intro j
  by_cases hj:j<l.length
  ·rcases h j hj hj with⟨_,h1⟩|⟨_,⟨_,h1⟩|⟨_,⟨_,h1⟩|⟨_,⟨e5,h1,h2⟩|⟨t,ht,_⟩⟩⟩⟩
   ·omega
   ·omega
   ·omega
   ·rcases h1 with⟨rfl,_⟩|⟨rfl,_⟩<;>simp at h2
   ·exact⟨t,fun _=>ht⟩
  ·exact⟨.leaf ⟨0,fun _=>false⟩,fun h=>absurd h hj⟩
 exact⟨fun j=>Classical.choose (hx j),fun j hj=>Classical.choose_spec (hx j) hj⟩
def RuS(l:List Ru):Prop:=∀j (h:j<l.length),l[j].nm.size<=maxLen/\l[j].rx.size<=40
theorem RuS.b{l:List Ru}(h:RuS l):RuB l:=fun j hj=>⟨(h j hj).1,by have:=(h j hj).2;omega⟩
theorem RuS.flat{l:List Ru}(h:RuS l){T:Nat->Rx}{j:Nat}{hj:j<l.length}(ht:RxOf l[j].rx (T j)):(T j).flat.length<=79:=by
 have h1:=znw ht.2.1
 have h2:=(h j hj).2
 rw[show (numsOf l[j].rx).length=l[j].rx.size by simp[numsOf]] at h1
 omega
theorem zoi(la:Nat->Nat)(x:Nat):∀k,mkV la k x<=((k:Nat):Int):=by
 intro k
 induction k with
 | zero=>show (-1:Int)<=_;omega
 | succ k ih=>
  show (if x=la k then (k:Int) else mkV la k x)<=_
  split<;>omega
theorem zgM{l:List Ru}{T:Nat->Rx}(hS:RuS l)(hn:l.length<=20)(hT:∀j (h:j<l.length),RxOf l[j].rx (T j)):
  (uE (fun j=>nfT (T j)) l.length).length<=6400/\nB (uE (fun j=>nfT (T j)) l.length)<=1000/\uo (fun j=>nfT (T j)) l.length<=3201:=by
 refine⟨?_,?_,?_⟩
 ·have h1:=zmh (fun j=>nfT (T j)) l.length 316 (fun j hj=>by
   have h2:=zgI (T j) 0
   have h3:=hS.flat (hT j hj)
   show (thE (T j) 0).length<=316
   omega)
  have h2:l.length*(316+1)<=20*317:=Nat.mul_le_mul_right _ hn
  omega
 ·have h1:=zoe (fun j=>nfT (T j)) 40 l.length (fun j hj=>by
   have h2:=zhB (T j) 0
   have h3:=hS.flat (hT j hj)
   show nB (thE (T j) 0)<=40
   omega)
  have h2:l.length*40<=20*40:=Nat.mul_le_mul_right _ hn
  omega
 ·have h1:=zi6 (fun j=>nfT (T j)) l.length 160 (fun j hj=>by
   have h3:=hS.flat (hT j hj)
   show 2*(T j).flat.length<=160
   omega)
  have h2:l.length*160<=20*160:=Nat.mul_le_mul_right _ hn
  omega
theorem zgN(n c:Nat)(a:Option Addr)(l:List Ru)(hl:l.length=n)(hn:n<=20)(hnc:n<=c)(hS:RuS l)(w:World)(h1:RuAt w a l):
  Calls Tryz.prog 13 #[.slice a n c] w (zlB l w):=by
 have k0:=al w (.cells (zC 39) 39)
 have HB:=hid (And.intro (St.new w 39 (zC 39)) k0)
 have H:=hid (And.intro h1 (And.intro hl hS))
 have HCk:=hid (ziC n c a l hl (by omega) hnc hS.b (w.alloc (.cells (zC 39) 39)) (h1.below k0))
 clear k0 h1 hl hS
 go_enter Tryz.func13,Tryz.ntmps13
 go_upto_region 1 with (refine zap rfl 39 rfl (zC 39) (zat _) ?_)
 obtain⟨b0,hb0⟩:∃b0,w.heap.size=b0:=⟨_,rfl⟩
 have Hb0:=hid hb0
 rw[hb0] at HB
 rw[hb0]
 clear hb0
 generalize w.alloc (.cells (zC 39) 39)=W0 at HB HCk⊢
 go_wp2_with (go_at_call 9;refine HCk.out.mono ?_)
 rintro e w1 ⟨b1,⟨hbig,rfl⟩|⟨i,hi,er,her,hfi,hru,rfl⟩|⟨_,hfi,rfl⟩⟩
 ·exfalso
  have:=H.out.2.1
  omega
 ·have H1:=hid (And.intro (HB.out.1.keep b1) (HB.out.2.trans (b1.mono (by have:=HB.out.2.size;have:=Hb0.out;omega))))
  have her':(er != 0)=true:=by simp[her]
  have HF:Hid (zlB l w (.returned (.tuple #[.agg (zC 39),.int .i64 er])) (w1.setRow b0 (zC 39))):=by
   refine⟨?_,Or.inl ⟨i,hi,er,her,hfi,hru,rfl⟩⟩
   have:=zaj H1.out.2 (Nat.le_refl b0) (zC 39)
   rw[Hb0.out];exact this
  clear hfi hru b1 HCk her
  go_wp2_with (first
   | (refine zaF rfl 39 _ rfl #[] (by first|rfl|kernel_rfl|(go_simp;done)) (.agg (zC 39)) (zbt _) ?_)
   | (refine zaf rfl 39 _ _ rfl b0 39 (zC 39) (zC 39) rfl rfl H1.out.1 rfl (by rw[zah,zak]) zbw ?_))
  refine bodyPost_ret (zaC rfl _ _ b0 (zC 39) _ rfl H1.out.1.setRow.part Tryz.underlying39 rfl (by rw[zah,zak])) rfl ?_
  exact HF.out
 ·obtain⟨T,hT⟩:=hfi.rx
  have HFi:=hid (And.intro hfi hT)
  have H1:=hid (And.intro (HB.out.1.keep b1) (And.intro (HB.out.2.trans (b1.mono (by have:=HB.out.2.size;have:=Hb0.out;omega))) (by have:=b1.size;have:=HB.out.2.size;have:=HB.out.1.lt;show b0<=w1.heap.size;omega)))
  have HSi:=hid (zdX n c a l T H.out.2.1 hn (fun j hj=>⟨hT j hj,by have:=H.out.2.2.flat (hT j hj);omega,by have:=(H.out.2.2 j hj).2;omega⟩) w1 ((H.out.1.below (by rw[Hb0.out];exact HB.out.2)).below b1))
  have HBn:=hid (zgM H.out.2.2 (by rw[H.out.2.1];exact hn) hT)
  have HNB:Hid (∀k,k<=1+2 ^ nB (uE (fun j=>nfT (T j)) n)->2000<k->2000<1+2 ^ nB (uE (fun j=>nfT (T j)) l.length)):=fun k h1 h2=>by
   rw[H.out.2.1];omega
  have HE:Hid (∃(EE:List En) (zz:Nat->Int) (U mE:Nat),EE.length=mE/\mE<=6400/\nB EE<=1000/\U<=3201/\riB (U:Int) (EE.map En.z) ((0:Nat):Int) 0=true/\(∀e∈EE,e.f<=9223372036854775807/\e.t<=9223372036854775807)/\(∀x,mkOf U zz x<32768)/\
    (∀k,k<=1+2 ^ nB EE->2000<k->2000<1+2 ^ nB (uE (fun j=>nfT (T j)) l.length))/\
    (∀(z:Nat->Nat) (m:Nat) (r:Int),(∀j,z j<256)->Least (mkOf U zz) (RunP EE 0 z m) r->FirstI l.length (fun i=>Lan (T i) ((List.range m).map z)) r)/\
    Calls Tryz.prog 32 #[.slice a n c] w1 (fun e w'=>∃aE cE aM cM,e=.returned (.tuple #[.agg #[.int .i64 (U:Int),.slice aE mE cE,.int .i64 0,.int .i64 0],.slice aM U cM])/\(EdAt w' aE (EE.map En.z)/\ZAt w' aM U zz)/\Below w1.heap.size w1 w')):=by
   refine⟨uE (fun j=>nfT (T j)) n,mkV (fun i=>(ula (fun j=>nfT (T j)) n).getD i 0) n,uo (fun j=>nfT (T j)) n,_,rfl,?_,?_,?_,znz _ n (fun k _=>zcZ _),fun e he=>?_,fun x=>?_,HNB.out,fun z m r hz hL=>?_,?_⟩
   ·have:=HBn.out.1;rw[H.out.2.1] at this;exact this
   ·have:=HBn.out.2.1;rw[H.out.2.1] at this;exact this
   ·have:=HBn.out.2.2;rw[H.out.2.1] at this;exact this
   ·have h3:=zkX (fun j=>nfT (T j)) n (fun k _=>zcZ _) e he
    have h4:=HBn.out.2.2
    rw[H.out.2.1] at h4
    omega
   ·have h3:=zoi (fun i=>(ula (fun j=>nfT (T j)) n).getD i 0) x n
    unfold mkOf
    split
    ·split<;>omega
    ·omega
   ·rw[H.out.2.1]
    exact zjZ (fun i hi=>(hT i (by rw[H.out.2.1];exact hi)).1) hz hL
   ·exact HSi.out.mono fun e w' ⟨aE,cE,aM,cM,h1,h2,h3,h4⟩=>⟨aE,cE,aM,cM,h1,⟨h2,h3⟩,h4⟩
  obtain⟨EE,zz,U,mE,h1,h2,h3,h4,h5,h6,h7,h8,h9,hA⟩:=HE.out
  have HSb:=hid hA
  have HFx:=hid (And.intro h7 (And.intro h8 h9))
  have HSo:Hid (∀(W:World) (aE:Option Addr) (cE:Nat) (aM:Option Addr) (cM:Nat),EdAt W aE (EE.map En.z)/\ZAt W aM U zz->Calls Tryz.prog 31 #[.agg #[.int .i64 (U:Int),.slice aE mE cE,.int .i64 0,.int .i64 0],.slice aM U cM] W (DetP EE 0 (mkOf U zz) W)):=fun W aE cE aM cM hh=>znH _ 0 0 EE aE mE cE aM U cM zz W hh.2 (by omega) hh.1 h1 h2 (by rw[zhC];exact h3) (by omega) h6 h5
  clear hfi b1 HCk HE HNB HSi h1 h2 h3 h4 h5 h6 h7 h8 h9 hA hT
  go_upto_region 4 with fail
  go_upto_region 5 with (first
   | (go_at_call 32;refine HSb.out.mono ?_;rintro e w2 ⟨aE,cE,aM,cM,rfl,hEZ,b2⟩)
   | (go_at_call 31;refine(HSo.out _ _ _ _ _ hEZ).mono ?_;rintro e w3 ⟨cD,er,nm,L',f0,s0,k,R,SS,rfl,b3,hMd,hsz,hon,hor⟩)
   | (refine zap rfl 39 rfl (zC 39) (zat _) ?_)
   | (refine zaf rfl 39 _ _ rfl w3.heap.size 39 (zC 39) cD rfl rfl (St.new w3 _ _) (by rw[zak,hsz]) (by rw[zah,hsz]) hon ?_))
  try simp only[Act.put,sA,sB,sC]
  have HcD:=hid (And.intro hsz hon)
  have HMd:=hid hMd
  have kV:Below w3.heap.size w3 ((w3.alloc (.cells (zC 39) 39)).setRow w3.heap.size cD):=zaj (al w3 _) (Nat.le_refl _) _
  have sV:St ((w3.alloc (.cells (zC 39) 39)).setRow w3.heap.size cD) 39 w3.heap.size cD:=(St.new w3 _ _).setRow
  have hz3:=b3.size
  have hz2:=b2.size
  have H7:Hid (St ((w3.alloc (.cells (zC 39) 39)).setRow w3.heap.size cD) 39 b0 (zC 39)/\Below b0 w ((w3.alloc (.cells (zC 39) 39)).setRow w3.heap.size cD)):=by
   have hz:=H1.out.2.2
   exact⟨((H1.out.1.keep b2).keep b3).keep kV,((H1.out.2.1.trans (b2.mono hz)).trans (b3.mono (by omega))).trans (kV.mono (by omega))⟩
  have HB0:Hid (b0<=w3.heap.size):=by have:=H1.out.2.2;show b0<=_;omega
  obtain⟨b7,hb7⟩:∃b7,w3.heap.size=b7:=⟨_,rfl⟩
  have Hb7:=hid hb7
  rw[hb7] at kV sV H7
  rw[hb7]
  clear hb7 hMd hsz hon hz3 hz2 b3 b2 hEZ HSb HSo
  rcases hor with⟨rfl,hbig,rfl⟩|⟨rfl,hk,hk2,ms,hD,hml,hms⟩
  ·generalize (w3.alloc (.cells (zC 39) 39)).setRow b7 (zC 39)=V at kV sV H7⊢
   have HF:Hid (zlB l w (.returned (.tuple #[.agg (zC 39),.int .i64 6])) (V.setRow b0 (zC 39))):=by
    refine⟨?_,Or.inr ⟨HFi.out.1,T,HFi.out.2,Or.inl ⟨?_,rfl⟩⟩⟩
    ·have:=zaj H7.out.2 (Nat.le_refl b0) (zC 39)
     rw[Hb0.out];exact this
    ·exact HFx.out.2.1 _ (zel HMd.out) hbig
   clear hbig kV sV
   go_wp2_with (first
    | (refine zaF rfl 39 _ rfl #[] (by first|rfl|kernel_rfl|(go_simp;done)) (.agg (zC 39)) (zbt _) ?_)
    | (refine zaf rfl 39 _ _ rfl b0 39 (zC 39) (zC 39) rfl rfl H7.out.1 rfl (by rw[zah,zak]) zbw ?_))
   refine bodyPost_ret (zaC rfl _ _ b0 (zC 39) _ rfl H7.out.1.setRow.part Tryz.underlying39 rfl (by rw[zah,zak])) rfl ?_
   exact HF.out
  ·obtain⟨D,rfl,hDM,hDR,hDn,hLs⟩:=zmu (mf:=mkOf U zz) HFx.out.1 HMd.out HcD.out.1 HcD.out.2 hk hk2 hD hml hms
   have hDV:=hDM.below (by rw[Hb7.out];exact kV)
   generalize (w3.alloc (.cells (zC 39) 39)).setRow b7 D.cD=V at kV sV H7 hDV⊢
   have HX:Hid (∀z m,(∀j,z j<256)->Least (mkOf U zz) (RunP EE 0 z m) (markF D (runF D 0 z m))):=hLs
   have HOf:=hid (zhr D _ hDR V hDV)
   have HsV:=hid (And.intro sV hDV)
   have HbV:Hid (b0<=V.heap.size):=by have:=HB0.out;have:=kV.size;have:=Hb7.out;show b0<=_;omega
   clear hDM hDR hDn hLs hk hk2 hD hml hms kV sV hDV
   go_upto_region 7 with fail
   go_wp2_with (first
    | (refine zad (by rfl) 39 _ rfl ⟨b7,0,none⟩ rfl D.cD _ HsV.out.1.part Tryz.underlying39 rfl HsV.out.2.info ?_)
    | (go_at_call 33;refine HOf.out.mono ?_;rintro e w9 ⟨X,C',rfl,hXM,hMn,hBe,_,b9⟩)
    | (refine zaf rfl 39 _ _ rfl b0 39 (zC 39) X.cD rfl rfl (H7.out.1.keep b9) (by rw[zak,hXM.sz]) (by rw[zah,hXM.sz]) hXM.one ?_))
   refine bodyPost_ret (zaC rfl _ _ b0 X.cD _ rfl (H7.out.1.keep b9).setRow.part Tryz.underlying39 rfl (by rw[zah,hXM.sz])) rfl ?_
   refine⟨?_,Or.inr ⟨HFi.out.1,T,HFi.out.2,Or.inr ⟨X,C',rfl,(DBx.stored hMn.r hXM (H7.out.1.keep b9)).dm,hMn,fun z k hz=>?_⟩⟩⟩
   ·have:=zaj (H7.out.2.trans (b9.mono HbV.out)) (Nat.le_refl b0) X.cD
    rw[Hb0.out];exact this
   ·rw[hBe z k hz]
    exact HFx.out.2.2 z k _ hz (HX.out z k hz)
end Go.Proofs.YtjehgdjlncofeaaGreat
