import Derived.Test.YtiijebameffenaaGreatZPOf
import Derived.Test.YtiijebameffenaaGreatZQExp
set_option linter.all false
set_option maxHeartbeats 4000000
set_option maxRecDepth 100000
open Go.Lib (hid)
namespace Go.Proofs.YtiijebameffenaaGreat
open Go.RowKit Go.Maps Go.Proofs.Tryz
open Or (inl inr)
open List (filter_cons length_append length_cons length_nil map_cons range)
open Act (put)
variable {F k:Nat}{L L':List En}{R:List (List Int)}{SS:List (Nat->Bool)}{l:List Ru}{mf:Nat->Int}{nm:List Nat}{r:Int}{s0:Nat->Bool}{t t':Rx}{w:World}
theorem jL.take{a:Option Addr}(h:jL w a l)(k:Nat):jL w a (l.take k):=by
 intro h0;have hl:=List.length_take_le k l;have h1:(l.take k).length<=l.length:=by simp;omega
 obtain⟨g,off,e,hg,hc⟩:=h (by omega);refine⟨g,off,e,hg,fun j hj=>?_⟩;have h3:B5 l=B5 (l.take k)++B5 (l.drop k):=by
  unfold B5;rw[<-List.flatMap_append,List.take_append_drop]
 rw[hc j (by omega),h3,List.getElem?_append_left (by rw[zky];exact hj)]
theorem zmf(a b:ByteArray):(a.toList == b.toList)=true↔a=b:=by
 rw[beq_iff_eq,ByteArray.toList_eq,ByteArray.toList_eq];exact⟨D6,fun h=>by rw[h]⟩
theorem zmg(x:Ru)(b:Nat)(s:ByteArray)(w:World)(hc:w.cell? ⟨b,0,none⟩=some (.string s))(hb:b<w.heap.size):
  Calls prog 64 #[.agg #[.string x.nm,.int .i64 x.k,.string x.rx],.pointer (some ⟨b,0,none⟩)] w (zmI (x.nm=s) w):=by
 have k1:=al w (.cells #[.string x.nm,.int .i64 x.k,.string x.rx] 55);have gj:=(k1.cell (p:=⟨b,0,none⟩) hb).trans hc;have hne:¬w.heap.size=b:=by omega
 have HB:=hid k1;have HQ:=hid (zmf x.nm s);obtain⟨nm,k,rx⟩:=x;dsimp only at gj HB HQ⊢;clear k1 hb;go_in;go_wp2;go_ret;exact⟨_,rfl,HQ.o,HB.o⟩
def sH(l:List Ru)(s:ByteArray)(r:Int):Prop:=(r=-1/\∀j (h:j<l.length),l[j].nm≠s)\/∃(i:Nat) (h:i<l.length),r=((i:Nat):Int)/\l[i].nm=s/\∀j (h:j<l.length),j<i->l[j].nm≠s
def SR(l:List Ru)(s:ByteArray)(w:World)(e:Ending)(w':World):Prop:=∃r,e=.returned (.int .i64 r)/\sH l s r/\Below w.heap.size w w'
theorem zkm:∀(args:Array Value) (W:World),(callFunc 64 args).run prog W=.ok (.enter 64 args) W:=fun _ _=>by rfl
theorem zhW(n c b:Nat)(a:Option Addr)(l:List Ru)(s:ByteArray)(hl:l.length=n)(hn:n<=9223372036854775807)(w:World)(h1:jL w a l)(hc:w.cell? ⟨b,0,none⟩=some (.string s))(hb:b<w.heap.size):
  Calls prog 63 #[.slice a n c,.func (.func 64) #[] #[.pointer (some ⟨b,0,none⟩)]] w (SR l s w):=by
 have H:=ψ h1 hl hc hb;have uU:=zkm;clear h1 hl hc hb;go_in;go_wp2;go_loopw [5,8] (fun _ v wr=>∃k:Nat,v=.int .i64 k/\k<=n/\Hid (Below w.heap.size w wr/\∀j (h:j<l.length),j<k->l[j].nm≠s)) (fun _ v _=>n-(intOf v).toNat)
 ·exact⟨0,rfl,Nat.zero_le _,Below.refl _ _,fun j _ h=>by omega⟩
 obtain⟨k,rfl,hk,HL⟩:=hrel;by_cases aq:k<n
 ·have hkl:k<l.length:=by rw[H.o.2.1];exact aq
  obtain⟨g1,o1,rfl,_,x0,x1,x2⟩:=(H.o.1.below HL.o.1).get k hkl;have HF:=hid (zmg l[k] b s wr ((HL.o.1.cell (p:=⟨b,0,none⟩) H.o.2.2.2).trans H.o.2.2.1) (by have:=H.o.2.2.2;have:=HL.o.1.size;omega));have HS:Hid (l[k].nm≠s->∀j (h:j<l.length),j<k+1->l[j].nm≠s):=fun h j hj hjk=>by
   by_cases e:j=k
   ·subst e;exact h
   exact HL.o.2 j hj (by omega)
  have HY:Hid (l[k].nm=s->sH l s (k:Int)):=fun h=>inr ⟨k,hkl,rfl,h,HL.o.2⟩
  have i1:(k:Int)<n:=by omega
  generalize l[k]=x at x0 x1 x2 HF HS HY;obtain⟨nm,kk,rx⟩:=x;dsimp only at x0 x1 x2 HF HS HY;clear hkl;go_wp2_with fail;refine HF.o.mono ?_;rintro e w2 ⟨y,rfl,hy,b2⟩;have H2:=ζ (HL.o.1.trans (b2.mono HL.o.1.size)) hy;clear b2 hy HF x0 x1 x2;rcases y with _|_
  ·have HZ:=hid (HS.o (fun h=>by have:=H2.o.2.2 h;cases this));go_wp2;go_roundw
   ·exact⟨k+1,by go_num,by omega,H2.o.1,HZ.o⟩
   simp[intOf];omega
  have HZ:=hid (HY.o (H2.o.2.1 rfl));go_wp2;go_ret;exact⟨_,rfl,HZ.o,H2.o.1⟩
 obtain rfl:k=n:=by omega
 have HZ:Hid (sH l s (-1)):=inl ⟨rfl,fun j h=>HL.o.2 j h (by have:=H.o.2.1;omega)⟩;go_wp2;go_ret;exact⟨_,rfl,HZ.o,HL.o.1⟩
theorem Yi(n c:Nat)(a:Option Addr)(l:List Ru)(s:ByteArray)(hl:l.length=n)(hn:n<=9223372036854775807)(w:World)(h1:jL w a l):
  Calls prog 41 #[.slice a n c,.string s] w (SR l s w):=by
 have k1:=al w (.cells #[.string s] 9);have HI:=hid (zhW n c w.heap.size a l s hl hn (w.alloc (.cells #[.string s] 9)) (h1.below k1) ((St.new w 9 #[.string s]).at_ 0) (by simp));have HB:=hid k1;have Bm:∀(fn:Fn) (first cap:Array Value) (w:World),(Instr.makeFunc fn first cap).run prog w=.ok (.func fn first cap) w:=fun _ _ _ _=>rfl
 clear k1 hl h1;go_in;go_wp2_with fail;refine HI.o.mono ?_;rintro e w2 ⟨r,rfl,hr,b2⟩;have HF:=ζ hr (HB.o.trans (b2.mono HB.o.size));clear hr b2 HI;go_wp2;go_ret;exact⟨r,rfl,HF.o.1,HF.o.2⟩
theorem WL(K:Nat->Lit):∀(n i:Nat) (h:i<(rl K n).length),cls K (rl K n)[i]=i/\(rl K n)[i]<n:=by
 intro n
 induction n with
 | zero=>intro i h;simp[rl] at h
 | succ n ih=>
  intro i h;by_cases e:cls K n=(rl K n).length
  ·have e2:rl K (n+1)=rl K n++[n]:=(by rw[rl,if_pos e]);simp only[e2] at h⊢;by_cases hi:i<(rl K n).length
   ·rw[List.getElem_append_left hi];have:=ih i hi;exact⟨this.1,by omega⟩
   have tV:i=(rl K n).length:=(by simp at h;omega);subst tV;simp[e]
  have e2:rl K (n+1)=rl K n:=by rw[rl,if_neg e]
  simp only[e2] at h⊢;have:=ih i h;exact⟨this.1,by omega⟩
theorem zrD(K:Nat->Lit):Nz (cls K) (rl K 256).length/\∀c,c<(rl K 256).length->∃j,j<256/\cls K j=c:=by
 have hg:∀c,c<(rl K 256).length->∃j,j<256/\cls K j=c:=fun c hc=>⟨(rl K 256)[c],(WL K 256 c hc).2,(WL K 256 c hc).1⟩
 have hp:0<(rl K 256).length:=by rw[A8];exact Vp K
 refine⟨⟨fun j hj=>(Un K j hj).1,?_⟩,hg⟩;obtain⟨j,hj,e⟩:=hg ((rl K 256).length-1) (by omega);exact⟨j,hj,by omega⟩
theorem cJ.in_{A:Nat->Prop}(h:cJ mf A r)(hm:∀x,mf x<32768):-1<=r/\r<32768:=by
 rcases h with ⟨h1,_⟩|⟨h1,⟨x,_,h2⟩,_⟩
 ·omega
 have:=hm x;omega
theorem zrE{cD:Array Value}{f0:Nat}{ms:List Int}(hm:∀x,mf x<32768)
  (h:Made L F nm L' f0 s0 k R SS) (cQ:cD.size=258) (ho:∀v∈cD.toList,v.oneCell'=true) (hk:SS.length=k) (fS:k<=2000) (hD:kc w cD (dM L) R ms (rl (dM L) 256).length) (oD:ms.length=k)
  (nK:∀j (h:j<SS.length) (h2:j<ms.length),cJ (fun i=>mf (nm.getD i 0)) (fun x=>x<nm.length/\SS[j] x=true) ms[j]):
  ∃D:Dd,D.cD=cD/\DM w D/\DR D (rl (dM L) 256).length/\D.n=k/\∀(z:Nat->Nat) (m:Nat),(∀j,z j<256)->cJ mf (da L F z m) (dL D (ec D 0 z m)):=by
 obtain⟨aN,cN,A,hN,hzN⟩:=hD.rows;obtain⟨aK,cK,hK,hzK⟩:=hD.marks;have nA:=h.run.len;have dC:∀r∈R,r.length=(rl (dM L) 256).length:=h.run.tJ;obtain⟨hC,hg⟩:=zrD (dM L);have ll:1<=k:=by
  have:=h.run.pre.length_le;simp at this;omega
 refine⟨⟨cD,cls (dM L),aN,R.length,cN,A,fun _=>(rl (dM L) 256).length,fun _=>(rl (dM L) 256).length,fun i x=>(R.getD i []).getD x 0,aK,ms.length,cK,fun i=>ms.getD i 0⟩,rfl,⟨cQ,ho,hD.cl,fun j hj=>?_,hN,hK,hzN,hzK⟩,⟨hC,by show 1<=R.length;omega,by show R.length<=32768;omega,by show ms.length=R.length;omega,hg,fun i _=>rfl,fun i hi=>?_,fun i c hi hc=>?_⟩,by show R.length=k;omega,fun z m hz=>?_⟩
 ·have:=Pz (dM L) j;show cls (dM L) j<256;omega
 ·have hi:i<R.length:=hi;have hl:=nK i (by omega) (by omega);have h1:=hl.in_ (fun x=>hm _);show -1<=ms.getD i 0/\ms.getD i 0<32768;rw[List.getD_eq_getElem?_getD,List.getElem?_eq_getElem (by omega)];exact h1
 ·have hi:i<R.length:=hi;have hc:c<(rl (dM L) 256).length:=hc;have xL:=dC R[i] (List.getElem_mem hi);obtain⟨hs,ht⟩:=h.run.qc i hi;have h1:=ht c (by omega);have e:(R.getD i []).getD c 0=R[i][c]'(by omega):=by simp[List.getD_eq_getElem?_getD,hi,xL,hc]
  show -1<=(R.getD i []).getD c 0/\(R.getD i []).getD c 0<(R.length:Int);rw[e];rcases h1 with ⟨h2,_⟩|⟨_,j,hj,h2,_⟩
  ·omega
  omega
 have P9:∀t,tQ nm.length SS (da L' f0 z t) (ec ⟨cD,cls (dM L),aN,R.length,cN,A,fun _=>(rl (dM L) 256).length,fun _=>(rl (dM L) 256).length,fun i x=>(R.getD i []).getD x 0,aK,ms.length,cK,fun i=>ms.getD i 0⟩ 0 z t):=by
  intro t
  induction t with
  | zero=>exact h.start z
  | succ t ih=>
   show tQ _ _ _ (dW _ (ec _ 0 z t) (z t));generalize ec ⟨cD,cls (dM L),aN,R.length,cN,A,fun _=>(rl (dM L) 256).length,fun _=>(rl (dM L) 256).length,fun i x=>(R.getD i []).getD x 0,aK,ms.length,cK,fun i=>ms.getD i 0⟩ 0 z t=a at ih;rcases ih with ⟨rfl,hd⟩|⟨j,hj,rfl,hS⟩
   ·exact inl ⟨by unfold dW;rw[if_neg (by omega)],da.dead hd⟩
   obtain⟨IM,hc,hs⟩:=h.step hk z t j (hz t) (inr ⟨j,hj,rfl,hS⟩);unfold dW;rw[if_pos ⟨by omega,by show (j:Int)<(R.length:Int);omega⟩];have e:(R.getD ((j:Int)).toNat []).getD (cls (dM L) (z t)) 0=R[j][cls (dM L) (z t)]'hc:=by
    have h9:((j:Int)).toNat=j:=(by omega);rw[h9];simp[List.getD_eq_getElem?_getD,IM,hc]
   show tQ _ _ _ ((R.getD ((j:Int)).toNat []).getD (cls (dM L) (z t)) 0);rw[e];exact hs
 have jD:=P9 m;generalize ec ⟨cD,cls (dM L),aN,R.length,cN,A,fun _=>(rl (dM L) 256).length,fun _=>(rl (dM L) 256).length,fun i x=>(R.getD i []).getD x 0,aK,ms.length,cK,fun i=>ms.getD i 0⟩ 0 z m=a at jD;rcases jD with ⟨rfl,hd⟩|⟨j,hj,rfl,hS⟩
 ·have e:∀D:Dd,dL D (-1)=-1:=fun D=>by unfold dL;rw[if_neg (by omega)]
  rw[e];exact inl ⟨rfl,fun x hx=>by
   obtain⟨i,hi,_⟩:=((h.names z m).2 x).1 hx
   exact absurd hi (hd i)⟩
 have h9:((j:Int)).toNat=j:=by omega
 unfold dL;rw[if_pos ⟨by omega,by show (j:Int)<(R.length:Int);omega⟩];show cJ mf (da L F z m) (ms.getD ((j:Int)).toNat 0);rw[h9,List.getD_eq_getElem?_getD,List.getElem?_eq_getElem (by omega)];exact h.mark hj (inr ⟨j,hj,rfl,hS⟩) (nK j hj (by omega))
theorem zej{α β:Type}{f:α->β}{l:List α}(hn:l.Nodup)(h:∀a∈l,∀b∈l,f a=f b->a=b):(l.map f).Nodup:=by
 induction l with
 | nil=>simp
 | cons a l ih=>
  rw[map_cons,List.nodup_cons];obtain⟨h1,h2⟩:=List.nodup_cons.1 hn;refine⟨fun hm=>?_,ih h2 (fun x hx y hy=>h x (List.mem_cons_of_mem _ hx) y (List.mem_cons_of_mem _ hy))⟩;obtain⟨b,hb,e⟩:=List.mem_map.1 hm;exact h1 (h b (List.mem_cons_of_mem _ hb) a (by simp) e ▸ hb)
theorem zgV{α:Type}(p:α->Bool)(l:List α):l.length=(l.filter p).length+(l.filter fun x=>!p x).length:=by
 induction l with
 | nil=>rfl
 | cons a l ih=>
  simp only[filter_cons,length_cons];cases p a <;> simp <;> omega
theorem zrF:∀(n:Nat) (l:List (List Bool)),l.Nodup->(∀v∈l,v.length=n)->l.length<=2 ^ n:=by
 intro n
 induction n with
 | zero=>
  intro l hn h
  match l,hn,h with
  | [],_,_=>simp
  | [a],_,_=>simp
  | a :: b :: l,hn,h=>
   have h1:=List.length_eq_zero_iff.1 (h a (by simp));have h2:=List.length_eq_zero_iff.1 (h b (by simp));subst h1 h2;simp at hn
 | succ n ih=>
  intro l hn h;have key:∀(p:List Bool->Bool) (x:Bool),(∀v∈l,p v=true->v=x :: v.tail)->(l.filter p).length<=2 ^ n:=fun p x hp=>by
   have h1:((l.filter p).map List.tail).Nodup:=zej (hn.filter p) (fun a ha b hb e=>by
    obtain⟨ha1,ha2⟩:=List.mem_filter.1 ha
    obtain⟨fT,cH⟩:=List.mem_filter.1 hb
    rw[hp a ha1 ha2,hp b fT cH,e])
   have h2:=ih _ h1 (fun v hv=>by
    obtain⟨u,hu,rfl⟩:=List.mem_map.1 hv
    have:=h u (List.mem_filter.1 hu).1
    simp[this])
   simpa using h2
  have a1:=key (fun v=>v.headD false) true (fun v hv hp=>by
   have:=h v hv
   match v,this,hp with
   | x :: v,_,hp=>simp at hp;rw[hp];rfl)
  have a2:=key (fun v=>!v.headD false) false (fun v hv hp=>by
   have:=h v hv
   match v,this,hp with
   | x :: v,_,hp=>simp at hp;rw[hp];rfl)
  have a3:=zgV (fun v:List Bool=>v.headD false) l;rw[Nat.pow_succ];omega
def nB(L:List En):Nat:=(L.filter fun e=>!e.b).length
theorem zrG(nm:List Nat)(L:List En):nB (L.map (En.pC nm))=nB L:=by
 unfold nB
 induction L with
 | nil=>rfl
 | cons e L ih=>
  have h:(En.pC nm e).b=e.b:=rfl;simp only[map_cons,filter_cons,h];cases e.b <;> simp_all
theorem zkn{f0:Nat}(h:Made L F nm L' f0 s0 k R SS):SS.length<=1+2 ^ nB L:=by
 have hd:uv nm.length SS:=h.run.yl (fun i j hi hj _=>by simp at hi hj;omega);have uw:=h.run.src;have hx:∀i,∃(g:Nat->Bool) (d:Nat),∀(hi:i+1<SS.length) (x:Nat),x<nm.length->(SS[i+1] x=true↔Gs L' nm.length (qE (dM L)) g d x):=fun i=>by
  by_cases hi:i+1<SS.length
  ·obtain⟨i',hi',d,_,_,_,h2⟩:=uw (i+1) hi (by simp);exact⟨SS[i'],d,fun _=>h2⟩
  exact⟨fun _=>false,0,fun h=>absurd h hi⟩
 obtain⟨G,hG⟩:∃G:Nat->(Nat->Bool) × Nat,∀i (hi:i+1<SS.length) (x:Nat),x<nm.length->(SS[i+1] x=true↔Gs L' nm.length (qE (dM L)) (G i).1 (G i).2 x):=
  ⟨fun i=>(Classical.choose (hx i),Classical.choose (Classical.choose_spec (hx i))),fun i=>Classical.choose_spec (Classical.choose_spec (hx i))⟩
 have e1:nB L'=nB L:=by rw[h.pC,zrG]
 have h1:=zrF (nB L') ((range (SS.length-1)).map fun i=>(L'.filter fun e=>!e.b).map fun e=>e.p (qE (dM L) (G i).2) && (G i).1 e.f) (zej List.nodup_range (fun i hi j hj e=>by
  have hi:i<SS.length-1:=by simpa using hi
  have hj:j<SS.length-1:=by simpa using hj
  have he:∀e∈L',e.b=false->(e.p (qE (dM L) (G i).2) && (G i).1 e.f)=(e.p (qE (dM L) (G j).2) && (G j).1 e.f):=fun x hx hb=>by
   have:=List.map_inj_left.1 e x (List.mem_filter.2 ⟨hx,by simp[hb]⟩)
   exact this
  have hM:∀y,Mv L' (fun y=>y<nm.length/\(G i).1 y=true) (qE (dM L) (G i).2) y↔Mv L' (fun y=>y<nm.length/\(G j).1 y=true) (qE (dM L) (G j).2) y:=fun y=>by
   constructor
   ·rintro⟨e,h1,h2,h3,h4,h5⟩
    have:=he e h1 h2
    rw[h3,h4.2] at this
    have h6:e.p (qE (dM L) (G j).2)=true/\(G j).1 e.f=true:=by simpa using this.symm
    exact⟨e,h1,h2,h6.1,⟨h4.1,h6.2⟩,h5⟩
   ·rintro⟨e,h1,h2,h3,h4,h5⟩
    have:=he e h1 h2
    rw[h3,h4.2] at this
    have h6:e.p (qE (dM L) (G i).2)=true/\(G i).1 e.f=true:=by simpa using this
    exact⟨e,h1,h2,h6.1,⟨h4.1,h6.2⟩,h5⟩
  have h9:=hd (i+1) (j+1) (by omega) (by omega) (fun x hx=>by
   rw[Bool.eq_iff_iff,hG i (by omega) x hx,hG j (by omega) x hx]
   exact FR.congr hM x)
  omega)) (fun v hv=>by
   obtain⟨i,_,rfl⟩:=List.mem_map.1 hv
   simp[nB])
 rw[e1] at h1;simp at h1;omega
theorem zqE(t:Rx):∀o,(gn t o).length<=4*t.flat.length:=by
 induction t with
 | leaf x=>intro o;simp[gn,gZ,Rx.flat]
 | un x a ih=>
  intro o;have h1:=ih o;have h2:(fH x.k (o+a.flat.length-1) (o+a.flat.length)).length<=4:=by
   unfold fH;split <;> split <;> simp
  simp only[gn,Rx.flat,length_append,length_cons,length_nil];omega
 | bin x a b ih jh=>
  intro o;have h1:=ih o;have h2:=jh (o+a.flat.length);have h3:(dj x.k (o+a.flat.length-1) (o+a.flat.length+b.flat.length-1) (o+a.flat.length+b.flat.length)).length<=4:=by
   unfold dj;split <;> simp
  simp only[gn,Rx.flat,length_append,length_cons,length_nil];omega
theorem zgW(a b:List En):nB (a++b)=nB a+nB b:=by simp[nB]
theorem zoj(t:Rx):∀o,2*nB (gn t o)<=t.flat.length+1:=by
 induction t with
 | leaf x=>
  intro o;have:=List.length_filter_le (fun e:En=>!e.b) (gZ x o);have h2:(gZ x o).length=1:=rfl;simp only[gn,Rx.flat,length_cons,length_nil,nB];omega
 | un x a ih=>
  intro o;have h1:=ih o;have h2:nB (fH x.k (o+a.flat.length-1) (o+a.flat.length))=0:=by
   unfold nB fH bY;split <;> split <;> simp
  simp only[gn,Rx.flat,zgW,length_append,length_cons,length_nil];omega
 | bin x a b ih jh=>
  intro o;have h1:=ih o;have h2:=jh (o+a.flat.length);have h3:nB (dj x.k (o+a.flat.length-1) (o+a.flat.length+b.flat.length-1) (o+a.flat.length+b.flat.length))=0:=by
   unfold nB dj bY;split <;> simp
  simp only[gn,Rx.flat,zgW,length_append,length_cons,length_nil];omega
theorem zok(L:List En):(cY (L.map En.z)).length=nB L:=by
 unfold nB
 induction L with
 | nil=>rfl
 | cons e L ih=>
  have h:(En.z e).b=e.b:=rfl;simp only[cY,map_cons,filter_cons,h] at ih⊢;cases e.b <;> simp_all
theorem zrH(t:Rx):xY ((2*t.flat.length:Nat):Int) ((gn t 0).map En.z) ((2*fK t 0:Nat):Int) ((2*fK t 0+1:Nat):Int)=true:=by
 have h1:=zpp t 0;unfold xY;rw[Bool.and_eq_true,Bool.and_eq_true,List.all_eq_true];refine⟨fun x hx=>?_,NK.2 ⟨by omega,by omega⟩,NK.2 ⟨by omega,by omega⟩⟩;obtain⟨e,he,rfl⟩:=List.mem_map.1 hx;have h2:=Lf t 0 e he;unfold Ax;rw[Bool.and_eq_true];exact⟨NK.2 ⟨by show (0:Int)<=(e.f:Int);omega,by show (e.f:Int)<_;omega⟩,NK.2 ⟨by show (0:Int)<=(e.t:Int);omega,by show (e.t:Int)<_;omega⟩⟩
def kP(s:ByteArray)(t:Rx):Prop:=t.wf/\bx (dB 99) ([],aa s)=some (t.flat,[])/\t.flat.length<=400
def Pu(t:Rx)(X:Dd):Prop:=∀(z:Nat->Nat) (m:Nat),(∀j,z j<256)->(fj t ((range m).map z)->dL X (ec X 0 z m)=0)/\(¬fj t ((range m).map z)->dL X (ec X 0 z m)=-1)
def Z1(t:Rx)(p:Nat->Nat->Prop):Prop:=∃(nm:List Nat) (L':List En) (f0:Nat) (s0:Nat->Bool) (k:Nat) (R:List (List Int)) (SS:List (Nat->Bool)),Made (gn t 0) (2*fK t 0) nm L' f0 s0 k R SS/\p k SS.length
def YZ(t:Rx):Prop:=2000<1+2 ^ nB (gn t 0)/\Z1 t (fun _ n=>2000<n)
def Qp(t:Rx):Prop:=Z1 t (fun k n=>n=k/\k<=2000)
def Ep(s:ByteArray)(w:World)(e:Ending)(w':World):Prop:=Below w.heap.size w w'/\
 (
  (∃er:Nat,og s er/\e=.returned (.tuple #[.agg (zC 101),.int .i64 (er:Int)]))\/
  (∃t,kP s t/\((YZ t/\e=.returned (.tuple #[.agg (zC 101),.int .i64 6]))\/∃(X:Dd) (C:Nat),e=.returned (.tuple #[.agg X.cD,.int .i64 0])/\DM w' X/\DR X C/\(Pu t X/\Qp t))))
theorem zhX{T:Nat}{A:Nat->Prop}(h:cJ (fun x=>if x=T then 0 else -1) A r):(A T->r=0)/\(¬A T->r=-1):=by
 rcases h with ⟨h1,h2⟩|⟨h1,⟨x,hx,h2⟩,h3⟩
 ·refine⟨fun h=>?_,fun _=>h1⟩;have:=h2 T h;simp at this
 by_cases e:x=T
 ·subst e;simp at h2;exact⟨fun _=>h2.symm,fun h=>absurd hx h⟩
 simp[e] at h2;omega
theorem zol(s:ByteArray)(hs:s.size<=1600)(w:World):Calls prog 68 #[.string s] w (Ep s w):=by
 have k0:=al w (.cells (zC 101) 101);have HB:=ζ (St.new w 101 (zC 101)) k0;have xv:=hid (zfT s hs (w.alloc (.cells (zC 101) 101)));clear k0;go_in;go_upto_region 1 with (refine tq rfl 101 rfl (zC 101) (o8 _) ?_);generalize bz:w.heap.size=b0 at HB⊢;have eY:=hid bz;clear bz;generalize w.alloc (.cells (zC 101) 101)=W0 at HB xv⊢;go_wp2_with (go_at_call 81;refine xv.o.mono ?_);rintro e w1 hp;rcases hp with ⟨er,hE,rfl,b1⟩|⟨t,hw,xK,hle,a,c,rfl,hO,b1⟩
 ·have H1:=ζ (HB.o.1.ae b1) (HB.o.2.trans (b1.mono (by have:=HB.o.2.size;have:=eY.o;omega)));have fT:=b1.size;have HER:Hid (og s er):=hE;have CB:((er:Int) != 0)=true:=by
   rcases hE with ⟨rfl,_⟩|⟨rfl,_⟩ <;> rfl
  have HF:Hid (Ep s w (.returned (.tuple #[.agg (zC 101),.int .i64 (er:Int)])) ((w1.alloc (.cells #[.int .i64 0,.slice none 0 0,.int .i64 0,.int .i64 0] 119)).setRow b0 (zC 101))):=by
   refine⟨?_,inl ⟨er,hE,rfl⟩⟩;have hz:=H1.o.2.size;have h1:Below b0 w (w1.alloc (.cells #[.int .i64 0,.slice none 0 0,.int .i64 0,.int .i64 0] 119)):=H1.o.2.trans ((al w1 _).mono (by have:=eY.o;omega));have:=nY h1 (Nat.le_refl b0) (zC 101);rw[eY.o];exact this
  have kF:=hid (H1.o.1.alloc (.cells #[.int .i64 0,.slice none 0 0,.int .i64 0,.int .i64 0] 119));clear hE b1 xv;go_wp2_with (first
   | (refine Dn rfl 101 _ rfl #[] (by first|rfl|kernel_rfl|(go_simp;done)) (.agg (zC 101)) (Sa _) ?_)
   | (refine qD rfl 101 _ _ rfl b0 101 (zC 101) (zC 101) rfl rfl kF.o rfl (by rw[iN,kr]) GP ?_))
  refine bodyPost_ret (ER rfl _ _ b0 (zC 101) _ rfl kF.o.setRow.part underlying101 rfl (by rw[iN,kr])) rfl ?_;exact HF.o
 have HT:Hid (kP s t):=⟨hw,xK,hle⟩
 have H1:=ξ (HB.o.1.ae b1) (HB.o.2.trans (b1.mono (by have:=HB.o.2.size;have:=eY.o;omega))) hO;have fT:=b1.size;have ZC:=hid (zrH t);have Hln:=hid (zqE t 0);have E2:=hid (zoj t 0);have Hrt:=hid (zpp t 0);have Hin:=hid (Lf t 0);obtain⟨S,hS⟩:∃S:Nat,2*t.flat.length=S:=⟨_,rfl⟩
 obtain⟨F,hF⟩:∃F:Nat,2*fK t 0=F:=⟨_,rfl⟩
 obtain⟨T,hT⟩:∃T:Nat,2*fK t 0+1=T:=⟨_,rfl⟩
 obtain⟨m,jR⟩:=Ξ ((gn t 0).length)
 have HQ:=ψ hS hF hT jR;rw[jR] at H1 Hln;rw[hS,hT,hF] at ZC;rw[hS,hT,hF,jR];clear hS hF hT jR hw xK b1 hO xv;have kN:=al w1 (.cells #[.int .i64 (S:Int),.slice a m c,.int .i64 (F:Int),.int .i64 (T:Int)] 119);have HN:=ζ kN (St.new w1 119 #[.int .i64 (S:Int),.slice a m c,.int .i64 (F:Int),.int .i64 (T:Int)]);clear kN;go_upto_region 4 with fail;generalize w1.alloc (.cells #[.int .i64 (S:Int),.slice a m c,.int .i64 (F:Int),.int .i64 (T:Int)] 119)=W2 at HN⊢;obtain⟨bN,OQ⟩:=Ξ w1.heap.size
 rw[OQ] at HN;rw[OQ];have H2:Hid (St W2 101 b0 (zC 101)/\Below b0 w W2/\b0<=W2.heap.size):=by
  have hk:Below w1.heap.size w1 W2:=by rw[OQ];exact HN.o.1
  have hz:=H1.o.2.1.size;have db:=hk.size;exact⟨H1.o.1.ae hk,H1.o.2.1.trans (hk.mono (by have:=eY.o;omega)),by have:=eY.o;omega⟩
 obtain⟨r0,r1,r2,r3⟩:=HN.o.2.eW;have hEd:lC W2 a ((gn t 0).map En.z):=by
  have h1:lC w1 a ((gn t 0).map En.z):=by
   intro h0;obtain⟨g,e,_,hg,hc⟩:=fG H1.o.2.2 (by rw[List.length_map,HQ.o.2.2.2] at h0;exact h0);exact⟨g,0,e,hg,fun j hj=>by rw[Nat.zero_add,(hc j (by rw[List.length_map,HQ.o.2.2.2] at hj;exact hj)).1]⟩
  exact h1.below (by unfold ϐ;rw[OQ];exact HN.o.1)
 have HO:=hid (zqV (S:Int) F T (gn t 0) a m c W2 hEd HQ.o.2.2.2 (by have:=Hln.o;omega) (by rw[zok];have:=E2.o;omega) (by have:=HQ.o;have:=Hrt.o;omega) (by have:=HQ.o;have:=Hrt.o;omega) (fun e he=>by have:=Hin.o e he;omega) ZC.o);clear hEd;go_upto_region 5 with (first
  | (go_at_call 82;refine HO.o.mono ?_;rintro e w3 ⟨cD,er,nm,L',f0,s0,k,R,SS,rfl,b3,XY,cQ,S8,zi⟩)
  | (refine tq rfl 101 rfl (zC 101) (o8 _) ?_)
  | (refine qD rfl 101 _ _ rfl w3.heap.size 101 (zC 101) cD rfl rfl (St.new w3 _ _) (by rw[kr,cQ]) (by rw[iN,cQ]) S8 ?_))
 try simp only[put,sA]
 have Wp:=ζ cQ S8;have Mr:=hid XY;have kV:Below w3.heap.size w3 ((w3.alloc (.cells (zC 101) 101)).setRow w3.heap.size cD):=nY (al w3 _) (Nat.le_refl _) _;have sV:St ((w3.alloc (.cells (zC 101) 101)).setRow w3.heap.size cD) 101 w3.heap.size cD:=(St.new w3 _ _).setRow;have KG:=b3.size;have H7:Hid (St ((w3.alloc (.cells (zC 101) 101)).setRow w3.heap.size cD) 101 b0 (zC 101)/\Below b0 w ((w3.alloc (.cells (zC 101) 101)).setRow w3.heap.size cD)):=by
  have hz:=H2.o.2.2;exact⟨(H2.o.1.ae b3).ae kV,(H2.o.2.1.trans (b3.mono hz)).trans (kV.mono (by omega))⟩
 have pd:Hid (b0<=w3.heap.size):=by have:=H2.o.2.2;show b0<=_;omega
 obtain⟨b7,C9⟩:=Ξ w3.heap.size
 have Ya:=hid C9;rw[C9] at kV sV H7;rw[C9];clear C9 XY cQ S8 KG b3 HO r0 r1 r2 r3;rcases zi with ⟨rfl,iZ,rfl⟩|⟨rfl,hk,fS,ms,hD,oD,nK⟩
 ·generalize (w3.alloc (.cells (zC 101) 101)).setRow b7 (zC 101)=V at kV sV H7⊢;have HF:Hid (Ep s w (.returned (.tuple #[.agg (zC 101),.int .i64 6])) (V.setRow b0 (zC 101))):=by
   refine⟨?_,inr ⟨t,HT.o,inl ⟨?_,rfl⟩⟩⟩
   ·have:=nY H7.o.2 (Nat.le_refl b0) (zC 101);rw[eY.o];exact this
   exact⟨by have:=zkn Mr.o;omega,_,_,_,_,_,_,_,by rw[HQ.o.2.1];exact Mr.o,iZ⟩
  clear iZ kV sV;go_wp2_with (first
   | (refine Dn rfl 101 _ rfl #[] (by first|rfl|kernel_rfl|(go_simp;done)) (.agg (zC 101)) (Sa _) ?_)
   | (refine qD rfl 101 _ _ rfl b0 101 (zC 101) (zC 101) rfl rfl H7.o.1 rfl (by rw[iN,kr]) GP ?_))
  refine bodyPost_ret (ER rfl _ _ b0 (zC 101) _ rfl H7.o.1.setRow.part underlying101 rfl (by rw[iN,kr])) rfl ?_;exact HF.o
 have Gz:Hid (Qp t):=⟨_,_,_,_,_,_,_,by rw[HQ.o.2.1];exact Mr.o,hk,fS⟩
 obtain⟨D,rfl,hDM,UF,hDn,Jb⟩:=zrE (mf:=fun x=>if x=T then 0 else -1) (fun x=>by show (if x=T then (0:Int) else -1)<32768;split <;> omega) Mr.o Wp.o.1 Wp.o.2 hk fS hD oD nK;have Bk:=hDM.below (by rw[Ya.o];exact kV);generalize (w3.alloc (.cells (zC 101) 101)).setRow b7 D.cD=V at kV sV H7 Bk⊢;have HX:Hid (∀z m,(∀j,z j<256)->cJ (fun x=>if x=T then 0 else -1) (da (gn t 0) F z m) (dL D (ec D 0 z m))):=Jb;have FK:=hid (znZ D _ UF V Bk);have Xy:=ζ sV Bk;have HbV:Hid (b0<=V.heap.size):=by have:=pd.o;have:=kV.size;have:=Ya.o;show b0<=_;omega
 have HRD:=hid UF;clear hDM UF hDn Jb hk fS hD oD nK kV sV Bk;go_upto_region 7 with fail;go_wp2_with (first
  | (refine pU (by rfl) 101 _ rfl ⟨b7,0,none⟩ rfl D.cD _ Xy.o.1.part underlying101 rfl Xy.o.2.info ?_)
  | (go_at_call 83;refine FK.o.mono ?_;rintro e w9 ⟨X,C',rfl,xT,Dw,hBe,_,b9⟩)
  | (refine qD rfl 101 _ _ rfl b0 101 (zC 101) X.cD rfl rfl (H7.o.1.ae b9) (by rw[kr,xT.sz]) (by rw[iN,xT.sz]) xT.one ?_))
 refine bodyPost_ret (ER rfl _ _ b0 X.cD _ rfl (H7.o.1.ae b9).setRow.part underlying101 rfl (by rw[iN,xT.sz])) rfl ?_;refine⟨?_,inr ⟨t,HT.o,inr ⟨X,C',rfl,(dD.stored Dw xT (H7.o.1.ae b9)).dm,Dw,fun z k hz=>?_,Gz.o⟩⟩⟩
 ·have:=nY (H7.o.2.trans (b9.mono HbV.o)) (Nat.le_refl b0) X.cD;rw[eY.o];exact this
 rw[hBe z k hz];have h1:=zhX (HX.o z k hz);have h2:=Su t HT.o.1 z hz k;rw[HQ.o.2.2.1,HQ.o.2.1] at h2;exact⟨fun h=>h1.1 (h2.2 h),fun h=>h1.2 (fun hh=>h (h2.1 hh))⟩
def Ff(b:Bool):Int:=if b then 0 else 8
theorem zgX(s:ByteArray)(w:World)(hs:s.size<=maxLen):
  Calls prog 54 #[.string s] w fun e w'=>e=.returned (.int .i64 (Ff (bG s)))/\w'=w:=by
 go_in;go_wp2_with fail;refine (Tl s _ hs).mono ?_;rintro e w1 ⟨rfl,rfl⟩;rcases hn:bG s with _|_
 ·have HN:=hid hn;clear hn;go_wp2;go_ret;exact⟨by rw[HN.o];rfl,rfl⟩
 have HN:=hid hn;clear hn;go_wp2;go_ret;exact⟨by rw[HN.o];rfl,rfl⟩
def iA(k:Int):Bool:=k == 0 || (k == 1 || k == 2)
theorem zko(k:Int)(w:World):Calls prog 67 #[.int .i64 k] w fun e w'=>e=.returned (.bool (iA k))/\w'=w:=by
 have HZ:Hid (∀a b c,(k == 0)=a->(k == 1)=b->(k == 2)=c->iA k=(a || (b || c))):=fun a b c h1 h2 h3=>by unfold iA;rw[h1,h2,h3]
 rcases h0:(k == 0) with _|_
 ·rcases h1:(k == 1) with _|_
  ·rcases h2:(k == 2) with _|_
   ·have HV:=hid (HZ.o _ _ _ h0 h1 h2);go_in;go_wp2;go_ret;exact⟨by rw[HV.o];rfl,rfl⟩
   have HV:=hid (HZ.o _ _ _ h0 h1 h2);go_in;go_wp2;go_ret;exact⟨by rw[HV.o];rfl,rfl⟩
  have HV:=hid (HZ.o _ _ _ h0 h1 rfl);go_in;go_wp2;go_ret;exact⟨by rw[HV.o];rfl,rfl⟩
 have HV:=hid (HZ.o _ _ _ h0 rfl rfl);go_in;go_wp2;go_ret;exact⟨by rw[HV.o];rfl,rfl⟩
def Ik(pre:List Ru)(x:Ru)(er:Int):Prop:=
 (bG x.nm=false/\er=8)\/(bG x.nm=true/\
  ((
   (∃y∈pre,y.nm=x.nm)/\er=9)\/((∀y∈pre,y.nm≠x.nm)/\
   ((
    iA x.k=false/\er=1)\/(iA x.k=true/\
    ((∃e5:Nat,og x.rx e5/\er=(e5:Int))\/(∃t,kP x.rx t/\((YZ t/\er=6)\/(fj t []/\er=14)\/((¬fj t []/\Qp t)/\er=0)))))))))
def sw(pre:List Ru)(x:Ru)(w:World)(e:Ending)(w':World):Prop:=∃er,e=.returned (.int .i64 er)/\Ik pre x er/\Below w.heap.size w w'
theorem sH.mem{s:ByteArray}(h:sH l s r):(0<=r->∃y∈l,y.nm=s)/\(¬0<=r->∀y∈l,y.nm≠s):=by
 rcases h with ⟨rfl,h⟩|⟨i,hi,rfl,h,_⟩
 ·refine⟨fun h=>by omega,fun _ y hy=>?_⟩;obtain⟨j,hj,rfl⟩:=List.getElem_of_mem hy;exact h j hj
 exact⟨fun _=>⟨_,List.getElem_mem hi,h⟩,fun h=>by omega⟩
theorem zfV(n c:Nat)(a:Option Addr)(l:List Ru)(hl:l.length=n)(hn:n<=100000)(Jo:n<=c)(i:Nat)(hi:i<l.length)(jo:l[i].nm.size<=maxLen)(B7:l[i].rx.size<=1600)(w:World)(h1:jL w a l):
  Calls prog 53 #[.slice a n c,.int .i64 (i:Int)] w (sw (l.take i) l[i] w):=by
 obtain⟨g1,o1,rfl,jF,x0,x1,x2⟩:=h1.get i hi;have nf:i<n:=by omega
 have i1:(i:Int)<n:=by omega
 have i2:(i:Int)<=n:=by omega
 have i3:i<=c:=by omega
 have I9:=hid (h1.take i);have Hj:Hid ((l.take i).length=i):=by show _=_;rw[List.length_take];omega
 generalize l.take i=pre at I9 Hj⊢;generalize l[i]=x at x0 x1 x2 jo B7⊢;obtain⟨nm,kk,rx⟩:=x;dsimp only at x0 x1 x2 jo B7;have k1:=al w (.cells #[.string nm,.int .i64 kk,.string rx] 55);have HB:=ζ k1 (St.new w 55 #[.string nm,.int .i64 kk,.string rx]);have Hrx:=hid B7;have Cu:=hid jo;clear k1 h1 hl hi B7 jo;go_in;go_upto_region 2 with fail;clear x0 x1 x2;obtain⟨b,bz⟩:=Ξ w.heap.size
 have eY:=hid bz;rw[bz] at HB jF;rw[bz];clear bz;generalize w.alloc (.cells #[.string nm,.int .i64 kk,.string rx] 55)=W0 at HB⊢;have rk:Hid (∀W',Below W0.heap.size W0 W'->Below w.heap.size w W'):=fun W' h=>by
  have hz:=HB.o.1.size;rw[eY.o];exact HB.o.1.trans (h.mono (by have:=eY.o;omega))
 have tT:Hid (∀W',Below W0.heap.size W0 W'->W'.cell? ⟨b,0,none⟩=some (.string nm)/\W'.cell? ⟨b,1,none⟩=some (.int .i64 kk)/\W'.cell? ⟨b,2,none⟩=some (.string rx)):=fun W' h=>⟨(HB.o.2.ae h).at_ 0,(HB.o.2.ae h).at_ 1,(HB.o.2.ae h).at_ 2⟩
 obtain⟨c0,c1,c2⟩:=tT.o W0 (Below.refl _ _);have HEs:=hid (zgX nm W0 Cu.o);go_upto_region 3 with (go_at_call 54;refine HEs.o.mono ?_;rintro e w1 ⟨rfl,h1⟩;rw[h1];clear h1);rcases hN:bG nm with _|_
 ·have HZ:Hid (sw pre ⟨nm,kk,rx⟩ w (.returned (.int .i64 8)) W0):=⟨8,rfl,inl ⟨hN,rfl⟩,rk.o _ (Below.refl _ _)⟩
  rw[show Ff false=8 from rfl];clear hN;go_wp2;go_ret;exact HZ.o
 rw[show Ff true=0 from rfl];have HN:=hid hN;clear hN HEs;have PR:Hid (∀W,Below W0.heap.size W0 W->Calls prog 41 #[.slice (some ⟨g1,o1,none⟩) i c,.string nm] W (SR pre nm W)):=fun W h=>Yi i c _ pre nm Hj.o (by omega) W (I9.o.below (rk.o W h))
 go_upto_region 5 with fail;clear c0 c1 c2;have eh:Hid (∀W',Below W0.heap.size W0 W'->Below W0.heap.size W0 W'/\W'.cell? ⟨b,0,none⟩=some (.string nm)):=fun W' h=>⟨h,(tT.o W' h).1⟩
 refine wp_region_held_drew (S:=fun W'=>Below W0.heap.size W0 W'/\W'.cell? ⟨b,0,none⟩=some (.string nm)) (by kernel_rfl) (eh.o _ (Below.refl _ _).drew) (fun η=>?_)
 (refine ay 0 ?_;refine ay 1 ?_;refine ay 2 ?_;try simp only[put,sA];refine ay 3 ?_;refine ay 4 ?_;try simp only[put,sA])
 refine bH 5 (fun K hK=>?_);skip;go_simp;go_at_call 41;refine (PR.o _ η.1).mono ?_;rintro e w2 ⟨r,rfl,hr,v2⟩;have bQ:Below W0.heap.size W0 w2:=η.1.trans (v2.mono η.1.size);clear v2
 try go_wp2_with fail
 refine hK.out _ _ (eh.o _ bQ) fun η=>?_;clear hK K
 try simp only[put,sA]
 (refine ay 6 ?_;try simp only[put,sA])
 refine wpAnyH_done (by kernel_rfl) ?_ _;have so:=ζ bQ hr;clear η bQ hr;obtain⟨c0,c1,c2⟩:=tT.o w2 so.o.1;by_cases h9:0<=r
 ·have HZ:Hid (sw pre ⟨nm,kk,rx⟩ w (.returned (.int .i64 9)) w2):=⟨9,rfl,inr ⟨HN.o,inl ⟨so.o.2.mem.1 h9,rfl⟩⟩,rk.o _ so.o.1⟩
  go_wp2;go_ret;exact HZ.o
 have ke:=hid (so.o.2.mem.2 h9);have HK:=hid (zko kk w2);rcases Cz:iA kk with _|_
 ·have HZ:Hid (sw pre ⟨nm,kk,rx⟩ w (.returned (.int .i64 1)) w2):=⟨1,rfl,inr ⟨HN.o,inr ⟨ke.o,inl ⟨Cz,rfl⟩⟩⟩,rk.o _ so.o.1⟩
  rw[Cz] at HK;clear Cz;go_wp2_with (go_at_call 67;refine HK.o.mono ?_;rintro e w3 ⟨rfl,h3⟩;rw[h3];clear h3);go_ret;exact HZ.o
 have DI:=hid Cz;rw[Cz] at HK;have Xb:=hid (zol rx Hrx.o w2);clear Cz;go_upto_region 9 with (go_at_call 67;refine HK.o.mono ?_;rintro e w3 ⟨rfl,h3⟩;rw[h3];clear h3);go_wp2_with (go_at_call 68;refine Xb.o.mono ?_);rintro e w3 ⟨b3,zi⟩;have H3:=hid (so.o.1.trans (b3.mono so.o.1.size));clear b3 Xb HK;rcases zi with ⟨er,hE,rfl⟩|⟨t,hT,⟨iZ,rfl⟩|⟨X,C,rfl,xT,Dw,hOX⟩⟩
 ·have CB:((er:Int) != 0)=true:=by
   rcases hE with ⟨rfl,_⟩|⟨rfl,_⟩ <;> rfl
  have dY:Below W0.heap.size W0 ((w3.alloc (.cells (zC 101) 101)).setRow w3.heap.size (zC 101)):=nY (H3.o.trans ((al w3 _).mono H3.o.size)) H3.o.size _;have HZ:Hid (sw pre ⟨nm,kk,rx⟩ w (.returned (.int .i64 (er:Int))) ((w3.alloc (.cells (zC 101) 101)).setRow w3.heap.size (zC 101))):=⟨_,rfl,inr ⟨HN.o,inr ⟨ke.o,inr ⟨DI.o,inl ⟨er,hE,rfl⟩⟩⟩⟩,rk.o _ dY⟩
  clear hE dY;go_wp2_with (first
   | (refine tq rfl 101 rfl (zC 101) (o8 _) ?_)
   | (refine qD rfl 101 _ _ rfl w3.heap.size 101 (zC 101) (zC 101) rfl rfl (St.new w3 _ _) rfl (by rw[iN,kr]) GP ?_))
  go_ret;exact HZ.o
 ·have dY:Below W0.heap.size W0 ((w3.alloc (.cells (zC 101) 101)).setRow w3.heap.size (zC 101)):=nY (H3.o.trans ((al w3 _).mono H3.o.size)) H3.o.size _;have HZ:Hid (sw pre ⟨nm,kk,rx⟩ w (.returned (.int .i64 6)) ((w3.alloc (.cells (zC 101) 101)).setRow w3.heap.size (zC 101))):=⟨_,rfl,inr ⟨HN.o,inr ⟨ke.o,inr ⟨DI.o,inr ⟨t,hT,inl ⟨iZ,rfl⟩⟩⟩⟩⟩,rk.o _ dY⟩
  clear hT iZ dY;go_wp2_with (first
   | (refine tq rfl 101 rfl (zC 101) (o8 _) ?_)
   | (refine qD rfl 101 _ _ rfl w3.heap.size 101 (zC 101) (zC 101) rfl rfl (St.new w3 _ _) rfl (by rw[iN,kr]) GP ?_))
  go_ret;exact HZ.o
 have Kh:=ψ xT Dw hOX hT;have dY:Below W0.heap.size W0 ((w3.alloc (.cells (zC 101) 101)).setRow w3.heap.size X.cD):=nY (H3.o.trans ((al w3 _).mono H3.o.size)) H3.o.size _;have kV:Below w3.heap.size w3 ((w3.alloc (.cells (zC 101) 101)).setRow w3.heap.size X.cD):=nY (al w3 _) (Nat.le_refl _) _;have sV:St ((w3.alloc (.cells (zC 101) 101)).setRow w3.heap.size X.cD) 101 w3.heap.size X.cD:=(St.new w3 _ _).setRow;go_upto_region 10 with (first
  | (refine tq rfl 101 rfl (zC 101) (o8 _) ?_)
  | (refine qD rfl 101 _ _ rfl w3.heap.size 101 (zC 101) X.cD rfl rfl (St.new w3 _ _) (by rw[kr,xT.sz]) (by rw[iN,xT.sz]) xT.one ?_))
 try simp only[put,sA]
 have Bk:=xT.below kV;generalize (w3.alloc (.cells (zC 101) 101)).setRow w3.heap.size X.cD=V at dY kV sV Bk⊢;generalize w3.heap.size=b7 at kV sV⊢;have HV:=ξ sV Bk dY;have HH:=hid (zoU X C Kh.o.2.1 ⟨#[]⟩ 0 rfl (by omega) V Bk);have HL:=hid (Kh.o.2.2.1.1 (ng ⟨#[]⟩) 0 (fun j=>Zn _ j));generalize dL X (ec X 0 (ng ⟨#[]⟩) 0)=mk at HH HL;clear dY kV sV Bk xT Dw hOX hT;by_cases O6:fj t []
 ·have h0:mk=0:=HL.o.1 O6;rw[h0] at HH;clear h0;have HZ:Hid (∀W,Below V.heap.size V W->sw pre ⟨nm,kk,rx⟩ w (.returned (.int .i64 14)) W):=fun W h=>⟨_,rfl,inr ⟨HN.o,inr ⟨ke.o,inr ⟨DI.o,inr ⟨t,Kh.o.2.2.2,inr (inl ⟨O6,rfl⟩)⟩⟩⟩⟩,rk.o _ (HV.o.2.2.trans (h.mono HV.o.2.2.size))⟩
  go_wp2_with (first
   | (refine pU (by rfl) 101 _ rfl ⟨b7,0,none⟩ rfl X.cD _ HV.o.1.part underlying101 rfl HV.o.2.1.info ?_)
   | (go_at_call 69;refine HH.o.mono ?_;rintro e w9 ⟨rfl,b9⟩))
  go_ret;exact HZ.o _ b9
 have h0:mk=-1:=HL.o.2 O6;rw[h0] at HH;clear h0;have HZ:Hid (∀W,Below V.heap.size V W->sw pre ⟨nm,kk,rx⟩ w (.returned (.int .i64 0)) W):=fun W h=>⟨_,rfl,inr ⟨HN.o,inr ⟨ke.o,inr ⟨DI.o,inr ⟨t,Kh.o.2.2.2,inr (inr ⟨⟨O6,Kh.o.2.2.1.2⟩,rfl⟩)⟩⟩⟩⟩,rk.o _ (HV.o.2.2.trans (h.mono HV.o.2.2.size))⟩
 go_wp2_with (first
  | (refine pU (by rfl) 101 _ rfl ⟨b7,0,none⟩ rfl X.cD _ HV.o.1.part underlying101 rfl HV.o.2.1.info ?_)
  | (go_at_call 69;refine HH.o.mono ?_;rintro e w9 ⟨rfl,b9⟩))
 go_ret;exact HZ.o _ b9
def UH(l:List Ru):Prop:=∀j (h:j<l.length),l[j].nm.size<=maxLen/\l[j].rx.size<=1600
def Nx(l:List Ru)(k:Nat):Prop:=∀j (h:j<l.length),j<k->Ik (l.take j) l[j] 0
def EW(l:List Ru)(w:World)(e:Ending)(w':World):Prop:=Below w.heap.size w w'/\
 (
  (60<l.length/\e=.returned (.tuple #[.int .i64 (l.length:Int),.int .i64 6]))\/
  (∃(i:Nat) (h:i<l.length) (er:Int),er≠0/\Nx l i/\Ik (l.take i) l[i] er/\e=.returned (.tuple #[.int .i64 (i:Int),.int .i64 er]))\/
  (l.length<=60/\Nx l l.length/\e=.returned (.tuple #[.int .i64 (l.length:Int),.int .i64 0])))
theorem ze4(n c:Nat)(a:Option Addr)(l:List Ru)(hl:l.length=n)(hn:n<=100000)(Jo:n<=c)(hB:UH l)(w:World)(h1:jL w a l):
  Calls prog 26 #[.slice a n c] w (EW l w):=by
 have H:=ξ h1 hB hl;clear h1 hB hl;go_in;by_cases h6:60<n
 ·have i1:(60:Int)<n:=by omega
  have HZ:Hid (EW l w (.returned (.tuple #[.int .i64 (n:Int),.int .i64 6])) w):=by
   refine⟨Below.refl _ _,inl ⟨?_,?_⟩⟩
   ·rw[H.o.2.2];exact h6
   rw[H.o.2.2]
  go_wp2;go_ret2;exact HZ.o
 have i1:¬((60:Int)<n):=by omega
 go_wp2;go_loopw [4,5,13] (fun _ _ v wr=>∃k:Nat,v=.int .i64 k/\k<=n/\Hid (Below w.heap.size w wr/\Nx l k)) (fun _ _ v _=>n-(intOf v).toNat)
 ·exact⟨0,rfl,Nat.zero_le _,Below.refl _ _,fun j _ h=>by omega⟩
 obtain⟨k,rfl,hk,HL⟩:=hrel;by_cases aq:k<n
 ·have hkl:k<l.length:=by rw[H.o.2.2];exact aq
  have i2:(k:Int)<n:=by omega
  have HC:=hid (zfV n c a l H.o.2.2 hn Jo k hkl (H.o.2.1 k hkl).1 (H.o.2.1 k hkl).2 wr (H.o.1.below HL.o.1));go_wp2_with (go_at_call 53;refine HC.o.mono ?_);rintro e w2 ⟨er,rfl,hE,b2⟩;have H2:=ζ (HL.o.1.trans (b2.mono HL.o.1.size)) hE;clear b2 hE HC;by_cases h0:er=0
  ·subst h0;have HN:Hid (Nx l (k+1)):=fun j hj hjk=>by
    by_cases e:j=k
    ·subst e;exact H2.o.2
    exact HL.o.2 j hj (by omega)
   skip;go_wp2;go_roundw
   ·exact⟨k+1,by go_num,by omega,H2.o.1,HN.o⟩
   simp[intOf];omega
  have i3:((er:Int) != 0)=true:=by rw[bne_iff_ne];exact h0
  have HZ:Hid (EW l w (.returned (.tuple #[.int .i64 (k:Int),.int .i64 er])) w2):=⟨H2.o.1,inr (inl ⟨k,hkl,er,h0,HL.o.2,H2.o.2,rfl⟩)⟩
  clear h0;go_wp2;go_ret2;exact HZ.o
 obtain rfl:k=n:=by omega
 have HZ:Hid (EW l w (.returned (.tuple #[.int .i64 (k:Int),.int .i64 0])) wr):=by
  refine⟨HL.o.1,inr (inr ⟨?_,?_,?_⟩)⟩
  ·rw[H.o.2.2];omega
  ·rw[H.o.2.2];exact HL.o.2
  rw[H.o.2.2]
 go_wp2;go_ret2;exact HZ.o
theorem zi6(hw:t.wf)(NP:t'.wf)(h:t.flat=t'.flat):gn t 0=gn t' 0:=by rw[<-UU t hw,<-UU t' NP,h]
theorem zi7(hw:t.wf)(NP:t'.wf)(h:t.flat=t'.flat)(z:Nat->Nat)(hz:∀j,z j<256)(m:Nat):fj t ((range m).map z)↔fj t' ((range m).map z):=by
 rw[<-Su t hw z hz m,<-Su t' NP z hz m,zi6 hw NP h];unfold fK;rw[h]
theorem kP.flat{s:ByteArray}(h:kP s t)(h':kP s t'):t.flat=t'.flat:=by
 have:=h.2.1.symm.trans h'.2.1;simpa using this
theorem kP.tY{s:ByteArray}(h:kP s t){er:Nat}(he:og s er):False:=by
 rcases he with ⟨_,he⟩|⟨_,l,he,hl⟩
 ·exact he _ h.2.1
 have e:=he.symm.trans h.2.1;simp at e;have:=h.2.2;rw[e] at hl;omega
