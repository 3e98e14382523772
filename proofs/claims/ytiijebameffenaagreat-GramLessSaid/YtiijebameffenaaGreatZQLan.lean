import Derived.Test.YtiijebameffenaaGreatZPOf
import Derived.Test.YtiijebameffenaaGreatZQExp
set_option linter.all false
set_option maxHeartbeats 4000000
set_option maxRecDepth 100000
open Go.Lib (hid)
namespace Go.Proofs.YtiijebameffenaaGreat
open Go.RowKit Go.Maps Go.WideElems Go.ChangeMaps Go.MapKept Go.Proofs.Tryz
open Or (inl inr)
open List (filter_cons length_append length_cons length_nil map_cons range)
open Act (put)
variable {F k:Nat}{L L':List En}{R:List (List Int)}{SS:List (Nat->Bool)}{l:List Ru}{mf:Nat->Int}{nm:List Nat}{r:Int}{s0:Nat->Bool}{t t':Rx}
theorem ka.take{w:World}{a:Option Addr}(h:ka w a l)(k:Nat):ka w a (l.take k):=by
 intro h0;have hl:=List.length_take_le k l;have h1:(l.take k).length<=l.length:=by simp;omega
 obtain⟨g,off,e,hg,hc⟩:=h (by omega);refine⟨g,off,e,hg,fun j hj=>?_⟩;have h3:yS l=yS (l.take k)++yS (l.drop k):=by
  unfold yS;rw[<-List.flatMap_append,List.take_append_drop]
 rw[hc j (by omega),h3,List.getElem?_append_left (by rw[ziS];exact hj)]
theorem zkq(a b:ByteArray):(a.toList == b.toList)=true↔a=b:=by
 rw[beq_iff_eq,ByteArray.toList_eq,ByteArray.toList_eq];exact⟨Ly,fun h=>by rw[h]⟩
theorem zkr(x:Ru)(b:Nat)(s:ByteArray)(w:World)(hc:w.cell? ⟨b,0,none⟩=some (.string s))(hb:b<w.heap.size):
  Calls prog 64 #[.agg #[.string x.nm,.int .i64 x.k,.string x.rx],.pointer (some ⟨b,0,none⟩)] w (SO (x.nm=s) w):=by
 have k1:=al w (.cells #[.string x.nm,.int .i64 x.k,.string x.rx] 55);have jf:=(k1.cell (p:=⟨b,0,none⟩) hb).trans hc;have hne:¬w.heap.size=b:=by omega
 have HB:=hid k1;have HQ:=hid (zkq x.nm s);obtain⟨nm,k,rx⟩:=x;dsimp only at jf HB HQ⊢;clear k1 hb;go_enter func64,ntmps64;go_wp2;go_ret;exact⟨_,rfl,HQ.out,HB.out⟩
def qJ(l:List Ru)(s:ByteArray)(r:Int):Prop:=(r=-1/\∀j (h:j<l.length),l[j].nm≠s)\/∃(i:Nat) (h:i<l.length),r=((i:Nat):Int)/\l[i].nm=s/\∀j (h:j<l.length),j<i->l[j].nm≠s
def RN(l:List Ru)(s:ByteArray)(w:World)(e:Ending)(w':World):Prop:=∃r,e=.returned (.int .i64 r)/\qJ l s r/\Below w.heap.size w w'
theorem ZD:∀(args:Array Value) (W:World),(callFunc 64 args).run prog W=.ok (.enter 64 args) W:=fun _ _=>by rfl
theorem zgK(n c b:Nat)(a:Option Addr)(l:List Ru)(s:ByteArray)(hl:l.length=n)(hn:n<=9223372036854775807)(w:World)(h1:ka w a l)(hc:w.cell? ⟨b,0,none⟩=some (.string s))(hb:b<w.heap.size):
  Calls prog 63 #[.slice a n c,.func (.func 64) #[] #[.pointer (some ⟨b,0,none⟩)]] w (RN l s w):=by
 have H:=hid (Zz h1 (Zz hl (Zz hc hb)));have Ap:=ZD;clear h1 hl hc hb;go_enter func63,ntmps63;go_wp2;go_loopw [5,8] (fun _ v wr=>∃k:Nat,v=.int .i64 k/\k<=n/\Hid (Below w.heap.size w wr/\∀j (h:j<l.length),j<k->l[j].nm≠s)) (fun _ v _=>n-(intOf v).toNat)
 ·exact⟨0,rfl,Nat.zero_le _,Below.refl _ _,fun j _ h=>by omega⟩
 obtain⟨k,rfl,hk,HL⟩:=hrel;by_cases aw:k<n
 ·have hkl:k<l.length:=by rw[H.out.2.1];exact aw
  obtain⟨g1,o1,rfl,_,x0,x1,x2⟩:=(H.out.1.below HL.out.1).get k hkl;have HF:=hid (zkr l[k] b s wr ((HL.out.1.cell (p:=⟨b,0,none⟩) H.out.2.2.2).trans H.out.2.2.1) (by have:=H.out.2.2.2;have:=HL.out.1.size;omega));have HS:Hid (l[k].nm≠s->∀j (h:j<l.length),j<k+1->l[j].nm≠s):=fun h j hj hjk=>by
   by_cases e:j=k
   ·subst e;exact h
   exact HL.out.2 j hj (by omega)
  have HY:Hid (l[k].nm=s->qJ l s (k:Int)):=fun h=>inr ⟨k,hkl,rfl,h,HL.out.2⟩
  have i1:(k:Int)<n:=by omega
  generalize l[k]=x at x0 x1 x2 HF HS HY;obtain⟨nm,kk,rx⟩:=x;dsimp only at x0 x1 x2 HF HS HY;clear hkl;go_wp2_with fail;refine HF.out.mono ?_;rintro e w2 ⟨y,rfl,hy,b2⟩;have H2:=hid (Zz (HL.out.1.trans (b2.mono HL.out.1.size)) hy);clear b2 hy HF x0 x1 x2;rcases y with _|_
  ·have HZ:=hid (HS.out (fun h=>by have:=H2.out.2.2 h;cases this));go_wp2;go_roundw
   ·exact⟨k+1,by go_num,by omega,H2.out.1,HZ.out⟩
   simp[intOf];omega
  have HZ:=hid (HY.out (H2.out.2.1 rfl));go_wp2;go_ret;exact⟨_,rfl,HZ.out,H2.out.1⟩
 obtain rfl:k=n:=by omega
 have HZ:Hid (qJ l s (-1)):=inl ⟨rfl,fun j h=>HL.out.2 j h (by have:=H.out.2.1;omega)⟩;go_wp2;go_ret;exact⟨_,rfl,HZ.out,HL.out.1⟩
theorem Wp(n c:Nat)(a:Option Addr)(l:List Ru)(s:ByteArray)(hl:l.length=n)(hn:n<=9223372036854775807)(w:World)(h1:ka w a l):
  Calls prog 41 #[.slice a n c,.string s] w (RN l s w):=by
 have k1:=al w (.cells #[.string s] 9);have HI:=hid (zgK n c w.heap.size a l s hl hn (w.alloc (.cells #[.string s] 9)) (h1.below k1) ((St.new w 9 #[.string s]).at_ 0) (by simp));have HB:=hid k1;have zy:∀(fn:Fn) (first cap:Array Value) (w:World),(Instr.makeFunc fn first cap).run prog w=.ok (.func fn first cap) w:=fun _ _ _ _=>rfl
 clear k1 hl h1;go_enter func41,ntmps41;go_wp2_with fail;refine HI.out.mono ?_;rintro e w2 ⟨r,rfl,hr,b2⟩;have HF:=hid (Zz hr (HB.out.trans (b2.mono HB.out.size)));clear hr b2 HI;go_wp2;go_ret;exact⟨r,rfl,HF.out.1,HF.out.2⟩
theorem Xv(K:Nat->Lit):∀(n i:Nat) (h:i<(rl K n).length),cls K (rl K n)[i]=i/\(rl K n)[i]<n:=by
 intro n
 induction n with
 | zero=>intro i h;simp[rl] at h
 | succ n ih=>
  intro i h;by_cases e:cls K n=(rl K n).length
  ·have e2:rl K (n+1)=rl K n++[n]:=(by rw[rl,if_pos e]);simp only[e2] at h⊢;by_cases hi:i<(rl K n).length
   ·rw[List.getElem_append_left hi];have:=ih i hi;exact⟨this.1,by omega⟩
   have ku:i=(rl K n).length:=(by simp at h;omega);subst ku;simp[e]
  have e2:rl K (n+1)=rl K n:=by rw[rl,if_neg e]
  simp only[e2] at h⊢;have:=ih i h;exact⟨this.1,by omega⟩
theorem zpr(K:Nat->Lit):Mb (cls K) (rl K 256).length/\∀c,c<(rl K 256).length->∃j,j<256/\cls K j=c:=by
 have hg:∀c,c<(rl K 256).length->∃j,j<256/\cls K j=c:=fun c hc=>⟨(rl K 256)[c],(Xv K 256 c hc).2,(Xv K 256 c hc).1⟩
 have hp:0<(rl K 256).length:=by rw[yR];exact Y0 K
 refine⟨⟨fun j hj=>(Pg K j hj).1,?_⟩,hg⟩;obtain⟨j,hj,e⟩:=hg ((rl K 256).length-1) (by omega);exact⟨j,hj,by omega⟩
theorem bG.in_{A:Nat->Prop}(h:bG mf A r)(hm:∀x,mf x<32768):-1<=r/\r<32768:=by
 rcases h with ⟨h1,_⟩|⟨h1,⟨x,_,h2⟩,_⟩
 ·omega
 have:=hm x;omega
theorem ZZ{w:World}{cD:Array Value}{f0:Nat}{ms:List Int}(hm:∀x,mf x<32768)
  (h:Made L F nm L' f0 s0 k R SS) (da:cD.size=258) (ho:∀v∈cD.toList,v.oneCell'=true) (hk:SS.length=k) (eO:k<=2000) (hD:jr w cD (cG L) R ms (rl (cG L) 256).length) (mT:ms.length=k)
  (oc:∀j (h:j<SS.length) (h2:j<ms.length),bG (fun i=>mf (nm.getD i 0)) (fun x=>x<nm.length/\SS[j] x=true) ms[j]):
  ∃D:Dd,D.cD=cD/\DM w D/\DR D (rl (cG L) 256).length/\D.n=k/\∀(z:Nat->Nat) (m:Nat),(∀j,z j<256)->bG mf (bZ L F z m) (dk D (dt D 0 z m)):=by
 obtain⟨aN,cN,A,hN,Z4⟩:=hD.rows;obtain⟨aK,cK,hK,hzK⟩:=hD.marks;have mi:=h.run.len;have cY:∀r∈R,r.length=(rl (cG L) 256).length:=h.run.sE;obtain⟨hC,hg⟩:=zpr (cG L);have pM:1<=k:=by
  have:=h.run.pre.length_le;simp at this;omega
 refine⟨⟨cD,cls (cG L),aN,R.length,cN,A,fun _=>(rl (cG L) 256).length,fun _=>(rl (cG L) 256).length,fun i x=>(R.getD i []).getD x 0,aK,ms.length,cK,fun i=>ms.getD i 0⟩,rfl,⟨da,ho,hD.cl,fun j hj=>?_,hN,hK,Z4,hzK⟩,⟨hC,by show 1<=R.length;omega,by show R.length<=32768;omega,by show ms.length=R.length;omega,hg,fun i _=>rfl,fun i hi=>?_,fun i c hi hc=>?_⟩,by show R.length=k;omega,fun z m hz=>?_⟩
 ·have:=Qz (cG L) j;show cls (cG L) j<256;omega
 ·have hi:i<R.length:=hi;have hl:=oc i (by omega) (by omega);have h1:=hl.in_ (fun x=>hm _);show -1<=ms.getD i 0/\ms.getD i 0<32768;rw[List.getD_eq_getElem?_getD,List.getElem?_eq_getElem (by omega)];exact h1
 ·have hi:i<R.length:=hi;have hc:c<(rl (cG L) 256).length:=hc;have pa:=cY R[i] (List.getElem_mem hi);obtain⟨hs,ht⟩:=h.run.oZ i hi;have h1:=ht c (by omega);have e:(R.getD i []).getD c 0=R[i][c]'(by omega):=by simp[List.getD_eq_getElem?_getD,hi,pa,hc]
  show -1<=(R.getD i []).getD c 0/\(R.getD i []).getD c 0<(R.length:Int);rw[e];rcases h1 with ⟨h2,_⟩|⟨_,j,hj,h2,_⟩
  ·omega
  omega
 have Q5:∀t,rW nm.length SS (bZ L' f0 z t) (dt ⟨cD,cls (cG L),aN,R.length,cN,A,fun _=>(rl (cG L) 256).length,fun _=>(rl (cG L) 256).length,fun i x=>(R.getD i []).getD x 0,aK,ms.length,cK,fun i=>ms.getD i 0⟩ 0 z t):=by
  intro t
  induction t with
  | zero=>exact h.start z
  | succ t ih=>
   show rW _ _ _ (dr _ (dt _ 0 z t) (z t));generalize dt ⟨cD,cls (cG L),aN,R.length,cN,A,fun _=>(rl (cG L) 256).length,fun _=>(rl (cG L) 256).length,fun i x=>(R.getD i []).getD x 0,aK,ms.length,cK,fun i=>ms.getD i 0⟩ 0 z t=a at ih;rcases ih with ⟨rfl,hd⟩|⟨j,hj,rfl,hS⟩
   ·exact inl ⟨by unfold dr;rw[if_neg (by omega)],bZ.dead hd⟩
   obtain⟨IB,hc,hs⟩:=h.step hk z t j (hz t) (inr ⟨j,hj,rfl,hS⟩);unfold dr;rw[if_pos ⟨by omega,by show (j:Int)<(R.length:Int);omega⟩];have e:(R.getD ((j:Int)).toNat []).getD (cls (cG L) (z t)) 0=R[j][cls (cG L) (z t)]'hc:=by
    have h9:((j:Int)).toNat=j:=(by omega);rw[h9];simp[List.getD_eq_getElem?_getD,IB,hc]
   show rW _ _ _ ((R.getD ((j:Int)).toNat []).getD (cls (cG L) (z t)) 0);rw[e];exact hs
 have nc:=Q5 m;generalize dt ⟨cD,cls (cG L),aN,R.length,cN,A,fun _=>(rl (cG L) 256).length,fun _=>(rl (cG L) 256).length,fun i x=>(R.getD i []).getD x 0,aK,ms.length,cK,fun i=>ms.getD i 0⟩ 0 z m=a at nc;rcases nc with ⟨rfl,hd⟩|⟨j,hj,rfl,hS⟩
 ·have e:∀D:Dd,dk D (-1)=-1:=fun D=>by unfold dk;rw[if_neg (by omega)]
  rw[e];exact inl ⟨rfl,fun x hx=>by
   obtain⟨i,hi,_⟩:=((h.names z m).2 x).1 hx
   exact absurd hi (hd i)⟩
 have h9:((j:Int)).toNat=j:=by omega
 unfold dk;rw[if_pos ⟨by omega,by show (j:Int)<(R.length:Int);omega⟩];show bG mf (bZ L F z m) (ms.getD ((j:Int)).toNat 0);rw[h9,List.getD_eq_getElem?_getD,List.getElem?_eq_getElem (by omega)];exact h.mark hj (inr ⟨j,hj,rfl,hS⟩) (oc j hj (by omega))
theorem YO{α β:Type}{f:α->β}{l:List α}(hn:l.Nodup)(h:∀a∈l,∀b∈l,f a=f b->a=b):(l.map f).Nodup:=by
 induction l with
 | nil=>simp
 | cons a l ih=>
  rw[map_cons,List.nodup_cons];obtain⟨h1,h2⟩:=List.nodup_cons.1 hn;refine⟨fun hm=>?_,ih h2 (fun x hx y hy=>h x (List.mem_cons_of_mem _ hx) y (List.mem_cons_of_mem _ hy))⟩;obtain⟨b,hb,e⟩:=List.mem_map.1 hm;exact h1 (h b (List.mem_cons_of_mem _ hb) a (by simp) e ▸ hb)
theorem zfP{α:Type}(p:α->Bool)(l:List α):l.length=(l.filter p).length+(l.filter fun x=>!p x).length:=by
 induction l with
 | nil=>rfl
 | cons a l ih=>
  simp only[filter_cons,length_cons];cases p a <;> simp <;> omega
theorem zpt:∀(n:Nat) (l:List (List Bool)),l.Nodup->(∀v∈l,v.length=n)->l.length<=2 ^ n:=by
 intro n
 induction n with
 | zero=>
  intro l hn h
  match l,hn,h with
  | [],_,_=>simp
  | [a],_,_=>simp
  | a :: b :: l,hn,h=>
   have h1:=List.length_eq_zero_iff.1 (h a (by simp));have h2:=List.length_eq_zero_iff.1 (h b (by simp));subst h1 h2;simp at hn
 | succ n ih=>
  intro l hn h;have key:∀(p:List Bool->Bool) (x:Bool),(∀v∈l,p v=true->v=x :: v.tail)->(l.filter p).length<=2 ^ n:=fun p x hp=>by
   have h1:((l.filter p).map List.tail).Nodup:=YO (hn.filter p) (fun a ha b hb e=>by
    obtain⟨ha1,ha2⟩:=List.mem_filter.1 ha
    obtain⟨fw,cv⟩:=List.mem_filter.1 hb
    rw[hp a ha1 ha2,hp b fw cv,e])
   have h2:=ih _ h1 (fun v hv=>by
    obtain⟨u,hu,rfl⟩:=List.mem_map.1 hv
    have:=h u (List.mem_filter.1 hu).1
    simp[this])
   simpa using h2
  have a1:=key (fun v=>v.headD false) true (fun v hv hp=>by
   have:=h v hv
   match v,this,hp with
   | x :: v,_,hp=>simp at hp;rw[hp];rfl)
  have a2:=key (fun v=>!v.headD false) false (fun v hv hp=>by
   have:=h v hv
   match v,this,hp with
   | x :: v,_,hp=>simp at hp;rw[hp];rfl)
  have a3:=zfP (fun v:List Bool=>v.headD false) l;rw[Nat.pow_succ];omega
def nB(L:List En):Nat:=(L.filter fun e=>!e.b).length
theorem zpu(nm:List Nat)(L:List En):nB (L.map (En.lI nm))=nB L:=by
 unfold nB
 induction L with
 | nil=>rfl
 | cons e L ih=>
  have h:(En.lI nm e).b=e.b:=rfl;simp only[map_cons,filter_cons,h];cases e.b <;> simp_all
theorem ziP{f0:Nat}(h:Made L F nm L' f0 s0 k R SS):SS.length<=1+2 ^ nB L:=by
 have hd:lq nm.length SS:=h.run.na (fun i j hi hj _=>by simp at hi hj;omega);have rQ:=h.run.src;have hx:∀i,∃(g:Nat->Bool) (d:Nat),∀(hi:i+1<SS.length) (x:Nat),x<nm.length->(SS[i+1] x=true↔yF L' nm.length (kZ (cG L)) g d x):=fun i=>by
  by_cases hi:i+1<SS.length
  ·obtain⟨i',hi',d,_,_,_,h2⟩:=rQ (i+1) hi (by simp);exact⟨SS[i'],d,fun _=>h2⟩
  exact⟨fun _=>false,0,fun h=>absurd h hi⟩
 obtain⟨G,hG⟩:∃G:Nat->(Nat->Bool) × Nat,∀i (hi:i+1<SS.length) (x:Nat),x<nm.length->(SS[i+1] x=true↔yF L' nm.length (kZ (cG L)) (G i).1 (G i).2 x):=
  ⟨fun i=>(Classical.choose (hx i),Classical.choose (Classical.choose_spec (hx i))),fun i=>Classical.choose_spec (Classical.choose_spec (hx i))⟩
 have e1:nB L'=nB L:=by rw[h.lI,zpu]
 have h1:=zpt (nB L') ((range (SS.length-1)).map fun i=>(L'.filter fun e=>!e.b).map fun e=>e.p (kZ (cG L) (G i).2) && (G i).1 e.f) (YO List.nodup_range (fun i hi j hj e=>by
  have hi:i<SS.length-1:=by simpa using hi
  have hj:j<SS.length-1:=by simpa using hj
  have he:∀e∈L',e.b=false->(e.p (kZ (cG L) (G i).2) && (G i).1 e.f)=(e.p (kZ (cG L) (G j).2) && (G j).1 e.f):=fun x hx hb=>by
   have:=List.map_inj_left.1 e x (List.mem_filter.2 ⟨hx,by simp[hb]⟩)
   exact this
  have hM:∀y,Mv L' (fun y=>y<nm.length/\(G i).1 y=true) (kZ (cG L) (G i).2) y↔Mv L' (fun y=>y<nm.length/\(G j).1 y=true) (kZ (cG L) (G j).2) y:=fun y=>by
   constructor
   ·rintro⟨e,h1,h2,h3,h4,h5⟩
    have:=he e h1 h2
    rw[h3,h4.2] at this
    have h6:e.p (kZ (cG L) (G j).2)=true/\(G j).1 e.f=true:=by simpa using this.symm
    exact⟨e,h1,h2,h6.1,⟨h4.1,h6.2⟩,h5⟩
   ·rintro⟨e,h1,h2,h3,h4,h5⟩
    have:=he e h1 h2
    rw[h3,h4.2] at this
    have h6:e.p (kZ (cG L) (G i).2)=true/\(G i).1 e.f=true:=by simpa using this
    exact⟨e,h1,h2,h6.1,⟨h4.1,h6.2⟩,h5⟩
  have h9:=hd (i+1) (j+1) (by omega) (by omega) (fun x hx=>by
   rw[Bool.eq_iff_iff,hG i (by omega) x hx,hG j (by omega) x hx]
   exact FR.congr hM x)
  omega)) (fun v hv=>by
   obtain⟨i,_,rfl⟩:=List.mem_map.1 hv
   simp[nB])
 rw[e1] at h1;simp at h1;omega
theorem zoz(t:Rx):∀o,(fx t o).length<=4*t.flat.length:=by
 induction t with
 | leaf x=>intro o;simp[fx,fS,Rx.flat]
 | un x a ih=>
  intro o;have h1:=ih o;have h2:(eB x.k (o+a.flat.length-1) (o+a.flat.length)).length<=4:=by
   unfold eB;split <;> split <;> simp
  simp only[fx,Rx.flat,length_append,length_cons,length_nil];omega
 | bin x a b ih jh=>
  intro o;have h1:=ih o;have h2:=jh (o+a.flat.length);have h3:(cn x.k (o+a.flat.length-1) (o+a.flat.length+b.flat.length-1) (o+a.flat.length+b.flat.length)).length<=4:=by
   unfold cn;split <;> simp
  simp only[fx,Rx.flat,length_append,length_cons,length_nil];omega
theorem Vg(a b:List En):nB (a++b)=nB a+nB b:=by simp[nB]
theorem zmq(t:Rx):∀o,2*nB (fx t o)<=t.flat.length+1:=by
 induction t with
 | leaf x=>
  intro o;have:=List.length_filter_le (fun e:En=>!e.b) (fS x o);have h2:(fS x o).length=1:=rfl;simp only[fx,Rx.flat,length_cons,length_nil,nB];omega
 | un x a ih=>
  intro o;have h1:=ih o;have h2:nB (eB x.k (o+a.flat.length-1) (o+a.flat.length))=0:=by
   unfold nB eB bx;split <;> split <;> simp
  simp only[fx,Rx.flat,Vg,length_append,length_cons,length_nil];omega
 | bin x a b ih jh=>
  intro o;have h1:=ih o;have h2:=jh (o+a.flat.length);have h3:nB (cn x.k (o+a.flat.length-1) (o+a.flat.length+b.flat.length-1) (o+a.flat.length+b.flat.length))=0:=by
   unfold nB cn bx;split <;> simp
  simp only[fx,Rx.flat,Vg,length_append,length_cons,length_nil];omega
theorem zmr(L:List En):(bP (L.map En.z)).length=nB L:=by
 unfold nB
 induction L with
 | nil=>rfl
 | cons e L ih=>
  have h:(En.z e).b=e.b:=rfl;simp only[bP,map_cons,filter_cons,h] at ih⊢;cases e.b <;> simp_all
theorem ZV(t:Rx):vu ((2*t.flat.length:Nat):Int) ((fx t 0).map En.z) ((2*ef t 0:Nat):Int) ((2*ef t 0+1:Nat):Int)=true:=by
 have h1:=Za t 0;unfold vu;rw[Bool.and_eq_true,Bool.and_eq_true,List.all_eq_true];refine⟨fun x hx=>?_,Ml.2 ⟨by omega,by omega⟩,Ml.2 ⟨by omega,by omega⟩⟩;obtain⟨e,he,rfl⟩:=List.mem_map.1 hx;have h2:=Ik t 0 e he;unfold yO;rw[Bool.and_eq_true];exact⟨Ml.2 ⟨by show (0:Int)<=(e.f:Int);omega,by show (e.f:Int)<_;omega⟩,Ml.2 ⟨by show (0:Int)<=(e.t:Int);omega,by show (e.t:Int)<_;omega⟩⟩
def lZ(s:ByteArray)(t:Rx):Prop:=t.wf/\dd (eZ 99) ([],ae s)=some (t.flat,[])/\t.flat.length<=400
def Qe(t:Rx)(X:Dd):Prop:=∀(z:Nat->Nat) (m:Nat),(∀j,z j<256)->(eQ t ((range m).map z)->dk X (dt X 0 z m)=0)/\(¬eQ t ((range m).map z)->dk X (dt X 0 z m)=-1)
def Yp(t:Rx)(p:Nat->Nat->Prop):Prop:=∃(nm:List Nat) (L':List En) (f0:Nat) (s0:Nat->Bool) (k:Nat) (R:List (List Int)) (SS:List (Nat->Bool)),Made (fx t 0) (2*ef t 0) nm L' f0 s0 k R SS/\p k SS.length
def QP(t:Rx):Prop:=2000<1+2 ^ nB (fx t 0)/\Yp t (fun _ n=>2000<n)
def Lj(t:Rx):Prop:=Yp t (fun k n=>n=k/\k<=2000)
def Cl(s:ByteArray)(w:World)(e:Ending)(w':World):Prop:=Below w.heap.size w w'/\
 (
  (∃er:Nat,sa s er/\e=.returned (.tuple #[.agg (zC 101),.int .i64 (er:Int)]))\/
  (∃t,lZ s t/\((QP t/\e=.returned (.tuple #[.agg (zC 101),.int .i64 6]))\/∃(X:Dd) (C:Nat),e=.returned (.tuple #[.agg X.cD,.int .i64 0])/\DM w' X/\Mn X C/\(Qe t X/\Lj t))))
theorem zgL{T:Nat}{A:Nat->Prop}(h:bG (fun x=>if x=T then 0 else -1) A r):(A T->r=0)/\(¬A T->r=-1):=by
 rcases h with ⟨h1,h2⟩|⟨h1,⟨x,hx,h2⟩,h3⟩
 ·refine⟨fun h=>?_,fun _=>h1⟩;have:=h2 T h;simp at this
 by_cases e:x=T
 ·subst e;simp at h2;exact⟨fun _=>h2.symm,fun h=>absurd hx h⟩
 simp[e] at h2;omega
theorem zms(s:ByteArray)(hs:s.size<=1600)(w:World):Calls prog 68 #[.string s] w (Cl s w):=by
 have k0:=al w (.cells (zC 101) 101);have HB:=hid (Zz (St.new w 101 (zC 101)) k0);have tZ:=hid (zeW s hs (w.alloc (.cells (zC 101) 101)));clear k0;go_enter func68,ntmps68;go_upto_region 1 with (refine rB rfl 101 rfl (zC 101) (nG _) ?_);obtain⟨b0,bc⟩:∃b0,w.heap.size=b0:=⟨_,rfl⟩
 have dO:=hid bc;rw[bc] at HB;rw[bc];clear bc;generalize w.alloc (.cells (zC 101) 101)=W0 at HB tZ⊢;go_wp2_with (go_at_call 81;refine tZ.out.mono ?_);rintro e w1 hp;rcases hp with ⟨er,hE,rfl,b1⟩|⟨t,hw,vf,hle,a,c,rfl,hO,b1⟩
 ·have H1:=hid (Zz (HB.out.1.aa b1) (HB.out.2.trans (b1.mono (by have:=HB.out.2.size;have:=dO.out;omega))));have fw:=b1.size;have HER:Hid (sa s er):=hE;have Jx:((er:Int) != 0)=true:=by
   rcases hE with ⟨rfl,_⟩|⟨rfl,_⟩ <;> rfl
  have HF:Hid (Cl s w (.returned (.tuple #[.agg (zC 101),.int .i64 (er:Int)])) ((w1.alloc (.cells #[.int .i64 0,.slice none 0 0,.int .i64 0,.int .i64 0] 119)).setRow b0 (zC 101))):=by
   refine⟨?_,inl ⟨er,hE,rfl⟩⟩;have hz:=H1.out.2.size;have h1:Below b0 w (w1.alloc (.cells #[.int .i64 0,.slice none 0 0,.int .i64 0,.int .i64 0] 119)):=H1.out.2.trans ((al w1 _).mono (by have:=dO.out;omega));have:=mY h1 (Nat.le_refl b0) (zC 101);rw[dO.out];exact this
  have jD:=hid (H1.out.1.alloc (.cells #[.int .i64 0,.slice none 0 0,.int .i64 0,.int .i64 0] 119));clear hE b1 tZ;go_wp2_with (first
   | (refine BU rfl 101 _ rfl #[] (by first|rfl|kernel_rfl|(go_simp;done)) (.agg (zC 101)) (Pv _) ?_)
   | (refine pN rfl 101 _ _ rfl b0 101 (zC 101) (zC 101) rfl rfl jD.out rfl (by rw[gO,jA]) Fe ?_))
  refine bodyPost_ret (CD rfl _ _ b0 (zC 101) _ rfl jD.out.setRow.part underlying101 rfl (by rw[gO,jA])) rfl ?_;exact HF.out
 have HT:Hid (lZ s t):=⟨hw,vf,hle⟩
 have H1:=hid (Zz (HB.out.1.aa b1) (Zz (HB.out.2.trans (b1.mono (by have:=HB.out.2.size;have:=dO.out;omega))) hO));have fw:=b1.size;have YI:=hid (ZV t);have XH:=hid (zoz t 0);have CU:=hid (zmq t 0);have Xs:=hid (Za t 0);have Hin:=hid (Ik t 0);obtain⟨S,hS⟩:∃S:Nat,2*t.flat.length=S:=⟨_,rfl⟩
 obtain⟨F,hF⟩:∃F:Nat,2*ef t 0=F:=⟨_,rfl⟩
 obtain⟨T,hT⟩:∃T:Nat,2*ef t 0+1=T:=⟨_,rfl⟩
 obtain⟨m,iJ⟩:∃m,(fx t 0).length=m:=⟨_,rfl⟩
 have HQ:=hid (Zz hS (Zz hF (Zz hT iJ)));rw[iJ] at H1 XH;rw[hS,hT,hF] at YI;rw[hS,hT,hF,iJ];clear hS hF hT iJ hw vf b1 hO tZ;have kN:=al w1 (.cells #[.int .i64 (S:Int),.slice a m c,.int .i64 (F:Int),.int .i64 (T:Int)] 119);have HN:=hid (Zz kN (St.new w1 119 #[.int .i64 (S:Int),.slice a m c,.int .i64 (F:Int),.int .i64 (T:Int)]));clear kN;go_upto_region 4 with fail;generalize w1.alloc (.cells #[.int .i64 (S:Int),.slice a m c,.int .i64 (F:Int),.int .i64 (T:Int)] 119)=W2 at HN⊢;obtain⟨bN,Lb⟩:∃bN,w1.heap.size=bN:=⟨_,rfl⟩
 rw[Lb] at HN;rw[Lb];have H2:Hid (St W2 101 b0 (zC 101)/\Below b0 w W2/\b0<=W2.heap.size):=by
  have hk:Below w1.heap.size w1 W2:=by rw[Lb];exact HN.out.1
  have hz:=H1.out.2.1.size;have cW:=hk.size;exact⟨H1.out.1.aa hk,H1.out.2.1.trans (hk.mono (by have:=dO.out;omega)),by have:=dO.out;omega⟩
 obtain⟨r0,r1,r2,r3⟩:=HN.out.2.dM;have Ye:kJ W2 a ((fx t 0).map En.z):=by
  have h1:kJ w1 a ((fx t 0).map En.z):=by
   intro h0;obtain⟨g,e,_,hg,hc⟩:=eR H1.out.2.2 (by rw[List.length_map,HQ.out.2.2.2] at h0;exact h0);exact⟨g,0,e,hg,fun j hj=>by rw[Nat.zero_add,(hc j (by rw[List.length_map,HQ.out.2.2.2] at hj;exact hj)).1]⟩
  exact h1.below (by rw[Lb];exact HN.out.1)
 have HO:=hid (zoJ (S:Int) F T (fx t 0) a m c W2 Ye HQ.out.2.2.2 (by have:=XH.out;omega) (by rw[zmr];have:=CU.out;omega) (by have:=HQ.out;have:=Xs.out;omega) (by have:=HQ.out;have:=Xs.out;omega) (fun e he=>by have:=Hin.out e he;omega) YI.out);clear Ye;go_upto_region 5 with (first
  | (go_at_call 82;refine HO.out.mono ?_;rintro e w3 ⟨cD,er,nm,L',f0,s0,k,R,SS,rfl,b3,Ua,da,Ph,Bh⟩)
  | (refine rB rfl 101 rfl (zC 101) (nG _) ?_)
  | (refine pN rfl 101 _ _ rfl w3.heap.size 101 (zC 101) cD rfl rfl (St.new w3 _ _) (by rw[jA,da]) (by rw[gO,da]) Ph ?_))
 try simp only[put,sA,sB,sC]
 have VH:=hid (Zz da Ph);have Ki:=hid Ua;have kV:Below w3.heap.size w3 ((w3.alloc (.cells (zC 101) 101)).setRow w3.heap.size cD):=mY (al w3 _) (Nat.le_refl _) _;have sV:St ((w3.alloc (.cells (zC 101) 101)).setRow w3.heap.size cD) 101 w3.heap.size cD:=(St.new w3 _ _).setRow;have FV:=b3.size;have H7:Hid (St ((w3.alloc (.cells (zC 101) 101)).setRow w3.heap.size cD) 101 b0 (zC 101)/\Below b0 w ((w3.alloc (.cells (zC 101) 101)).setRow w3.heap.size cD)):=by
  have hz:=H2.out.2.2;exact⟨(H2.out.1.aa b3).aa kV,(H2.out.2.1.trans (b3.mono hz)).trans (kV.mono (by omega))⟩
 have nL:Hid (b0<=w3.heap.size):=by have:=H2.out.2.2;show b0<=_;omega
 obtain⟨b7,AD⟩:∃b7,w3.heap.size=b7:=⟨_,rfl⟩
 have Wa:=hid AD;rw[AD] at kV sV H7;rw[AD];clear AD Ua da Ph FV b3 HO r0 r1 r2 r3;rcases Bh with ⟨rfl,ox,rfl⟩|⟨rfl,hk,eO,ms,hD,mT,oc⟩
 ·generalize (w3.alloc (.cells (zC 101) 101)).setRow b7 (zC 101)=V at kV sV H7⊢;have HF:Hid (Cl s w (.returned (.tuple #[.agg (zC 101),.int .i64 6])) (V.setRow b0 (zC 101))):=by
   refine⟨?_,inr ⟨t,HT.out,inl ⟨?_,rfl⟩⟩⟩
   ·have:=mY H7.out.2 (Nat.le_refl b0) (zC 101);rw[dO.out];exact this
   exact⟨by have:=ziP Ki.out;omega,_,_,_,_,_,_,_,by rw[HQ.out.2.1];exact Ki.out,ox⟩
  clear ox kV sV;go_wp2_with (first
   | (refine BU rfl 101 _ rfl #[] (by first|rfl|kernel_rfl|(go_simp;done)) (.agg (zC 101)) (Pv _) ?_)
   | (refine pN rfl 101 _ _ rfl b0 101 (zC 101) (zC 101) rfl rfl H7.out.1 rfl (by rw[gO,jA]) Fe ?_))
  refine bodyPost_ret (CD rfl _ _ b0 (zC 101) _ rfl H7.out.1.setRow.part underlying101 rfl (by rw[gO,jA])) rfl ?_;exact HF.out
 have Kg:Hid (Lj t):=⟨_,_,_,_,_,_,_,by rw[HQ.out.2.1];exact Ki.out,hk,eO⟩
 obtain⟨D,rfl,TB,NM,hDn,Gd⟩:=ZZ (mf:=fun x=>if x=T then 0 else -1) (fun x=>by show (if x=T then (0:Int) else -1)<32768;split <;> omega) Ki.out VH.out.1 VH.out.2 hk eO hD mT oc;have zA:=TB.below (by rw[Wa.out];exact kV);generalize (w3.alloc (.cells (zC 101) 101)).setRow b7 D.cD=V at kV sV H7 zA⊢;have HX:Hid (∀z m,(∀j,z j<256)->bG (fun x=>if x=T then 0 else -1) (bZ (fx t 0) F z m) (dk D (dt D 0 z m))):=Gd;have HOf:=hid (zl6 D _ NM V zA);have YP:=hid (Zz sV zA);have HbV:Hid (b0<=V.heap.size):=by have:=nL.out;have:=kV.size;have:=Wa.out;show b0<=_;omega
 have HRD:=hid NM;clear TB NM hDn Gd hk eO hD mT oc kV sV zA;go_upto_region 7 with fail;go_wp2_with (first
  | (refine oa (by rfl) 101 _ rfl ⟨b7,0,none⟩ rfl D.cD _ YP.out.1.part underlying101 rfl YP.out.2.info ?_)
  | (go_at_call 83;refine HOf.out.mono ?_;rintro e w9 ⟨X,C',rfl,vJ,Ag,hBe,_,b9⟩)
  | (refine pN rfl 101 _ _ rfl b0 101 (zC 101) X.cD rfl rfl (H7.out.1.aa b9) (by rw[jA,vJ.sz]) (by rw[gO,vJ.sz]) vJ.one ?_))
 refine bodyPost_ret (CD rfl _ _ b0 X.cD _ rfl (H7.out.1.aa b9).setRow.part underlying101 rfl (by rw[gO,vJ.sz])) rfl ?_;refine⟨?_,inr ⟨t,HT.out,inr ⟨X,C',rfl,(dc.stored Ag.r vJ (H7.out.1.aa b9)).dm,Ag,fun z k hz=>?_,Kg.out⟩⟩⟩
 ·have:=mY (H7.out.2.trans (b9.mono HbV.out)) (Nat.le_refl b0) X.cD;rw[dO.out];exact this
 rw[hBe z k hz];have h1:=zgL (HX.out z k hz);have h2:=Pr t HT.out.1 z hz k;rw[HQ.out.2.2.1,HQ.out.2.1] at h2;exact⟨fun h=>h1.1 (h2.2 h),fun h=>h1.2 (fun hh=>h (h2.1 hh))⟩
def DU(b:Bool):Int:=if b then 0 else 8
theorem zfR(s:ByteArray)(w:World)(hs:s.size<=maxLen):
  Calls prog 54 #[.string s] w fun e w'=>e=.returned (.int .i64 (DU (bD s)))/\w'=w:=by
 go_enter func54,ntmps54;go_wp2_with fail;refine (MT s _ hs).mono ?_;rintro e w1 ⟨rfl,rfl⟩;rcases hn:bD s with _|_
 ·have HN:=hid hn;clear hn;go_wp2;go_ret;exact⟨by rw[HN.out];rfl,rfl⟩
 have HN:=hid hn;clear hn;go_wp2;go_ret;exact⟨by rw[HN.out];rfl,rfl⟩
def lG(k:Int):Bool:=k == 0 || (k == 1 || k == 2)
theorem ziQ(k:Int)(w:World):Calls prog 67 #[.int .i64 k] w fun e w'=>e=.returned (.bool (lG k))/\w'=w:=by
 have HZ:Hid (∀a b c,(k == 0)=a->(k == 1)=b->(k == 2)=c->lG k=(a || (b || c))):=fun a b c h1 h2 h3=>by unfold lG;rw[h1,h2,h3]
 rcases h0:(k == 0) with _|_
 ·rcases h1:(k == 1) with _|_
  ·rcases h2:(k == 2) with _|_
   ·have HV:=hid (HZ.out _ _ _ h0 h1 h2);go_enter func67,ntmps67;go_wp2;go_ret;exact⟨by rw[HV.out];rfl,rfl⟩
   have HV:=hid (HZ.out _ _ _ h0 h1 h2);go_enter func67,ntmps67;go_wp2;go_ret;exact⟨by rw[HV.out];rfl,rfl⟩
  have HV:=hid (HZ.out _ _ _ h0 h1 rfl);go_enter func67,ntmps67;go_wp2;go_ret;exact⟨by rw[HV.out];rfl,rfl⟩
 have HV:=hid (HZ.out _ _ _ h0 rfl rfl);go_enter func67,ntmps67;go_wp2;go_ret;exact⟨by rw[HV.out];rfl,rfl⟩
def E1(pre:List Ru)(x:Ru)(er:Int):Prop:=
 (bD x.nm=false/\er=8)\/(bD x.nm=true/\
  ((
   (∃y∈pre,y.nm=x.nm)/\er=9)\/((∀y∈pre,y.nm≠x.nm)/\
   ((
    lG x.k=false/\er=1)\/(lG x.k=true/\
    ((∃e5:Nat,sa x.rx e5/\er=(e5:Int))\/(∃t,lZ x.rx t/\((QP t/\er=6)\/(eQ t []/\er=14)\/((¬eQ t []/\Lj t)/\er=0)))))))))
def qm(pre:List Ru)(x:Ru)(w:World)(e:Ending)(w':World):Prop:=∃er,e=.returned (.int .i64 er)/\E1 pre x er/\Below w.heap.size w w'
theorem qJ.mem{s:ByteArray}(h:qJ l s r):(0<=r->∃y∈l,y.nm=s)/\(¬0<=r->∀y∈l,y.nm≠s):=by
 rcases h with ⟨rfl,h⟩|⟨i,hi,rfl,h,_⟩
 ·refine⟨fun h=>by omega,fun _ y hy=>?_⟩;obtain⟨j,hj,rfl⟩:=List.getElem_of_mem hy;exact h j hj
 exact⟨fun _=>⟨_,List.getElem_mem hi,h⟩,fun h=>by omega⟩
theorem zeY(n c:Nat)(a:Option Addr)(l:List Ru)(hl:l.length=n)(hn:n<=100000)(WV:n<=c)(i:Nat)(hi:i<l.length)(jc:l[i].nm.size<=maxLen)(Lq:l[i].rx.size<=1600)(w:World)(h1:ka w a l):
  Calls prog 53 #[.slice a n c,.int .i64 (i:Int)] w (qm (l.take i) l[i] w):=by
 obtain⟨g1,o1,rfl,kj,x0,x1,x2⟩:=h1.get i hi;have oz:i<n:=by omega
 have i1:(i:Int)<n:=by omega
 have i2:(i:Int)<=n:=by omega
 have i3:i<=c:=by omega
 have IW:=hid (h1.take i);have Fh:Hid ((l.take i).length=i):=by show _=_;rw[List.length_take];omega
 generalize l.take i=pre at IW Fh⊢;generalize l[i]=x at x0 x1 x2 jc Lq⊢;obtain⟨nm,kk,rx⟩:=x;dsimp only at x0 x1 x2 jc Lq;have k1:=al w (.cells #[.string nm,.int .i64 kk,.string rx] 55);have HB:=hid (Zz k1 (St.new w 55 #[.string nm,.int .i64 kk,.string rx]));have Hrx:=hid Lq;have AI:=hid jc;clear k1 h1 hl hi Lq jc;go_enter func53,ntmps53;go_upto_region 2 with fail;clear x0 x1 x2;obtain⟨b,bc⟩:∃b,w.heap.size=b:=⟨_,rfl⟩
 have dO:=hid bc;rw[bc] at HB kj;rw[bc];clear bc;generalize w.alloc (.cells #[.string nm,.int .i64 kk,.string rx] 55)=W0 at HB⊢;have qa:Hid (∀W',Below W0.heap.size W0 W'->Below w.heap.size w W'):=fun W' h=>by
  have hz:=HB.out.1.size;rw[dO.out];exact HB.out.1.trans (h.mono (by have:=dO.out;omega))
 have Fc:Hid (∀W',Below W0.heap.size W0 W'->W'.cell? ⟨b,0,none⟩=some (.string nm)/\W'.cell? ⟨b,1,none⟩=some (.int .i64 kk)/\W'.cell? ⟨b,2,none⟩=some (.string rx)):=fun W' h=>⟨(HB.out.2.aa h).at_ 0,(HB.out.2.aa h).at_ 1,(HB.out.2.aa h).at_ 2⟩
 obtain⟨c0,c1,c2⟩:=Fc.out W0 (Below.refl _ _);have YG:=hid (zfR nm W0 AI.out);go_upto_region 3 with (go_at_call 54;refine YG.out.mono ?_;rintro e w1 ⟨rfl,h1⟩;rw[h1];clear h1);rcases hN:bD nm with _|_
 ·have HZ:Hid (qm pre ⟨nm,kk,rx⟩ w (.returned (.int .i64 8)) W0):=⟨8,rfl,inl ⟨hN,rfl⟩,qa.out _ (Below.refl _ _)⟩
  rw[show DU false=8 from rfl];clear hN;go_wp2;go_ret;exact HZ.out
 rw[show DU true=0 from rfl];have HN:=hid hN;clear hN YG;have P9:Hid (∀W,Below W0.heap.size W0 W->Calls prog 41 #[.slice (some ⟨g1,o1,none⟩) i c,.string nm] W (RN pre nm W)):=fun W h=>Wp i c _ pre nm Fh.out (by omega) W (IW.out.below (qa.out W h))
 go_upto_region 5 with fail;clear c0 c1 c2;have dz:Hid (∀W',Below W0.heap.size W0 W'->Below W0.heap.size W0 W'/\W'.cell? ⟨b,0,none⟩=some (.string nm)):=fun W' h=>⟨h,(Fc.out W' h).1⟩
 refine wp_region_held_drew (S:=fun W'=>Below W0.heap.size W0 W'/\W'.cell? ⟨b,0,none⟩=some (.string nm)) (by kernel_rfl) (dz.out _ (Below.refl _ _).drew) (fun hHeld=>?_)
 (refine aq 0 ?_;refine aq 1 ?_;refine aq 2 ?_;try simp only[put,sA,sB,sC];refine aq 3 ?_;refine aq 4 ?_;try simp only[put,sA,sB,sC])
 refine aQ 5 (fun K hK=>?_);skip;go_simp;go_at_call 41;refine (P9.out _ hHeld.1).mono ?_;rintro e w2 ⟨r,rfl,hr,v2⟩;have aJ:Below W0.heap.size W0 w2:=hHeld.1.trans (v2.mono hHeld.1.size);clear v2
 try go_wp2_with fail
 refine hK.out _ _ (dz.out _ aJ) (fun hHeld=>?_);clear hK K
 try simp only[put,sA,sB,sC]
 (refine aq 6 ?_;try simp only[put,sA,sB,sC])
 refine wpAnyH_done (by kernel_rfl) ?_ _;have ra:=hid (Zz aJ hr);clear hHeld aJ hr;obtain⟨c0,c1,c2⟩:=Fc.out w2 ra.out.1;by_cases h9:0<=r
 ·have HZ:Hid (qm pre ⟨nm,kk,rx⟩ w (.returned (.int .i64 9)) w2):=⟨9,rfl,inr ⟨HN.out,inl ⟨ra.out.2.mem.1 h9,rfl⟩⟩,qa.out _ ra.out.1⟩
  go_wp2;go_ret;exact HZ.out
 have kD:=hid (ra.out.2.mem.2 h9);have HK:=hid (ziQ kk w2);rcases EF:lG kk with _|_
 ·have HZ:Hid (qm pre ⟨nm,kk,rx⟩ w (.returned (.int .i64 1)) w2):=⟨1,rfl,inr ⟨HN.out,inr ⟨kD.out,inl ⟨EF,rfl⟩⟩⟩,qa.out _ ra.out.1⟩
  rw[EF] at HK;clear EF;go_wp2_with (go_at_call 67;refine HK.out.mono ?_;rintro e w3 ⟨rfl,h3⟩;rw[h3];clear h3);go_ret;exact HZ.out
 have C3:=hid EF;rw[EF] at HK;have WO:=hid (zms rx Hrx.out w2);clear EF;go_upto_region 9 with (go_at_call 67;refine HK.out.mono ?_;rintro e w3 ⟨rfl,h3⟩;rw[h3];clear h3);go_wp2_with (go_at_call 68;refine WO.out.mono ?_);rintro e w3 ⟨b3,Bh⟩;have H3:=hid (ra.out.1.trans (b3.mono ra.out.1.size));clear b3 WO HK;rcases Bh with ⟨er,hE,rfl⟩|⟨t,hT,⟨ox,rfl⟩|⟨X,C,rfl,vJ,Ag,UZ⟩⟩
 ·have Jx:((er:Int) != 0)=true:=by
   rcases hE with ⟨rfl,_⟩|⟨rfl,_⟩ <;> rfl
  have iW:Below W0.heap.size W0 ((w3.alloc (.cells (zC 101) 101)).setRow w3.heap.size (zC 101)):=mY (H3.out.trans ((al w3 _).mono H3.out.size)) H3.out.size _;have HZ:Hid (qm pre ⟨nm,kk,rx⟩ w (.returned (.int .i64 (er:Int))) ((w3.alloc (.cells (zC 101) 101)).setRow w3.heap.size (zC 101))):=⟨_,rfl,inr ⟨HN.out,inr ⟨kD.out,inr ⟨C3.out,inl ⟨er,hE,rfl⟩⟩⟩⟩,qa.out _ iW⟩
  clear hE iW;go_wp2_with (first
   | (refine rB rfl 101 rfl (zC 101) (nG _) ?_)
   | (refine pN rfl 101 _ _ rfl w3.heap.size 101 (zC 101) (zC 101) rfl rfl (St.new w3 _ _) rfl (by rw[gO,jA]) Fe ?_))
  go_ret;exact HZ.out
 ·have iW:Below W0.heap.size W0 ((w3.alloc (.cells (zC 101) 101)).setRow w3.heap.size (zC 101)):=mY (H3.out.trans ((al w3 _).mono H3.out.size)) H3.out.size _;have HZ:Hid (qm pre ⟨nm,kk,rx⟩ w (.returned (.int .i64 6)) ((w3.alloc (.cells (zC 101) 101)).setRow w3.heap.size (zC 101))):=⟨_,rfl,inr ⟨HN.out,inr ⟨kD.out,inr ⟨C3.out,inr ⟨t,hT,inl ⟨ox,rfl⟩⟩⟩⟩⟩,qa.out _ iW⟩
  clear hT ox iW;go_wp2_with (first
   | (refine rB rfl 101 rfl (zC 101) (nG _) ?_)
   | (refine pN rfl 101 _ _ rfl w3.heap.size 101 (zC 101) (zC 101) rfl rfl (St.new w3 _ _) rfl (by rw[gO,jA]) Fe ?_))
  go_ret;exact HZ.out
 have GY:=hid (Zz vJ (Zz Ag (Zz UZ hT)));have iW:Below W0.heap.size W0 ((w3.alloc (.cells (zC 101) 101)).setRow w3.heap.size X.cD):=mY (H3.out.trans ((al w3 _).mono H3.out.size)) H3.out.size _;have kV:Below w3.heap.size w3 ((w3.alloc (.cells (zC 101) 101)).setRow w3.heap.size X.cD):=mY (al w3 _) (Nat.le_refl _) _;have sV:St ((w3.alloc (.cells (zC 101) 101)).setRow w3.heap.size X.cD) 101 w3.heap.size X.cD:=(St.new w3 _ _).setRow;go_upto_region 10 with (first
  | (refine rB rfl 101 rfl (zC 101) (nG _) ?_)
  | (refine pN rfl 101 _ _ rfl w3.heap.size 101 (zC 101) X.cD rfl rfl (St.new w3 _ _) (by rw[jA,vJ.sz]) (by rw[gO,vJ.sz]) vJ.one ?_))
 try simp only[put,sA,sB,sC]
 have zA:=vJ.below kV;generalize (w3.alloc (.cells (zC 101) 101)).setRow w3.heap.size X.cD=V at iW kV sV zA⊢;generalize w3.heap.size=b7 at kV sV⊢;have HV:=hid (Zz sV (Zz zA iW));have HH:=hid (zmM X C GY.out.2.1.r ⟨#[]⟩ 0 rfl (by omega) V zA);have HL:=hid (GY.out.2.2.1.1 (lQ ⟨#[]⟩) 0 (fun j=>XS _ j));generalize dk X (dt X 0 (lQ ⟨#[]⟩) 0)=mk at HH HL;clear iW kV sV zA vJ Ag UZ hT;by_cases KD:eQ t []
 ·have h0:mk=0:=HL.out.1 KD;rw[h0] at HH;clear h0;have HZ:Hid (∀W,Below V.heap.size V W->qm pre ⟨nm,kk,rx⟩ w (.returned (.int .i64 14)) W):=fun W h=>⟨_,rfl,inr ⟨HN.out,inr ⟨kD.out,inr ⟨C3.out,inr ⟨t,GY.out.2.2.2,inr (inl ⟨KD,rfl⟩)⟩⟩⟩⟩,qa.out _ (HV.out.2.2.trans (h.mono HV.out.2.2.size))⟩
  go_wp2_with (first
   | (refine oa (by rfl) 101 _ rfl ⟨b7,0,none⟩ rfl X.cD _ HV.out.1.part underlying101 rfl HV.out.2.1.info ?_)
   | (go_at_call 69;refine HH.out.mono ?_;rintro e w9 ⟨rfl,b9⟩))
  go_ret;exact HZ.out _ b9
 have h0:mk=-1:=HL.out.2 KD;rw[h0] at HH;clear h0;have HZ:Hid (∀W,Below V.heap.size V W->qm pre ⟨nm,kk,rx⟩ w (.returned (.int .i64 0)) W):=fun W h=>⟨_,rfl,inr ⟨HN.out,inr ⟨kD.out,inr ⟨C3.out,inr ⟨t,GY.out.2.2.2,inr (inr ⟨⟨KD,GY.out.2.2.1.2⟩,rfl⟩)⟩⟩⟩⟩,qa.out _ (HV.out.2.2.trans (h.mono HV.out.2.2.size))⟩
 go_wp2_with (first
  | (refine oa (by rfl) 101 _ rfl ⟨b7,0,none⟩ rfl X.cD _ HV.out.1.part underlying101 rfl HV.out.2.1.info ?_)
  | (go_at_call 69;refine HH.out.mono ?_;rintro e w9 ⟨rfl,b9⟩))
 go_ret;exact HZ.out _ b9
def XD(l:List Ru):Prop:=∀j (h:j<l.length),l[j].nm.size<=maxLen/\l[j].rx.size<=1600
def Lo(l:List Ru)(k:Nat):Prop:=∀j (h:j<l.length),j<k->E1 (l.take j) l[j] 0
def Bj(l:List Ru)(w:World)(e:Ending)(w':World):Prop:=Below w.heap.size w w'/\
 (
  (60<l.length/\e=.returned (.tuple #[.int .i64 (l.length:Int),.int .i64 6]))\/
  (∃(i:Nat) (h:i<l.length) (er:Int),er≠0/\Lo l i/\E1 (l.take i) l[i] er/\e=.returned (.tuple #[.int .i64 (i:Int),.int .i64 er]))\/
  (l.length<=60/\Lo l l.length/\e=.returned (.tuple #[.int .i64 (l.length:Int),.int .i64 0])))
theorem SI(n c:Nat)(a:Option Addr)(l:List Ru)(hl:l.length=n)(hn:n<=100000)(WV:n<=c)(hB:XD l)(w:World)(h1:ka w a l):
  Calls prog 26 #[.slice a n c] w (Bj l w):=by
 have H:=hid (Zz h1 (Zz hB hl));clear h1 hB hl;go_enter func26,ntmps26;by_cases h6:60<n
 ·have i1:(60:Int)<n:=by omega
  have HZ:Hid (Bj l w (.returned (.tuple #[.int .i64 (n:Int),.int .i64 6])) w):=by
   refine⟨Below.refl _ _,inl ⟨?_,?_⟩⟩
   ·rw[H.out.2.2];exact h6
   rw[H.out.2.2]
  go_wp2;go_ret2;exact HZ.out
 have i1:¬((60:Int)<n):=by omega
 go_wp2;go_loopw [4,5,13] (fun _ _ v wr=>∃k:Nat,v=.int .i64 k/\k<=n/\Hid (Below w.heap.size w wr/\Lo l k)) (fun _ _ v _=>n-(intOf v).toNat)
 ·exact⟨0,rfl,Nat.zero_le _,Below.refl _ _,fun j _ h=>by omega⟩
 obtain⟨k,rfl,hk,HL⟩:=hrel;by_cases aw:k<n
 ·have hkl:k<l.length:=by rw[H.out.2.2];exact aw
  have i2:(k:Int)<n:=by omega
  have HC:=hid (zeY n c a l H.out.2.2 hn WV k hkl (H.out.2.1 k hkl).1 (H.out.2.1 k hkl).2 wr (H.out.1.below HL.out.1));go_wp2_with (go_at_call 53;refine HC.out.mono ?_);rintro e w2 ⟨er,rfl,hE,b2⟩;have H2:=hid (Zz (HL.out.1.trans (b2.mono HL.out.1.size)) hE);clear b2 hE HC;by_cases h0:er=0
  ·subst h0;have HN:Hid (Lo l (k+1)):=fun j hj hjk=>by
    by_cases e:j=k
    ·subst e;exact H2.out.2
    exact HL.out.2 j hj (by omega)
   skip;go_wp2;go_roundw
   ·exact⟨k+1,by go_num,by omega,H2.out.1,HN.out⟩
   simp[intOf];omega
  have i3:((er:Int) != 0)=true:=by rw[bne_iff_ne];exact h0
  have HZ:Hid (Bj l w (.returned (.tuple #[.int .i64 (k:Int),.int .i64 er])) w2):=⟨H2.out.1,inr (inl ⟨k,hkl,er,h0,HL.out.2,H2.out.2,rfl⟩)⟩
  clear h0;go_wp2;go_ret2;exact HZ.out
 obtain rfl:k=n:=by omega
 have HZ:Hid (Bj l w (.returned (.tuple #[.int .i64 (k:Int),.int .i64 0])) wr):=by
  refine⟨HL.out.1,inr (inr ⟨?_,?_,?_⟩)⟩
  ·rw[H.out.2.2];omega
  ·rw[H.out.2.2];exact HL.out.2
  rw[H.out.2.2]
 go_wp2;go_ret2;exact HZ.out
theorem QK(hw:t.wf)(Li:t'.wf)(h:t.flat=t'.flat):fx t 0=fx t' 0:=by rw[<-PQ t hw,<-PQ t' Li,h]
theorem Wk(hw:t.wf)(Li:t'.wf)(h:t.flat=t'.flat)(z:Nat->Nat)(hz:∀j,z j<256)(m:Nat):eQ t ((range m).map z)↔eQ t' ((range m).map z):=by
 rw[<-Pr t hw z hz m,<-Pr t' Li z hz m,QK hw Li h];unfold ef;rw[h]
theorem lZ.flat{s:ByteArray}(h:lZ s t)(h':lZ s t'):t.flat=t'.flat:=by
 have:=h.2.1.symm.trans h'.2.1;simpa using this
theorem lZ.xN{s:ByteArray}(h:lZ s t){er:Nat}(he:sa s er):False:=by
 rcases he with ⟨_,he⟩|⟨_,l,he,hl⟩
 ·exact he _ h.2.1
 have e:=he.symm.trans h.2.1;simp at e;have:=h.2.2;rw[e] at hl;omega
end Go.Proofs.YtiijebameffenaaGreat
