import Derived.Test.YtbacgnhkapancaaGreatZPOf
import Derived.Test.YtbacgnhkapancaaGreatZQExp
set_option linter.all false
set_option maxHeartbeats 4000000
set_option maxRecDepth 100000
open Go.Lib (hid)
namespace Go.Proofs.YtbacgnhkapancaaGreat
open Go.RowKit Go.Maps Go.WideElems Go.ChangeMaps Go.MapKept Go.Proofs.Tryz
open Act (put)
open Classical (choose_spec)
open List (ext_getElem? filter_cons getD_eq_getElem?_getD getElem_mem length_append length_cons length_map length_nil map_cons mem_cons_of_mem range range_succ)
open Or (inl inr)
open Nat (le_of_lt zero_add zero_le)
variable {A:Nat->Option Addr}{F:Nat}{L nm:List Nat}{L':List En}{M:Nat->NF}{R:List (List Int)}{SS:List (Nat->Bool)}{T:Nat->Rx}{W0 W1:World}{e:Ending}{s0:Nat->Bool}{t':Rx}
structure Ru where
 nm:ByteArray
 k:Int
 rx:ByteArray
def eo(t:Ru):List Value:=[.string t.nm,.int .i64 t.k,.string t.rx]
def yp(l:List Ru):List Value:=l.flatMap eo
theorem zj5(l:List Ru):(yp l).length=l.length*3:=by
 induction l with
 | nil=>rfl
 | cons x l ih=>simp[yp,eo] at ih⊢;omega
theorem Qz(l:List Ru)(i:Nat)(h:i<l.length)(j:Nat)(hj:j<3):(yp l)[i*3+j]?=(eo l[i])[j]?:=by
 induction l generalizing i with
 | nil=>simp at h
 | cons x l ih=>
  have hc:(eo x).length=3:=by simp[eo]
  show (eo x++yp l)[i*3+j]?=_
  match i,h with
  | 0,_=>
   rw[Nat.zero_mul,zero_add,List.getElem?_append_left (by omega)];rfl
  | i+1,h=>
   rw[List.getElem?_append_right (by omega),hc,show (i+1)*3+j-3=i*3+j by omega,ih i (by simpa using h)];rfl
def gH(w:World)(a:Option Addr)(l:List Ru):Prop:=0<l.length->∃g off,a=some ⟨g,off,none⟩/\g<w.heap.size/\∀j,j<l.length*3->w.cell? ⟨g,off+j,none⟩=(yp l)[j]?
theorem gH.below{w w':World}{a:Option Addr}{l:List Ru}(h:gH w a l)(k:Below w.heap.size w w'):gH w' a l:=by
 intro h0;obtain⟨g,off,rfl,hg,hc⟩:=h h0;have:=k.size;exact⟨g,off,rfl,by omega,fun j hj=>(k.cell (p:=⟨g,off+j,none⟩) hg).trans (hc j hj)⟩
theorem gH.get{w:World}{a:Option Addr}{l:List Ru}(h:gH w a l)(k:Nat)(hk:k<l.length):
  ∃g off,a=some ⟨g,off,none⟩/\g<w.heap.size/\w.cell? ⟨g,off+k*3,none⟩=some (.string l[k].nm)/\w.cell? ⟨g,off+k*3+1,none⟩=some (.int .i64 l[k].k)/\w.cell? ⟨g,off+k*3+2,none⟩=some (.string l[k].rx):=by
 obtain⟨g,off,rfl,hg,hc⟩:=h (by omega);refine⟨g,off,rfl,hg,?_,?_,?_⟩
 ·have:=Qz l k hk 0 (by omega);rw[hc _ (by omega)];exact this
 all_goals
  rw[Nat.add_assoc,hc _ (by omega),Qz l k hk _ (by omega)]
  rfl
theorem gH.take{w:World}{a:Option Addr}{l:List Ru}(h:gH w a l)(k:Nat):gH w a (l.take k):=by
 intro h0;have hl:=List.length_take_le k l;have h1:(l.take k).length<=l.length:=by simp;omega
 obtain⟨g,off,e,hg,hc⟩:=h (by omega);refine⟨g,off,e,hg,fun j hj=>?_⟩;have h3:yp l=yp (l.take k)++yp (l.drop k):=by
  unfold yp;rw[<-List.flatMap_append,List.take_append_drop]
 rw[hc j (by omega),h3,List.getElem?_append_left (by rw[zj5];exact hj)]
theorem TT(a b:ByteArray):(a.toList == b.toList)=true↔a=b:=by
 rw[beq_iff_eq,ByteArray.toList_eq,ByteArray.toList_eq];exact⟨Il,fun h=>by rw[h]⟩
theorem zlH(x:Ru)(b:Nat)(s:ByteArray)(w:World)(hc:w.cell? ⟨b,0,none⟩=some (.string s))(hb:b<w.heap.size):
  Calls prog 30 #[.agg #[.string x.nm,.int .i64 x.k,.string x.rx],.pointer (some ⟨b,0,none⟩)] w (tY (x.nm=s) w):=by
 have k1:=al w (.cells #[.string x.nm,.int .i64 x.k,.string x.rx] 33);have fH:=(k1.cell (p:=⟨b,0,none⟩) hb).trans hc;have hne:¬w.heap.size=b:=by omega
 have HB:=hid k1;have HQ:=hid (TT x.nm s);obtain⟨nm,k,rx⟩:=x;dsimp only at fH HB HQ⊢;clear k1 hb;go_enter func30,ntmps30;go_wp2;go_ret;exact⟨_,rfl,HQ.out,HB.out⟩
def oH(l:List Ru)(s:ByteArray)(r:Int):Prop:=(r=-1/\∀j (h:j<l.length),l[j].nm≠s)\/∃(i:Nat) (h:i<l.length),r=((i:Nat):Int)/\l[i].nm=s/\∀j (h:j<l.length),j<i->l[j].nm≠s
def RR(l:List Ru)(s:ByteArray)(w:World)(e:Ending)(w':World):Prop:=∃r,e=.returned (.int .i64 r)/\oH l s r/\Below w.heap.size w w'
theorem zj6:∀(args:Array Value) (W:World),(callFunc 30 args).run prog W=.ok (.enter 30 args) W:=fun _ _=>by rfl
theorem zhT(n c b:Nat)(a:Option Addr)(l:List Ru)(s:ByteArray)(hl:l.length=n)(hn:n<=9223372036854775807)(w:World)(h1:gH w a l)(hc:w.cell? ⟨b,0,none⟩=some (.string s))(hb:b<w.heap.size):
  Calls prog 29 #[.slice a n c,.func (.func 30) #[] #[.pointer (some ⟨b,0,none⟩)]] w (RR l s w):=by
 have H:=hid (Zz h1 (Zz hl (Zz hc hb)));have Qk:=zj6;clear h1 hl hc hb;go_enter func29,ntmps29;go_wp2_with fail;go_loopw [5,8] (fun _ v wr=>∃k:Nat,v=.int .i64 k/\k<=n/\Hid (Below w.heap.size w wr/\∀j (h:j<l.length),j<k->l[j].nm≠s)) (fun _ v _=>n-(intOf v).toNat)
 ·exact⟨0,rfl,zero_le _,Below.refl _ _,fun j _ h=>by omega⟩
 obtain⟨k,rfl,hk,HL⟩:=hrel;by_cases an:k<n
 ·have hkl:k<l.length:=by rw[H.out.2.1];exact an
  obtain⟨g1,o1,rfl,_,x0,x1,x2⟩:=(H.out.1.below HL.out.1).get k hkl;have HF:=hid (zlH l[k] b s wr ((HL.out.1.cell (p:=⟨b,0,none⟩) H.out.2.2.2).trans H.out.2.2.1) (by have:=H.out.2.2.2;have:=HL.out.1.size;omega));have HS:Hid (l[k].nm≠s->∀j (h:j<l.length),j<k+1->l[j].nm≠s):=fun h j hj hjk=>by
   by_cases e:j=k
   ·subst e;exact h
   exact HL.out.2 j hj (by omega)
  have HY:Hid (l[k].nm=s->oH l s (k:Int)):=fun h=>inr ⟨k,hkl,rfl,h,HL.out.2⟩
  have i1:(k:Int)<n:=by omega
  generalize l[k]=x at x0 x1 x2 HF HS HY;obtain⟨nm,kk,rx⟩:=x;dsimp only at x0 x1 x2 HF HS HY;clear hkl;go_wp2_with fail;refine HF.out.mono ?_;rintro e w2 ⟨y,rfl,hy,b2⟩;have H2:=hid (Zz (HL.out.1.trans (b2.mono HL.out.1.size)) hy);clear b2 hy HF x0 x1 x2;rcases y with _|_
  ·have HZ:=hid (HS.out (fun h=>by have:=H2.out.2.2 h;cases this));go_wp2;go_roundw
   ·exact⟨k+1,by go_num,by omega,H2.out.1,HZ.out⟩
   simp[intOf];omega
  have HZ:=hid (HY.out (H2.out.2.1 rfl));go_wp2;go_ret;exact⟨_,rfl,HZ.out,H2.out.1⟩
 obtain rfl:k=n:=by omega
 have HZ:Hid (oH l s (-1)):=inl ⟨rfl,fun j h=>HL.out.2 j h (by have:=H.out.2.1;omega)⟩;go_wp2;go_ret;exact⟨_,rfl,HZ.out,HL.out.1⟩
theorem Vr(n c:Nat)(a:Option Addr)(l:List Ru)(s:ByteArray)(hl:l.length=n)(hn:n<=9223372036854775807)(w:World)(h1:gH w a l):
  Calls prog 12 #[.slice a n c,.string s] w (RR l s w):=by
 have k1:=al w (.cells #[.string s] 9);have HI:=hid (zhT n c w.heap.size a l s hl hn (w.alloc (.cells #[.string s] 9)) (h1.below k1) ((St.new w 9 #[.string s]).at_ 0) (by simp));have HB:=hid k1;have DE:∀(fn:Fn) (first cap:Array Value) (w:World),(Instr.makeFunc fn first cap).run prog w=.ok (.func fn first cap) w:=fun _ _ _ _=>rfl
 clear k1 hl h1;go_enter func12,ntmps12;go_wp2_with fail;refine HI.out.mono ?_;rintro e w2 ⟨r,rfl,hr,b2⟩;have HF:=hid (Zz hr (HB.out.trans (b2.mono HB.out.size)));clear hr b2 HI;go_wp2;go_ret;exact⟨r,rfl,HF.out.1,HF.out.2⟩
theorem WX(K:Nat->Lit):∀(n i:Nat) (h:i<(rl K n).length),cls K (rl K n)[i]=i/\(rl K n)[i]<n:=by
 intro n
 induction n with
 | zero=>intro i h;simp[rl] at h
 | succ n ih=>
  intro i h;by_cases e:cls K n=(rl K n).length
  ·have e2:rl K (n+1)=rl K n++[n]:=(by rw[rl,if_pos e]);simp only[e2] at h⊢;by_cases hi:i<(rl K n).length
   ·rw[List.getElem_append_left hi];have:=ih i hi;exact⟨this.1,by omega⟩
   have lp:i=(rl K n).length:=(by simp at h;omega);subst lp;simp[e]
  have e2:rl K (n+1)=rl K n:=by rw[rl,if_neg e]
  simp only[e2] at h⊢;have:=ih i h;exact⟨this.1,by omega⟩
theorem zqs(K:Nat->Lit):Ag (cls K) (rl K 256).length/\∀c,c<(rl K 256).length->∃j,j<256/\cls K j=c:=by
 have hg:∀c,c<(rl K 256).length->∃j,j<256/\cls K j=c:=fun c hc=>⟨(rl K 256)[c],(WX K 256 c hc).2,(WX K 256 c hc).1⟩
 have hp:0<(rl K 256).length:=by rw[zm];exact Va K
 refine⟨⟨fun j hj=>(QB K j hj).1,?_⟩,hg⟩;obtain⟨j,hj,e⟩:=hg ((rl K 256).length-1) (by omega);exact⟨j,hj,by omega⟩
theorem bI.in_{mf:Nat->Int}{A:Nat->Prop}{r:Int}(h:bI mf A r)(hm:∀x,mf x<32768):-1<=r/\r<32768:=by
 rcases h with ⟨h1,_⟩|⟨h1,⟨x,_,h2⟩,_⟩
 ·omega
 have:=hm x;omega
theorem Tq{L:List En}{mf:Nat->Int}{w:World}{cD:Array Value}{f0:Nat}{k:Nat}{ms:List Int}(hm:∀x,mf x<32768)
  (h:Made L F nm L' f0 s0 k R SS) (cU:cD.size=258) (ho:∀v∈cD.toList,v.oneCell'=true) (hk:SS.length=k) (eQ:k<=2000) (hD:jD w cD (dK L) R ms (rl (dK L) 256).length) (lO:ms.length=k)
  (lx:∀j (h:j<SS.length) (h2:j<ms.length),bI (fun i=>mf (nm.getD i 0)) (fun x=>x<nm.length/\SS[j] x=true) ms[j]):
  ∃D:Dd,D.cD=cD/\DM w D/\DR D (rl (dK L) 256).length/\D.n=k/\∀(z:Nat->Nat) (m:Nat),(∀j,z j<256)->bI mf (cq L F z m) (bu D (bx D 0 z m)):=by
 obtain⟨aN,cN,A,hN,hzN⟩:=hD.rows;obtain⟨aK,cK,hK,hzK⟩:=hD.marks;have mr:=h.run.len;have dA:∀r∈R,r.length=(rl (dK L) 256).length:=h.run.sg;obtain⟨hC,hg⟩:=zqs (dK L);have jU:1<=k:=by
  have:=h.run.pre.length_le;simp at this;omega
 refine⟨⟨cD,cls (dK L),aN,R.length,cN,A,fun _=>(rl (dK L) 256).length,fun _=>(rl (dK L) 256).length,fun i x=>(R.getD i []).getD x 0,aK,ms.length,cK,fun i=>ms.getD i 0⟩,rfl,⟨cU,ho,hD.cl,fun j hj=>?_,hN,hK,hzN,hzK⟩,⟨hC,by show 1<=R.length;omega,by show R.length<=32768;omega,by show ms.length=R.length;omega,hg,fun i _=>rfl,fun i hi=>?_,fun i c hi hc=>?_⟩,by show R.length=k;omega,fun z m hz=>?_⟩
 ·have:=OR (dK L) j;show cls (dK L) j<256;omega
 ·have hi:i<R.length:=hi;have hl:=lx i (by omega) (by omega);have h1:=hl.in_ (fun x=>hm _);show -1<=ms.getD i 0/\ms.getD i 0<32768;rw[getD_eq_getElem?_getD,List.getElem?_eq_getElem (by omega)];exact h1
 ·have hi:i<R.length:=hi;have hc:c<(rl (dK L) 256).length:=hc;have vu:=dA R[i] (getElem_mem hi);obtain⟨hs,ht⟩:=h.run.pd i hi;have h1:=ht c (by omega);have e:(R.getD i []).getD c 0=R[i][c]'(by omega):=by simp[getD_eq_getElem?_getD,hi,vu,hc]
  show -1<=(R.getD i []).getD c 0/\(R.getD i []).getD c 0<(R.length:Int);rw[e];rcases h1 with ⟨h2,_⟩|⟨_,j,hj,h2,_⟩
  ·omega
  omega
 have QP:∀t,sx nm.length SS (cq L' f0 z t) (bx ⟨cD,cls (dK L),aN,R.length,cN,A,fun _=>(rl (dK L) 256).length,fun _=>(rl (dK L) 256).length,fun i x=>(R.getD i []).getD x 0,aK,ms.length,cK,fun i=>ms.getD i 0⟩ 0 z t):=by
  intro t
  induction t with
  | zero=>exact h.start z
  | succ t ih=>
   show sx _ _ _ (bH _ (bx _ 0 z t) (z t));generalize bx ⟨cD,cls (dK L),aN,R.length,cN,A,fun _=>(rl (dK L) 256).length,fun _=>(rl (dK L) 256).length,fun i x=>(R.getD i []).getD x 0,aK,ms.length,cK,fun i=>ms.getD i 0⟩ 0 z t=a at ih;rcases ih with ⟨rfl,hd⟩|⟨j,hj,rfl,hS⟩
   ·exact inl ⟨by unfold bH;rw[if_neg (by omega)],cq.dead hd⟩
   obtain⟨Gf,hc,hs⟩:=h.step hk z t j (hz t) (inr ⟨j,hj,rfl,hS⟩);unfold bH;rw[if_pos ⟨by omega,by show (j:Int)<(R.length:Int);omega⟩];have e:(R.getD ((j:Int)).toNat []).getD (cls (dK L) (z t)) 0=R[j][cls (dK L) (z t)]'hc:=by
    have h9:((j:Int)).toNat=j:=(by omega);rw[h9];simp[getD_eq_getElem?_getD,Gf,hc]
   show sx _ _ _ ((R.getD ((j:Int)).toNat []).getD (cls (dK L) (z t)) 0);rw[e];exact hs
 have iD:=QP m;generalize bx ⟨cD,cls (dK L),aN,R.length,cN,A,fun _=>(rl (dK L) 256).length,fun _=>(rl (dK L) 256).length,fun i x=>(R.getD i []).getD x 0,aK,ms.length,cK,fun i=>ms.getD i 0⟩ 0 z m=a at iD;rcases iD with ⟨rfl,hd⟩|⟨j,hj,rfl,hS⟩
 ·have e:∀D:Dd,bu D (-1)=-1:=fun D=>by unfold bu;rw[if_neg (by omega)]
  rw[e];exact inl ⟨rfl,fun x hx=>by
   obtain⟨i,hi,_⟩:=((h.names z m).2 x).1 hx
   exact absurd hi (hd i)⟩
 have h9:((j:Int)).toNat=j:=by omega
 unfold bu;rw[if_pos ⟨by omega,by show (j:Int)<(R.length:Int);omega⟩];show bI mf (cq L F z m) (ms.getD ((j:Int)).toNat 0);rw[h9,getD_eq_getElem?_getD,List.getElem?_eq_getElem (by omega)];exact h.mark hj (inr ⟨j,hj,rfl,hS⟩) (lx j hj (by omega))
theorem WZ{α β:Type}{f:α->β}{l:List α}(hn:l.Nodup)(h:∀a∈l,∀b∈l,f a=f b->a=b):(l.map f).Nodup:=by
 induction l with
 | nil=>simp
 | cons a l ih=>
  rw[map_cons,List.nodup_cons];obtain⟨h1,h2⟩:=List.nodup_cons.1 hn;refine⟨fun hm=>?_,ih h2 (fun x hx y hy=>h x (mem_cons_of_mem _ hx) y (mem_cons_of_mem _ hy))⟩;obtain⟨b,hb,e⟩:=List.mem_map.1 hm;exact h1 (h b (mem_cons_of_mem _ hb) a (by simp) e ▸ hb)
theorem zgW{α:Type}(p:α->Bool)(l:List α):l.length=(l.filter p).length+(l.filter fun x=>!p x).length:=by
 induction l with
 | nil=>rfl
 | cons a l ih=>
  simp only[filter_cons,length_cons];cases p a <;> simp <;> omega
theorem zqt:∀(n:Nat) (l:List (List Bool)),l.Nodup->(∀v∈l,v.length=n)->l.length<=2 ^ n:=by
 intro n
 induction n with
 | zero=>
  intro l hn h
  match l,hn,h with
  | [],_,_=>simp
  | [a],_,_=>simp
  | a :: b :: l,hn,h=>
   have h1:=List.length_eq_zero_iff.1 (h a (by simp));have h2:=List.length_eq_zero_iff.1 (h b (by simp));subst h1 h2;simp at hn
 | succ n ih=>
  intro l hn h;have key:∀(p:List Bool->Bool) (x:Bool),(∀v∈l,p v=true->v=x :: v.tail)->(l.filter p).length<=2 ^ n:=fun p x hp=>by
   have h1:((l.filter p).map List.tail).Nodup:=WZ (hn.filter p) (fun a ha b hb e=>by
    obtain⟨ha1,ha2⟩:=List.mem_filter.1 ha
    obtain⟨fp,cr⟩:=List.mem_filter.1 hb
    rw[hp a ha1 ha2,hp b fp cr,e])
   have h2:=ih _ h1 (fun v hv=>by
    obtain⟨u,hu,rfl⟩:=List.mem_map.1 hv
    have:=h u (List.mem_filter.1 hu).1
    simp[this])
   simpa using h2
  have a1:=key (fun v=>v.headD false) true (fun v hv hp=>by
   have:=h v hv
   match v,this,hp with
   | x :: v,_,hp=>simp at hp;rw[hp];rfl)
  have a2:=key (fun v=>!v.headD false) false (fun v hv hp=>by
   have:=h v hv
   match v,this,hp with
   | x :: v,_,hp=>simp at hp;rw[hp];rfl)
  have a3:=zgW (fun v:List Bool=>v.headD false) l;rw[Nat.pow_succ];omega
def nB(L:List En):Nat:=(L.filter fun e=>!e.b).length
theorem zqu(nm:List Nat)(L:List En):nB (L.map (En.oa nm))=nB L:=by
 unfold nB
 induction L with
 | nil=>rfl
 | cons e L ih=>
  have h:(En.oa nm e).b=e.b:=rfl;simp only[map_cons,filter_cons,h];cases e.b <;> simp_all
theorem Vo{L:List En}{f0 k:Nat}(h:Made L F nm L' f0 s0 k R SS):SS.length<=1+2 ^ nB L:=by
 have hd:rZ nm.length SS:=h.run.xA (fun i j hi hj _=>by simp at hi hj;omega);have jL:=h.run.src;have hx:∀i,∃(g:Nat->Bool) (d:Nat),∀(hi:i+1<SS.length) (x:Nat),x<nm.length->(SS[i+1] x=true↔Fs L' nm.length (py (dK L)) g d x):=fun i=>by
  by_cases hi:i+1<SS.length
  ·obtain⟨i',hi',d,_,_,_,h2⟩:=jL (i+1) hi (by simp);exact⟨SS[i'],d,fun _=>h2⟩
  exact⟨fun _=>false,0,fun h=>absurd h hi⟩
 obtain⟨G,hG⟩:∃G:Nat->(Nat->Bool) × Nat,∀i (hi:i+1<SS.length) (x:Nat),x<nm.length->(SS[i+1] x=true↔Fs L' nm.length (py (dK L)) (G i).1 (G i).2 x):=
  ⟨fun i=>(Classical.choose (hx i),Classical.choose (choose_spec (hx i))),fun i=>choose_spec (choose_spec (hx i))⟩
 have e1:nB L'=nB L:=by rw[h.oa,zqu]
 have h1:=zqt (nB L') ((range (SS.length-1)).map fun i=>(L'.filter fun e=>!e.b).map fun e=>e.p (py (dK L) (G i).2) && (G i).1 e.f) (WZ List.nodup_range (fun i hi j hj e=>by
  have hi:i<SS.length-1:=by simpa using hi
  have hj:j<SS.length-1:=by simpa using hj
  have he:∀e∈L',e.b=false->(e.p (py (dK L) (G i).2) && (G i).1 e.f)=(e.p (py (dK L) (G j).2) && (G j).1 e.f):=fun x hx hb=>by
   have:=List.map_inj_left.1 e x (List.mem_filter.2 ⟨hx,by simp[hb]⟩)
   exact this
  have hM:∀y,Mv L' (fun y=>y<nm.length/\(G i).1 y=true) (py (dK L) (G i).2) y↔Mv L' (fun y=>y<nm.length/\(G j).1 y=true) (py (dK L) (G j).2) y:=fun y=>by
   constructor
   ·rintro⟨e,h1,h2,h3,h4,h5⟩
    have:=he e h1 h2
    rw[h3,h4.2] at this
    have h6:e.p (py (dK L) (G j).2)=true/\(G j).1 e.f=true:=by simpa using this.symm
    exact⟨e,h1,h2,h6.1,⟨h4.1,h6.2⟩,h5⟩
   ·rintro⟨e,h1,h2,h3,h4,h5⟩
    have:=he e h1 h2
    rw[h3,h4.2] at this
    have h6:e.p (py (dK L) (G i).2)=true/\(G i).1 e.f=true:=by simpa using this
    exact⟨e,h1,h2,h6.1,⟨h4.1,h6.2⟩,h5⟩
  have h9:=hd (i+1) (j+1) (by omega) (by omega) (fun x hx=>by
   rw[Bool.eq_iff_iff,hG i (by omega) x hx,hG j (by omega) x hx]
   exact FR.congr hM x)
  omega)) (fun v hv=>by
   obtain⟨i,_,rfl⟩:=List.mem_map.1 hv
   simp[nB])
 rw[e1] at h1;simp at h1;omega
theorem NX(t:Rx):∀o,(eH t o).length<=4*t.flat.length:=by
 induction t with
 | leaf x=>intro o;simp[eH,gn,Rx.flat]
 | un x a ih=>
  intro o;have h1:=ih o;have h2:(eW x.k (o+a.flat.length-1) (o+a.flat.length)).length<=4:=by
   unfold eW;split <;> split <;> simp
  simp only[eH,Rx.flat,length_append,length_cons,length_nil];omega
 | bin x a b ih jh=>
  intro o;have h1:=ih o;have h2:=jh (o+a.flat.length);have h3:(dd x.k (o+a.flat.length-1) (o+a.flat.length+b.flat.length-1) (o+a.flat.length+b.flat.length)).length<=4:=by
   unfold dd;split <;> simp
  simp only[eH,Rx.flat,length_append,length_cons,length_nil];omega
theorem UQ(a b:List En):nB (a++b)=nB a+nB b:=by simp[nB]
theorem Y0(t:Rx):∀o,2*nB (eH t o)<=t.flat.length+1:=by
 induction t with
 | leaf x=>
  intro o;have:=List.length_filter_le (fun e:En=>!e.b) (gn x o);have h2:(gn x o).length=1:=rfl;simp only[eH,Rx.flat,length_cons,length_nil,nB];omega
 | un x a ih=>
  intro o;have h1:=ih o;have h2:nB (eW x.k (o+a.flat.length-1) (o+a.flat.length))=0:=by
   unfold nB eW bB;split <;> split <;> simp
  simp only[eH,Rx.flat,UQ,length_append,length_cons,length_nil];omega
 | bin x a b ih jh=>
  intro o;have h1:=ih o;have h2:=jh (o+a.flat.length);have h3:nB (dd x.k (o+a.flat.length-1) (o+a.flat.length+b.flat.length-1) (o+a.flat.length+b.flat.length))=0:=by
   unfold nB dd bB;split <;> simp
  simp only[eH,Rx.flat,UQ,length_append,length_cons,length_nil];omega
theorem Vf(L:List En):(cv (L.map En.z)).length=nB L:=by
 unfold nB
 induction L with
 | nil=>rfl
 | cons e L ih=>
  have h:(En.z e).b=e.b:=rfl;simp only[cv,map_cons,filter_cons,h] at ih⊢;cases e.b <;> simp_all
theorem zpH{s:List Nat}{l:List Pc}(h:bf (dw 99) ([],s)=some (l,[])):l.length<2*s.length:=by
 have:=(QT (yH 99) _ _ h).2;simpa using this
theorem zqv(t:Rx):rA ((2*t.flat.length:Nat):Int) ((eH t 0).map En.z) ((2*ez t 0:Nat):Int) ((2*ez t 0+1:Nat):Int)=true:=by
 have h1:=PG t 0;unfold rA;rw[Bool.and_eq_true,Bool.and_eq_true,List.all_eq_true];refine⟨fun x hx=>?_,JT.2 ⟨by omega,by omega⟩,JT.2 ⟨by omega,by omega⟩⟩;obtain⟨e,he,rfl⟩:=List.mem_map.1 hx;have h2:=Fg t 0 e he;unfold xG;rw[Bool.and_eq_true];exact⟨JT.2 ⟨by show (0:Int)<=(e.f:Int);omega,by show (e.f:Int)<_;omega⟩,JT.2 ⟨by show (0:Int)<=(e.t:Int);omega,by show (e.t:Int)<_;omega⟩⟩
def fx(s:ByteArray)(t:Rx):Prop:=t.wf/\bf (dw 99) ([],aa s)=some (t.flat,[])/\t.flat.length<=400
def OM(t:Rx)(X:Dd):Prop:=∀(z:Nat->Nat) (m:Nat),(∀j,z j<256)->(dO t ((range m).map z)->bu X (bx X 0 z m)=0)/\(¬dO t ((range m).map z)->bu X (bx X 0 z m)=-1)
def BN(s:ByteArray)(w:World)(e:Ending)(w':World):Prop:=Below w.heap.size w w'/\
 (
  (∃er:Nat,nz s er/\e=.returned (.tuple #[.agg (zC 39),.int .i64 (er:Int)]))\/
  (∃t,fx s t/\((2000<1+2 ^ nB (eH t 0)/\e=.returned (.tuple #[.agg (zC 39),.int .i64 6]))\/∃(X:Dd) (C:Nat),e=.returned (.tuple #[.agg X.cD,.int .i64 0])/\DM w' X/\Mn X C/\OM t X)))
theorem zhV{T:Nat}{A:Nat->Prop}{r:Int}(h:bI (fun x=>if x=T then 0 else -1) A r):(A T->r=0)/\(¬A T->r=-1):=by
 rcases h with ⟨h1,h2⟩|⟨h1,⟨x,hx,h2⟩,h3⟩
 ·refine⟨fun h=>?_,fun _=>h1⟩;have:=h2 T h;simp at this
 by_cases e:x=T
 ·subst e;simp at h2;exact⟨fun _=>h2.symm,fun h=>absurd hx h⟩
 simp[e] at h2;omega
theorem znw(s:ByteArray)(hs:s.size<=1600)(w:World):Calls prog 21 #[.string s] w (BN s w):=by
 have k0:=al w (.cells (zC 39) 39);have HB:=hid (Zz (St.new w 39 (zC 39)) k0);have mB:=hid (T8 s hs (w.alloc (.cells (zC 39) 39)));clear k0;go_enter func21,ntmps21;go_upto_region 1 with (refine oO rfl 39 rfl (zC 39) (lP _) ?_);obtain⟨b0,aD⟩:∃b0,w.heap.size=b0:=⟨_,rfl⟩
 have cP:=hid aD;rw[aD] at HB;rw[aD];clear aD;generalize w.alloc (.cells (zC 39) 39)=W0 at HB mB⊢;go_wp2_with (go_at_call 39;refine mB.out.mono ?_);rintro e w1 hp;rcases hp with ⟨er,hE,rfl,b1⟩|⟨t,hw,p6,hle,a,c,rfl,hO,b1⟩
 ·have H1:=hid (Zz (HB.out.1.ab b1) (HB.out.2.trans (b1.mono (by have:=HB.out.2.size;have:=cP.out;omega))));have fp:=b1.size;have HER:Hid (nz s er):=hE;have Gw:((er:Int) != 0)=true:=by
   rcases hE with ⟨rfl,_⟩|⟨rfl,_⟩ <;> rfl
  have HF:Hid (BN s w (.returned (.tuple #[.agg (zC 39),.int .i64 (er:Int)])) ((w1.alloc (.cells #[.int .i64 0,.slice none 0 0,.int .i64 0,.int .i64 0] 67)).setRow b0 (zC 39))):=by
   refine⟨?_,inl ⟨er,hE,rfl⟩⟩;have hz:=H1.out.2.size;have h1:Below b0 w (w1.alloc (.cells #[.int .i64 0,.slice none 0 0,.int .i64 0,.int .i64 0] 67)):=H1.out.2.trans ((al w1 _).mono (by have:=cP.out;omega));have:=lk h1 (Nat.le_refl b0) (zC 39);rw[cP.out];exact this
  have gD:=hid (H1.out.1.alloc (.cells #[.int .i64 0,.slice none 0 0,.int .i64 0,.int .i64 0] 67));clear hE b1 mB;go_wp2_with (first
   | (refine zw rfl 39 _ rfl #[] (by first|rfl|kernel_rfl|(go_simp;done)) (.agg (zC 39)) (GM _) ?_)
   | (refine l6 rfl 39 _ _ rfl b0 39 (zC 39) (zC 39) rfl rfl gD.out rfl (by rw[fB,ir]) Bz ?_))
  refine bodyPost_ret (wR rfl _ _ b0 (zC 39) _ rfl gD.out.setRow.part underlying39 rfl (by rw[fB,ir])) rfl ?_;exact HF.out
 have HT:Hid (fx s t):=⟨hw,p6,hle⟩
 have H1:=hid (Zz (HB.out.1.ab b1) (Zz (HB.out.2.trans (b1.mono (by have:=HB.out.2.size;have:=cP.out;omega))) hO));have fp:=b1.size;have Uo:=hid (zqv t);have Uq:=hid (NX t 0);have DO:=hid (Y0 t 0);have Ud:=hid (PG t 0);have Hin:=hid (Fg t 0);obtain⟨S,hS⟩:∃S:Nat,2*t.flat.length=S:=⟨_,rfl⟩
 obtain⟨F,hF⟩:∃F:Nat,2*ez t 0=F:=⟨_,rfl⟩
 obtain⟨T,hT⟩:∃T:Nat,2*ez t 0+1=T:=⟨_,rfl⟩
 obtain⟨m,iQ⟩:∃m,(eH t 0).length=m:=⟨_,rfl⟩
 have HQ:=hid (Zz hS (Zz hF (Zz hT iQ)));rw[iQ] at H1 Uq;rw[hS,hT,hF] at Uo;rw[hS,hT,hF,iQ];clear hS hF hT iQ hw p6 b1 hO mB;have kN:=al w1 (.cells #[.int .i64 (S:Int),.slice a m c,.int .i64 (F:Int),.int .i64 (T:Int)] 67);have HN:=hid (Zz kN (St.new w1 67 #[.int .i64 (S:Int),.slice a m c,.int .i64 (F:Int),.int .i64 (T:Int)]));clear kN;go_upto_region 4 with fail;generalize w1.alloc (.cells #[.int .i64 (S:Int),.slice a m c,.int .i64 (F:Int),.int .i64 (T:Int)] 67)=W2 at HN⊢;obtain⟨bN,Lx⟩:∃bN,w1.heap.size=bN:=⟨_,rfl⟩
 rw[Lx] at HN;rw[Lx];have H2:Hid (St W2 39 b0 (zC 39)/\Below b0 w W2/\b0<=W2.heap.size):=by
  have hk:Below w1.heap.size w1 W2:=by rw[Lx];exact HN.out.1
  have hz:=H1.out.2.1.size;have ct:=hk.size;exact⟨H1.out.1.ab hk,H1.out.2.1.trans (hk.mono (by have:=cP.out;omega)),by have:=cP.out;omega⟩
 obtain⟨r0,r1,r2,r3⟩:=HN.out.2.bS;have Ya:gq W2 a ((eH t 0).map En.z):=by
  have h1:gq w1 a ((eH t 0).map En.z):=by
   intro h0;obtain⟨g,e,_,hg,hc⟩:=ep H1.out.2.2 (by rw[length_map,HQ.out.2.2.2] at h0;exact h0);exact⟨g,0,e,hg,fun j hj=>by rw[zero_add,(hc j (by rw[length_map,HQ.out.2.2.2] at hj;exact hj)).1]⟩
  exact h1.below (by rw[Lx];exact HN.out.1)
 have HO:=hid (zp1 (S:Int) F T (eH t 0) a m c W2 Ya HQ.out.2.2.2 (by have:=Uq.out;omega) (by rw[Vf];have:=DO.out;omega) (by have:=HQ.out;have:=Ud.out;omega) (by have:=HQ.out;have:=Ud.out;omega) (fun e he=>by have:=Hin.out e he;omega) Uo.out);clear Ya;go_upto_region 5 with (first
  | (go_at_call 40;refine HO.out.mono ?_;rintro e w3 ⟨cD,er,nm,L',f0,s0,k,R,SS,rfl,b3,FV,cU,BL,uO⟩)
  | (refine oO rfl 39 rfl (zC 39) (lP _) ?_)
  | (refine l6 rfl 39 _ _ rfl w3.heap.size 39 (zC 39) cD rfl rfl (St.new w3 _ _) (by rw[ir,cU]) (by rw[fB,cU]) BL ?_))
 try simp only[put,sA,sB,sC]
 have FP:=hid (Zz cU BL);have Jm:=hid FV;have kV:Below w3.heap.size w3 ((w3.alloc (.cells (zC 39) 39)).setRow w3.heap.size cD):=lk (al w3 _) (Nat.le_refl _) _;have sV:St ((w3.alloc (.cells (zC 39) 39)).setRow w3.heap.size cD) 39 w3.heap.size cD:=(St.new w3 _ _).setRow;have zq:=b3.size;have H7:Hid (St ((w3.alloc (.cells (zC 39) 39)).setRow w3.heap.size cD) 39 b0 (zC 39)/\Below b0 w ((w3.alloc (.cells (zC 39) 39)).setRow w3.heap.size cD)):=by
  have hz:=H2.out.2.2;exact⟨(H2.out.1.ab b3).ab kV,(H2.out.2.1.trans (b3.mono hz)).trans (kV.mono (by omega))⟩
 have oD:Hid (b0<=w3.heap.size):=by have:=H2.out.2.2;show b0<=_;omega
 obtain⟨b7,ub⟩:∃b7,w3.heap.size=b7:=⟨_,rfl⟩
 have I1:=hid ub;rw[ub] at kV sV H7;rw[ub];clear ub FV cU BL zq b3 HO r0 r1 r2 r3;rcases uO with ⟨rfl,kO,rfl⟩|⟨rfl,hk,eQ,ms,hD,lO,lx⟩
 ·generalize (w3.alloc (.cells (zC 39) 39)).setRow b7 (zC 39)=V at kV sV H7⊢;have HF:Hid (BN s w (.returned (.tuple #[.agg (zC 39),.int .i64 6])) (V.setRow b0 (zC 39))):=by
   refine⟨?_,inr ⟨t,HT.out,inl ⟨?_,rfl⟩⟩⟩
   ·have:=lk H7.out.2 (Nat.le_refl b0) (zC 39);rw[cP.out];exact this
   have:=Vo Jm.out;omega
  clear kO kV sV;go_wp2_with (first
   | (refine zw rfl 39 _ rfl #[] (by first|rfl|kernel_rfl|(go_simp;done)) (.agg (zC 39)) (GM _) ?_)
   | (refine l6 rfl 39 _ _ rfl b0 39 (zC 39) (zC 39) rfl rfl H7.out.1 rfl (by rw[fB,ir]) Bz ?_))
  refine bodyPost_ret (wR rfl _ _ b0 (zC 39) _ rfl H7.out.1.setRow.part underlying39 rfl (by rw[fB,ir])) rfl ?_;exact HF.out
 obtain⟨D,rfl,Jx,Eo,Oo,A6⟩:=Tq (mf:=fun x=>if x=T then 0 else -1) (fun x=>by show (if x=T then (0:Int) else -1)<32768;split <;> omega) Jm.out FP.out.1 FP.out.2 hk eQ hD lO lx;have s9:=Jx.below (by rw[I1.out];exact kV);generalize (w3.alloc (.cells (zC 39) 39)).setRow b7 D.cD=V at kV sV H7 s9⊢;have HX:Hid (∀z m,(∀j,z j<256)->bI (fun x=>if x=T then 0 else -1) (cq (eH t 0) F z m) (bu D (bx D 0 z m))):=A6;have Ad:=hid (Z5 D _ Eo V s9);have Gl:=hid (Zz sV s9);have QD:Hid (b0<=V.heap.size):=by have:=oD.out;have:=kV.size;have:=I1.out;show b0<=_;omega
 have HRD:=hid Eo;clear Jx Eo Oo A6 hk eQ hD lO lx kV sV s9;go_upto_region 7 with fail;go_wp2_with (first
  | (refine kc (by rfl) 39 _ rfl ⟨b7,0,none⟩ rfl D.cD _ Gl.out.1.part underlying39 rfl Gl.out.2.info ?_)
  | (go_at_call 33;refine Ad.out.mono ?_;rintro e w9 ⟨X,C',rfl,pZ,rL,Q2,_,b9⟩)
  | (refine l6 rfl 39 _ _ rfl b0 39 (zC 39) X.cD rfl rfl (H7.out.1.ab b9) (by rw[ir,pZ.sz]) (by rw[fB,pZ.sz]) pZ.one ?_))
 refine bodyPost_ret (wR rfl _ _ b0 X.cD _ rfl (H7.out.1.ab b9).setRow.part underlying39 rfl (by rw[fB,pZ.sz])) rfl ?_;refine⟨?_,inr ⟨t,HT.out,inr ⟨X,C',rfl,(cm.stored rL.r pZ (H7.out.1.ab b9)).dm,rL,fun z k hz=>?_⟩⟩⟩
 ·have:=lk (H7.out.2.trans (b9.mono QD.out)) (Nat.le_refl b0) X.cD;rw[cP.out];exact this
 rw[Q2 z k hz];have h1:=zhV (HX.out z k hz);have h2:=Kv t HT.out.1 z hz k;rw[HQ.out.2.2.1,HQ.out.2.1] at h2;exact⟨fun h=>h1.1 (h2.2 h),fun h=>h1.2 (fun hh=>h (h2.1 hh))⟩
def CM(b:Bool):Int:=if b then 0 else 8
theorem zgY(s:ByteArray)(w:World)(hs:s.size<=maxLen):
  Calls prog 47 #[.string s] w fun e w'=>e=.returned (.int .i64 (CM (dI s)))/\w'=w:=by
 go_enter func47,ntmps47;go_wp2_with fail;refine (znf s _ hs).mono ?_;rintro e w1 ⟨rfl,rfl⟩;rcases hn:dI s with _|_
 ·have HN:=hid hn;clear hn;go_wp2;go_ret;exact⟨by rw[HN.out];rfl,rfl⟩
 have HN:=hid hn;clear hn;go_wp2;go_ret;exact⟨by rw[HN.out];rfl,rfl⟩
def hY(k:Int):Bool:=k == 0 || (k == 1 || k == 2)
theorem zj7(k:Int)(w:World):Calls prog 48 #[.int .i64 k] w fun e w'=>e=.returned (.bool (hY k))/\w'=w:=by
 have HZ:Hid (∀a b c,(k == 0)=a->(k == 1)=b->(k == 2)=c->hY k=(a || (b || c))):=fun a b c h1 h2 h3=>by unfold hY;rw[h1,h2,h3]
 rcases h0:(k == 0) with _|_
 ·rcases h1:(k == 1) with _|_
  ·rcases h2:(k == 2) with _|_
   ·have HV:=hid (HZ.out _ _ _ h0 h1 h2);go_enter func48,ntmps48;go_wp2;go_ret;exact⟨by rw[HV.out];rfl,rfl⟩
   have HV:=hid (HZ.out _ _ _ h0 h1 h2);go_enter func48,ntmps48;go_wp2;go_ret;exact⟨by rw[HV.out];rfl,rfl⟩
  have HV:=hid (HZ.out _ _ _ h0 h1 rfl);go_enter func48,ntmps48;go_wp2;go_ret;exact⟨by rw[HV.out];rfl,rfl⟩
 have HV:=hid (HZ.out _ _ _ h0 rfl rfl);go_enter func48,ntmps48;go_wp2;go_ret;exact⟨by rw[HV.out];rfl,rfl⟩
def Aq(pre:List Ru)(x:Ru)(er:Int):Prop:=
 (dI x.nm=false/\er=8)\/(dI x.nm=true/\
  ((
   (∃y∈pre,y.nm=x.nm)/\er=9)\/((∀y∈pre,y.nm≠x.nm)/\
   ((
    hY x.k=false/\er=1)\/(hY x.k=true/\
    ((∃e5:Nat,nz x.rx e5/\er=(e5:Int))\/(∃t,fx x.rx t/\((2000<1+2 ^ nB (eH t 0)/\er=6)\/(dO t []/\er=14)\/(¬dO t []/\er=0)))))))))
def qX(pre:List Ru)(x:Ru)(w:World)(e:Ending)(w':World):Prop:=∃er,e=.returned (.int .i64 er)/\Aq pre x er/\Below w.heap.size w w'
theorem oH.mem{l:List Ru}{s:ByteArray}{r:Int}(h:oH l s r):(0<=r->∃y∈l,y.nm=s)/\(¬0<=r->∀y∈l,y.nm≠s):=by
 rcases h with ⟨rfl,h⟩|⟨i,hi,rfl,h,_⟩
 ·refine⟨fun h=>by omega,fun _ y hy=>?_⟩;obtain⟨j,hj,rfl⟩:=List.getElem_of_mem hy;exact h j hj
 exact⟨fun _=>⟨_,getElem_mem hi,h⟩,fun h=>by omega⟩
theorem zfT(n c:Nat)(a:Option Addr)(l:List Ru)(hl:l.length=n)(hn:n<=100000)(xw:n<=c)(i:Nat)(hi:i<l.length)(jV:l[i].nm.size<=maxLen)(Bt:l[i].rx.size<=1600)(w:World)(h1:gH w a l):
  Calls prog 27 #[.slice a n c,.int .i64 (i:Int)] w (qX (l.take i) l[i] w):=by
 obtain⟨g1,o1,rfl,lE,x0,x1,x2⟩:=h1.get i hi;have nb:i<n:=by omega
 have i1:(i:Int)<n:=by omega
 have i2:(i:Int)<=n:=by omega
 have i3:i<=c:=by omega
 have Jq:=hid (h1.take i);have D5:Hid ((l.take i).length=i):=by show _=_;rw[List.length_take];omega
 generalize l.take i=pre at Jq D5⊢;generalize l[i]=x at x0 x1 x2 jV Bt⊢;obtain⟨nm,kk,rx⟩:=x;dsimp only at x0 x1 x2 jV Bt;have k1:=al w (.cells #[.string nm,.int .i64 kk,.string rx] 33);have HB:=hid (Zz k1 (St.new w 33 #[.string nm,.int .i64 kk,.string rx]));have Hrx:=hid Bt;have MP:=hid jV;clear k1 h1 hl hi Bt jV;go_enter func27,ntmps27;go_upto_region 2 with fail;clear x0 x1 x2;obtain⟨b,aD⟩:∃b,w.heap.size=b:=⟨_,rfl⟩
 have cP:=hid aD;rw[aD] at HB lE;rw[aD];clear aD;generalize w.alloc (.cells #[.string nm,.int .i64 kk,.string rx] 33)=W0 at HB⊢;have nL:Hid (∀W',Below W0.heap.size W0 W'->Below w.heap.size w W'):=fun W' h=>by
  have hz:=HB.out.1.size;rw[cP.out];exact HB.out.1.trans (h.mono (by have:=cP.out;omega))
 have Qy:Hid (∀W',Below W0.heap.size W0 W'->W'.cell? ⟨b,0,none⟩=some (.string nm)/\W'.cell? ⟨b,1,none⟩=some (.int .i64 kk)/\W'.cell? ⟨b,2,none⟩=some (.string rx)):=fun W' h=>⟨(HB.out.2.ab h).at_ 0,(HB.out.2.ab h).at_ 1,(HB.out.2.ab h).at_ 2⟩
 obtain⟨c0,c1,c2⟩:=Qy.out W0 (Below.refl _ _);have Uv:=hid (zgY nm W0 MP.out);go_upto_region 3 with (go_at_call 47;refine Uv.out.mono ?_;rintro e w1 ⟨rfl,h1⟩;rw[h1];clear h1);rcases hN:dI nm with _|_
 ·have HZ:Hid (qX pre ⟨nm,kk,rx⟩ w (.returned (.int .i64 8)) W0):=⟨8,rfl,inl ⟨hN,rfl⟩,nL.out _ (Below.refl _ _)⟩
  rw[show CM false=8 from rfl];clear hN;go_wp2;go_ret;exact HZ.out
 rw[show CM true=0 from rfl];have HN:=hid hN;clear hN Uv;have AE:Hid (∀W,Below W0.heap.size W0 W->Calls prog 12 #[.slice (some ⟨g1,o1,none⟩) i c,.string nm] W (RR pre nm W)):=fun W h=>Vr i c _ pre nm D5.out (by omega) W (Jq.out.below (nL.out W h))
 go_upto_region 5 with fail;clear c0 c1 c2;have dG:Hid (∀W',Below W0.heap.size W0 W'->Below W0.heap.size W0 W'/\W'.cell? ⟨b,0,none⟩=some (.string nm)):=fun W' h=>⟨h,(Qy.out W' h).1⟩
 refine wp_region_held_drew (S:=fun W'=>Below W0.heap.size W0 W'/\W'.cell? ⟨b,0,none⟩=some (.string nm)) (by kernel_rfl) (dG.out _ (Below.refl _ _).drew) (fun hHeld=>?_)
 (refine av 0 ?_;refine av 1 ?_;refine av 2 ?_;try simp only[put,sA,sB,sC];refine av 3 ?_;refine av 4 ?_;try simp only[put,sA,sB,sC])
 refine bq 5 (fun K hK=>?_);skip;go_simp;go_at_call 12;refine (AE.out _ hHeld.1).mono ?_;rintro e w2 ⟨r,rfl,hr,v2⟩;have bY:Below W0.heap.size W0 w2:=hHeld.1.trans (v2.mono hHeld.1.size);clear v2
 try go_wp2_with fail
 refine hK.out _ _ (dG.out _ bY) (fun hHeld=>?_);clear hK K
 try simp only[put,sA,sB,sC]
 (refine av 6 ?_;try simp only[put,sA,sB,sC])
 refine wpAnyH_done (by kernel_rfl) ?_ _;have qw:=hid (Zz bY hr);clear hHeld bY hr;obtain⟨c0,c1,c2⟩:=Qy.out w2 qw.out.1;by_cases h9:0<=r
 ·have HZ:Hid (qX pre ⟨nm,kk,rx⟩ w (.returned (.int .i64 9)) w2):=⟨9,rfl,inr ⟨HN.out,inl ⟨qw.out.2.mem.1 h9,rfl⟩⟩,nL.out _ qw.out.1⟩
  go_wp2;go_ret;exact HZ.out
 have nN:=hid (qw.out.2.mem.2 h9);have HK:=hid (zj7 kk w2);rcases yd:hY kk with _|_
 ·have HZ:Hid (qX pre ⟨nm,kk,rx⟩ w (.returned (.int .i64 1)) w2):=⟨1,rfl,inr ⟨HN.out,inr ⟨nN.out,inl ⟨yd,rfl⟩⟩⟩,nL.out _ qw.out.1⟩
  rw[yd] at HK;clear yd;go_wp2_with (go_at_call 48;refine HK.out.mono ?_;rintro e w3 ⟨rfl,h3⟩;rw[h3];clear h3);go_ret;exact HZ.out
 have Cq:=hid yd;rw[yd] at HK;have Y6:=hid (znw rx Hrx.out w2);clear yd;go_upto_region 9 with (go_at_call 48;refine HK.out.mono ?_;rintro e w3 ⟨rfl,h3⟩;rw[h3];clear h3);go_wp2_with (go_at_call 21;refine Y6.out.mono ?_);rintro e w3 ⟨b3,uO⟩;have H3:=hid (qw.out.1.trans (b3.mono qw.out.1.size));clear b3 Y6 HK;rcases uO with ⟨er,hE,rfl⟩|⟨t,hT,⟨kO,rfl⟩|⟨X,C,rfl,pZ,rL,XX⟩⟩
 ·have Gw:((er:Int) != 0)=true:=by
   rcases hE with ⟨rfl,_⟩|⟨rfl,_⟩ <;> rfl
  have dH:Below W0.heap.size W0 ((w3.alloc (.cells (zC 39) 39)).setRow w3.heap.size (zC 39)):=lk (H3.out.trans ((al w3 _).mono H3.out.size)) H3.out.size _;have HZ:Hid (qX pre ⟨nm,kk,rx⟩ w (.returned (.int .i64 (er:Int))) ((w3.alloc (.cells (zC 39) 39)).setRow w3.heap.size (zC 39))):=⟨_,rfl,inr ⟨HN.out,inr ⟨nN.out,inr ⟨Cq.out,inl ⟨er,hE,rfl⟩⟩⟩⟩,nL.out _ dH⟩
  clear hE dH;go_wp2_with (first
   | (refine oO rfl 39 rfl (zC 39) (lP _) ?_)
   | (refine l6 rfl 39 _ _ rfl w3.heap.size 39 (zC 39) (zC 39) rfl rfl (St.new w3 _ _) rfl (by rw[fB,ir]) Bz ?_))
  go_ret;exact HZ.out
 ·have dH:Below W0.heap.size W0 ((w3.alloc (.cells (zC 39) 39)).setRow w3.heap.size (zC 39)):=lk (H3.out.trans ((al w3 _).mono H3.out.size)) H3.out.size _;have HZ:Hid (qX pre ⟨nm,kk,rx⟩ w (.returned (.int .i64 6)) ((w3.alloc (.cells (zC 39) 39)).setRow w3.heap.size (zC 39))):=⟨_,rfl,inr ⟨HN.out,inr ⟨nN.out,inr ⟨Cq.out,inr ⟨t,hT,inl ⟨kO,rfl⟩⟩⟩⟩⟩,nL.out _ dH⟩
  clear hT kO dH;go_wp2_with (first
   | (refine oO rfl 39 rfl (zC 39) (lP _) ?_)
   | (refine l6 rfl 39 _ _ rfl w3.heap.size 39 (zC 39) (zC 39) rfl rfl (St.new w3 _ _) rfl (by rw[fB,ir]) Bz ?_))
  go_ret;exact HZ.out
 have LX:=hid (Zz pZ (Zz rL (Zz XX hT)));have dH:Below W0.heap.size W0 ((w3.alloc (.cells (zC 39) 39)).setRow w3.heap.size X.cD):=lk (H3.out.trans ((al w3 _).mono H3.out.size)) H3.out.size _;have kV:Below w3.heap.size w3 ((w3.alloc (.cells (zC 39) 39)).setRow w3.heap.size X.cD):=lk (al w3 _) (Nat.le_refl _) _;have sV:St ((w3.alloc (.cells (zC 39) 39)).setRow w3.heap.size X.cD) 39 w3.heap.size X.cD:=(St.new w3 _ _).setRow;go_upto_region 10 with (first
  | (refine oO rfl 39 rfl (zC 39) (lP _) ?_)
  | (refine l6 rfl 39 _ _ rfl w3.heap.size 39 (zC 39) X.cD rfl rfl (St.new w3 _ _) (by rw[ir,pZ.sz]) (by rw[fB,pZ.sz]) pZ.one ?_))
 try simp only[put,sA,sB,sC]
 have s9:=pZ.below kV;generalize (w3.alloc (.cells (zC 39) 39)).setRow w3.heap.size X.cD=V at dH kV sV s9⊢;generalize w3.heap.size=b7 at kV sV⊢;have HV:=hid (Zz sV (Zz s9 dH));have HH:=hid (zn9 X C LX.out.2.1.r ⟨#[]⟩ 0 rfl (by omega) V s9);have HL:=hid (LX.out.2.2.1 (fU ⟨#[]⟩) 0 (fun j=>xS _ j));generalize bu X (bx X 0 (fU ⟨#[]⟩) 0)=mk at HH HL;clear dH kV sV s9 pZ rL XX hT;by_cases tf:dO t []
 ·have h0:mk=0:=HL.out.1 tf;rw[h0] at HH;clear h0;have HZ:Hid (∀W,Below V.heap.size V W->qX pre ⟨nm,kk,rx⟩ w (.returned (.int .i64 14)) W):=fun W h=>⟨_,rfl,inr ⟨HN.out,inr ⟨nN.out,inr ⟨Cq.out,inr ⟨t,LX.out.2.2.2,inr (inl ⟨tf,rfl⟩)⟩⟩⟩⟩,nL.out _ (HV.out.2.2.trans (h.mono HV.out.2.2.size))⟩
  go_wp2_with (first
   | (refine kc (by rfl) 39 _ rfl ⟨b7,0,none⟩ rfl X.cD _ HV.out.1.part underlying39 rfl HV.out.2.1.info ?_)
   | (go_at_call 49;refine HH.out.mono ?_;rintro e w9 ⟨rfl,b9⟩))
  go_ret;exact HZ.out _ b9
 have h0:mk=-1:=HL.out.2 tf;rw[h0] at HH;clear h0;have HZ:Hid (∀W,Below V.heap.size V W->qX pre ⟨nm,kk,rx⟩ w (.returned (.int .i64 0)) W):=fun W h=>⟨_,rfl,inr ⟨HN.out,inr ⟨nN.out,inr ⟨Cq.out,inr ⟨t,LX.out.2.2.2,inr (inr ⟨tf,rfl⟩)⟩⟩⟩⟩,nL.out _ (HV.out.2.2.trans (h.mono HV.out.2.2.size))⟩
 go_wp2_with (first
  | (refine kc (by rfl) 39 _ rfl ⟨b7,0,none⟩ rfl X.cD _ HV.out.1.part underlying39 rfl HV.out.2.1.info ?_)
  | (go_at_call 49;refine HH.out.mono ?_;rintro e w9 ⟨rfl,b9⟩))
 go_ret;exact HZ.out _ b9
def NH(l:List Ru):Prop:=∀j (h:j<l.length),l[j].nm.size<=maxLen/\l[j].rx.size<=1600
def jO(l:List Ru)(k:Nat):Prop:=∀j (h:j<l.length),j<k->Aq (l.take j) l[j] 0
def jM(l:List Ru)(w:World)(e:Ending)(w':World):Prop:=Below w.heap.size w w'/\
 (
  (60<l.length/\e=.returned (.tuple #[.int .i64 (l.length:Int),.int .i64 6]))\/
  (∃(i:Nat) (h:i<l.length) (er:Int),er≠0/\jO l i/\Aq (l.take i) l[i] er/\e=.returned (.tuple #[.int .i64 (i:Int),.int .i64 er]))\/
  (l.length<=60/\jO l l.length/\e=.returned (.tuple #[.int .i64 (l.length:Int),.int .i64 0])))
theorem WO(n c:Nat)(a:Option Addr)(l:List Ru)(hl:l.length=n)(hn:n<=100000)(xw:n<=c)(hB:NH l)(w:World)(h1:gH w a l):
  Calls prog 9 #[.slice a n c] w (jM l w):=by
 have H:=hid (Zz h1 (Zz hB hl));clear h1 hB hl;go_enter func9,ntmps9;by_cases h6:60<n
 ·have i1:(60:Int)<n:=by omega
  have HZ:Hid (jM l w (.returned (.tuple #[.int .i64 (n:Int),.int .i64 6])) w):=by
   refine⟨Below.refl _ _,inl ⟨?_,?_⟩⟩
   ·rw[H.out.2.2];exact h6
   rw[H.out.2.2]
  go_wp2;go_ret2;exact HZ.out
 have i1:¬((60:Int)<n):=by omega
 go_wp2_with fail;go_loopw [4,5,13] (fun _ _ v wr=>∃k:Nat,v=.int .i64 k/\k<=n/\Hid (Below w.heap.size w wr/\jO l k)) (fun _ _ v _=>n-(intOf v).toNat)
 ·exact⟨0,rfl,zero_le _,Below.refl _ _,fun j _ h=>by omega⟩
 obtain⟨k,rfl,hk,HL⟩:=hrel;by_cases an:k<n
 ·have hkl:k<l.length:=by rw[H.out.2.2];exact an
  have i2:(k:Int)<n:=by omega
  have HC:=hid (zfT n c a l H.out.2.2 hn xw k hkl (H.out.2.1 k hkl).1 (H.out.2.1 k hkl).2 wr (H.out.1.below HL.out.1));go_wp2_with (go_at_call 27;refine HC.out.mono ?_);rintro e w2 ⟨er,rfl,hE,b2⟩;have H2:=hid (Zz (HL.out.1.trans (b2.mono HL.out.1.size)) hE);clear b2 hE HC;by_cases h0:er=0
  ·subst h0;have HN:Hid (jO l (k+1)):=fun j hj hjk=>by
    by_cases e:j=k
    ·subst e;exact H2.out.2
    exact HL.out.2 j hj (by omega)
   skip;go_wp2;go_roundw
   ·exact⟨k+1,by go_num,by omega,H2.out.1,HN.out⟩
   simp[intOf];omega
  have i3:((er:Int) != 0)=true:=by rw[bne_iff_ne];exact h0
  have HZ:Hid (jM l w (.returned (.tuple #[.int .i64 (k:Int),.int .i64 er])) w2):=⟨H2.out.1,inr (inl ⟨k,hkl,er,h0,HL.out.2,H2.out.2,rfl⟩)⟩
  clear h0;go_wp2;go_ret2;exact HZ.out
 obtain rfl:k=n:=by omega
 have HZ:Hid (jM l w (.returned (.tuple #[.int .i64 (k:Int),.int .i64 0])) wr):=by
  refine⟨HL.out.1,inr (inr ⟨?_,?_,?_⟩)⟩
  ·rw[H.out.2.2];omega
  ·rw[H.out.2.2];exact HL.out.2
  rw[H.out.2.2]
 go_wp2;go_ret2;exact HZ.out
theorem IK{t:Rx}(hw:t.wf)(Nf:t'.wf)(h:t.flat=t'.flat):eH t 0=eH t' 0:=by rw[<-SH t hw,<-SH t' Nf,h]
theorem LD{t:Rx}(hw:t.wf)(Nf:t'.wf)(h:t.flat=t'.flat)(z:Nat->Nat)(hz:∀j,z j<256)(m:Nat):dO t ((range m).map z)↔dO t' ((range m).map z):=by
 rw[<-Kv t hw z hz m,<-Kv t' Nf z hz m,IK hw Nf h];unfold ez;rw[h]
theorem fx.flat{s:ByteArray}{t:Rx}(h:fx s t)(h':fx s t'):t.flat=t'.flat:=by
 have:=h.2.1.symm.trans h'.2.1;simpa using this
theorem fx.pJ{s:ByteArray}{t:Rx}(h:fx s t){er:Nat}(he:nz s er):False:=by
 rcases he with ⟨_,he⟩|⟨_,l,he,hl⟩
 ·exact he _ h.2.1
 have e:=he.symm.trans h.2.1;simp at e;have:=h.2.2;rw[e] at hl;omega
theorem zfU(s:ByteArray)(hs:s.size<=1600)(t:Rx)(h:fx s t)(w:World):Calls prog 39 #[.string s] w (sa t t.flat.length w):=by
 refine (T8 s hs w).mono ?_;intro e w' hp;rcases hp with ⟨er,he,_⟩|⟨t',hw,p6,hle,hN⟩
 ·exact (h.pJ he).elim
 have hf:t'.flat=t.flat:=fx.flat ⟨hw,p6,hle⟩ h;have hE:=IK hw h.1 hf;unfold sa at hN⊢;rw[hE] at hN;unfold ez at hN⊢;rw[hf] at hN;exact hN
def fR(t:Rx):NF:=⟨2*t.flat.length,2*ez t 0,2*ez t 0+1,eH t 0⟩
theorem AG(t:Rx):(fR t).ok:=by
 have h1:=PG t 0;refine⟨?_,?_,fun e he=>?_⟩
 ·show 2*ez t 0<2*t.flat.length;omega
 ·show 2*ez t 0+1<2*t.flat.length;omega
 have h2:=Fg t 0 e he;show e.f<2*t.flat.length/\e.t<2*t.flat.length;omega
theorem uT:(prog.info? 67).map (fun i=>(i.zero,i.size,i.bytes))=some (some (.agg #[.int .i64 0,.slice none 0 0,.int .i64 0,.int .i64 0]),4,48):=by kernel_rfl
def E4(M:NF)(a:Option Addr)(c:Nat):List Value:=[.int .i64 ((M.N:Nat):Int),.slice a M.L.length c,.int .i64 ((M.F:Nat):Int),.int .i64 ((M.T:Nat):Int)]
def Bw(M:Nat->NF)(A:Nat->Option Addr)(C:Nat->Nat)(k:Nat):List Value:=(range k).flatMap fun j=>E4 (M j) (A j) (C j)
theorem Jv(M:Nat->NF)(A:Nat->Option Addr)(C:Nat->Nat)(k:Nat):Bw M A C (k+1)=Bw M A C k++E4 (M k) (A k) (C k):=by
 unfold Bw;rw[range_succ,List.flatMap_append];simp
theorem zpI(M:Nat->NF)(A:Nat->Option Addr)(C:Nat->Nat)(k:Nat):(Bw M A C k).length=k*4:=by
 induction k with
 | zero=>rfl
 | succ k ih=>rw[Jv,length_append,ih];simp[E4];omega
theorem Mz(M:Nat->NF)(A:Nat->Option Addr)(C:Nat->Nat)(k i:Nat)(h:i<k)(j:Nat)(hj:j<4):(Bw M A C k)[i*4+j]?=(E4 (M i) (A i) (C i))[j]?:=by
 induction k with
 | zero=>omega
 | succ k ih=>
  have hl:=zpI M A C k;rw[Jv];by_cases e:i<k
  ·rw[List.getElem?_append_left (by omega)];exact ih e
  obtain rfl:i=k:=by omega
  rw[List.getElem?_append_right (by omega),hl,show i*4+j-i*4=j by omega]
theorem zlJ{A':Nat->Option Addr}{C C':Nat->Nat}{k:Nat}(h:∀j,j<k->A j=A' j/\C j=C' j):Bw M A C k=Bw M A' C' k:=by
 induction k with
 | zero=>rfl
 | succ k ih=>rw[Jv,Jv,ih (fun j hj=>h j (by omega)),(h k (by omega)).1,(h k (by omega)).2]
structure sG (W0:World)(M:Nat->NF)(k:Nat)(v:Value)(A:Nat->Option Addr)(C:Nat->Nat)(w:World):Prop where
 own:w.ownsRow W0.heap.size 67 4 v k (Bw M A C k)
 ed:∀j,j<k->w.ownsRow W0.heap.size 128 7 (.slice (A j) (M j).L.length (C j)) (M j).L.length (dc ((M j).L.map En.z))
 below:Below W0.heap.size W0 w
theorem sG.ab{w w':World}{k:Nat}{v:Value}{C:Nat->Nat}(h:sG W0 M k v A C w)(kk:Below w.heap.size w w'):sG W0 M k v A C w':=
 ⟨cW h.own kk,fun j hj=>cW (h.ed j hj) kk,h.below.trans (kk.mono h.below.size)⟩
theorem sG.mg{w:World}{k c:Nat}{a:Option Addr}{C:Nat->Nat}(h:sG W0 M k (.slice a k c) A C w):wJ w a k (fun j=>(M j).mg (A j) (C j)):=by
 intro h0;obtain⟨g,e,_,hg,hc⟩:=ep h.own h0;refine⟨g,0,e,hg,fun j hj=>⟨⟨?_,?_,?_,?_⟩,?_⟩⟩
 ·have:=Mz M A C k j hj 0 (by omega);rw[zero_add,(hc (j*4) (by omega)).1,show j*4=j*4+0 by omega,this];rfl
 ·rw[zero_add,(hc (j*4+1) (by omega)).1,Mz M A C k j hj 1 (by omega)];simp[E4,NF.mg]
 ·rw[zero_add,(hc (j*4+2) (by omega)).1,Mz M A C k j hj 2 (by omega)];rfl
 ·rw[zero_add,(hc (j*4+3) (by omega)).1,Mz M A C k j hj 3 (by omega)];rfl
 intro h1;have hl:((M j).L.map En.z).length=(M j).L.length:=length_map ..;have XE:0<((M j).L.map En.z).length:=h1;obtain⟨g',e',_,Ap,hc'⟩:=ep (h.ed j hj) (by omega);refine⟨g',0,e',Ap,fun i hi=>?_⟩;have hi':i<((M j).L.map En.z).length*7:=hi;rw[zero_add,(hc' i (by omega)).1];rfl
def lR(la:Nat->Nat):Nat->Nat->Int
 | 0=>fun _=>-1
 | k+1=>fun x=>if x=la k then (k:Int) else lR la k x
theorem znx(la:Nat->Nat)(N k:Nat)(hk:la k<N):(ints ((range N).map (lR la k))).set (la k) (.int .i64 (k:Int))=ints ((range N).map (lR la (k+1))):=by
 apply ext_getElem?;intro i;rw[List.getElem?_set];by_cases hi:i<N
 ·by_cases e:la k=i
  ·subst e;simp[ints,hi,lR]
  have e':¬i=la k:=fun h=>e h.symm
  simp[ints,hi,lR,e,e']
 by_cases e:la k=i
 ·omega
 simp[ints,e,hi]
theorem Nl(M:Nat->NF):∀(n i:Nat),i<n->(jA M n).getD i 0=uo M i+(M i).T:=by
 intro n
 induction n with
 | zero=>intro i h;omega
 | succ n ih=>
  intro i hi;have hl:=V4 M n;simp only[jA];by_cases e:i<n
  ·have:=ih i e;rw[getD_eq_getElem?_getD,List.getElem?_append_left (by omega),<-getD_eq_getElem?_getD];exact this
  obtain rfl:i=n:=by omega
  rw[getD_eq_getElem?_getD,List.getElem?_append_right (by omega),hl];simp
theorem VL(M:Nat->NF)(n:Nat)(h:∀k,k<n->(M k).ok)(i:Nat)(hi:i<n):(jA M n).getD i 0<uo M n:=by
 rw[Nl M n i hi];have h1:=(h i hi).t;have h2:=Py M (show i+1<=n by omega);have h3:uo M (i+1)=uo M i+(M i).N:=rfl;omega
theorem zqw{w:World}{B n c:Nat}{a:Option Addr}{L:List Eg}(h:w.ownsRow B 128 7 (.slice a n c) n (dc L))(hn:L.length=n):gq w a L:=by
 intro h0;obtain⟨g,e,_,hg,hc⟩:=ep h (by omega);exact⟨g,0,e,hg,fun j hj=>by rw[zero_add,(hc j (by omega)).1]⟩
theorem zqx{w:World}{B n c:Nat}{a:Option Addr}{z:Nat->Int}(h:w.ownsRow B 3 1 (.slice a n c) n (ints ((range n).map z))):kE w a n z:=by
 intro h0;obtain⟨g,e,_,hg,hc⟩:=ep h (by omega);refine⟨g,0,e,hg,fun j hj=>?_⟩;rw[zero_add,(hc j (by omega)).1];simp[ints,hj]
def Tl(M:Nat->NF)(n:Nat)(w:World)(e:Ending)(w':World):Prop:=
 ∃aE cE aM cM,e=.returned (.tuple #[.agg #[.int .i64 ((uo M n:Nat):Int),.slice aE (uE M n).length cE,.int .i64 0,.int .i64 0],.slice aM (uo M n) cM])/\
  gq w' aE ((uE M n).map En.z)/\kE w' aM (uo M n) (lR (fun i=>(jA M n).getD i 0) n)/\Below w.heap.size w w'
theorem zeE(n c:Nat)(a:Option Addr)(l:List Ru)(T:Nat->Rx)(hl:l.length=n)(hn:n<=20)(hT:∀j (h:j<l.length),fx l[j].rx (T j)/\(T j).flat.length<=80/\l[j].rx.size<=1600)(w:World)(h1:gH w a l):
  Calls prog 32 #[.slice a n c] w (Tl (fun j=>fR (T j)) n w):=by
 have H:=hid (Zz h1 (Zz hl hT));have kn:=al w (.cells #[.int .i64 0,.slice none 0 0,.int .i64 0,.int .i64 0] 67);have HB:=hid (Zz (St.new w 67 #[.int .i64 0,.slice none 0 0,.int .i64 0,.int .i64 0]) kn);clear h1 hl hT kn;go_enter func32,ntmps32;go_wp2_with fail;obtain⟨b2,cr⟩:∃b2,w.heap.size=b2:=⟨_,rfl⟩
 have Cy:=hid cr;rw[cr] at HB;rw[cr];clear cr;generalize w.alloc (.cells #[.int .i64 0,.slice none 0 0,.int .i64 0,.int .i64 0] 67)=W0 at HB⊢;go_loopw [4,6,7,8,16] (fun v4 _ _ _ v wr=>∃(k:Nat) (aA:Option Addr) (cA:Nat) (A:Nat->Option Addr) (C:Nat->Nat),v=.int .i64 k/\v4=.slice aA k cA/\k<=n/\Hid (sG W0 (fun j=>fR (T j)) k v4 A C wr)) (fun _ _ _ _ v _=>n-(intOf v).toNat)
 ·exact⟨0,none,0,fun _=>none,fun _=>0,rfl,rfl,zero_le _,World.ownsRow_nil _ _ _ _,fun j hj=>absurd hj (by omega),Below.refl _ _⟩
 obtain⟨k,aA,cA,A,C,rfl,rfl,hk,HL⟩:=hrel;have QG:Hid (∀W',Below W0.heap.size W0 W'->Below b2 w W'):=fun W' h=>HB.out.2.trans (h.mono (by have:=HB.out.2.size;have:=Cy.out;omega))
 by_cases an:k<n
 ·have hkl:k<l.length:=by rw[H.out.2.1];exact an
  have i1:(k:Int)<n:=by omega
  obtain⟨g1,o1,rfl,_,x0,x1,x2⟩:=(H.out.1.below (by rw[Cy.out];exact QG.out _ HL.out.below)).get k hkl;have Bo:=hid (H.out.2.2 k hkl);generalize l[k]=x at x0 x1 x2 Bo;obtain⟨nm,kk,rx⟩:=x;dsimp only at x0 x1 x2 Bo;have k1:=al wr (.cells #[.string nm,.int .i64 kk,.string rx] 33);have H1:=hid (HL.out.ab k1);have mB:=hid (zfU rx Bo.out.2.2 (T k) Bo.out.1 (wr.alloc (.cells #[.string nm,.int .i64 kk,.string rx] 33)));clear k1 hkl;go_wp2_with (go_at_call 39;refine mB.out.mono ?_);rintro e w2 ⟨a2,c2,rfl,ho2,Cf⟩;have H2:=hid (Zz (H1.out.ab Cf) (gE ho2 (by have:=H1.out.below.size;exact this)));obtain⟨S,hS⟩:∃S:Nat,2*(T k).flat.length=S:=⟨_,rfl⟩
  obtain⟨F,hF⟩:∃F:Nat,2*ez (T k) 0=F:=⟨_,rfl⟩
  obtain⟨Tt,Sd⟩:∃Tt:Nat,2*ez (T k) 0+1=Tt:=⟨_,rfl⟩
  obtain⟨m,iQ⟩:∃m,(eH (T k) 0).length=m:=⟨_,rfl⟩
  have HQ:Hid (E4 (fR (T k)) a2 c2=[.int .i64 (S:Int),.slice a2 m c2,.int .i64 (F:Int),.int .i64 (Tt:Int)]/\(fR (T k)).L=eH (T k) 0/\(eH (T k) 0).length=m):=by
   refine⟨?_,rfl,iQ⟩;rw[<-hS,<-hF,<-Sd,<-iQ];rfl
  rw[iQ] at H2;rw[Sd,hS,hF,iQ];clear hS hF Sd iQ ho2 Cf H1 mB;have k3:=al w2 (.cells #[.int .i64 (S:Int),.slice a2 m c2,.int .i64 (F:Int),.int .i64 (Tt:Int)] 67);have s3:=St.new w2 67 #[.int .i64 (S:Int),.slice a2 m c2,.int .i64 (F:Int),.int .i64 (Tt:Int)];have H3:=hid (Zz (H2.out.1.ab k3) (cW H2.out.2 k3));have ct:W0.heap.size<=w2.heap.size:=H2.out.1.below.size;go_upto_region 6 with fail;generalize w2.alloc (.cells #[.int .i64 (S:Int),.slice a2 m c2,.int .i64 (F:Int),.int .i64 (Tt:Int)] 67)=W3 at k3 s3 H3⊢;obtain⟨b7,ub⟩:∃b7,w2.heap.size=b7:=⟨_,rfl⟩
  rw[ub] at s3;rw[ub];obtain⟨q0,q1,q2,q3⟩:=s3.bS;have zq:W0.heap.size<=W3.heap.size:=H3.out.1.below.size;clear x0 x1 x2 H2 k3 s3 ub ct;have hO:=H3.out.1.own;obtain⟨iT,hT,rm,IH,QF⟩:=info_parts uT;go_wp2_with (at_builtin;refine wpList_append_own _ rfl _ _ 94 rfl W0.heap.size 67 iT (.agg #[.int .i64 0,.slice none 0 0,.int .i64 0,.int .i64 0]) 4 48 underlying94 hT rm IH QF rfl (by decide) _ _ _ rfl (hO.alloc _) ⟨W3.heap.size,0,none⟩ 1 1 (#[.int .i64 (S:Int),.slice a2 m c2,.int .i64 (F:Int),.int .i64 (Tt:Int)]).toList rfl rfl (World.news_of_block (cs:=#[.int .i64 (S:Int),.slice a2 m c2,.int .i64 (F:Int),.int .i64 (Tt:Int)]) (St.new _ _ _)) ?_ ?_ ?_ ?_ ?_)
  ·exact⟨rfl,rfl,rfl,rfl⟩
  ·unfold maxLen;omega
  ·omega
  ·simp;omega
  intro v' w5 ah ag _;obtain⟨a5,c5,rfl⟩:=bJ ah;have HG5:Hid (sG W0 (fun j=>fR (T j)) (k+1) (.slice a5 (k+1) c5) (fun j=>if j=k then a2 else A j) (fun j=>if j=k then c2 else C j) w5):=by
   have p6:=al W3 (.cells #[.int .i64 (S:Int),.slice a2 m c2,.int .i64 (F:Int),.int .i64 (Tt:Int)] 67);have vD:Kept [67] [] (W3.alloc (.cells #[.int .i64 (S:Int),.slice a2 m c2,.int .i64 (F:Int),.int .i64 (Tt:Int)] 67)) w5:=(Kept.refl _ _ _).ae (hO.alloc _) (by simp) ag;refine⟨?_,fun j hj=>?_,(H3.out.1.below.trans (p6.mono zq)).grown ag (by simp;omega) (fun g e=>(hO.lt g e).1)⟩
   ·have e:=Jv (fun j=>fR (T j)) (fun j=>if j=k then a2 else A j) (fun j=>if j=k then c2 else C j) k;rw[e,zlJ (A':=A) (C':=C) (fun j hj=>by simp[show j≠k by omega])];simp only[if_true];rw[HQ.out.1];exact ah
   by_cases e:j=k
   ·subst e;simp only[if_true];have h9:=fA (cW H3.out.2 p6) vD (by decide) (by simp);show w5.ownsRow _ _ _ (.slice a2 (fR (T j)).L.length c2) (fR (T j)).L.length (dc ((fR (T j)).L.map En.z));rw[HQ.out.2.1,HQ.out.2.2];exact h9
   simp only[if_neg e];exact fA (cW (H3.out.1.ed j (by omega)) p6) vD (by decide) (by simp)
  clear ah ag hO q0 q1 q2 q3;go_wp2;go_roundw
  ·exact⟨k+1,a5,c5,_,_,by go_num,rfl,by omega,HG5⟩
  simp[intOf];omega
 obtain rfl:k=n:=by omega
 have HU:=hid (zmd (fun j=>fR (T j)) k (fun j hj=>⟨AG _,by
  have:=(H.out.2.2 j (by rw[H.out.2.1];exact hj)).2.1
  show 2*(T j).flat.length<=1000
  omega,by
  have:=(H.out.2.2 j (by rw[H.out.2.1];exact hj)).2.1
  have h2:=NX (T j) 0
  show (eH (T j) 0).length<=1000
  omega⟩) (by omega) A C aA cA wr HL.out.mg)
 have Z8:Hid (1<=uo (fun j=>fR (T j)) k/\uo (fun j=>fR (T j)) k<=1+20*160):=by
  refine⟨KV _ _,?_⟩;have h9:=Rk (fun j=>fR (T j)) k 160 (fun j hj=>by
   have:=(H.out.2.2 j (by rw[H.out.2.1];exact hj)).2.1
   show 2*(T j).flat.length<=160
   omega)
  have ZL:k*160<=20*160:=Nat.mul_le_mul_right _ (by omega);omega
 have Ut:=hid (V4 (fun j=>fR (T j)) k);have Fp:Hid (∀i,i<k->(jA (fun j=>fR (T j)) k).getD i 0<uo (fun j=>fR (T j)) k):=by
  exact fun i hi=>VL (fun j=>fR (T j)) k (fun j _=>AG _) i hi
 go_wp2_with (go_at_call 53;refine HU.out.mono ?_);rintro e w2 ⟨aE,cE,aL,cL,rfl,N7,Et,Cf⟩;obtain⟨U,hU⟩:∃U,uo (fun j=>fR (T j)) k=U:=⟨_,rfl⟩
 obtain⟨mE,Kx⟩:∃mE,(uE (fun j=>fR (T j)) k).length=mE:=⟨_,rfl⟩
 obtain⟨la,tf⟩:∃la:Nat->Nat,(fun i=>(jA (fun j=>fR (T j)) k).getD i 0)=la:=⟨_,rfl⟩
 have Ib:Hid (∀e w',(∃aE cE aM cM,e=.returned (.tuple #[.agg #[.int .i64 (U:Int),.slice aE mE cE,.int .i64 0,.int .i64 0],.slice aM U cM])/\gq w' aE ((uE (fun j=>fR (T j)) k).map En.z)/\kE w' aM U (lR la k)/\Below w.heap.size w w')->Tl (fun j=>fR (T j)) k w e w'):=fun e w' h=>by
  unfold Tl;rw[hU,Kx,tf];exact h
 have HLa:Hid (∀i,i<k->la i<U):=fun i hi=>by
  rw[<-tf,<-hU];exact Fp.out i hi
 have Xo:Hid (cO (jA (fun j=>fR (T j)) k)=(range k).map fun i=>.int .i64 ((la i:Nat):Int)):=by
  show _=_;apply ext_getElem?;intro i;by_cases hi:i<k
  ·have e:la i=(jA (fun j=>fR (T j)) k).getD i 0:=(by rw[<-tf]);have yB:=Ut.out;simp[cO,hi,e,getD_eq_getElem?_getD,yB]
  have yB:=Ut.out;simp[cO,hi,yB]
 rw[Xo.out] at Et;rw[Kx] at N7⊢;rw[hU] at Z8;rw[hU];have H2:Hid (w2.ownsRow b2 128 7 (.slice aE mE cE) mE (dc ((uE (fun j=>fR (T j)) k).map En.z))/\w2.ownsRow b2 3 1 (.slice aL k cL) k ((range k).map fun i=>.int .i64 ((la i:Nat):Int))/\St w2 67 b2 #[.int .i64 0,.slice none 0 0,.int .i64 0,.int .i64 0]/\Below b2 w w2/\b2<w2.heap.size):=by
  have h3:=HL.out.below.size;have h4:=Cf.size;have h5:=HB.out.1.lt;exact⟨gE N7 (by omega),gE Et (by omega),(HB.out.1.ab HL.out.below).ab Cf,(QG.out _ HL.out.below).trans (Cf.mono (by omega)),by omega⟩
 have HmE:=hid Kx;clear N7 Et Cf Kx tf hU HU HL Fp Xo;have k3:=al w2 (.cells #[.int .i64 (U:Int),.slice aE mE cE,.int .i64 0,.int .i64 0] 67);have s3:=St.new w2 67 #[.int .i64 (U:Int),.slice aE mE cE,.int .i64 0,.int .i64 0];have H3:=hid (Zz (cW H2.out.1 k3) (Zz (cW H2.out.2.1 k3) (Zz (H2.out.2.2.1.ab k3) (Zz (H2.out.2.2.2.1.trans (k3.mono (le_of_lt H2.out.2.2.2.2))) (Nat.lt_of_lt_of_le H2.out.2.2.2.2 k3.size)))));go_upto_region 9 with fail;generalize w2.alloc (.cells #[.int .i64 (U:Int),.slice aE mE cE,.int .i64 0,.int .i64 0] 67)=W3 at k3 s3 H3⊢;obtain⟨b9,qH⟩:∃b9,w2.heap.size=b9:=⟨_,rfl⟩
 rw[qH] at s3;rw[qH];clear qH k3 H2;have q0:=(s3.ab (al W3 (.cells #[.int .i64 (-1)] 3))).bS.1;have Yi:Hid (1<=U/\U<=3201):=Z8.out;have mq:Hid (∀(W:World) (g:Nat),W.cell? ⟨g,0,none⟩=some (.int .i64 (-1))->g<W.heap.size->Calls prog 54 #[.slice (some ⟨g,0,none⟩) 1 1,.int .i64 (U:Int)] W (M1 U W)):=fun W g h1 h2=>Yh U Yi.out.1 (by have:=Yi.out.2;omega) g W h1 h2
 have V6:=hid s3;clear s3;go_wp2_with fail;refine (mq.out _ _ (by exact cell_one_new _ _ _ 0 _ rfl) (by simp)).mono ?_;rintro e w5 ⟨gM,rfl,o5,b5⟩;have H5:Hid (∃W4:World,Below W4.heap.size W4 w5/\W4.heap.size<=gM/\w5.ownsRow W4.heap.size 3 1 (.slice (some ⟨gM,0,none⟩) U U) U (ints ((range U).map (lR la 0)))/\W4.ownsRow b2 128 7 (.slice aE mE cE) mE (dc ((uE (fun j=>fR (T j)) k).map En.z))/\W4.ownsRow b2 3 1 (.slice aL k cL) k ((range k).map fun i=>.int .i64 ((la i:Nat):Int))/\St W4 67 b2 #[.int .i64 0,.slice none 0 0,.int .i64 0,.int .i64 0]/\Below b2 w W4/\St W4 67 b9 #[.int .i64 (U:Int),.slice aE mE cE,.int .i64 0,.int .i64 0]/\b2<W4.heap.size):=by
  have k2:=al W3 (.cells #[.int .i64 (-1)] 3);refine⟨_,b5,kq o5 gM rfl,?_,cW H3.out.1 k2,cW H3.out.2.1 k2,H3.out.2.2.1.ab k2,H3.out.2.2.2.1.trans (k2.mono (le_of_lt H3.out.2.2.2.2)),V6.out.ab k2,Nat.lt_of_lt_of_le H3.out.2.2.2.2 k2.size⟩;have e:(range U).map (lR la 0)=List.replicate U (-1):=by
   apply ext_getElem?;intro i;by_cases hi:i<U
   ·simp[hi,lR]
   simp[hi]
  rw[e];exact o5
 obtain⟨W4,h4⟩:=H5.out;have H4:=hid h4.2.2.2;have HP:Hid (w5.ownsRow W4.heap.size 3 1 (.slice (some ⟨gM,0,none⟩) U U) U (ints ((range U).map (lR la 0)))/\Below W4.heap.size W4 w5):=⟨h4.2.2.1,h4.1⟩
 have Hg:=hid h4.2.1;clear h4 H5 o5 b5 H3 V6 q0 mq H QG HB;go_wp2_with fail;go_loopw [12,13,42] (fun _ _ v wr=>∃(i:Nat),v=.int .i64 i/\i<=k/\Hid (wr.ownsRow W4.heap.size 3 1 (.slice (some ⟨gM,0,none⟩) U U) U (ints ((range U).map (lR la i)))/\Below W4.heap.size W4 wr)) (fun _ _ v _=>k-(intOf v).toNat)
 ·exact⟨0,rfl,zero_le _,HP⟩
 obtain⟨i,rfl,hi,HI⟩:=hrel;by_cases an:i<k
 ·have i1:(i:Int)<k:=by omega
  obtain⟨gL,rfl,_,_,U1⟩:=ep (cW H4.out.2.1 HI.out.2) (by omega);have c0:=(U1 i (by omega)).1;rw[show ((range k).map fun i=>(Value.int .i64 ((la i:Nat):Int)))[i]?=some (.int .i64 ((la i:Nat):Int)) by simp[an]] at c0;have tf:=HLa.out i an;have l1:¬((la i:Nat):Int)<0:=by omega
  obtain⟨gM',eM,_,rF,ME⟩:=ep HI.out.1 (by omega);cases eM;have c1:=ME (la i) (by rw[Nat.mul_one];exact tf);have c2:=c1.1;have c3:=c1.2;rw[show (ints ((range U).map (lR la i)))[la i]?=some (.int .i64 (lR la i (la i))) by simp[ints,tf]] at c2;clear c1 U1 ME;go_wp2;go_roundw
  ·exact⟨i+1,by go_num,by omega,by rw[<-znx la U i tf];exact uA HI.out.1 (la i) tf _,HI.out.2.setCell (p:=⟨gM,la i,none⟩) Hg.out _⟩
  simp[intOf];omega
 obtain rfl:i=k:=by omega
 have HW:Hid (wr.ownsRow b2 128 7 (.slice aE mE cE) mE (dc ((uE (fun j=>fR (T j)) i).map En.z))/\wr.ownsRow b2 3 1 (.slice (some ⟨gM,0,none⟩) U U) U (ints ((range U).map (lR la i)))/\St wr 67 b2 #[.int .i64 0,.slice none 0 0,.int .i64 0,.int .i64 0]/\Below b2 w wr):=⟨cW H4.out.1 HI.out.2,gE HI.out.1 (le_of_lt H4.out.2.2.2.2.2),H4.out.2.2.1.ab HI.out.2,H4.out.2.2.2.1.trans (HI.out.2.mono (le_of_lt H4.out.2.2.2.2.2))⟩
 obtain⟨z0,z1,z2,z3⟩:=(H4.out.2.2.2.2.1.ab HI.out.2).bS;obtain⟨x0,x1,x2,x3,g0,g1,g2,g3⟩:=bK HW.out.2.2.1;have oz:Hid (St ((((wr.setCell ⟨b2,0,none⟩ (.int .i64 (U:Int))).setCell ⟨b2,1,none⟩ (.slice aE mE cE)).setCell ⟨b2,2,none⟩ (.int .i64 0)).setCell ⟨b2,3,none⟩ (.int .i64 0)) 67 b2 #[.int .i64 (U:Int),.slice aE mE cE,.int .i64 0,.int .i64 0]):=HW.out.2.2.1.ma _ _ _ _;have HF:=hid (Zz (E0 HW.out.1 HW.out.2.2.1 (by decide) (.int .i64 (U:Int)) (.slice aE mE cE) (.int .i64 0) (.int .i64 0)) (Zz (E0 HW.out.2.1 HW.out.2.2.1 (by decide) (.int .i64 (U:Int)) (.slice aE mE cE) (.int .i64 0) (.int .i64 0)) (p5 HW.out.2.2.2 (Nat.le_refl _) (.int .i64 (U:Int)) (.slice aE mE cE) (.int .i64 0) (.int .i64 0))));go_wp2_with fail;generalize (((wr.setCell ⟨b2,0,none⟩ (.int .i64 (U:Int))).setCell ⟨b2,1,none⟩ (.slice aE mE cE)).setCell ⟨b2,2,none⟩ (.int .i64 0)).setCell ⟨b2,3,none⟩ (.int .i64 0)=Wf at HF oz⊢;obtain⟨v0,v1,v2,v3⟩:=oz.out.bS;refine bodyPost_ret (v:=.tuple #[.agg #[.int .i64 (U:Int),.slice aE mE cE,.int .i64 0,.int .i64 0],.slice (some ⟨gM,0,none⟩) U U]) (by simp[results,results32,go_sem,v0,v1,v2,v3]) rfl (Ib.out _ _ ⟨aE,cE,some ⟨gM,0,none⟩,U,rfl,zqw HF.out.1 ?_,zqx HF.out.2.1,?_⟩)
 ·rw[length_map];exact HmE.out
 rw[Cy.out];exact HF.out.2.2
theorem zpK(M:Nat->NF)(n:Nat)(h:∀k,k<n->(M k).ok):rA ((uo M n:Nat):Int) ((uE M n).map En.z) ((0:Nat):Int) 0=true:=by
 have hp:=KV M n;simp only[rA,Bool.and_eq_true,List.all_eq_true,xG,JT,List.mem_map];refine⟨?_,by omega,by omega⟩;rintro e ⟨x,hx,rfl⟩;obtain⟨h1,h2,h3⟩:=KF M n h x hx;simp only[En.z];omega
theorem zqU(o:Nat)(L:List En):nB (L.map (En.by o))=nB L:=by
 unfold nB;rw[List.filter_map,length_map];rfl
theorem WR(M:Nat->NF)(B:Nat):∀n,(∀k,k<n->nB (M k).L<=B)->nB (uE M n)<=n*B:=by
 intro n
 induction n with
 | zero=>intro _;exact Nat.le_of_eq (by simp[uE,nB])
 | succ n ih=>
  intro h;have h1:=ih fun k hk=>h k (by omega)
  have h2:=h n (by omega);have h3:nB (uE M (n+1))=nB (uE M n)+nB (M n).L:=by
   rw[<-zqU (uo M n) (M n).L];simp[uE,nB,bB,filter_cons]
  rw[h3,Nat.succ_mul];omega
theorem zny(M:Nat->NF)(n:Nat)(h:∀k,k<n->(M k).ok){i j:Nat}(hij:i<j)(hj:j<n):(jA M n).getD i 0<(jA M n).getD j 0:=by
 rw[Nl M n i (by omega),Nl M n j hj];have h1:=(h i (by omega)).t;have h2:=Py M (show i+1<=j by omega);have h3:uo M (i+1)=uo M i+(M i).N:=rfl;omega
theorem zqz(la:Nat->Nat):∀(n i:Nat),(∀i j,i<j->j<n->la i<la j)->i<n->lR la n (la i)=((i:Nat):Int):=by
 intro n
 induction n with
 | zero=>intro i _ h;omega
 | succ n ih=>
  intro i hm hi;show (if la i=la n then (n:Int) else lR la n (la i))=_;by_cases e:i=n
  ·subst e;rw[if_pos rfl]
  rw[if_neg (by have:=hm i n (by omega) (by omega);omega)];exact ih i (fun i j h1 h2=>hm i j h1 (by omega)) (by omega)
theorem zqA(la:Nat->Nat)(x:Nat):∀n,(∀i,i<n->x≠la i)->lR la n x=-1:=by
 intro n
 induction n with
 | zero=>intro _;rfl
 | succ n ih=>
  intro h;show (if x=la n then (n:Int) else lR la n x)=_;rw[if_neg (h n (by omega))];exact ih fun i hi=>h i (by omega)
def ko(n:Nat)(P:Nat->Prop)(r:Int):Prop:=(r=-1/\∀i,i<n->¬P i)\/∃i,i<n/\r=((i:Nat):Int)/\P i/\∀j,j<i->¬P j
theorem ko.congr{n:Nat}{P Q:Nat->Prop}{r:Int}(h:ko n P r)(e:∀i,i<n->(P i↔Q i)):ko n Q r:=by
 rcases h with ⟨h1,h2⟩|⟨i,hi,h1,h2,h3⟩
 ·exact inl ⟨h1,fun i hi hq=>h2 i hi ((e i hi).2 hq)⟩
 exact inr ⟨i,hi,h1,(e i hi).1 h2,fun j hj hq=>h3 j hj ((e j (by omega)).2 hq)⟩
theorem zhW{n:Nat}(h:∀k,k<n->(M k).ok){A:Nat->Prop}{r:Int}(hl:bI (iq (uo M n) (lR (fun i=>(jA M n).getD i 0) n)) A r):ko n (fun i=>A ((jA M n).getD i 0)) r:=by
 have hm:∀i j,i<j->j<n->(fun i=>(jA M n).getD i 0) i<(fun i=>(jA M n).getD i 0) j:=fun i j h1 h2=>zny M n h h1 h2
 have eZ:∀i,i<n->iq (uo M n) (lR (fun i=>(jA M n).getD i 0) n) ((jA M n).getD i 0)=((i:Nat):Int):=fun i hi=>by
  have h1:=zqz (fun i=>(jA M n).getD i 0) n i hm hi;unfold iq;rw[if_pos (VL M n h i hi),if_pos (by rw[h1];omega)];exact h1
 have gW:∀x,(∀i,i<n->x≠(jA M n).getD i 0)->iq (uo M n) (lR (fun i=>(jA M n).getD i 0) n) x=-1:=fun x hx=>by
  have h1:=zqA (fun i=>(jA M n).getD i 0) x n hx;unfold iq;rw[h1];split <;> rfl
 rcases hl with ⟨h1,h2⟩|⟨h1,⟨x,hx,h2⟩,h3⟩
 ·refine inl ⟨h1,fun i hi ha=>?_⟩;have:=h2 _ ha;rw[eZ i hi] at this;omega
 by_cases e:∃i,i<n/\x=(jA M n).getD i 0
 ·obtain⟨i,hi,rfl⟩:=e;rw[eZ i hi] at h2;refine inr ⟨i,hi,h2.symm,hx,fun j hj ha=>?_⟩;rcases h3 _ ha with h4|h4
  ·rw[eZ j (by omega)] at h4;omega
  rw[eZ j (by omega)] at h4;omega
 have:=gW x fun i hi he=>e ⟨i,hi,he⟩
 omega
def PT(n:Nat)(T:Nat->Rx)(X:Dd):Prop:=∀(z:Nat->Nat) (m:Nat),(∀j,z j<256)->ko n (fun i=>dO (T i) ((range m).map z)) (bu X (bx X 0 z m))
theorem zlK{n:Nat}(hw:∀i,i<n->(T i).wf){z:Nat->Nat}{m:Nat}(hz:∀j,z j<256){r:Int}(hl:bI (iq (uo (fun j=>fR (T j)) n) (lR (fun i=>(jA (fun j=>fR (T j)) n).getD i 0) n)) (cq (uE (fun j=>fR (T j)) n) 0 z m) r):ko n (fun i=>dO (T i) ((range m).map z)) r:=by
 refine (zhW (fun k _=>AG _) hl).congr fun i hi=>?_
 rw[Nl _ n i hi];rw[(zqg (fun j=>fR (T j)) n (fun k _=>AG _) i hi).run (AG _) z m _ (AG _).t];exact Kv (T i) (hw i hi) z hz m
def M5(l:List Ru)(w:World)(e:Ending)(w':World):Prop:=Below w.heap.size w w'/\
 (
  (∃(i:Nat) (h:i<l.length) (er:Int),er≠0/\jO l i/\Aq (l.take i) l[i] er/\e=.returned (.tuple #[.agg (zC 39),.int .i64 er]))\/
  (jO l l.length/\∃T:Nat->Rx,(∀j (h:j<l.length),fx l[j].rx (T j))/\
   (
    (2000<1+2 ^ nB (uE (fun j=>fR (T j)) l.length)/\e=.returned (.tuple #[.agg (zC 39),.int .i64 6]))\/
    ∃(X:Dd) (C:Nat),e=.returned (.tuple #[.agg X.cD,.int .i64 0])/\DM w' X/\Mn X C/\PT l.length T X)))
theorem jO.rx{l:List Ru}(h:jO l l.length):∃T:Nat->Rx,∀j (hj:j<l.length),fx l[j].rx (T j):=by
 have hx:∀j:Nat,∃t:Rx,∀hj:j<l.length,fx l[j].rx t:=by
  intro j;by_cases hj:j<l.length
  ·rcases h j hj hj with ⟨_,h1⟩|⟨_,⟨_,h1⟩|⟨_,⟨_,h1⟩|⟨_,⟨e5,h1,h2⟩|⟨t,ht,_⟩⟩⟩⟩
   ·omega
   ·omega
   ·omega
   ·rcases h1 with ⟨rfl,_⟩|⟨rfl,_⟩ <;> simp at h2
   exact⟨t,fun _=>ht⟩
  exact⟨.leaf ⟨0,fun _=>false⟩,fun h=>absurd h hj⟩
 exact⟨fun j=>Classical.choose (hx j),fun j hj=>choose_spec (hx j) hj⟩
def D3(l:List Ru):Prop:=∀j (h:j<l.length),l[j].nm.size<=maxLen/\l[j].rx.size<=40
theorem D3.b{l:List Ru}(h:D3 l):NH l:=fun j hj=>⟨(h j hj).1,by have:=(h j hj).2;omega⟩
theorem D3.flat{l:List Ru}(h:D3 l){j:Nat}{hj:j<l.length}(ht:fx l[j].rx (T j)):(T j).flat.length<=79:=by
 have h1:=zpH ht.2.1;have h2:=(h j hj).2;rw[show (aa l[j].rx).length=l[j].rx.size by simp[aa]] at h1;omega
theorem zqB(la:Nat->Nat)(x:Nat):∀k,lR la k x<=((k:Nat):Int):=by
 intro k
 induction k with
 | zero=>show (-1:Int)<=_;omega
 | succ k ih=>
  show (if x=la k then (k:Int) else lR la k x)<=_;split <;> omega
theorem zhX{l:List Ru}(hS:D3 l)(hn:l.length<=20)(hT:∀j (h:j<l.length),fx l[j].rx (T j)):
  (uE (fun j=>fR (T j)) l.length).length<=6400/\nB (uE (fun j=>fR (T j)) l.length)<=1000/\uo (fun j=>fR (T j)) l.length<=3201:=by
 refine⟨?_,?_,?_⟩
 ·have h1:=Uc (fun j=>fR (T j)) l.length 316 (fun j hj=>by
   have h2:=NX (T j) 0
   have h3:=hS.flat (hT j hj)
   show (eH (T j) 0).length<=316
   omega)
  have h2:l.length*(316+1)<=20*317:=Nat.mul_le_mul_right _ hn;omega
 ·have h1:=WR (fun j=>fR (T j)) 40 l.length (fun j hj=>by
   have h2:=Y0 (T j) 0
   have h3:=hS.flat (hT j hj)
   show nB (eH (T j) 0)<=40
   omega)
  have h2:l.length*40<=20*40:=Nat.mul_le_mul_right _ hn;omega
 have h1:=Rk (fun j=>fR (T j)) l.length 160 (fun j hj=>by
  have h3:=hS.flat (hT j hj)
  show 2*(T j).flat.length<=160
  omega)
 have h2:l.length*160<=20*160:=Nat.mul_le_mul_right _ hn;omega
theorem zhY(n c:Nat)(a:Option Addr)(l:List Ru)(hl:l.length=n)(hn:n<=20)(xw:n<=c)(hS:D3 l)(w:World)(h1:gH w a l):
  Calls prog 13 #[.slice a n c] w (M5 l w):=by
 have k0:=al w (.cells (zC 39) 39);have HB:=hid (Zz (St.new w 39 (zC 39)) k0);have H:=hid (Zz h1 (Zz hl hS));have Ba:=hid (WO n c a l hl (by omega) xw hS.b (w.alloc (.cells (zC 39) 39)) (h1.below k0));clear k0 h1 hl hS;go_enter func13,ntmps13;go_upto_region 1 with (refine oO rfl 39 rfl (zC 39) (lP _) ?_);obtain⟨b0,aD⟩:∃b0,w.heap.size=b0:=⟨_,rfl⟩
 have cP:=hid aD;rw[aD] at HB;rw[aD];clear aD;generalize w.alloc (.cells (zC 39) 39)=W0 at HB Ba⊢;go_wp2_with (go_at_call 9;refine Ba.out.mono ?_);rintro e w1 ⟨b1,⟨kO,rfl⟩|⟨i,hi,er,Gw,o9,Wy,rfl⟩|⟨_,o9,rfl⟩⟩
 ·exfalso;have:=H.out.2.1;omega
 ·have H1:=hid (Zz (HB.out.1.ab b1) (HB.out.2.trans (b1.mono (by have:=HB.out.2.size;have:=cP.out;omega))));have her':(er != 0)=true:=by simp[Gw]
  have HF:Hid (M5 l w (.returned (.tuple #[.agg (zC 39),.int .i64 er])) (w1.setRow b0 (zC 39))):=by
   refine⟨?_,inl ⟨i,hi,er,Gw,o9,Wy,rfl⟩⟩;have:=lk H1.out.2 (Nat.le_refl b0) (zC 39);rw[cP.out];exact this
  clear o9 Wy b1 Ba Gw;go_wp2_with (first
   | (refine zw rfl 39 _ rfl #[] (by first|rfl|kernel_rfl|(go_simp;done)) (.agg (zC 39)) (GM _) ?_)
   | (refine l6 rfl 39 _ _ rfl b0 39 (zC 39) (zC 39) rfl rfl H1.out.1 rfl (by rw[fB,ir]) Bz ?_))
  refine bodyPost_ret (wR rfl _ _ b0 (zC 39) _ rfl H1.out.1.setRow.part underlying39 rfl (by rw[fB,ir])) rfl ?_;exact HF.out
 obtain⟨T,hT⟩:=o9.rx;have AE:=hid (Zz o9 hT);have H1:=hid (Zz (HB.out.1.ab b1) (Zz (HB.out.2.trans (b1.mono (by have:=HB.out.2.size;have:=cP.out;omega))) (by have:=b1.size;have:=HB.out.2.size;have:=HB.out.1.lt;show b0<=w1.heap.size;omega)));have YF:=hid (zeE n c a l T H.out.2.1 hn (fun j hj=>⟨hT j hj,by have:=H.out.2.2.flat (hT j hj);omega,by have:=(H.out.2.2 j hj).2;omega⟩) w1 ((H.out.1.below (by rw[cP.out];exact HB.out.2)).below b1));have qw:=hid (zhX H.out.2.2 (by rw[H.out.2.1];exact hn) hT);have ZV:Hid (∀k,k<=1+2 ^ nB (uE (fun j=>fR (T j)) n)->2000<k->2000<1+2 ^ nB (uE (fun j=>fR (T j)) l.length)):=fun k h1 h2=>by
  rw[H.out.2.1];omega
 have HE:Hid (∃(EE:List En) (zz:Nat->Int) (U mE:Nat),EE.length=mE/\mE<=6400/\nB EE<=1000/\U<=3201/\rA (U:Int) (EE.map En.z) ((0:Nat):Int) 0=true/\(∀e∈EE,e.f<=9223372036854775807/\e.t<=9223372036854775807)/\(∀x,iq U zz x<32768)/\
   (∀k,k<=1+2 ^ nB EE->2000<k->2000<1+2 ^ nB (uE (fun j=>fR (T j)) l.length))/\
   (∀(z:Nat->Nat) (m:Nat) (r:Int),(∀j,z j<256)->bI (iq U zz) (cq EE 0 z m) r->ko l.length (fun i=>dO (T i) ((range m).map z)) r)/\
   Calls prog 32 #[.slice a n c] w1 (fun e w'=>∃aE cE aM cM,e=.returned (.tuple #[.agg #[.int .i64 (U:Int),.slice aE mE cE,.int .i64 0,.int .i64 0],.slice aM U cM])/\(gq w' aE (EE.map En.z)/\kE w' aM U zz)/\Below w1.heap.size w1 w')):=by
  refine⟨uE (fun j=>fR (T j)) n,lR (fun i=>(jA (fun j=>fR (T j)) n).getD i 0) n,uo (fun j=>fR (T j)) n,_,rfl,?_,?_,?_,zpK _ n (fun k _=>AG _),fun e he=>?_,fun x=>?_,ZV.out,fun z m r hz hL=>?_,?_⟩
  ·have:=qw.out.1;rw[H.out.2.1] at this;exact this
  ·have:=qw.out.2.1;rw[H.out.2.1] at this;exact this
  ·have:=qw.out.2.2;rw[H.out.2.1] at this;exact this
  ·have h3:=KF (fun j=>fR (T j)) n (fun k _=>AG _) e he
   have h4:=qw.out.2.2
   rw[H.out.2.1] at h4
   omega
  ·have h3:=zqB (fun i=>(jA (fun j=>fR (T j)) n).getD i 0) x n
   unfold iq
   split
   ·split <;> omega
   ·omega
  ·rw[H.out.2.1]
   exact zlK (fun i hi=>(hT i (by rw[H.out.2.1];exact hi)).1) hz hL
  ·exact YF.out.mono fun e w' ⟨aE,cE,aM,cM,h1,h2,h3,h4⟩=>⟨aE,cE,aM,cM,h1,⟨h2,h3⟩,h4⟩
 obtain⟨EE,zz,U,mE,h1,h2,h3,h4,h5,h6,h7,h8,h9,hA⟩:=HE.out;have T4:=hid hA;have Pn:=hid (Zz h7 (Zz h8 h9));have dG:Hid (∀(W:World) (aE:Option Addr) (cE:Nat) (aM:Option Addr) (cM:Nat),gq W aE (EE.map En.z)/\kE W aM U zz->Calls prog 31 #[.agg #[.int .i64 (U:Int),.slice aE mE cE,.int .i64 0,.int .i64 0],.slice aM U cM] W (ov EE 0 (iq U zz) W)):=fun W aE cE aM cM hh=>zp0 _ 0 0 EE aE mE cE aM U cM zz W hh.2 (by omega) hh.1 h1 h2 (by rw[Vf];exact h3) (by omega) h6 h5
 clear o9 b1 Ba HE ZV YF h1 h2 h3 h4 h5 h6 h7 h8 h9 hA hT;go_upto_region 4 with fail;go_upto_region 5 with (first
  | (go_at_call 32;refine T4.out.mono ?_;rintro e w2 ⟨aE,cE,aM,cM,rfl,YV,b2⟩)
  | (go_at_call 31;refine (dG.out _ _ _ _ _ YV).mono ?_;rintro e w3 ⟨cD,er,nm,L',f0,s0,k,R,SS,rfl,b3,FV,cU,BL,uO⟩)
  | (refine oO rfl 39 rfl (zC 39) (lP _) ?_)
  | (refine l6 rfl 39 _ _ rfl w3.heap.size 39 (zC 39) cD rfl rfl (St.new w3 _ _) (by rw[ir,cU]) (by rw[fB,cU]) BL ?_))
 try simp only[put,sA,sB,sC]
 have FP:=hid (Zz cU BL);have Jm:=hid FV;have kV:Below w3.heap.size w3 ((w3.alloc (.cells (zC 39) 39)).setRow w3.heap.size cD):=lk (al w3 _) (Nat.le_refl _) _;have sV:St ((w3.alloc (.cells (zC 39) 39)).setRow w3.heap.size cD) 39 w3.heap.size cD:=(St.new w3 _ _).setRow;have zq:=b3.size;have ct:=b2.size;have H7:Hid (St ((w3.alloc (.cells (zC 39) 39)).setRow w3.heap.size cD) 39 b0 (zC 39)/\Below b0 w ((w3.alloc (.cells (zC 39) 39)).setRow w3.heap.size cD)):=by
  have hz:=H1.out.2.2;exact⟨((H1.out.1.ab b2).ab b3).ab kV,((H1.out.2.1.trans (b2.mono hz)).trans (b3.mono (by omega))).trans (kV.mono (by omega))⟩
 have oD:Hid (b0<=w3.heap.size):=by have:=H1.out.2.2;show b0<=_;omega
 obtain⟨b7,ub⟩:∃b7,w3.heap.size=b7:=⟨_,rfl⟩
 have I1:=hid ub;rw[ub] at kV sV H7;rw[ub];clear ub FV cU BL zq ct b3 b2 YV T4 dG;rcases uO with ⟨rfl,kO,rfl⟩|⟨rfl,hk,eQ,ms,hD,lO,lx⟩
 ·generalize (w3.alloc (.cells (zC 39) 39)).setRow b7 (zC 39)=V at kV sV H7⊢;have HF:Hid (M5 l w (.returned (.tuple #[.agg (zC 39),.int .i64 6])) (V.setRow b0 (zC 39))):=by
   refine⟨?_,inr ⟨AE.out.1,T,AE.out.2,inl ⟨?_,rfl⟩⟩⟩
   ·have:=lk H7.out.2 (Nat.le_refl b0) (zC 39);rw[cP.out];exact this
   exact Pn.out.2.1 _ (Vo Jm.out) kO
  clear kO kV sV;go_wp2_with (first
   | (refine zw rfl 39 _ rfl #[] (by first|rfl|kernel_rfl|(go_simp;done)) (.agg (zC 39)) (GM _) ?_)
   | (refine l6 rfl 39 _ _ rfl b0 39 (zC 39) (zC 39) rfl rfl H7.out.1 rfl (by rw[fB,ir]) Bz ?_))
  refine bodyPost_ret (wR rfl _ _ b0 (zC 39) _ rfl H7.out.1.setRow.part underlying39 rfl (by rw[fB,ir])) rfl ?_;exact HF.out
 obtain⟨D,rfl,Jx,Eo,Oo,A6⟩:=Tq (mf:=iq U zz) Pn.out.1 Jm.out FP.out.1 FP.out.2 hk eQ hD lO lx;have s9:=Jx.below (by rw[I1.out];exact kV);generalize (w3.alloc (.cells (zC 39) 39)).setRow b7 D.cD=V at kV sV H7 s9⊢;have HX:Hid (∀z m,(∀j,z j<256)->bI (iq U zz) (cq EE 0 z m) (bu D (bx D 0 z m))):=A6;have Ad:=hid (Z5 D _ Eo V s9);have Gl:=hid (Zz sV s9);have QD:Hid (b0<=V.heap.size):=by have:=oD.out;have:=kV.size;have:=I1.out;show b0<=_;omega
 clear Jx Eo Oo A6 hk eQ hD lO lx kV sV s9;go_upto_region 7 with fail;go_wp2_with (first
  | (refine kc (by rfl) 39 _ rfl ⟨b7,0,none⟩ rfl D.cD _ Gl.out.1.part underlying39 rfl Gl.out.2.info ?_)
  | (go_at_call 33;refine Ad.out.mono ?_;rintro e w9 ⟨X,C',rfl,pZ,rL,Q2,_,b9⟩)
  | (refine l6 rfl 39 _ _ rfl b0 39 (zC 39) X.cD rfl rfl (H7.out.1.ab b9) (by rw[ir,pZ.sz]) (by rw[fB,pZ.sz]) pZ.one ?_))
 refine bodyPost_ret (wR rfl _ _ b0 X.cD _ rfl (H7.out.1.ab b9).setRow.part underlying39 rfl (by rw[fB,pZ.sz])) rfl ?_;refine⟨?_,inr ⟨AE.out.1,T,AE.out.2,inr ⟨X,C',rfl,(cm.stored rL.r pZ (H7.out.1.ab b9)).dm,rL,fun z k hz=>?_⟩⟩⟩
 ·have:=lk (H7.out.2.trans (b9.mono QD.out)) (Nat.le_refl b0) X.cD;rw[cP.out];exact this
 rw[Q2 z k hz];exact Pn.out.2.2 z k _ hz (HX.out z k hz)
theorem dP.again{w:World}{k t e:TypeId}{b n:Nat}{Q:Value->Value->Prop}(h:dP w k b n Q)(K:Keyed prog k)(ht:prog.underlying t=some (.map k e))
  {key val:Value}{kl:Lit}(dX:keyOf prog k key=some kl) (hv:Q key val):
  ∃w',(Instr.mapUpdate t (.map (some b)) key val).run prog w=.ok () w'/\dP w' k b n Q/\w.grownBy w' (some b):=by
 obtain⟨es,clock,hb,F,hs,hq,eb⟩:=h;rcases K.find w dX es.toList F.keys with ⟨h1,h2⟩|⟨j,e0,h1,h2,h3⟩
 ·obtain⟨e1,h4,h5⟩:=eb _ _ hv;exact absurd h5 (h2 e1 h4)
 have hj:es[j]?=some e0:=by simpa using h2
 have hjl:j<es.toList.length:=(List.getElem?_eq_some_iff.1 h2).1;have qz:∀e',es[j]?=some e'->({ e' with key:=key,val:=val }:MapEntry).key=e'.key:=fun e' jw=>by rw[hj] at jw;cases jw;exact h3.symm
 have jE:(es.modify j (fun e'=>{ e' with key:=key,val:=val })).toList=es.toList.set j { e0 with key:=key,val:=val }:=by rw[Array.toList_modify,modify_eq_set _ _ _ _ h2]
 have AN:∀x∈es.toList.set j { e0 with key:=key,val:=val },x={ e0 with key:=key,val:=val }\/x∈es.toList:=by
  intro x hx;obtain⟨i,hi,ex⟩:=List.getElem_of_mem hx;rw[List.getElem_set] at ex;split at ex
  ·exact inl ex.symm
  exact inr (ex ▸ getElem_mem _)
 refine⟨setBlock w b (.map (es.modify j (fun e'=>{ e' with key:=key,val:=val })) clock),?_,⟨_,clock,heap_setBlock_same hb _,⟨by simpa using F.size,stamped_modify F.stamped _ _ (fun _ _=>rfl) (fun e' _ jw=>qz e' jw),fun x hx=>?_⟩,by simpa using hs,fun x hx=>?_,fun x y hx=>?_⟩,⟨rfl,rfl,rfl,by simp[setBlock],fun i _ hi=>heap_setBlock_other hb _ (fun e=>hi (by rw[e]))⟩⟩
 ·simp[Instr.mapUpdate,run_underlying ht,MapKept.run_getObj_map hb,K.check w false dX,h1,hj,h3,K.stays w dX,MapKept.run_setObj_map _ hb,Result.andThen,setBlock]
 ·rw[jE] at hx;rcases AN x hx with rfl|wB
  ·exact⟨(kl,.held val),by unfold WideElems.rd fy;rw[dX];rfl⟩
  exact F.reads x wB
 ·rw[jE] at hx;rcases AN x hx with rfl|wB
  ·exact hv
  exact hq x wB
 obtain⟨e1,h4,h5⟩:=eb x y hx;obtain⟨i,hi,ex⟩:=List.getElem_of_mem h4;rw[jE];by_cases hij:j=i
 ·subst hij;have:e0=e1:=by rw[<-ex];exact (Option.some.inj ((List.getElem?_eq_getElem hi).symm.trans h2)).symm
  exact⟨{ e0 with key:=key,val:=val },List.mem_of_getElem? (by rw[List.getElem?_set_self hjl]),by show key=x;rw[<-h3,this,h5]⟩
 exact⟨e1,by rw[<-ex,<-List.getElem_set_ne hij (by simpa using hi)];exact getElem_mem _,h5⟩
def RY(L:List Nat)(x y:Value):Prop:=∃s:Nat,s∈L/\x=.int .i64 ((s:Nat):Int)/\y=.agg #[]
def iW(w:World)(b:Nat)(L:List Nat):Prop:=L.Nodup/\dP w 3 b L.length (RY L)
theorem iW.ab{w w':World}{b:Nat}(h:iW w b L)(k:Below w.heap.size w w'):iW w' b L:=⟨h.1,h.2.same (k.block _ h.2.lt)⟩
theorem iW.put{w:World}{b x:Nat}(h:iW w b L)(hx:x<=1000000)(hn:L.length<maxLen):
  ∃w' L',(Instr.mapUpdate 81 (.map (some b)) (.int .i64 (x:Int)) (.agg #[])).run prog w=.ok () w'/\iW w' b L'/\(∀y,y∈L'↔y∈L\/y=x)/\L'.length<=L.length+1/\w.grownBy w' (some b):=by
 by_cases e:x∈L
 ·obtain⟨w',h1,h2,h3⟩:=h.2.again yK underlying81 (CL x (by omega)) (val:=.agg #[]) ⟨x,e,rfl,rfl⟩;exact⟨w',L,h1,⟨h.1,h2⟩,fun y=>⟨inl,fun hh=>hh.elim id fun hh=>hh ▸ e⟩,by omega,h3⟩
 obtain⟨w',h1,h2,h3⟩:=h.2.update (Q':=RY (x :: L)) yK underlying81 hn (CL x (by omega)) (val:=.agg #[]) (by
   rintro y ⟨s,hs,h2,_⟩
   rw[<-F0 h2] at hs
   exact e hs) (by
   rintro a b ⟨s,hs,h2,h3⟩
   exact⟨s,mem_cons_of_mem _ hs,h2,h3⟩) ⟨x,List.mem_cons_self ..,rfl,rfl⟩ (by
   rintro a b ⟨s,hs,h2,h3⟩ hne
   rcases List.mem_cons.1 hs with rfl|hs
   ·exact absurd h2 hne
   ·exact⟨b,s,hs,h2,h3⟩)
 exact⟨w',x :: L,h1,⟨List.nodup_cons.2 ⟨e,h.1⟩,h2⟩,fun y=>by rw[List.mem_cons];exact or_comm,by simp,h3⟩
theorem zhP(w:World):(zeroValue 83).run prog w=.ok (.agg #[]) w:=by kernel_rfl
theorem zjT(W:World):(Instr.makeMap 81 none).run prog W=.ok (.map (some W.heap.size)) (W.alloc (.map #[] 0)):=by
 kernel_rfl
theorem iW.made(w:World):iW (w.alloc (.map #[] 0)) w.heap.size []:=⟨List.nodup_nil,dP.made w _ (RY []) fun x y ⟨s,h,_⟩=>by simp at h⟩
theorem iW.look{w:World}{b x:Nat}(h:iW w b L)(hx:x<=1000000):
  (Instr.lookup 81 (.map (some b)) (.int .i64 (x:Int)) true).run prog w=.ok (.tuple #[.agg #[],.bool (decide (x∈L))]) w:=by
 rcases h.2.ex.np yK underlying81 (zhP w) (CL _ (by omega:x<=9223372036854775807)) with ⟨cj,gW⟩|⟨v,⟨s,h1,h2,rfl⟩,cj⟩
 ·have:¬x∈L:=fun hm=>gW _ ⟨x,hm,rfl,rfl⟩
  simp only[this,decide_false];exact cj
 rw[<-F0 h2] at h1;simp only[h1,decide_true];exact cj
theorem iW.len{w:World}{b:Nat}{ty:TypeId}(h:iW w b L):(Builtin.len_ #[81] ty #[.map (some b)]).run prog w=.ok (.int .i64 (L.length:Int)) w:=
 h.2.len (t:=81) (ty:=ty) (by rw[underlying81];rfl)
def GZ(D:Dd)(n k:Nat)(L:List Nat):Prop:=∀y,y∈L↔y<n/\∃st,st<k/\zG D 0 st/\bu D ((st:Nat):Int)=((y:Nat):Int)
def JF(D:Dd)(n:Nat)(w:World)(e:Ending)(w':World):Prop:=∃b L,e=.returned (.map (some b))/\iW w' b L/\GZ D n D.n L/\Below w.heap.size w w'
structure mO (D:Dd)(n:Nat)(W1:World)(k:Nat)(f:Nat->Bool)(a:Option Addr)(c:Nat)(w:World)(L:List Nat):Prop where
 set:iW w W1.heap.size L
 mem:GZ D n k L
 len:L.length<=k
 own:w.ownsRow W1.heap.size 4 1 (.slice a D.n c) D.n (iN f D.n)
 below:Below W1.heap.size W1 w
theorem mO.ab{D:Dd}{n k c:Nat}{w w':World}{f:Nat->Bool}{a:Option Addr}(h:mO D n W1 k f a c w L)(kk:Below w.heap.size w w'):mO D n W1 k f a c w' L:=
 ⟨h.set.ab kk,h.mem,h.len,cW h.own kk,h.below.trans (kk.mono h.below.size)⟩
theorem mO.skip{D:Dd}{n k c:Nat}{w:World}{f:Nat->Bool}{a:Option Addr}(h:mO D n W1 k f a c w L)(gW:¬(zG D 0 k/\0<=bu D (k:Int)/\bu D (k:Int)<n)):mO D n W1 (k+1) f a c w L:=by
 refine⟨h.set,fun y=>?_,by have:=h.len;omega,h.own,h.below⟩;rw[h.mem y];refine⟨fun ⟨h1,st,h2,h3⟩=>⟨h1,st,by omega,h3⟩,fun ⟨h1,st,h2,h3,h4⟩=>⟨h1,st,?_,h3,h4⟩⟩;by_cases e:st=k
 ·subst e;exact absurd ⟨h3,by omega,by omega⟩ gW
 omega
theorem mO.put{D:Dd}{n k c x:Nat}{w:World}{f:Nat->Bool}{a:Option Addr}(h:mO D n W1 k f a c w L)(hk:k<=1000000)(hx:x<=1000000)(hr:zG D 0 k)(he:bu D (k:Int)=x)(hn:x<n):
  ∃w' L',(Instr.mapUpdate 81 (.map (some W1.heap.size)) (.int .i64 (x:Int)) (.agg #[])).run prog w=.ok () w'/\mO D n W1 (k+1) f a c w' L':=by
 have hl:=h.len;obtain⟨w',L',h1,h2,h3,h4,h5⟩:=h.set.put hx (by unfold maxLen;omega);refine⟨w',L',h1,h2,fun y=>?_,by omega,wI h.own h.set.2.ex.of h5,h.below.grown h5 h.below.size (fun g e=>by injection e with e;omega)⟩;rw[h3,h.mem y];constructor
 ·rintro (⟨h1,st,h2,h6⟩|rfl)
  ·exact⟨h1,st,by omega,h6⟩
  exact⟨hn,k,by omega,hr,he⟩
 rintro⟨h1,st,h2,h6,h7⟩;by_cases e:st=k
 ·subst e;rw[he] at h7;exact inr (Int.ofNat.inj h7).symm
 exact inl ⟨h1,st,by omega,h6,h7⟩
theorem znm{D:Dd}{C:Nat}(hR:DR D C)(st:Int):-1<=bu D st/\bu D st<32768:=by
 unfold bu;split
 ·exact hR.q _ (by omega)
 omega
theorem zlA(D:Dd)(C:Nat)(hR:DR D C)(n:Nat)(hn:n<=1000000)(w:World)(hD:DM w D):
  Calls prog 44 #[.agg D.cD,.int .i64 (n:Int)] w (JF D n w):=by
 have iQ:=zjT;have cQ:=hR.n2;have HB:=hid (Zz (cm.new hD) (Zz (al w (.cells D.cD 39)) hR));clear hD hR;go_enter func44,ntmps44;go_upto_region 1 with fail;generalize w.alloc (.cells D.cD 39)=W0 at HB⊢;obtain⟨b0,aD⟩:∃b0,w.heap.size=b0:=⟨_,rfl⟩
 have cP:=hid aD;rw[aD] at HB;rw[aD];clear aD;go_upto_region 2 with fail;have k1:=al W0 (.map #[] 0);have uh:=hid (HB.out.1.ab k1);have OS:=hid (zig D C 0 (W0.alloc (.map #[] 0)) uh.out.dm HB.out.2.2);have ET:=hid (Zz (iW.made W0) k1);clear k1;obtain⟨W2,jY⟩:∃W2,W0.alloc (.map #[] 0)=W2:=⟨_,rfl⟩
 rw[jY] at uh OS ET;rw[jY];obtain⟨bM,nD⟩:∃bM,W0.heap.size=bM:=⟨_,rfl⟩
 have RQ:Hid (W0.heap.size=bM/\bM<=W2.heap.size):=⟨nD,by rw[<-nD,<-jY];simp⟩
 rw[nD];clear nD jY;have hS:=uh.out.st.part;go_wp2_with (first
  | (refine kc (by rfl) 39 _ rfl ⟨b0,0,none⟩ rfl D.cD _ uh.out.st.part underlying39 rfl uh.out.dm.info ?_)
  | (go_at_call 71;refine OS.out.mono ?_;rintro e w3 ⟨f,a,c,rfl,hO,hf,b3⟩))
 have HI:Hid (mO D n W0 0 f a c w3 []):=by
  have h1:=ET.out.2;have h2:=RQ.out;refine⟨ET.out.1.ab b3,fun y=>⟨fun h=>by simp at h,fun ⟨_,st,h,_⟩=>absurd h (by omega)⟩,by simp,gE hO (by omega),h1.trans (b3.mono (by omega))⟩
 have Hf:=hid hf;clear hO hf b3 ET OS hS;go_loopw [6,7,8,13] (fun _ _ _ v wr=>∃k:Nat,v=.int .i64 k/\k<=D.n/\Hid (∃L,mO D n W0 k f a c wr L)) (fun _ _ _ v _=>D.n-(intOf v).toNat)
 ·exact⟨0,rfl,zero_le _,_,HI.out⟩
 obtain⟨k,rfl,hk,HL⟩:=hrel;by_cases an:k<D.n
 ·obtain⟨L,hI⟩:=HL.out;obtain⟨g,off,rfl,hg,hc⟩:=FB hI.own (by omega);have d0:=hc k an;have i1:(k:Int)<(D.n:Int):=by omega
  have HI:=hid hI;have L3:=hid (HB.out.1.ab hI.below);have vt:=hid (Zp D C HB.out.2.2 (k:Int) wr L3.out.dm);have hmb:=znm HB.out.2.2 (k:Int);obtain⟨m,hm⟩:∃m,bu D (k:Int)=m:=⟨_,rfl⟩
  rw[hm] at hmb;have Hm:=hid hm;clear hI hg hc HL;go_upto_region 6 with (first
   | (refine kc (by rfl) 39 _ rfl ⟨b0,0,none⟩ rfl D.cD _ L3.out.st.part underlying39 rfl L3.out.dm.info ?_)
   | (go_at_call 72;refine vt.out.mono ?_;rintro e w4 ⟨rfl,b4⟩))
  try rw[hm]
  have zE:=hid (HI.out.ab b4);clear b4 vt L3 hm HI;have B4:=Hf.out k an;by_cases yv:f k=true
  ·have RJ:=hid (B4.1 yv);clear B4;rw[yv];by_cases iD:m=-1
   ·subst iD;have HN:=hid (zE.out.skip fun h=>by have h2:=h.2.1;rw[Hm.out] at h2;omega);go_wp2;go_roundw
    ·exact⟨k+1,by go_num,by omega,L,HN.out⟩
    simp[intOf];omega
   obtain⟨x,rfl⟩:∃x:Nat,m=(x:Int):=(⟨m.toNat,by omega⟩);have i2:((x:Int) != -1)=true:=(by simp);by_cases jF:x<n
   ·have i3:(x:Int)<n:=(by omega);obtain⟨w5,L5,vJ,xo⟩:=zE.out.put (by omega) (by omega) RJ.out Hm.out jF;rw[RQ.out.1] at vJ;have Hi:=hid xo;clear xo;go_wp2;go_roundw
    ·exact⟨k+1,by go_num,by omega,L5,Hi.out⟩
    simp[intOf];omega
   have i3:¬(x:Int)<n:=(by omega);have HN:=hid (zE.out.skip fun h=>by have h2:=h.2.2;rw[Hm.out] at h2;omega);go_wp2;go_roundw
   ·exact⟨k+1,by go_num,by omega,L,HN.out⟩
   simp[intOf];omega
  have RJ:Hid (¬zG D 0 k):=fun h=>yv (B4.2 h)
  clear B4;rw[Bool.eq_false_iff.2 yv];have HN:=hid (zE.out.skip fun h=>RJ.out h.1);go_wp2;go_roundw
  ·exact⟨k+1,by go_num,by omega,L,HN.out⟩
  simp[intOf];omega
 obtain rfl:k=D.n:=by omega
 obtain⟨L,hI⟩:=HL.out;have HI:=hid hI;have HZ:Hid (JF D n w (.returned (.map (some bM))) wr):=by
  have h1:=RQ.out.1;have h2:=HB.out.2.1;have h3:=HI.out.below;have h4:=h2.size;refine⟨bM,L,rfl,by rw[<-h1];exact HI.out.set,HI.out.mem,?_⟩;rw[cP.out];exact h2.trans (h3.mono (by have:=HB.out.1.st.lt;omega))
 clear hI HL;go_wp2;go_ret;exact HZ.out
theorem zjU:∀(n:Nat) (L:List Nat),L.Nodup->(∀y∈L,y<n)->L.length<=n/\(n<=L.length->∀y,y<n->y∈L):=by
 intro n
 induction n with
 | zero=>
  intro L _ h
  cases L with
  | nil=>exact⟨Nat.le_refl _,fun _ y hy=>absurd hy (by omega)⟩
  | cons x l=>exact absurd (h x (List.mem_cons_self ..)) (by omega)
 | succ n ih=>
  intro L hn h;by_cases e:n∈L
  ·have h1:=ih (L.erase n) (hn.erase n) fun y hy=>by
    have h2:=h y (List.mem_of_mem_erase hy);have h3:y≠n:=((List.Nodup.mem_erase_iff hn).1 hy).1;omega
   have h4:=List.length_erase_of_mem e;have h5:0<L.length:=List.length_pos_of_mem e;refine⟨by omega,fun hl y hy=>?_⟩;by_cases e2:y=n
   ·rw[e2];exact e
   exact List.mem_of_mem_erase (h1.2 (by omega) y (by omega))
  have h1:=ih L hn fun y hy=>by
   have h2:=h y hy;have h3:y≠n:=(fun e3=>e (e3 ▸ hy));omega
  exact⟨by omega,fun hl=>absurd hl (by omega)⟩
def Cb(D:Dd)(y:Nat):Prop:=∃st,st<D.n/\zG D 0 st/\bu D ((st:Nat):Int)=((y:Nat):Int)
def zn(D:Dd)(n:Nat)(w:World)(e:Ending)(w':World):Prop:=∃(a:Option Addr) (m c:Nat) (p:Nat->Bool),e=.returned (.slice a m c)/\(∀y,y<n->(p y=true↔¬Cb D y))/\
 w'.ownsRow w.heap.size 3 1 (.slice a m c) m (cO ((range n).filter p))/\Below w.heap.size w w'
theorem zjV(D:Dd)(C:Nat)(hR:DR D C)(n:Nat)(hn:n<=1000000)(w:World)(hD:DM w D):
  Calls prog 24 #[.agg D.cD,.int .i64 (n:Int)] w (zn D n w):=by
 have cQ:=hR.n2;have HB:=hid (Zz (cm.new hD) (Zz (al w (.cells D.cD 39)) hR));have uN:=(hR.jn hD.kl).2;clear hD hR;go_enter func24,ntmps24;go_upto_region 1 with fail;generalize w.alloc (.cells D.cD 39)=W0 at HB⊢;obtain⟨b0,aD⟩:∃b0,w.heap.size=b0:=⟨_,rfl⟩
 have cP:=hid aD;rw[aD] at HB;rw[aD];clear aD;have UK:=hid (zjO D (by omega) (by rw[HB.out.2.2.m];omega) (fun i hi=>by rw[HB.out.2.2.len i hi];omega) W0 HB.out.1.dm);go_upto_region 3 with (first
  | (refine kc (by rfl) 39 _ rfl ⟨b0,0,none⟩ rfl D.cD _ HB.out.1.st.part underlying39 rfl HB.out.1.dm.info ?_)
  | (go_at_call 43;refine UK.out.mono ?_))
 rintro e w1 ⟨bt,rfl,ky,b1⟩;obtain rfl:bt=true:=ky.2 ⟨C,HB.out.2.2⟩;have H1:=hid (Zz (HB.out.1.ab b1) (HB.out.2.1.trans (b1.mono (by have:=HB.out.1.st.lt;omega))));have Dm:=hid (zlA D C HB.out.2.2 n hn w1 H1.out.1.dm);clear ky b1 UK;go_upto_region 4 with (first
  | (refine kc (by rfl) 39 _ rfl ⟨b0,0,none⟩ rfl D.cD _ H1.out.1.st.part underlying39 rfl H1.out.1.dm.info ?_)
  | (go_at_call 44;refine Dm.out.mono ?_;rintro e w2 ⟨bL,L,rfl,zL,se,b2⟩))
 have hlen:=zL.len (ty:=3);have A4:=zjU n L zL.1 fun y hy=>((se y).1 hy).1
 have H2:=hid (Zz zL (Zz se (H1.out.2.trans (b2.mono (by have:=H1.out.1.st.lt;omega)))));have aD:b0<w2.heap.size:=by have:=H1.out.1.st.lt;have:=b2.size;omega
 obtain⟨ln,k8⟩:∃ln,L.length=ln:=⟨_,rfl⟩
 rw[k8] at hlen A4;have Hcn:=hid A4.2;have fW:=A4.1;obtain⟨vZ,PR⟩:∃vZ,n-ln=vZ:=⟨_,rfl⟩
 have e1:IntKind.i64.wrap ((n:Int)-(ln:Int))=(vZ:Int):=by
  rw[IntWalk.i64_in _ (by omega)];omega
 clear zL se b2 Dm A4;by_cases h0:vZ=0
 ·have HZ:Hid (zn D n w (.returned (.slice none 0 0)) w2):=by
   refine⟨none,0,0,fun _=>false,rfl,fun y hy=>⟨fun h=>by simp at h,fun h=>absurd ?_ h⟩,?_,by rw[cP.out];exact H2.out.2.2⟩
   ·exact ((H2.out.2.1 y).1 (Hcn.out (by omega) y hy)).2
   rw[show (range n).filter (fun _=>false)=[] by simp];exact World.ownsRow_nil _ _ _ _
  subst h0;have i2:((0:Nat):Int)<=0:=by omega
  go_wp2;go_ret;exact HZ.out
 have i2:¬(vZ:Int)<=0:=by omega
 have i3:¬(vZ:Int) > 2147483647:=by omega
 have fu:=Na vZ (by omega);have hO:=Me vZ (by omega) w2 b0 (by omega);have k2:=al w2 (.cells (madeCells #[.int .i64 0] vZ) 3);go_upto_region 8 with fail;have H3:=hid (Zz (H2.out.1.ab k2) (Zz (H2.out.2.2.trans (k2.mono (by omega))) hO));generalize w2.alloc (.cells (madeCells #[.int .i64 0] vZ) 3)=W3 at H3⊢;clear hO k2 fu e1 i2 i3 hlen PR k8;go_wp2_with fail;go_loopw [7,8,9,10,30] (fun v7 _ _ _ v wr=>∃(k m:Nat) (a:Option Addr) (c:Nat),v=.int .i64 k/\k<=n/\v7=.slice a m c/\m<=k/\Hid (wr.ownsRow b0 3 1 (.slice a m c) m (cO ((range k).filter fun y=>!decide (y∈L)))/\iW wr bL L/\Below b0 w wr)) (fun _ _ _ _ v _=>n-(intOf v).toNat)
 ·exact⟨0,0,_,_,rfl,zero_le _,rfl,Nat.le_refl _,H3.out.2.2,H3.out.1,H3.out.2.1⟩
 obtain⟨k,m,a,c,rfl,hk,rfl,fu,HI⟩:=hrel;by_cases an:k<n
 ·have i1:(k:Int)<n:=by omega
  have dN:=HI.out.2.1.look (x:=k) (by omega);by_cases Ex:k∈L
  ·simp only[Ex,decide_true] at dN;have HK:=hid Ex;clear Ex;have k3:=al wr (.cells #[] 83);have HN:Hid ((wr.alloc (.cells #[] 83)).ownsRow b0 3 1 (.slice a m c) m (cO ((range (k+1)).filter fun y=>!decide (y∈L)))/\iW (wr.alloc (.cells #[] 83)) bL L/\Below b0 w (wr.alloc (.cells #[] 83))):=by
    refine⟨?_,HI.out.2.1.ab k3,HI.out.2.2.trans (k3.mono (by have:=HI.out.2.2.size;have:=cP.out;omega))⟩;have e:(range (k+1)).filter (fun y=>!decide (y∈L))=(range k).filter fun y=>!decide (y∈L):=by
     rw[range_succ,List.filter_append];simp[HK.out]
    rw[e];exact cW HI.out.1 k3
   clear k3;go_wp2;go_roundw
   ·exact⟨k+1,m,a,c,by go_num,by omega,rfl,by omega,HN.out⟩
   simp[intOf];omega
  simp only[Ex,decide_false] at dN;have HK:=hid Ex;clear Ex;have k3:=al wr (.cells #[] 83);have HN:Hid ((wr.alloc (.cells #[] 83)).ownsRow b0 3 1 (.slice a m c) m (cO ((range k).filter fun y=>!decide (y∈L)))/\iW (wr.alloc (.cells #[] 83)) bL L/\Below b0 w (wr.alloc (.cells #[] 83))):=
   ⟨cW HI.out.1 k3,HI.out.2.1.ab k3,HI.out.2.2.trans (k3.mono (by have:=HI.out.2.2.size;have:=cP.out;omega))⟩
  clear k3;go_upto_region 13 with fail;generalize wr.alloc (.cells #[] 83)=W4 at HN⊢;obtain⟨i0,hi,du,cH,ct⟩:=info_parts az;have cU:b0<=W4.heap.size:=by have:=HN.out.2.2.size;have:=cP.out;omega
  go_wp2_with (at_builtin;refine wpList_append_own_at _ rfl _ _ 30 rfl b0 3 i0 (.int .i64 0) 1 8 underlying30 hi du cH ct rfl (by decide) _ _ _ rfl (HN.out.1.alloc _) ⟨W4.heap.size,0,none⟩ 1 1 [.int .i64 (k:Int)] rfl rfl (cell_one_new _ _ _) ?d2 ?d3 ?d4 ?d5 ?_)
  case d2=>first|(intro u hu;simp at hu;subst hu;rfl)|rfl
  case d3=>unfold maxLen;omega
  case d4=>omega
  case d5=>first|(simp;omega)|omega
  intro v' w5 ah ag _ bG;obtain⟨a5,c5,rfl⟩:=bJ ah;have HF:Hid (w5.ownsRow b0 3 1 (.slice a5 (m+1) c5) (m+1) (cO ((range (k+1)).filter fun y=>!decide (y∈L)))/\iW w5 bL L/\Below b0 w w5):=by
   have kA:=al W4 (.cells #[.int .i64 (k:Int)] 3);have e:(range (k+1)).filter (fun y=>!decide (y∈L))=((range k).filter fun y=>!decide (y∈L))++[k]:=by
    rw[range_succ,List.filter_append];simp[HK.out]
   refine⟨?_,⟨HN.out.2.1.1,(HN.out.2.1.ab kA).2.ae (HN.out.1.alloc _) ag⟩,fC (HN.out.2.2.trans (kA.mono cU)) (HN.out.1.alloc _) (by have:=kA.size;omega) ag⟩;rw[e];unfold cO at ah⊢;rw[List.map_append];exact ah
  clear ah ag bG;go_wp2;go_roundw
  ·exact⟨k+1,m+1,a5,c5,by go_num,by omega,rfl,by omega,HF.out⟩
  simp[intOf];omega
 obtain rfl:k=n:=by omega
 have HZ:Hid (zn D k w (.returned (.slice a m c)) wr):=by
  refine⟨a,m,c,fun y=>!decide (y∈L),rfl,fun y hy=>?_,by rw[cP.out];exact HI.out.1,by rw[cP.out];exact HI.out.2.2⟩;have:=H2.out.2.1 y;simp only[Bool.not_eq_true',decide_eq_false_iff_not];rw[this];exact⟨fun h hs=>h ⟨hy,hs⟩,fun h hs=>h hs.2⟩
 go_wp2;go_ret;exact HZ.out
theorem zjX{D:Dd}{C:Nat}(hR:DR D C)(st:Int){b:Nat}(hb:b<256):-1<=bH D st b/\bH D st b<(D.n:Int):=by
 unfold bH;split
 ·next h=>exact hR.nx st.toNat (D.K b) (by omega) (hR.c.1 b hb)
 omega
def LJ:Rx:=.bin ⟨2,aJ⟩ (.leaf ⟨1,eE (fun _=>105) 1⟩) (.leaf ⟨1,eE (fun _=>102) 1⟩)
def I0:Nat->Bool:=fun x=>aJ x || aq 97 (122+1-97) x
def CA:Rx:=.un ⟨5,aJ⟩ (.leaf ⟨1,I0⟩)
def fJ:ByteArray:=⟨#[105,102]⟩
def pD:ByteArray:=⟨#[105,100]⟩
def ri:ByteArray:=⟨#[91,97,45,122,93,43]⟩
def jC:List Ru:=[⟨fJ,0,fJ⟩,⟨pD,0,ri⟩]
theorem Lf:fx fJ LJ:=⟨⟨rfl,by decide +kernel,⟨rfl,by decide +kernel⟩,⟨rfl,by decide +kernel⟩⟩,by kernel_rfl,by decide +kernel⟩
theorem Mb:fx ri CA:=⟨⟨rfl,by decide +kernel,⟨rfl,by decide +kernel⟩⟩,by kernel_rfl,by decide +kernel⟩
theorem XC:nB (eH LJ 0)<=2:=by decide +kernel
theorem VW:nB (eH CA 0)<=2:=by decide +kernel
theorem Mx(c:Nat)(hc:c<256)(s:List Nat):dO (.leaf ⟨1,eE (fun _=>c) 1⟩) s↔s=[c]:=by
 rw[yj,if_pos rfl];constructor
 ·rintro⟨b,rfl,_,h⟩;obtain⟨j,_,e⟩:=(Oa _ _ _).1 h;rw[<-e]
 rintro rfl;exact⟨c,rfl,hc,(Oa _ _ _).2 ⟨0,by omega,rfl⟩⟩
theorem ZN(s:List Nat):dO LJ s↔s=[105,102]:=by
 unfold LJ;rw[Dx,if_pos rfl];constructor
 ·rintro⟨u,v,rfl,h1,h2⟩;rw[(Mx 105 (by omega) u).1 h1,(Mx 102 (by omega) v).1 h2];rfl
 rintro rfl;exact⟨[105],[102],rfl,(Mx 105 (by omega) _).2 rfl,(Mx 102 (by omega) _).2 rfl⟩
theorem Sb(b:Nat)(h1:97<=b)(h2:b<=122):dO (.leaf ⟨1,I0⟩) [b]:=by
 rw[yj,if_pos rfl];refine⟨b,rfl,by omega,?_⟩;show (aJ b || aq 97 (122+1-97) b)=true;simp[aJ,aq];omega
theorem zpC:dO CA [105,102,115]:=by
 unfold CA;rw[yA,if_neg (by decide),if_pos rfl];exact⟨[105],[102,115],rfl,Sb 105 (by omega) (by omega),dB.app (u:=[102]) (Sb 102 (by omega) (by omega)) (dB.one (Sb 115 (by omega) (by omega)))⟩
theorem zpD:¬dO CA []:=by
 unfold CA;rw[yA,if_neg (by decide),if_pos rfl];rintro⟨u,v,h,h1,_⟩;rw[yj,if_pos rfl] at h1;obtain⟨b,rfl,_⟩:=h1;simp at h
theorem znq:dI fJ=true/\dI pD=true/\fJ≠pD/\hY 0=true:=by
 refine⟨by decide +kernel,by decide +kernel,fun h=>?_,by decide⟩;have:fJ.data=pD.data:=by rw[h]
 revert this;decide
theorem TW{pre:List Ru}{x:Ru}{er:Int}(h:Aq pre x er)(h1:dI x.nm=true)(h2:∀y∈pre,y.nm≠x.nm)(h3:hY x.k=true){t:Rx}(ht:fx x.rx t)(hn:nB (eH t 0)<=2)(he:¬dO t []):er=0:=by
 rcases h with ⟨h4,_⟩|⟨_,⟨⟨y,hy,e⟩,_⟩|⟨_,⟨h4,_⟩|⟨_,⟨e5,h4,_⟩|⟨t',xO,h5⟩⟩⟩⟩
 ·rw[h1] at h4;cases h4
 ·exact absurd e (h2 y hy)
 ·rw[h3] at h4;cases h4
 ·exact (ht.pJ h4).elim
 have hf:=xO.flat ht;have hE:=IK xO.1 ht.1 hf;rcases h5 with ⟨h6,_⟩|⟨h6,_⟩|⟨_,h6⟩
 ·rw[hE] at h6;have:2 ^ nB (eH t 0)<=2 ^ 2:=Nat.pow_le_pow_right (by omega) hn;omega
 ·refine absurd ?_ he;have:=(LD xO.1 ht.1 hf (fun _=>0) (fun _=>by omega) 0).1;exact this h6
 exact h6
theorem znr{D:Dd}{C:Nat}(hR:DR D C)(z:Nat->Nat)(hz:∀j,z j<256):∀m,0<=bx D 0 z m->bx D 0 z m<(D.n:Int)/\zG D 0 (bx D 0 z m).toNat:=by
 intro m;have hn:=hR.n1
 induction m with
 | zero=>exact fun _=>⟨by show (0:Int)<_;omega,Int.le_refl _,by omega,jv.base rfl⟩
 | succ m ih=>
  intro h;have h1:bx D 0 z (m+1)=bH D (bx D 0 z m) (z m):=rfl;have h2:=zjX hR (bx D 0 z m) (hz m);rw[h1] at h⊢;by_cases e:0<=bx D 0 z m/\bx D 0 z m<(D.n:Int)
  ·obtain⟨h3,h4,h5,h6⟩:=ih e.1;refine⟨h2.2,h4,h5,?_⟩;refine h6.step ⟨by omega,D.K (z m),?_,?_⟩
   ·rw[hR.len _ (by omega)];exact hR.c.1 _ (hz m)
   have e2:bH D (bx D 0 z m) (z m)=D.nx (bx D 0 z m).toNat (D.K (z m)):=(by unfold bH;rw[if_pos e]);rw[<-e2];omega
  unfold bH at h;rw[if_neg e] at h;omega
theorem Z7{D:Dd}{C:Nat}(hR:DR D C)(z:Nat->Nat)(hz:∀j,z j<256)(m y:Nat)(h:bu D (bx D 0 z m)=(y:Int)):Cb D y:=by
 have h0:0<=bx D 0 z m:=by
  by_cases e:0<=bx D 0 z m
  ·exact e
  unfold bu at h;rw[if_neg (by omega)] at h;omega
 obtain⟨h1,h2⟩:=znr hR z hz m h0;refine⟨(bx D 0 z m).toNat,by omega,h2,?_⟩;rw[show (((bx D 0 z m).toNat:Nat):Int)=bx D 0 z m by omega];exact h
def oE:ByteArray:=⟨#[105,102,115]⟩
theorem zpE{w w':World}(h:M5 jC w e w'):∃(X:Dd) (C:Nat),e=.returned (.tuple #[.agg X.cD,.int .i64 0])/\DM w' X/\Mn X C/\bu X (bx X 0 (fU fJ) 2)=0/\bu X (bx X 0 (fU oE) 3)=1/\Cb X 0/\Cb X 1/\Below w.heap.size w w':=by
 obtain⟨cZ,cQ,lq,Sz⟩:=znq;have hne:jC.length=2:=rfl;have hr0:∀er,Aq (jC.take 0) jC[0] er->er=0:=fun er hr=>TW hr cZ (fun y hy=>by simp at hy) Sz Lf XC (fun hh=>by have:=(ZN []).1 hh;simp at this)
 have AP:∀er,Aq (jC.take 1) jC[1] er->er=0:=fun er hr=>TW hr cQ (fun y hy=>by
  have:y=jC[0]:=by simpa [jC] using hy
  rw[this];exact lq) Sz Mb VW zpD
 obtain⟨hb,⟨i,hi,er,he,_,hr,_⟩|⟨_,T,hT,h1⟩⟩:=h
 ·exfalso;have lp:i=0\/i=1:=by omega
  rcases lp with rfl|rfl
  ·exact he (hr0 er hr)
  exact he (AP er hr)
 have rm:fx fJ (T 0):=hT 0 (by omega);have IH:fx ri (T 1):=hT 1 (by omega);have JM:=rm.flat Lf;have Fa:=IH.flat Mb;rcases h1 with ⟨h1,_⟩|⟨X,C,rfl,hX,rL,hL⟩
 ·exfalso;rw[hne] at h1;have:=WR (fun j=>fR (T j)) 2 2 (fun k hk=>by
   have eQ:k=0\/k=1:=by omega
   rcases eQ with rfl|rfl
   ·show nB (eH (T 0) 0)<=2
    rw[IK rm.1 Lf.1 JM];exact XC
   ·show nB (eH (T 1) 0)<=2
    rw[IK IH.1 Mb.1 Fa];exact VW)
  have h2:2 ^ nB (uE (fun j=>fR (T j)) 2)<=2 ^ (2*2):=Nat.pow_le_pow_right (by omega) this;omega
 have ka:∀(z:Nat->Nat) (m:Nat),(∀j,z j<256)->(dO (T 0) ((range m).map z)↔(range m).map z=[105,102]):=fun z m hz=>by
  rw[LD rm.1 Lf.1 JM z hz m,ZN]
 have jo:∀(z:Nat->Nat) (m:Nat),(∀j,z j<256)->(dO (T 1) ((range m).map z)↔dO CA ((range m).map z)):=fun z m hz=>LD IH.1 Mb.1 Fa z hz m
 have e2:(range 2).map (fU fJ)=[105,102]:=by decide +kernel
 have e3:(range 3).map (fU oE)=[105,102,115]:=by decide +kernel
 have m0:bu X (bx X 0 (fU fJ) 2)=0:=by
  rcases hL (fU fJ) 2 (fun j=>xS _ j) with ⟨_,h2⟩|⟨i,hi,h2,_,h4⟩
  ·exact absurd ((ka _ _ (fun j=>xS _ j)).2 e2) (h2 0 (by omega))
  by_cases e:i=0
  ·rw[h2,e];rfl
  exact absurd ((ka _ _ (fun j=>xS _ j)).2 e2) (h4 0 (by omega))
 have m1:bu X (bx X 0 (fU oE) 3)=1:=by
  have kH:¬dO (T 0) ((range 3).map (fU oE)):=fun hh=>by
   have:=(ka _ _ (fun j=>xS _ j)).1 hh;rw[e3] at this;simp at this
  have xh:dO (T 1) ((range 3).map (fU oE)):=(jo _ _ (fun j=>xS _ j)).2 (by rw[e3];exact zpC);rcases hL (fU oE) 3 (fun j=>xS _ j) with ⟨_,h2⟩|⟨i,hi,h2,h3,h4⟩
  ·exact absurd xh (h2 1 (by omega))
  have lp:i=0\/i=1:=by omega
  rcases lp with rfl|rfl
  ·exact absurd h3 kH
  rw[h2];rfl
 exact⟨X,C,rfl,hX,rL,m0,m1,Z7 rL.r (fU fJ) (fun j=>xS _ j) 2 0 m0,Z7 rL.r (fU oE) (fun j=>xS _ j) 3 1 m1,hb⟩
theorem znl{D:Dd}{n:Nat}(h:∀y,y<n->Cb D y){w w':World}(hp:zn D n w e w'):∃a c,e=.returned (.slice a 0 c)/\Below w.heap.size w w':=by
 obtain⟨a,m,c,p,rfl,h1,h2,h3⟩:=hp;have hf:(range n).filter p=[]:=by
  rw[List.filter_eq_nil_iff];intro y hy hp;have:=List.mem_range.1 hy;exact ((h1 y this).1 hp) (h y this)
 have hl:=h2.1;rw[hf] at hl;have:m=0:=by simpa [cO] using hl.symm
 subst this;exact⟨a,c,rfl,h3⟩
theorem Xq{D:Dd}{C:Nat}(hR:DR D C)(st:Int):ng D st=bu D st:=by
 unfold ng bu;rw[hR.m]
theorem zhO(w:World):Calls prog 7 #[] w fun e w'=>e=.returned (.bool true)/\Below w.heap.size w w':=by
 have kb:=al w (.cells #[.string fJ,.int .i64 0,.string fJ,.string pD,.int .i64 0,.string ri] 33);have sb:=St.new w 33 #[.string fJ,.int .i64 0,.string fJ,.string pD,.int .i64 0,.string ri];have YL:gH (w.alloc (.cells #[.string fJ,.int .i64 0,.string fJ,.string pD,.int .i64 0,.string ri] 33)) (some ⟨w.heap.size,0,none⟩) jC:=fun _=>⟨_,0,rfl,by simp,fun j hj=>by rw[zero_add,sb.at_,show yp jC=[.string fJ,.int .i64 0,.string fJ,.string pD,.int .i64 0,.string ri] from rfl,List.getElem?_toArray]⟩
 have HM:Hid (Calls prog 13 #[.slice (some ⟨w.heap.size,0,none⟩) 2 2] (w.alloc (.cells #[.string fJ,.int .i64 0,.string fJ,.string pD,.int .i64 0,.string ri] 33)) fun e w'=>∃(X:Dd) (C:Nat),e=.returned (.tuple #[.agg X.cD,.int .i64 0])/\DM w' X/\(Mn X C/\bu X (bx X 0 (fU fJ) 2)=0/\bu X (bx X 0 (fU oE) 3)=1/\Cb X 0/\Cb X 1)/\Below w.heap.size w w'):=by
  refine (zhY 2 2 _ jC rfl (by omega) (by omega) (fun j hj=>?_) _ YL).mono fun e w' h=>?_
  ·have hj2:j=0\/j=1:=(by have:j<2:=hj;omega);rcases hj2 with rfl|rfl
   ·exact⟨by show (2:Nat)<=_;decide,by show (2:Nat)<=40;omega⟩
   exact⟨by show (2:Nat)<=_;decide,by show (6:Nat)<=40;omega⟩
  obtain⟨X,C,h1,h2,h3,h4,h5,h6,h7,h8⟩:=zpE h;exact⟨X,C,h1,h2,⟨h3,h4,h5,h6,h7⟩,kb.trans (h8.mono kb.size)⟩
 clear kb sb YL;go_enter func7,ntmps7;go_upto_region 1 with fail;go_wp2_with (first
  | (go_at_call 13;refine HM.out.mono ?_))
 rintro e w1 ⟨X,C',rfl,BI,hx,b1⟩;have HX:=hid hx;have A5:=hid BI;have eB:=hid (St.new w1 39 (zC 39));have H5:Hid (cm ((w1.alloc (.cells (zC 39) 39)).setRow w1.heap.size X.cD) w1.heap.size X/\Below w.heap.size w ((w1.alloc (.cells (zC 39) 39)).setRow w1.heap.size X.cD)):=
  ⟨cm.stored hx.1.r (BI.below (al _ _)) (St.new _ _ _),b1.trans ((lk (al _ _) (Nat.le_refl _) _).mono b1.size)⟩
 clear BI hx b1 HM;go_upto_region 2 with (first
  | (refine oO rfl 39 rfl (zC 39) (lP _) ?_)
  | (refine l6 rfl 39 _ _ rfl w1.heap.size 39 (zC 39) X.cD rfl rfl eB.out (by rw[ir,A5.out.sz]) (by rw[fB,A5.out.sz]) A5.out.one ?_))
 try simp only[put,sA,sB,sC]
 obtain⟨b5,mC⟩:∃b5,w1.heap.size=b5:=⟨_,rfl⟩
 rw[mC] at H5
 try rw[mC]
 generalize (w1.alloc (.cells (zC 39) 39)).setRow b5 X.cD=V at H5⊢;clear mC eB;have dG:Hid (∀W',Below V.heap.size V W'->Below V.heap.size V W'/\cm W' b5 X):=fun W' h=>⟨h,H5.out.1.ab h⟩
 have nL:Hid (∀W',Below V.heap.size V W'->Below w.heap.size w W'):=fun W' h=>H5.out.2.trans (h.mono H5.out.2.size)
 have Hm0:Hid (ng X (bx X 0 (fU fJ) 2)=0):=(Xq HX.out.1.r _).trans HX.out.2.1;have GI:Hid (ng X (bx X 0 (fU oE) 3)=1):=(Xq HX.out.1.r _).trans HX.out.2.2.1;refine wp_region_held_drew (S:=fun W'=>Below V.heap.size V W'/\cm W' b5 X) (by kernel_rfl) (dG.out _ (Below.refl _ _).drew) (fun hHeld=>?_)
 (refine av 0 ?_;refine av 1 ?_;refine av 2 ?_)
 (refine av 3 (v:=.agg X.cD) ?_ (hy:=by intro wz hSw;exact uI (o:=_) (ρ:=_) wz 39 (.tmp 1) rfl ⟨b5,0,none⟩ rfl X.cD _ (cm.st (And.right hSw)).part underlying39 rfl (cm.dm (And.right hSw)).info))
 (refine av 4 (v:=.agg X.cD) ?_ (hy:=by intro wz hSw;exact uI (o:=_) (ρ:=_) wz 39 (.tmp 1) rfl ⟨b5,0,none⟩ rfl X.cD _ (cm.st (And.right hSw)).part underlying39 rfl (cm.dm (And.right hSw)).info);try simp only[put,sA,sB,sC])
 refine bq 5 (fun K hK=>?_);skip;go_simp;go_at_call 16;refine (Xh X C' HX.out.1.r 0 fJ 2 rfl (by omega) _ hHeld.2.dm).mono ?_;rintro e w5 ⟨rfl,vv⟩;have bY:Below V.heap.size V w5:=hHeld.1.trans (vv.mono hHeld.1.size);clear vv
 try go_wp2_with fail
 refine hK.out _ _ (dG.out _ bY) (fun hHeld=>?_);clear hK K
 try simp only[put,sA,sB,sC]
 clear bY;refine bq 6 (fun K hK=>?_);skip;go_simp;go_at_call 15;refine (XI X _ _ hHeld.2.dm (by have:=HX.out.1.r.m;have:=HX.out.1.r.n2;omega)).mono ?_;rintro e w6 ⟨rfl,vv⟩;rw[Hm0.out];have bY:Below V.heap.size V w6:=hHeld.1.trans (vv.mono hHeld.1.size);clear vv
 try go_wp2_with fail
 refine hK.out _ _ (dG.out _ bY) (fun hHeld=>?_);clear hK K
 try simp only[put,sA,sB,sC]
 clear bY
 (refine av 7 ?_;refine av 8 ?_;refine av 9 ?_)
 (refine av 10 (v:=.agg X.cD) ?_ (hy:=by intro wz hSw;exact uI (o:=_) (ρ:=_) wz 39 (.tmp 1) rfl ⟨b5,0,none⟩ rfl X.cD _ (cm.st (And.right hSw)).part underlying39 rfl (cm.dm (And.right hSw)).info))
 (refine av 11 (v:=.agg X.cD) ?_ (hy:=by intro wz hSw;exact uI (o:=_) (ρ:=_) wz 39 (.tmp 1) rfl ⟨b5,0,none⟩ rfl X.cD _ (cm.st (And.right hSw)).part underlying39 rfl (cm.dm (And.right hSw)).info);try simp only[put,sA,sB,sC])
 refine bq 12 (fun K hK=>?_);skip;go_simp;go_at_call 16;refine (Xh X C' HX.out.1.r 0 oE 3 rfl (by omega) _ hHeld.2.dm).mono ?_;rintro e w7 ⟨rfl,vv⟩;have bY:Below V.heap.size V w7:=hHeld.1.trans (vv.mono hHeld.1.size);clear vv
 try go_wp2_with fail
 refine hK.out _ _ (dG.out _ bY) (fun hHeld=>?_);clear hK K
 try simp only[put,sA,sB,sC]
 clear bY;refine bq 13 (fun K hK=>?_);skip;go_simp;go_at_call 15;refine (XI X _ _ hHeld.2.dm (by have:=HX.out.1.r.m;have:=HX.out.1.r.n2;omega)).mono ?_;rintro e w8 ⟨rfl,vv⟩;rw[GI.out];have bY:Below V.heap.size V w8:=hHeld.1.trans (vv.mono hHeld.1.size);clear vv
 try go_wp2_with fail
 refine hK.out _ _ (dG.out _ bY) (fun hHeld=>?_);clear hK K
 try simp only[put,sA,sB,sC]
 clear bY
 (refine av 14 ?_;refine av 15 ?_;refine av 16 ?_)
 (refine av 17 (v:=.agg X.cD) ?_ (hy:=by intro wz hSw;exact uI (o:=_) (ρ:=_) wz 39 (.tmp 1) rfl ⟨b5,0,none⟩ rfl X.cD _ (cm.st (And.right hSw)).part underlying39 rfl (cm.dm (And.right hSw)).info);try simp only[put,sA,sB,sC])
 refine bq 18 (fun K hK=>?_);skip;go_simp;go_at_call 24;refine (zjV X C' HX.out.1.r 2 (by omega) _ hHeld.2.dm).mono ?_;intro e w9 hp;obtain⟨a9,c9,rfl,vv⟩:=znl (fun y hy=>by
  have mG:y=0\/y=1:=by omega
  rcases mG with rfl|rfl
  ·exact HX.out.2.2.2.1
  ·exact HX.out.2.2.2.2) hp
 clear hp;have bY:Below V.heap.size V w9:=hHeld.1.trans (vv.mono hHeld.1.size);clear vv
 try go_wp2_with fail
 refine hK.out _ _ (dG.out _ bY) (fun hHeld=>?_);clear hK K
 try simp only[put,sA,sB,sC]
 clear bY
 (refine av 19 ?_;refine av 20 ?_;refine av 21 ?_;try simp only[put,sA,sB,sC];refine av 22 ?_;try simp only[put,sA,sB,sC])
 refine wpAnyH_done (by kernel_rfl) ?_ _;have HF:=hid (nL.out _ hHeld.1);clear hHeld;go_wp2;go_ret;exact⟨rfl,HF.out⟩
end Go.Proofs.YtbacgnhkapancaaGreat
