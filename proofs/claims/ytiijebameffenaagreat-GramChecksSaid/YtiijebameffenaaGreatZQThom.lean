import Derived.Test.YtiijebameffenaaGreatZNRClose
set_option linter.all false
namespace Go.Proofs.YtiijebameffenaaGreat
open Go.RowKit
open List (mem_cons not_mem_nil range)
open Or (inl inr)
variable {L:List En}{f k x:Nat}{u:List Nat}
inductive dO (L:List Nat->Prop):List Nat->Prop
 | nil:dO L []
 | app {u v:List Nat}:L u->dO L v->dO L (u++v)
def nz(L M:List Nat->Prop)(s:List Nat):Prop:=∃u v,s=u++v/\L u/\M v
def fj:Rx->List Nat->Prop
 | .leaf x=>fun s=>if x.k=1 then ∃b,s=[b]/\b<256/\x.p b=true else s=[]
 | .un x a=>fun s=>if x.k=4 then dO (fj a) s else if x.k=5 then nz (fj a) (dO (fj a)) s else s=[]\/fj a s
 | .bin x a b=>fun s=>if x.k=2 then nz (fj a) (fj b) s else fj a s\/fj b s
theorem CU(x:Pc)(s:List Nat):fj (.leaf x) s=(if x.k=1 then ∃b,s=[b]/\b<256/\x.p b=true else s=[]):=rfl
theorem CM(x:Pc)(a:Rx)(s:List Nat):fj (.un x a) s=(if x.k=4 then dO (fj a) s else if x.k=5 then nz (fj a) (dO (fj a)) s else s=[]\/fj a s):=rfl
theorem Gd(x:Pc)(a b:Rx)(s:List Nat):fj (.bin x a b) s=(if x.k=2 then nz (fj a) (fj b) s else fj a s\/fj b s):=rfl
theorem dO.one{L:List Nat->Prop}{s:List Nat}(h:L s):dO L s:=by
 have:=dO.app h dO.nil;simpa using this
theorem dO.cat{L:List Nat->Prop}{v:List Nat}(h:dO L u)(k:dO L v):dO L (u++v):=by
 induction h with
 | nil=>simpa using k
 | app h1 _ ih=>rw[List.append_assoc];exact dO.app h1 ih
def fH(k:Int)(j r:Nat):List En:=
 [bY (2*r) (2*j),bY (2*j+1) (2*r+1)]++((if k=5 then [] else [bY (2*r) (2*r+1)])++(if k=6 then [] else [bY (2*j+1) (2*j)]))
def dj(k:Int)(i j r:Nat):List En:=
 if k=2 then [bY (2*r) (2*i),bY (2*i+1) (2*j),bY (2*j+1) (2*r+1)]
 else [bY (2*r) (2*i),bY (2*i+1) (2*r+1),bY (2*r) (2*j),bY (2*j+1) (2*r+1)]
def gZ(x:Pc)(r:Nat):List En:=[⟨2*r,2*r+1,x.p,decide (x.k=0)⟩]
def gn:Rx->Nat->List En
 | .leaf x,o=>gZ x o
 | .un x a,o=>gn a o++fH x.k (o+a.flat.length-1) (o+a.flat.length)
 | .bin x a b,o=>gn a o++(gn b (o+a.flat.length)++dj x.k (o+a.flat.length-1) (o+a.flat.length+b.flat.length-1) (o+a.flat.length+b.flat.length))
def fK(t:Rx)(o:Nat):Nat:=o+t.flat.length-1
theorem Po(x:Pc)(a:Rx)(o:Nat):fK (.un x a) o=o+a.flat.length:=by simp[fK,Rx.flat]
theorem Tc(x:Pc)(a b:Rx)(o:Nat):fK (.bin x a b) o=o+a.flat.length+b.flat.length:=by simp[fK,Rx.flat];omega
theorem Qj(x:Pc)(o:Nat):fK (.leaf x) o=o:=by simp[fK,Rx.flat]
theorem zpp(t:Rx)(o:Nat):o<=fK t o/\fK t o<o+t.flat.length:=by have:=t.aZ;unfold fK;omega
def jf:Rx->Nat->(List Nat->Prop)->Nat->(List Nat->Prop)
 | .leaf x,o,P,q=>if q=2*o then P else nz P (fj (.leaf x))
 | .un x a,o,P,q=>if q=2*(o+a.flat.length) then P else if q=2*(o+a.flat.length)+1 then nz P (fj (.un x a)) else jf a o (if x.k=6 then P else nz P (dO (fj a))) q
 | .bin x a b,o,P,q=>if q=2*(o+a.flat.length+b.flat.length) then P else if q=2*(o+a.flat.length+b.flat.length)+1 then nz P (fj (.bin x a b)) else
   if q<2*(o+a.flat.length) then jf a o P q else jf b (o+a.flat.length) (if x.k=2 then nz P (fj a) else P) q
theorem MB(t:Rx)(o:Nat)(P:List Nat->Prop):jf t o P (2*fK t o)=P:=by
 cases t with
 | leaf x=>rw[Qj];simp[jf]
 | un x a=>rw[Po];simp[jf]
 | bin x a b=>rw[Tc];simp[jf]
theorem NT(t:Rx)(o:Nat)(P:List Nat->Prop):jf t o P (2*fK t o+1)=nz P (fj t):=by
 cases t with
 | leaf x=>rw[Qj];unfold jf;rw[if_neg (by omega)]
 | un x a=>rw[Po];unfold jf;rw[if_neg (by omega),if_pos rfl]
 | bin x a b=>rw[Tc];unfold jf;rw[if_neg (by omega),if_pos rfl]
theorem Lf(t:Rx):∀o,∀e∈gn t o,(2*o<=e.f/\e.f<2*(o+t.flat.length))/\(2*o<=e.t/\e.t<2*(o+t.flat.length)):=by
 induction t with
 | leaf x=>
  intro o e he;have e1:e=⟨2*o,2*o+1,x.p,decide (x.k=0)⟩:=by simpa [gn,gZ] using he
  subst e1;have:(Rx.leaf x).flat.length=1:=rfl;rw[this];show (2*o<=2*o/\2*o<_)/\(2*o<=2*o+1/\2*o+1<_);omega
 | un x a ih=>
  intro o e he;have hp:=a.aZ;have hl:(Rx.un x a).flat.length=a.flat.length+1:=by simp[Rx.flat]
  rw[hl];rcases List.mem_append.1 he with h|h
  ·have:=ih o e h;omega
  have h2:e=bY (2*(o+a.flat.length)) (2*(o+a.flat.length-1))\/e=bY (2*(o+a.flat.length-1)+1) (2*(o+a.flat.length)+1)\/e=bY (2*(o+a.flat.length)) (2*(o+a.flat.length)+1)\/e=bY (2*(o+a.flat.length-1)+1) (2*(o+a.flat.length-1)):=by
   unfold fH at h;simp only[List.mem_append,mem_cons,not_mem_nil,or_false] at h;rcases h with (h|h)|h|h
   ·exact inl h
   ·exact inr (inl h)
   ·split at h
    ·simp at h
    exact inr (inr (inl (by simpa using h)))
   split at h
   ·simp at h
   exact inr (inr (inr (by simpa using h)))
  rcases h2 with rfl|rfl|rfl|rfl <;> (simp only[bY];omega)
 | bin x a b ih jh=>
  intro o e he;have hp:=a.aZ;have hq:=b.aZ;have hl:(Rx.bin x a b).flat.length=a.flat.length+b.flat.length+1:=by simp[Rx.flat];omega
  rw[hl];rcases List.mem_append.1 he with h|h
  ·have:=ih o e h;omega
  rcases List.mem_append.1 h with h|h
  ·have:=jh (o+a.flat.length) e h;omega
  unfold dj at h;split at h
  ·simp only[mem_cons,not_mem_nil,or_false] at h;rcases h with rfl|rfl|rfl <;> (simp only[bY];omega)
  simp only[mem_cons,not_mem_nil,or_false] at h;rcases h with rfl|rfl|rfl|rfl <;> (simp only[bY];omega)
def Pm(e:En)(W:Nat->List Nat->Prop):Prop:=(e.b=true->∀s,W e.f s->W e.t s)/\(e.b=false->∀c,c<256->e.p c=true->∀s,W e.f s->W e.t (s++[c]))
theorem zk{t:Nat}{W:Nat->List Nat->Prop}(h:∀s,W f s->W t s):Pm (bY f t) W:=⟨fun _=>h,fun h=>by cases h⟩
theorem VK{A:List Nat->Prop}{s:List Nat}(h:dO A s)(k:A u):dO A (s++u):=h.cat (dO.one k)
theorem zfY{A:List Nat->Prop}{s:List Nat}(h:dO A s)(k:A u):nz A (dO A) (s++u):=by
 induction h with
 | nil=>exact⟨u,[],by simp,k,dO.nil⟩
 | @app v w h1 h2 ih=>
  obtain⟨p,q,e,hp,hq⟩:=ih;exact⟨v,w++u,by simp,h1,by rw[e];exact dO.app hp hq⟩
theorem zmm(t:Rx)(hw:t.wf):∀o P,∀e∈gn t o,Pm e (jf t o P):=by
 induction t with
 | leaf x=>
  intro o P e he;have e1:e=⟨2*o,2*o+1,x.p,decide (x.k=0)⟩:=by simpa [gn,gZ] using he
  subst e1;have wf:jf (.leaf x) o P (2*o)=P:=by simp[jf]
  have wt:jf (.leaf x) o P (2*o+1)=nz P (fj (.leaf x)):=by unfold jf;rw[if_neg (by omega)]
  refine⟨fun hb s hs=>?_,fun hb c hc hp s hs=>?_⟩
  ·show jf (.leaf x) o P (2*o+1) s;rw[wt];have J7:jf (.leaf x) o P (2*o) s:=hs;rw[wf] at J7;have hk:x.k=0:=(by simpa using hb);refine⟨s,[],by simp,J7,?_⟩;rw[CU,if_neg (by omega)]
  show jf (.leaf x) o P (2*o+1) (s++[c]);rw[wt];have J7:jf (.leaf x) o P (2*o) s:=hs;rw[wf] at J7;have hk:¬x.k=0:=by simpa using hb
  have ll:x.k=1:=by
   rcases tO x.k with ⟨_,h⟩|⟨h,_⟩|⟨h,_⟩|⟨h,_⟩
   ·omega
   all_goals (have:=hw.1;omega)
  refine⟨s,[c],rfl,J7,?_⟩;rw[CU,if_pos ll];exact⟨c,rfl,hc,hp⟩
 | un x a ih=>
  intro o P e he;have hp:=a.aZ;have w0:jf (.un x a) o P (2*(o+a.flat.length))=P:=by simp[jf]
  have w1:jf (.un x a) o P (2*(o+a.flat.length)+1)=nz P (fj (.un x a)):=by unfold jf;rw[if_neg (by omega),if_pos rfl]
  have win:∀q,q<2*(o+a.flat.length)->jf (.un x a) o P q=jf a o (if x.k=6 then P else nz P (dO (fj a))) q:=fun q hq=>by
   show (if q=_ then _ else if q=_ then _ else _)=_;rw[if_neg (by omega),if_neg (by omega)]
  have w2:jf (.un x a) o P (2*(o+a.flat.length-1))=(if x.k=6 then P else nz P (dO (fj a))):=by rw[win _ (by omega)];exact MB a o _
  have w3:jf (.un x a) o P (2*(o+a.flat.length-1)+1)=nz (if x.k=6 then P else nz P (dO (fj a))) (fj a):=by rw[win _ (by omega)];exact NT a o _
  have hk:x.k=4\/x.k=5\/x.k=6:=by
   rcases tO x.k with ⟨h,_⟩|⟨h,_⟩|⟨_,h⟩|⟨h,_⟩
   ·have:=hw.1;omega
   ·have:=hw.1;omega
   ·exact h
   have:=hw.1;omega
  rcases List.mem_append.1 he with h|h
  ·have nf:=Lf a o e h;have fS:=ih hw.2.2 o (if x.k=6 then P else nz P (dO (fj a))) e h;refine⟨fun hb s hs=>?_,fun hb c hc ud s hs=>?_⟩
   ·rw[win _ (by omega)] at hs⊢;exact fS.1 hb s hs
   rw[win _ (by omega)] at hs⊢;exact fS.2 hb c hc ud s hs
  unfold fH at h;simp only[List.mem_append,mem_cons,not_mem_nil,or_false] at h;rcases h with (rfl|rfl)|h|h
  ·refine(zk fun s hs=>?_);rw[w0] at hs;rw[w2];split
   ·exact hs
   exact⟨s,[],by simp,hs,dO.nil⟩
  ·refine(zk fun s hs=>?_);rw[w3] at hs;rw[w1];obtain⟨u,v,rfl,hu,hv⟩:=hs;rcases hk with h4|h4|h4
   ·rw[if_neg (by omega)] at hu;obtain⟨u1,u2,rfl,h1,h2⟩:=hu;exact⟨u1,u2++v,by simp,h1,by rw[CM,if_pos h4];exact VK h2 hv⟩
   ·rw[if_neg (by omega)] at hu;obtain⟨u1,u2,rfl,h1,h2⟩:=hu;exact⟨u1,u2++v,by simp,h1,by rw[CM,if_neg (by omega),if_pos h4];exact zfY h2 hv⟩
   rw[if_pos h4] at hu;exact⟨u,v,rfl,hu,by rw[CM,if_neg (by omega),if_neg (by omega)];exact inr hv⟩
  ·split at h
   ·simp at h
   rename_i h5;have U7:e=bY (2*(o+a.flat.length)) (2*(o+a.flat.length)+1):=(by simpa using h);subst U7;refine(zk fun s hs=>?_);rw[w0] at hs;rw[w1];refine⟨s,[],by simp,hs,?_⟩;rw[CM];rcases hk with h4|h4|h4
   ·rw[if_pos h4];exact dO.nil
   ·exact absurd h4 h5
   rw[if_neg (by omega),if_neg (by omega)];exact inl rfl
  split at h
  ·simp at h
  rename_i h6;have U7:e=bY (2*(o+a.flat.length-1)+1) (2*(o+a.flat.length-1)):=by simpa using h
  subst U7;refine zk fun s hs=>?_
  rw[w3,if_neg h6] at hs;rw[w2,if_neg h6];obtain⟨u,v,rfl,⟨u1,u2,rfl,h1,h2⟩,hv⟩:=hs;exact⟨u1,u2++v,by simp,h1,VK h2 hv⟩
 | bin x a b ih jh=>
  intro o P e he;have hp:=a.aZ;have hq:=b.aZ;have w0:jf (.bin x a b) o P (2*(o+a.flat.length+b.flat.length))=P:=by simp[jf]
  have w1:jf (.bin x a b) o P (2*(o+a.flat.length+b.flat.length)+1)=nz P (fj (.bin x a b)):=by unfold jf;rw[if_neg (by omega),if_pos rfl]
  have wa:∀q,q<2*(o+a.flat.length)->jf (.bin x a b) o P q=jf a o P q:=fun q hq=>by
   show (if q=_ then _ else if q=_ then _ else if q<_ then _ else _)=_;rw[if_neg (by omega),if_neg (by omega),if_pos hq]
  have wb:∀q,2*(o+a.flat.length)<=q->q<2*(o+a.flat.length+b.flat.length)->jf (.bin x a b) o P q=jf b (o+a.flat.length) (if x.k=2 then nz P (fj a) else P) q:=fun q hq hq2=>by
   show (if q=_ then _ else if q=_ then _ else if q<_ then _ else _)=_;rw[if_neg (by omega),if_neg (by omega),if_neg (by omega)]
  have a0:jf (.bin x a b) o P (2*(o+a.flat.length-1))=P:=by rw[wa _ (by omega)];exact MB a o _
  have a1:jf (.bin x a b) o P (2*(o+a.flat.length-1)+1)=nz P (fj a):=by rw[wa _ (by omega)];exact NT a o _
  have b0:jf (.bin x a b) o P (2*(o+a.flat.length+b.flat.length-1))=(if x.k=2 then nz P (fj a) else P):=by rw[wb _ (by omega) (by omega)];exact MB b (o+a.flat.length) _
  have b1:jf (.bin x a b) o P (2*(o+a.flat.length+b.flat.length-1)+1)=nz (if x.k=2 then nz P (fj a) else P) (fj b):=by rw[wb _ (by omega) (by omega)];exact NT b (o+a.flat.length) _
  rcases List.mem_append.1 he with h|h
  ·have nf:=Lf a o e h;have fS:=ih hw.2.2.1 o P e h;refine⟨fun hb s hs=>?_,fun hb c hc ud s hs=>?_⟩
   ·rw[wa _ (by omega)] at hs⊢;exact fS.1 hb s hs
   rw[wa _ (by omega)] at hs⊢;exact fS.2 hb c hc ud s hs
  rcases List.mem_append.1 h with h|h
  ·have nf:=Lf b (o+a.flat.length) e h;have fS:=jh hw.2.2.2 (o+a.flat.length) (if x.k=2 then nz P (fj a) else P) e h;refine⟨fun hb s hs=>?_,fun hb c hc ud s hs=>?_⟩
   ·rw[wb _ (by omega) (by omega)] at hs⊢;exact fS.1 hb s hs
   rw[wb _ (by omega) (by omega)] at hs⊢;exact fS.2 hb c hc ud s hs
  unfold dj at h;split at h
  ·rename_i h2;simp only[mem_cons,not_mem_nil,or_false] at h;rcases h with rfl|rfl|rfl
   ·refine(zk fun s hs=>?_);rw[w0] at hs;rw[a0];exact hs
   ·refine(zk fun s hs=>?_);rw[a1] at hs;rw[b0,if_pos h2];exact hs
   refine(zk fun s hs=>?_);rw[b1,if_pos h2] at hs;rw[w1];obtain⟨u,v,rfl,⟨u1,u2,rfl,h3,h4⟩,hv⟩:=hs;exact⟨u1,u2++v,by simp,h3,by rw[Gd,if_pos h2];exact⟨u2,v,rfl,h4,hv⟩⟩
  rename_i h2;simp only[mem_cons,not_mem_nil,or_false] at h;rcases h with rfl|rfl|rfl|rfl
  ·refine(zk fun s hs=>?_);rw[w0] at hs;rw[a0];exact hs
  ·refine(zk fun s hs=>?_);rw[a1] at hs;rw[w1];obtain⟨u,v,rfl,hu,hv⟩:=hs;exact⟨u,v,rfl,hu,by rw[Gd,if_neg h2];exact inl hv⟩
  ·refine(zk fun s hs=>?_);rw[w0] at hs;rw[b0,if_neg h2];exact hs
  refine zk fun s hs=>?_
  rw[b1,if_neg h2] at hs;rw[w1];obtain⟨u,v,rfl,hu,hv⟩:=hs;exact⟨u,v,rfl,hu,by rw[Gd,if_neg h2];exact inr hv⟩
theorem da.free{z:Nat->Nat}(h:da L f z k x)(e:En)(he:e∈L)(hb:e.b=true)(hf:e.f=x):da L f z k e.t:=by
 cases k with
 | zero=>exact FR.step e h he hb hf rfl
 | succ k=>exact FR.step e h he hb hf rfl
theorem da.byte{z:Nat->Nat}(h:da L f z k x)(e:En)(he:e∈L)(hb:e.b=false)(hp:e.p (z k)=true)(hf:e.f=x):da L f z (k+1) e.t:=
 FR.base ⟨e,he,hb,hp,by rw[hf];exact h,rfl⟩
theorem da.keeps{z:Nat->Nat}(hz:∀j,z j<256){W:Nat->List Nat->Prop}(hW:∀e∈L,Pm e W)(h0:W f []):∀k x,da L f z k x->W x ((range k).map z):=by
 intro k
 induction k with
 | zero=>
  intro x h;exact FR.within (C:=fun x=>W x []) (fun x hx=>by rw[hx];exact h0) (fun e he hb hf=>(hW e he).1 hb _ hf) h
 | succ k ih=>
  intro x h;have e2:(range (k+1)).map z=(range k).map z++[z k]:=by rw[List.range_succ,List.map_append];rfl
  rw[e2];refine FR.within (C:=fun x=>W x ((range k).map z++[z k])) (fun x hx=>?_) (fun e he hb hf=>(hW e he).1 hb _ hf) h;obtain⟨e,he,hb,hp,hf,rfl⟩:=hx;exact (hW e he).2 hb _ (hz k) hp _ (ih _ hf)
def oO(z:Nat->Nat)(i n:Nat):List Nat:=(range n).map fun q=>z (i+q)
theorem OZ(z:Nat->Nat)(i n:Nat)(u v:List Nat)(h:oO z i n=u++v):u=oO z i u.length/\v=oO z (i+u.length) v.length/\n=u.length+v.length:=by
 have hl:n=u.length+v.length:=by
  have:=congrArg List.length h;simpa [oO] using this
 subst hl;have e:oO z i (u.length+v.length)=oO z i u.length++oO z (i+u.length) v.length:=by
  unfold oO;rw[List.range_add,List.map_append,List.map_map];congr 1;refine List.map_congr_left fun q _=>?_
  show z (i+(u.length+q))=z (i+u.length+q);rw[Nat.add_assoc]
 rw[e] at h;have h2:=List.append_inj h (by simp[oO]);exact⟨h2.1.symm,h2.2.symm,rfl⟩
theorem zrI(t:Rx)(hw:t.wf):∀(o:Nat) (L:List En) (f:Nat) (z:Nat->Nat),(∀e∈gn t o,e∈L)->∀i n,fj t (oO z i n)->da L f z i (2*fK t o)->da L f z (i+n) (2*fK t o+1):=by
 induction t with
 | leaf x=>
  intro o L f z hL i n hs hr;rw[Qj] at hr⊢;have he:(⟨2*o,2*o+1,x.p,decide (x.k=0)⟩:En)∈L:=hL _ (by simp[gn,gZ]);rw[CU] at hs;by_cases h1:x.k=1
  ·rw[if_pos h1] at hs;obtain⟨b,hs,hb,hp⟩:=hs;have hn:n=1:=by
    have:=congrArg List.length hs;simpa [oO] using this
   subst hn;have Jk:z i=b:=(by simpa [oO] using hs);exact da.byte hr _ he (by simp;omega) (by rw[Jk];exact hp) rfl
  rw[if_neg h1] at hs;have hn:n=0:=by
   have:=congrArg List.length hs;simpa [oO] using this
  subst hn;have h0:x.k=0:=by
   rcases tO x.k with ⟨_,h⟩|⟨h,_⟩|⟨h,_⟩|⟨h,_⟩
   ·omega
   all_goals (have:=hw.1;omega)
  exact da.free hr _ he (by simp[h0]) rfl
 | un x a ih=>
  intro o L f z hL i n hs hr;have hk:x.k=4\/x.k=5\/x.k=6:=by
   rcases tO x.k with ⟨h,_⟩|⟨h,_⟩|⟨_,h⟩|⟨h,_⟩
   ·have:=hw.1;omega
   ·have:=hw.1;omega
   ·exact h
   have:=hw.1;omega
  rw[Po] at hr⊢;have hA:∀i n,fj a (oO z i n)->da L f z i (2*fK a o)->da L f z (i+n) (2*fK a o+1):=fun i n=>ih hw.2.2 o L f z (fun e he=>hL e (List.mem_append.2 (inl he))) i n
  have hm:∀e∈fH x.k (o+a.flat.length-1) (o+a.flat.length),e∈L:=fun e he=>hL e (List.mem_append.2 (inr he))
  have e1:bY (2*(o+a.flat.length)) (2*fK a o)∈L:=hm _ (by simp[fH,fK]);have e2:bY (2*fK a o+1) (2*(o+a.flat.length)+1)∈L:=hm _ (by simp[fH,fK]);have e3:x.k≠5->bY (2*(o+a.flat.length)) (2*(o+a.flat.length)+1)∈L:=fun h=>hm _ (by simp[fH,h])
  have e4:x.k≠6->bY (2*fK a o+1) (2*fK a o)∈L:=fun h=>hm _ (by simp[fH,fK,h])
  have hgo:da L f z i (2*fK a o):=hr.free _ e1 rfl rfl;have Da:x.k≠6->∀s,dO (fj a) s->∀i n,oO z i n=s->da L f z i (2*fK a o+1)->da L f z (i+n) (2*fK a o+1):=by
   intro h6 s cU
   induction cU with
   | nil=>
    intro i n hz h;have hn:n=0:=by
     have:=congrArg List.length hz;simpa [oO] using this
    subst hn;exact h
   | @app u v h1 h2 ih2=>
    intro i n hz h;obtain⟨hu,hv,rfl⟩:=OZ z i n u v hz;have h3:=hA i u.length (by rw[<-hu];exact h1) (h.free _ (e4 h6) rfl rfl);have h4:=ih2 (i+u.length) v.length hv.symm h3;rwa [Nat.add_assoc] at h4
  rw[CM] at hs;rcases hk with h4|h4|h4
  ·rw[if_pos h4] at hs;generalize hz:oO z i n=s at hs;cases hs with
   | nil=>
    have hn:n=0:=by
     have:=congrArg List.length hz;simpa [oO] using this
    subst hn;exact hr.free _ (e3 (by omega)) rfl rfl
   | @app u v h1 h2=>
    obtain⟨hu,hv,rfl⟩:=OZ z i n u v hz;have h3:=hA i u.length (by rw[<-hu];exact h1) hgo;have h5:=Da (by omega) v h2 (i+u.length) v.length hv.symm h3;rw[Nat.add_assoc] at h5;exact h5.free _ e2 rfl rfl
  ·rw[if_neg (by omega),if_pos h4] at hs;obtain⟨u,v,hz,h1,h2⟩:=hs;obtain⟨hu,hv,rfl⟩:=OZ z i n u v hz;have h3:=hA i u.length (by rw[<-hu];exact h1) hgo;have h5:=Da (by omega) v h2 (i+u.length) v.length hv.symm h3;rw[Nat.add_assoc] at h5;exact h5.free _ e2 rfl rfl
  rw[if_neg (by omega),if_neg (by omega)] at hs;rcases hs with hs|hs
  ·have hn:n=0:=by
    have:=congrArg List.length hs;simpa [oO] using this
   subst hn;exact hr.free _ (e3 (by omega)) rfl rfl
  exact (hA i n hs hgo).free _ e2 rfl rfl
 | bin x a b ih jh=>
  intro o L f z hL i n hs hr;have hp:=a.aZ;have hq:=b.aZ;rw[Tc] at hr⊢;have hA:∀i n,fj a (oO z i n)->da L f z i (2*fK a o)->da L f z (i+n) (2*fK a o+1):=fun i n=>ih hw.2.2.1 o L f z (fun e he=>hL e (List.mem_append.2 (inl he))) i n
  have hB:∀i n,fj b (oO z i n)->da L f z i (2*fK b (o+a.flat.length))->da L f z (i+n) (2*fK b (o+a.flat.length)+1):=fun i n=>jh hw.2.2.2 (o+a.flat.length) L f z (fun e he=>hL e (List.mem_append.2 (inr (List.mem_append.2 (inl he))))) i n
  have hm:∀e∈dj x.k (fK a o) (fK b (o+a.flat.length)) (o+a.flat.length+b.flat.length),e∈L:=fun e he=>hL e (List.mem_append.2 (inr (List.mem_append.2 (inr he))))
  rw[Gd] at hs;by_cases h2:x.k=2
  ·rw[if_pos h2] at hs;obtain⟨u,v,hz,h1,h3⟩:=hs;obtain⟨hu,hv,rfl⟩:=OZ z i n u v hz;have e1:bY (2*(o+a.flat.length+b.flat.length)) (2*fK a o)∈L:=hm _ (by simp[dj,h2]);have e2:bY (2*fK a o+1) (2*fK b (o+a.flat.length))∈L:=hm _ (by simp[dj,h2]);have e3:bY (2*fK b (o+a.flat.length)+1) (2*(o+a.flat.length+b.flat.length)+1)∈L:=hm _ (by simp[dj,h2]);have h4:=hA i u.length (by rw[<-hu];exact h1) (hr.free _ e1 rfl rfl);have h5:=hB (i+u.length) v.length (by rw[<-hv];exact h3) (h4.free _ e2 rfl rfl);rw[Nat.add_assoc] at h5;exact h5.free _ e3 rfl rfl
  rw[if_neg h2] at hs;have e1:bY (2*(o+a.flat.length+b.flat.length)) (2*fK a o)∈L:=hm _ (by simp[dj,h2]);have e2:bY (2*fK a o+1) (2*(o+a.flat.length+b.flat.length)+1)∈L:=hm _ (by simp[dj,h2]);have e3:bY (2*(o+a.flat.length+b.flat.length)) (2*fK b (o+a.flat.length))∈L:=hm _ (by simp[dj,h2]);have e4:bY (2*fK b (o+a.flat.length)+1) (2*(o+a.flat.length+b.flat.length)+1)∈L:=hm _ (by simp[dj,h2]);rcases hs with hs|hs
  ·exact (hA i n hs (hr.free _ e1 rfl rfl)).free _ e2 rfl rfl
  exact (hB i n hs (hr.free _ e3 rfl rfl)).free _ e4 rfl rfl
theorem Su(t:Rx)(hw:t.wf)(z:Nat->Nat)(hz:∀j,z j<256)(k:Nat):da (gn t 0) (2*fK t 0) z k (2*fK t 0+1)↔fj t ((range k).map z):=by
 constructor
 ·intro h;have h2:=da.keeps hz (W:=jf t 0 (fun s=>s=[])) (zmm t hw 0 _) (by rw[MB]) k _ h;rw[NT] at h2;obtain⟨u,v,e,rfl,hv⟩:=h2;rw[e];simpa using hv
 intro h;have e:oO z 0 k=(range k).map z:=by
  unfold oO;refine List.map_congr_left fun q _=>?_
  rw[Nat.zero_add]
 have h0:da (gn t 0) (2*fK t 0) z 0 (2*fK t 0):=FR.base rfl;have:=zrI t hw 0 (gn t 0) (2*fK t 0) z (fun _ h=>h) 0 k (by rw[e];exact h) h0;rwa [Nat.zero_add] at this
