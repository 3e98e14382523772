import Derived.Test.YtiijebameffenaaGreatZNRClose
set_option linter.all false
namespace Go.Proofs.YtiijebameffenaaGreat
open Go.RowKit
open List (mem_cons not_mem_nil range)
open Or (inl inr)
variable {L:List En}{f k x:Nat}{u:List Nat}
inductive dK (L:List Nat->Prop):List Nat->Prop
 | nil:dK L []
 | app {u v:List Nat}:L u->dK L v->dK L (u++v)
def me(L M:List Nat->Prop)(s:List Nat):Prop:=∃u v,s=u++v/\L u/\M v
def eQ:Rx->List Nat->Prop
 | .leaf x=>fun s=>if x.k=1 then ∃b,s=[b]/\b<256/\x.p b=true else s=[]
 | .un x a=>fun s=>if x.k=4 then dK (eQ a) s else if x.k=5 then me (eQ a) (dK (eQ a)) s else s=[]\/eQ a s
 | .bin x a b=>fun s=>if x.k=2 then me (eQ a) (eQ b) s else eQ a s\/eQ b s
theorem Ld(x:Pc)(s:List Nat):eQ (.leaf x) s=(if x.k=1 then ∃b,s=[b]/\b<256/\x.p b=true else s=[]):=rfl
theorem Ia(x:Pc)(a:Rx)(s:List Nat):eQ (.un x a) s=(if x.k=4 then dK (eQ a) s else if x.k=5 then me (eQ a) (dK (eQ a)) s else s=[]\/eQ a s):=rfl
theorem LU(x:Pc)(a b:Rx)(s:List Nat):eQ (.bin x a b) s=(if x.k=2 then me (eQ a) (eQ b) s else eQ a s\/eQ b s):=rfl
theorem dK.one{L:List Nat->Prop}{s:List Nat}(h:L s):dK L s:=by
 have:=dK.app h dK.nil;simpa using this
theorem dK.cat{L:List Nat->Prop}{v:List Nat}(h:dK L u)(k:dK L v):dK L (u++v):=by
 induction h with
 | nil=>simpa using k
 | app h1 _ ih=>rw[List.append_assoc];exact dK.app h1 ih
def eB(k:Int)(j r:Nat):List En:=
 [bx (2*r) (2*j),bx (2*j+1) (2*r+1)]++((if k=5 then [] else [bx (2*r) (2*r+1)])++(if k=6 then [] else [bx (2*j+1) (2*j)]))
def cn(k:Int)(i j r:Nat):List En:=
 if k=2 then [bx (2*r) (2*i),bx (2*i+1) (2*j),bx (2*j+1) (2*r+1)]
 else [bx (2*r) (2*i),bx (2*i+1) (2*r+1),bx (2*r) (2*j),bx (2*j+1) (2*r+1)]
def fS(x:Pc)(r:Nat):List En:=[⟨2*r,2*r+1,x.p,decide (x.k=0)⟩]
def fx:Rx->Nat->List En
 | .leaf x,o=>fS x o
 | .un x a,o=>fx a o++eB x.k (o+a.flat.length-1) (o+a.flat.length)
 | .bin x a b,o=>fx a o++(fx b (o+a.flat.length)++cn x.k (o+a.flat.length-1) (o+a.flat.length+b.flat.length-1) (o+a.flat.length+b.flat.length))
def ef(t:Rx)(o:Nat):Nat:=o+t.flat.length-1
theorem Qh(x:Pc)(a:Rx)(o:Nat):ef (.un x a) o=o+a.flat.length:=by simp[ef,Rx.flat]
theorem QZ(x:Pc)(a b:Rx)(o:Nat):ef (.bin x a b) o=o+a.flat.length+b.flat.length:=by simp[ef,Rx.flat];omega
theorem Nq(x:Pc)(o:Nat):ef (.leaf x) o=o:=by simp[ef,Rx.flat]
theorem Za(t:Rx)(o:Nat):o<=ef t o/\ef t o<o+t.flat.length:=by have:=t.ca;unfold ef;omega
def gW:Rx->Nat->(List Nat->Prop)->Nat->(List Nat->Prop)
 | .leaf x,o,P,q=>if q=2*o then P else me P (eQ (.leaf x))
 | .un x a,o,P,q=>if q=2*(o+a.flat.length) then P else if q=2*(o+a.flat.length)+1 then me P (eQ (.un x a)) else gW a o (if x.k=6 then P else me P (dK (eQ a))) q
 | .bin x a b,o,P,q=>if q=2*(o+a.flat.length+b.flat.length) then P else if q=2*(o+a.flat.length+b.flat.length)+1 then me P (eQ (.bin x a b)) else
   if q<2*(o+a.flat.length) then gW a o P q else gW b (o+a.flat.length) (if x.k=2 then me P (eQ a) else P) q
theorem LM(t:Rx)(o:Nat)(P:List Nat->Prop):gW t o P (2*ef t o)=P:=by
 cases t with
 | leaf x=>rw[Nq];simp[gW]
 | un x a=>rw[Qh];simp[gW]
 | bin x a b=>rw[QZ];simp[gW]
theorem Ku(t:Rx)(o:Nat)(P:List Nat->Prop):gW t o P (2*ef t o+1)=me P (eQ t):=by
 cases t with
 | leaf x=>rw[Nq];unfold gW;rw[if_neg (by omega)]
 | un x a=>rw[Qh];unfold gW;rw[if_neg (by omega),if_pos rfl]
 | bin x a b=>rw[QZ];unfold gW;rw[if_neg (by omega),if_pos rfl]
theorem Ik(t:Rx):∀o,∀e∈fx t o,(2*o<=e.f/\e.f<2*(o+t.flat.length))/\(2*o<=e.t/\e.t<2*(o+t.flat.length)):=by
 induction t with
 | leaf x=>
  intro o e he;have e1:e=⟨2*o,2*o+1,x.p,decide (x.k=0)⟩:=by simpa [fx,fS] using he
  subst e1;have:(Rx.leaf x).flat.length=1:=rfl;rw[this];show (2*o<=2*o/\2*o<_)/\(2*o<=2*o+1/\2*o+1<_);omega
 | un x a ih=>
  intro o e he;have hp:=a.ca;have hl:(Rx.un x a).flat.length=a.flat.length+1:=by simp[Rx.flat]
  rw[hl];rcases List.mem_append.1 he with h|h
  ·have:=ih o e h;omega
  have h2:e=bx (2*(o+a.flat.length)) (2*(o+a.flat.length-1))\/e=bx (2*(o+a.flat.length-1)+1) (2*(o+a.flat.length)+1)\/e=bx (2*(o+a.flat.length)) (2*(o+a.flat.length)+1)\/e=bx (2*(o+a.flat.length-1)+1) (2*(o+a.flat.length-1)):=by
   unfold eB at h;simp only[List.mem_append,mem_cons,not_mem_nil,or_false] at h;rcases h with (h|h)|h|h
   ·exact inl h
   ·exact inr (inl h)
   ·split at h
    ·simp at h
    exact inr (inr (inl (by simpa using h)))
   split at h
   ·simp at h
   exact inr (inr (inr (by simpa using h)))
  rcases h2 with rfl|rfl|rfl|rfl <;> (simp only[bx];omega)
 | bin x a b ih jh=>
  intro o e he;have hp:=a.ca;have hq:=b.ca;have hl:(Rx.bin x a b).flat.length=a.flat.length+b.flat.length+1:=by simp[Rx.flat];omega
  rw[hl];rcases List.mem_append.1 he with h|h
  ·have:=ih o e h;omega
  rcases List.mem_append.1 h with h|h
  ·have:=jh (o+a.flat.length) e h;omega
  unfold cn at h;split at h
  ·simp only[mem_cons,not_mem_nil,or_false] at h;rcases h with rfl|rfl|rfl <;> (simp only[bx];omega)
  simp only[mem_cons,not_mem_nil,or_false] at h;rcases h with rfl|rfl|rfl|rfl <;> (simp only[bx];omega)
def Po(e:En)(W:Nat->List Nat->Prop):Prop:=(e.b=true->∀s,W e.f s->W e.t s)/\(e.b=false->∀c,c<256->e.p c=true->∀s,W e.f s->W e.t (s++[c]))
theorem xR{t:Nat}{W:Nat->List Nat->Prop}(h:∀s,W f s->W t s):Po (bx f t) W:=⟨fun _=>h,fun h=>by cases h⟩
theorem Ux{A:List Nat->Prop}{s:List Nat}(h:dK A s)(k:A u):dK A (s++u):=h.cat (dK.one k)
theorem ze3{A:List Nat->Prop}{s:List Nat}(h:dK A s)(k:A u):me A (dK A) (s++u):=by
 induction h with
 | nil=>exact⟨u,[],by simp,k,dK.nil⟩
 | @app v w h1 h2 ih=>
  obtain⟨p,q,e,hp,hq⟩:=ih;exact⟨v,w++u,by simp,h1,by rw[e];exact dK.app hp hq⟩
theorem zkv(t:Rx)(hw:t.wf):∀o P,∀e∈fx t o,Po e (gW t o P):=by
 induction t with
 | leaf x=>
  intro o P e he;have e1:e=⟨2*o,2*o+1,x.p,decide (x.k=0)⟩:=by simpa [fx,fS] using he
  subst e1;have wf:gW (.leaf x) o P (2*o)=P:=by simp[gW]
  have wt:gW (.leaf x) o P (2*o+1)=me P (eQ (.leaf x)):=by unfold gW;rw[if_neg (by omega)]
  refine⟨fun hb s hs=>?_,fun hb c hc hp s hs=>?_⟩
  ·show gW (.leaf x) o P (2*o+1) s;rw[wt];have FW:gW (.leaf x) o P (2*o) s:=hs;rw[wf] at FW;have hk:x.k=0:=(by simpa using hb);refine⟨s,[],by simp,FW,?_⟩;rw[Ld,if_neg (by omega)]
  show gW (.leaf x) o P (2*o+1) (s++[c]);rw[wt];have FW:gW (.leaf x) o P (2*o) s:=hs;rw[wf] at FW;have hk:¬x.k=0:=by simpa using hb
  have pM:x.k=1:=by
   rcases BH x.k with ⟨_,h⟩|⟨h,_⟩|⟨h,_⟩|⟨h,_⟩
   ·omega
   all_goals (have:=hw.1;omega)
  refine⟨s,[c],rfl,FW,?_⟩;rw[Ld,if_pos pM];exact⟨c,rfl,hc,hp⟩
 | un x a ih=>
  intro o P e he;have hp:=a.ca;have w0:gW (.un x a) o P (2*(o+a.flat.length))=P:=by simp[gW]
  have w1:gW (.un x a) o P (2*(o+a.flat.length)+1)=me P (eQ (.un x a)):=by unfold gW;rw[if_neg (by omega),if_pos rfl]
  have win:∀q,q<2*(o+a.flat.length)->gW (.un x a) o P q=gW a o (if x.k=6 then P else me P (dK (eQ a))) q:=fun q hq=>by
   show (if q=_ then _ else if q=_ then _ else _)=_;rw[if_neg (by omega),if_neg (by omega)]
  have w2:gW (.un x a) o P (2*(o+a.flat.length-1))=(if x.k=6 then P else me P (dK (eQ a))):=by rw[win _ (by omega)];exact LM a o _
  have w3:gW (.un x a) o P (2*(o+a.flat.length-1)+1)=me (if x.k=6 then P else me P (dK (eQ a))) (eQ a):=by rw[win _ (by omega)];exact Ku a o _
  have hk:x.k=4\/x.k=5\/x.k=6:=by
   rcases BH x.k with ⟨h,_⟩|⟨h,_⟩|⟨_,h⟩|⟨h,_⟩
   ·have:=hw.1;omega
   ·have:=hw.1;omega
   ·exact h
   have:=hw.1;omega
  rcases List.mem_append.1 he with h|h
  ·have oz:=Ik a o e h;have eO:=ih hw.2.2 o (if x.k=6 then P else me P (dK (eQ a))) e h;refine⟨fun hb s hs=>?_,fun hb c hc ta s hs=>?_⟩
   ·rw[win _ (by omega)] at hs⊢;exact eO.1 hb s hs
   rw[win _ (by omega)] at hs⊢;exact eO.2 hb c hc ta s hs
  unfold eB at h;simp only[List.mem_append,mem_cons,not_mem_nil,or_false] at h;rcases h with (rfl|rfl)|h|h
  ·refine(xR fun s hs=>?_);rw[w0] at hs;rw[w2];split
   ·exact hs
   exact⟨s,[],by simp,hs,dK.nil⟩
  ·refine(xR fun s hs=>?_);rw[w3] at hs;rw[w1];obtain⟨u,v,rfl,hu,hv⟩:=hs;rcases hk with h4|h4|h4
   ·rw[if_neg (by omega)] at hu;obtain⟨u1,u2,rfl,h1,h2⟩:=hu;exact⟨u1,u2++v,by simp,h1,by rw[Ia,if_pos h4];exact Ux h2 hv⟩
   ·rw[if_neg (by omega)] at hu;obtain⟨u1,u2,rfl,h1,h2⟩:=hu;exact⟨u1,u2++v,by simp,h1,by rw[Ia,if_neg (by omega),if_pos h4];exact ze3 h2 hv⟩
   rw[if_pos h4] at hu;exact⟨u,v,rfl,hu,by rw[Ia,if_neg (by omega),if_neg (by omega)];exact inr hv⟩
  ·split at h
   ·simp at h
   rename_i h5;have Pf:e=bx (2*(o+a.flat.length)) (2*(o+a.flat.length)+1):=(by simpa using h);subst Pf;refine(xR fun s hs=>?_);rw[w0] at hs;rw[w1];refine⟨s,[],by simp,hs,?_⟩;rw[Ia];rcases hk with h4|h4|h4
   ·rw[if_pos h4];exact dK.nil
   ·exact absurd h4 h5
   rw[if_neg (by omega),if_neg (by omega)];exact inl rfl
  split at h
  ·simp at h
  rename_i h6;have Pf:e=bx (2*(o+a.flat.length-1)+1) (2*(o+a.flat.length-1)):=by simpa using h
  subst Pf;refine xR fun s hs=>?_
  rw[w3,if_neg h6] at hs;rw[w2,if_neg h6];obtain⟨u,v,rfl,⟨u1,u2,rfl,h1,h2⟩,hv⟩:=hs;exact⟨u1,u2++v,by simp,h1,Ux h2 hv⟩
 | bin x a b ih jh=>
  intro o P e he;have hp:=a.ca;have hq:=b.ca;have w0:gW (.bin x a b) o P (2*(o+a.flat.length+b.flat.length))=P:=by simp[gW]
  have w1:gW (.bin x a b) o P (2*(o+a.flat.length+b.flat.length)+1)=me P (eQ (.bin x a b)):=by unfold gW;rw[if_neg (by omega),if_pos rfl]
  have wa:∀q,q<2*(o+a.flat.length)->gW (.bin x a b) o P q=gW a o P q:=fun q hq=>by
   show (if q=_ then _ else if q=_ then _ else if q<_ then _ else _)=_;rw[if_neg (by omega),if_neg (by omega),if_pos hq]
  have wb:∀q,2*(o+a.flat.length)<=q->q<2*(o+a.flat.length+b.flat.length)->gW (.bin x a b) o P q=gW b (o+a.flat.length) (if x.k=2 then me P (eQ a) else P) q:=fun q hq hq2=>by
   show (if q=_ then _ else if q=_ then _ else if q<_ then _ else _)=_;rw[if_neg (by omega),if_neg (by omega),if_neg (by omega)]
  have a0:gW (.bin x a b) o P (2*(o+a.flat.length-1))=P:=by rw[wa _ (by omega)];exact LM a o _
  have a1:gW (.bin x a b) o P (2*(o+a.flat.length-1)+1)=me P (eQ a):=by rw[wa _ (by omega)];exact Ku a o _
  have b0:gW (.bin x a b) o P (2*(o+a.flat.length+b.flat.length-1))=(if x.k=2 then me P (eQ a) else P):=by rw[wb _ (by omega) (by omega)];exact LM b (o+a.flat.length) _
  have b1:gW (.bin x a b) o P (2*(o+a.flat.length+b.flat.length-1)+1)=me (if x.k=2 then me P (eQ a) else P) (eQ b):=by rw[wb _ (by omega) (by omega)];exact Ku b (o+a.flat.length) _
  rcases List.mem_append.1 he with h|h
  ·have oz:=Ik a o e h;have eO:=ih hw.2.2.1 o P e h;refine⟨fun hb s hs=>?_,fun hb c hc ta s hs=>?_⟩
   ·rw[wa _ (by omega)] at hs⊢;exact eO.1 hb s hs
   rw[wa _ (by omega)] at hs⊢;exact eO.2 hb c hc ta s hs
  rcases List.mem_append.1 h with h|h
  ·have oz:=Ik b (o+a.flat.length) e h;have eO:=jh hw.2.2.2 (o+a.flat.length) (if x.k=2 then me P (eQ a) else P) e h;refine⟨fun hb s hs=>?_,fun hb c hc ta s hs=>?_⟩
   ·rw[wb _ (by omega) (by omega)] at hs⊢;exact eO.1 hb s hs
   rw[wb _ (by omega) (by omega)] at hs⊢;exact eO.2 hb c hc ta s hs
  unfold cn at h;split at h
  ·rename_i h2;simp only[mem_cons,not_mem_nil,or_false] at h;rcases h with rfl|rfl|rfl
   ·refine(xR fun s hs=>?_);rw[w0] at hs;rw[a0];exact hs
   ·refine(xR fun s hs=>?_);rw[a1] at hs;rw[b0,if_pos h2];exact hs
   refine(xR fun s hs=>?_);rw[b1,if_pos h2] at hs;rw[w1];obtain⟨u,v,rfl,⟨u1,u2,rfl,h3,h4⟩,hv⟩:=hs;exact⟨u1,u2++v,by simp,h3,by rw[LU,if_pos h2];exact⟨u2,v,rfl,h4,hv⟩⟩
  rename_i h2;simp only[mem_cons,not_mem_nil,or_false] at h;rcases h with rfl|rfl|rfl|rfl
  ·refine(xR fun s hs=>?_);rw[w0] at hs;rw[a0];exact hs
  ·refine(xR fun s hs=>?_);rw[a1] at hs;rw[w1];obtain⟨u,v,rfl,hu,hv⟩:=hs;exact⟨u,v,rfl,hu,by rw[LU,if_neg h2];exact inl hv⟩
  ·refine(xR fun s hs=>?_);rw[w0] at hs;rw[b0,if_neg h2];exact hs
  refine xR fun s hs=>?_
  rw[b1,if_neg h2] at hs;rw[w1];obtain⟨u,v,rfl,hu,hv⟩:=hs;exact⟨u,v,rfl,hu,by rw[LU,if_neg h2];exact inr hv⟩
theorem bZ.free{z:Nat->Nat}(h:bZ L f z k x)(e:En)(he:e∈L)(hb:e.b=true)(hf:e.f=x):bZ L f z k e.t:=by
 cases k with
 | zero=>exact FR.step e h he hb hf rfl
 | succ k=>exact FR.step e h he hb hf rfl
theorem bZ.byte{z:Nat->Nat}(h:bZ L f z k x)(e:En)(he:e∈L)(hb:e.b=false)(hp:e.p (z k)=true)(hf:e.f=x):bZ L f z (k+1) e.t:=
 FR.base ⟨e,he,hb,hp,by rw[hf];exact h,rfl⟩
theorem bZ.keeps{z:Nat->Nat}(hz:∀j,z j<256){W:Nat->List Nat->Prop}(hW:∀e∈L,Po e W)(h0:W f []):∀k x,bZ L f z k x->W x ((range k).map z):=by
 intro k
 induction k with
 | zero=>
  intro x h;exact FR.within (C:=fun x=>W x []) (fun x hx=>by rw[hx];exact h0) (fun e he hb hf=>(hW e he).1 hb _ hf) h
 | succ k ih=>
  intro x h;have e2:(range (k+1)).map z=(range k).map z++[z k]:=by rw[List.range_succ,List.map_append];rfl
  rw[e2];refine FR.within (C:=fun x=>W x ((range k).map z++[z k])) (fun x hx=>?_) (fun e he hb hf=>(hW e he).1 hb _ hf) h;obtain⟨e,he,hb,hp,hf,rfl⟩:=hx;exact (hW e he).2 hb _ (hz k) hp _ (ih _ hf)
def mF(z:Nat->Nat)(i n:Nat):List Nat:=(range n).map fun q=>z (i+q)
theorem KX(z:Nat->Nat)(i n:Nat)(u v:List Nat)(h:mF z i n=u++v):u=mF z i u.length/\v=mF z (i+u.length) v.length/\n=u.length+v.length:=by
 have hl:n=u.length+v.length:=by
  have:=congrArg List.length h;simpa [mF] using this
 subst hl;have e:mF z i (u.length+v.length)=mF z i u.length++mF z (i+u.length) v.length:=by
  unfold mF;rw[List.range_add,List.map_append,List.map_map];congr 1;refine List.map_congr_left fun q _=>?_
  show z (i+(u.length+q))=z (i+u.length+q);rw[Nat.add_assoc]
 rw[e] at h;have h2:=List.append_inj h (by simp[mF]);exact⟨h2.1.symm,h2.2.symm,rfl⟩
theorem zpw(t:Rx)(hw:t.wf):∀(o:Nat) (L:List En) (f:Nat) (z:Nat->Nat),(∀e∈fx t o,e∈L)->∀i n,eQ t (mF z i n)->bZ L f z i (2*ef t o)->bZ L f z (i+n) (2*ef t o+1):=by
 induction t with
 | leaf x=>
  intro o L f z hL i n hs hr;rw[Nq] at hr⊢;have he:(⟨2*o,2*o+1,x.p,decide (x.k=0)⟩:En)∈L:=hL _ (by simp[fx,fS]);rw[Ld] at hs;by_cases h1:x.k=1
  ·rw[if_pos h1] at hs;obtain⟨b,hs,hb,hp⟩:=hs;have hn:n=1:=by
    have:=congrArg List.length hs;simpa [mF] using this
   subst hn;have I3:z i=b:=(by simpa [mF] using hs);exact bZ.byte hr _ he (by simp;omega) (by rw[I3];exact hp) rfl
  rw[if_neg h1] at hs;have hn:n=0:=by
   have:=congrArg List.length hs;simpa [mF] using this
  subst hn;have h0:x.k=0:=by
   rcases BH x.k with ⟨_,h⟩|⟨h,_⟩|⟨h,_⟩|⟨h,_⟩
   ·omega
   all_goals (have:=hw.1;omega)
  exact bZ.free hr _ he (by simp[h0]) rfl
 | un x a ih=>
  intro o L f z hL i n hs hr;have hk:x.k=4\/x.k=5\/x.k=6:=by
   rcases BH x.k with ⟨h,_⟩|⟨h,_⟩|⟨_,h⟩|⟨h,_⟩
   ·have:=hw.1;omega
   ·have:=hw.1;omega
   ·exact h
   have:=hw.1;omega
  rw[Qh] at hr⊢;have hA:∀i n,eQ a (mF z i n)->bZ L f z i (2*ef a o)->bZ L f z (i+n) (2*ef a o+1):=fun i n=>ih hw.2.2 o L f z (fun e he=>hL e (List.mem_append.2 (inl he))) i n
  have hm:∀e∈eB x.k (o+a.flat.length-1) (o+a.flat.length),e∈L:=fun e he=>hL e (List.mem_append.2 (inr he))
  have e1:bx (2*(o+a.flat.length)) (2*ef a o)∈L:=hm _ (by simp[eB,ef]);have e2:bx (2*ef a o+1) (2*(o+a.flat.length)+1)∈L:=hm _ (by simp[eB,ef]);have e3:x.k≠5->bx (2*(o+a.flat.length)) (2*(o+a.flat.length)+1)∈L:=fun h=>hm _ (by simp[eB,h])
  have e4:x.k≠6->bx (2*ef a o+1) (2*ef a o)∈L:=fun h=>hm _ (by simp[eB,ef,h])
  have hgo:bZ L f z i (2*ef a o):=hr.free _ e1 rfl rfl;have Au:x.k≠6->∀s,dK (eQ a) s->∀i n,mF z i n=s->bZ L f z i (2*ef a o+1)->bZ L f z (i+n) (2*ef a o+1):=by
   intro h6 s dC
   induction dC with
   | nil=>
    intro i n hz h;have hn:n=0:=by
     have:=congrArg List.length hz;simpa [mF] using this
    subst hn;exact h
   | @app u v h1 h2 ih2=>
    intro i n hz h;obtain⟨hu,hv,rfl⟩:=KX z i n u v hz;have h3:=hA i u.length (by rw[<-hu];exact h1) (h.free _ (e4 h6) rfl rfl);have h4:=ih2 (i+u.length) v.length hv.symm h3;rwa [Nat.add_assoc] at h4
  rw[Ia] at hs;rcases hk with h4|h4|h4
  ·rw[if_pos h4] at hs;generalize hz:mF z i n=s at hs;cases hs with
   | nil=>
    have hn:n=0:=by
     have:=congrArg List.length hz;simpa [mF] using this
    subst hn;exact hr.free _ (e3 (by omega)) rfl rfl
   | @app u v h1 h2=>
    obtain⟨hu,hv,rfl⟩:=KX z i n u v hz;have h3:=hA i u.length (by rw[<-hu];exact h1) hgo;have h5:=Au (by omega) v h2 (i+u.length) v.length hv.symm h3;rw[Nat.add_assoc] at h5;exact h5.free _ e2 rfl rfl
  ·rw[if_neg (by omega),if_pos h4] at hs;obtain⟨u,v,hz,h1,h2⟩:=hs;obtain⟨hu,hv,rfl⟩:=KX z i n u v hz;have h3:=hA i u.length (by rw[<-hu];exact h1) hgo;have h5:=Au (by omega) v h2 (i+u.length) v.length hv.symm h3;rw[Nat.add_assoc] at h5;exact h5.free _ e2 rfl rfl
  rw[if_neg (by omega),if_neg (by omega)] at hs;rcases hs with hs|hs
  ·have hn:n=0:=by
    have:=congrArg List.length hs;simpa [mF] using this
   subst hn;exact hr.free _ (e3 (by omega)) rfl rfl
  exact (hA i n hs hgo).free _ e2 rfl rfl
 | bin x a b ih jh=>
  intro o L f z hL i n hs hr;have hp:=a.ca;have hq:=b.ca;rw[QZ] at hr⊢;have hA:∀i n,eQ a (mF z i n)->bZ L f z i (2*ef a o)->bZ L f z (i+n) (2*ef a o+1):=fun i n=>ih hw.2.2.1 o L f z (fun e he=>hL e (List.mem_append.2 (inl he))) i n
  have hB:∀i n,eQ b (mF z i n)->bZ L f z i (2*ef b (o+a.flat.length))->bZ L f z (i+n) (2*ef b (o+a.flat.length)+1):=fun i n=>jh hw.2.2.2 (o+a.flat.length) L f z (fun e he=>hL e (List.mem_append.2 (inr (List.mem_append.2 (inl he))))) i n
  have hm:∀e∈cn x.k (ef a o) (ef b (o+a.flat.length)) (o+a.flat.length+b.flat.length),e∈L:=fun e he=>hL e (List.mem_append.2 (inr (List.mem_append.2 (inr he))))
  rw[LU] at hs;by_cases h2:x.k=2
  ·rw[if_pos h2] at hs;obtain⟨u,v,hz,h1,h3⟩:=hs;obtain⟨hu,hv,rfl⟩:=KX z i n u v hz;have e1:bx (2*(o+a.flat.length+b.flat.length)) (2*ef a o)∈L:=hm _ (by simp[cn,h2]);have e2:bx (2*ef a o+1) (2*ef b (o+a.flat.length))∈L:=hm _ (by simp[cn,h2]);have e3:bx (2*ef b (o+a.flat.length)+1) (2*(o+a.flat.length+b.flat.length)+1)∈L:=hm _ (by simp[cn,h2]);have h4:=hA i u.length (by rw[<-hu];exact h1) (hr.free _ e1 rfl rfl);have h5:=hB (i+u.length) v.length (by rw[<-hv];exact h3) (h4.free _ e2 rfl rfl);rw[Nat.add_assoc] at h5;exact h5.free _ e3 rfl rfl
  rw[if_neg h2] at hs;have e1:bx (2*(o+a.flat.length+b.flat.length)) (2*ef a o)∈L:=hm _ (by simp[cn,h2]);have e2:bx (2*ef a o+1) (2*(o+a.flat.length+b.flat.length)+1)∈L:=hm _ (by simp[cn,h2]);have e3:bx (2*(o+a.flat.length+b.flat.length)) (2*ef b (o+a.flat.length))∈L:=hm _ (by simp[cn,h2]);have e4:bx (2*ef b (o+a.flat.length)+1) (2*(o+a.flat.length+b.flat.length)+1)∈L:=hm _ (by simp[cn,h2]);rcases hs with hs|hs
  ·exact (hA i n hs (hr.free _ e1 rfl rfl)).free _ e2 rfl rfl
  exact (hB i n hs (hr.free _ e3 rfl rfl)).free _ e4 rfl rfl
theorem Pr(t:Rx)(hw:t.wf)(z:Nat->Nat)(hz:∀j,z j<256)(k:Nat):bZ (fx t 0) (2*ef t 0) z k (2*ef t 0+1)↔eQ t ((range k).map z):=by
 constructor
 ·intro h;have h2:=bZ.keeps hz (W:=gW t 0 (fun s=>s=[])) (zkv t hw 0 _) (by rw[LM]) k _ h;rw[Ku] at h2;obtain⟨u,v,e,rfl,hv⟩:=h2;rw[e];simpa using hv
 intro h;have e:mF z 0 k=(range k).map z:=by
  unfold mF;refine List.map_congr_left fun q _=>?_
  rw[Nat.zero_add]
 have h0:bZ (fx t 0) (2*ef t 0) z 0 (2*ef t 0):=FR.base rfl;have:=zpw t hw 0 (fx t 0) (2*ef t 0) z (fun _ h=>h) 0 k (by rw[e];exact h) h0;rwa [Nat.zero_add] at this
end Go.Proofs.YtiijebameffenaaGreat
