import Derived.Test.YtjehgdjlncofeaaGreatZNRClose
set_option linter.unusedVariables false
set_option linter.unusedSimpArgs false
namespace Go.Proofs.YtjehgdjlncofeaaGreat
open Go.RowKit
inductive Star (L:List Nat->Prop):List Nat->Prop
 | nil:Star L []
 | app {u v:List Nat}:L u->Star L v->Star L (u++v)
def Cat (L M:List Nat->Prop) (s:List Nat):Prop:=∃u v,s=u++v/\L u/\M v
def Lan:Rx->List Nat->Prop
 | .leaf x=>fun s=>if x.k=1 then ∃b,s=[b]/\b<256/\x.p b=true else s=[]
 | .un x a=>fun s=>if x.k=4 then Star (Lan a) s else if x.k=5 then Cat (Lan a) (Star (Lan a)) s else s=[]\/Lan a s
 | .bin x a b=>fun s=>if x.k=2 then Cat (Lan a) (Lan b) s else Lan a s\/Lan b s
theorem zcg (x:Pc) (s:List Nat):Lan (.leaf x) s=(if x.k=1 then ∃b,s=[b]/\b<256/\x.p b=true else s=[]):=rfl
theorem zdH (x:Pc) (a:Rx) (s:List Nat):Lan (.un x a) s=(if x.k=4 then Star (Lan a) s else if x.k=5 then Cat (Lan a) (Star (Lan a)) s else s=[]\/Lan a s):=rfl
theorem zdI (x:Pc) (a b:Rx) (s:List Nat):Lan (.bin x a b) s=(if x.k=2 then Cat (Lan a) (Lan b) s else Lan a s\/Lan b s):=rfl
theorem Star.one {L:List Nat->Prop}{s:List Nat}(h:L s):Star L s:=by
 have:=Star.app h Star.nil
 simpa using this
theorem Star.cat {L:List Nat->Prop}{u v:List Nat}(h:Star L u) (k:Star L v):Star L (u++v):=by
 induction h with
 | nil=>simpa using k
 | app h1 _ ih=>rw[List.append_assoc];exact Star.app h1 ih
def repE (k:Int) (j r:Nat):List En:=
 [fre (2*r) (2*j),fre (2*j+1) (2*r+1)]++((if k=5 then [] else [fre (2*r) (2*r+1)])++(if k=6 then [] else [fre (2*j+1) (2*j)]))
def pairE (k:Int) (i j r:Nat):List En:=
 if k=2 then [fre (2*r) (2*i),fre (2*i+1) (2*j),fre (2*j+1) (2*r+1)]
 else [fre (2*r) (2*i),fre (2*i+1) (2*r+1),fre (2*r) (2*j),fre (2*j+1) (2*r+1)]
def leafE (x:Pc) (r:Nat):List En:=[⟨2*r,2*r+1,x.p,decide (x.k=0)⟩]
def thE:Rx->Nat->List En
 | .leaf x,o=>leafE x o
 | .un x a,o=>thE a o++repE x.k (o+a.flat.length-1) (o+a.flat.length)
 | .bin x a b,o=>thE a o++(thE b (o+a.flat.length)++pairE x.k (o+a.flat.length-1) (o+a.flat.length+b.flat.length-1) (o+a.flat.length+b.flat.length))
def rtI (t:Rx) (o:Nat):Nat:=o+t.flat.length-1
theorem zj0 (x:Pc) (a:Rx) (o:Nat):rtI (.un x a) o=o+a.flat.length:=by simp[rtI,Rx.flat]
theorem zgO (x:Pc) (a b:Rx) (o:Nat):rtI (.bin x a b) o=o+a.flat.length+b.flat.length:=by simp[rtI,Rx.flat];omega
theorem ze2 (x:Pc) (o:Nat):rtI (.leaf x) o=o:=by simp[rtI,Rx.flat]
theorem zj1 (t:Rx) (o:Nat):o<=rtI t o/\rtI t o<o+t.flat.length:=by have:=t.flat_pos;unfold rtI;omega
def wOf:Rx->Nat->(List Nat->Prop)->Nat->(List Nat->Prop)
 | .leaf x,o,P,q=>if q=2*o then P else Cat P (Lan (.leaf x))
 | .un x a,o,P,q=>if q=2*(o+a.flat.length) then P else if q=2*(o+a.flat.length)+1 then Cat P (Lan (.un x a)) else wOf a o (if x.k=6 then P else Cat P (Star (Lan a))) q
 | .bin x a b,o,P,q=>if q=2*(o+a.flat.length+b.flat.length) then P else if q=2*(o+a.flat.length+b.flat.length)+1 then Cat P (Lan (.bin x a b)) else
   if q<2*(o+a.flat.length) then wOf a o P q else wOf b (o+a.flat.length) (if x.k=2 then Cat P (Lan a) else P) q
theorem zcG (t:Rx) (o:Nat) (P:List Nat->Prop):wOf t o P (2*rtI t o)=P:=by
 cases t with
 | leaf x=>rw[ze2];simp[wOf]
 | un x a=>rw[zj0];simp[wOf]
 | bin x a b=>rw[zgO];simp[wOf]
theorem ze3 (t:Rx) (o:Nat) (P:List Nat->Prop):wOf t o P (2*rtI t o+1)=Cat P (Lan t):=by
 cases t with
 | leaf x=>rw[ze2];unfold wOf;rw[if_neg (by omega)]
 | un x a=>rw[zj0];unfold wOf;rw[if_neg (by omega),if_pos rfl]
 | bin x a b=>rw[zgO];unfold wOf;rw[if_neg (by omega),if_pos rfl]
theorem zem (t:Rx):∀o,∀e∈thE t o,(2*o<=e.f/\e.f<2*(o+t.flat.length))/\(2*o<=e.t/\e.t<2*(o+t.flat.length)):=by
 induction t with
 | leaf x=>
  intro o e he
  have e1:e=⟨2*o,2*o+1,x.p,decide (x.k=0)⟩:=by simpa [thE,leafE] using he
  subst e1
  have:(Rx.leaf x).flat.length=1:=rfl
  rw[this]
  show (2*o<=2*o/\2*o<_)/\(2*o<=2*o+1/\2*o+1<_)
  omega
 | un x a ih=>
  intro o e he
  have hp:=a.flat_pos
  have hl:(Rx.un x a).flat.length=a.flat.length+1:=by simp[Rx.flat]
  rw[hl]
  rcases List.mem_append.1 he with h|h
  ·have:=ih o e h
   omega
  ·have h2:e=fre (2*(o+a.flat.length)) (2*(o+a.flat.length-1))\/e=fre (2*(o+a.flat.length-1)+1) (2*(o+a.flat.length)+1)\/e=fre (2*(o+a.flat.length)) (2*(o+a.flat.length)+1)\/e=fre (2*(o+a.flat.length-1)+1) (2*(o+a.flat.length-1)):=by
    unfold repE at h
    simp only[List.mem_append,List.mem_cons,List.not_mem_nil,or_false] at h
    rcases h with (h|h)|h|h
    ·exact Or.inl h
    ·exact Or.inr (Or.inl h)
    ·split at h
     ·simp at h
     ·exact Or.inr (Or.inr (Or.inl (by simpa using h)))
    ·split at h
     ·simp at h
     ·exact Or.inr (Or.inr (Or.inr (by simpa using h)))
   rcases h2 with rfl|rfl|rfl|rfl <;> (simp only[fre];omega)
 | bin x a b ih jh=>
  intro o e he
  have hp:=a.flat_pos
  have hq:=b.flat_pos
  have hl:(Rx.bin x a b).flat.length=a.flat.length+b.flat.length+1:=by simp[Rx.flat];omega
  rw[hl]
  rcases List.mem_append.1 he with h|h
  ·have:=ih o e h
   omega
  ·rcases List.mem_append.1 h with h|h
   ·have:=jh (o+a.flat.length) e h
    omega
   ·unfold pairE at h
    split at h
    ·simp only[List.mem_cons,List.not_mem_nil,or_false] at h
     rcases h with rfl|rfl|rfl <;> (simp only[fre];omega)
    ·simp only[List.mem_cons,List.not_mem_nil,or_false] at h
     rcases h with rfl|rfl|rfl|rfl <;> (simp only[fre];omega)
def zj2 (e:En) (W:Nat->List Nat->Prop):Prop:=(e.b=true->∀s,W e.f s->W e.t s)/\(e.b=false->∀c,c<256->e.p c=true->∀s,W e.f s->W e.t (s++[c]))
theorem zaO {f t:Nat}{W:Nat->List Nat->Prop}(h:∀s,W f s->W t s):zj2 (fre f t) W:=⟨fun _=>h,fun h=>by cases h⟩
theorem zcH {A:List Nat->Prop}{s u:List Nat}(h:Star A s) (k:A u):Star A (s++u):=h.cat (Star.one k)
theorem ze4 {A:List Nat->Prop}{s u:List Nat}(h:Star A s) (k:A u):Cat A (Star A) (s++u):=by
 induction h with
 | nil=>exact⟨u,[],by simp,k,Star.nil⟩
 | @app v w h1 h2 ih=>
  obtain⟨p,q,e,hp,hq⟩:=ih
  exact⟨v,w++u,by simp,h1,by rw[e];exact Star.app hp hq⟩
theorem zj3 (t:Rx) (hw:t.wf):∀o P,∀e∈thE t o,zj2 e (wOf t o P):=by
 induction t with
 | leaf x=>
  intro o P e he
  have e1:e=⟨2*o,2*o+1,x.p,decide (x.k=0)⟩:=by simpa [thE,leafE] using he
  subst e1
  have wf:wOf (.leaf x) o P (2*o)=P:=by simp[wOf]
  have wt:wOf (.leaf x) o P (2*o+1)=Cat P (Lan (.leaf x)):=by unfold wOf;rw[if_neg (by omega)]
  refine⟨fun hb s hs=>?_,fun hb c hc hp s hs=>?_⟩
  ·show wOf (.leaf x) o P (2*o+1) s
   rw[wt]
   have hs':wOf (.leaf x) o P (2*o) s:=hs
   rw[wf] at hs'
   have hk:x.k=0:=by simpa using hb
   refine⟨s,[],by simp,hs',?_⟩
   rw[zcg,if_neg (by omega)]
  ·show wOf (.leaf x) o P (2*o+1) (s++[c])
   rw[wt]
   have hs':wOf (.leaf x) o P (2*o) s:=hs
   rw[wf] at hs'
   have hk:¬x.k=0:=by simpa using hb
   have hk1:x.k=1:=by
    rcases zaQ x.k with ⟨_,h⟩|⟨h,_⟩|⟨h,_⟩|⟨h,_⟩
    ·omega
    all_goals (have:=hw.1;omega)
   refine⟨s,[c],rfl,hs',?_⟩
   rw[zcg,if_pos hk1]
   exact⟨c,rfl,hc,hp⟩
 | un x a ih=>
  intro o P e he
  have hp:=a.flat_pos
  have w0:wOf (.un x a) o P (2*(o+a.flat.length))=P:=by simp[wOf]
  have w1:wOf (.un x a) o P (2*(o+a.flat.length)+1)=Cat P (Lan (.un x a)):=by unfold wOf;rw[if_neg (by omega),if_pos rfl]
  have win:∀q,q<2*(o+a.flat.length)->wOf (.un x a) o P q=wOf a o (if x.k=6 then P else Cat P (Star (Lan a))) q:=fun q hq=>by
   show (if q=_ then _ else if q=_ then _ else _)=_
   rw[if_neg (by omega),if_neg (by omega)]
  have w2:wOf (.un x a) o P (2*(o+a.flat.length-1))=(if x.k=6 then P else Cat P (Star (Lan a))):=by rw[win _ (by omega)];exact zcG a o _
  have w3:wOf (.un x a) o P (2*(o+a.flat.length-1)+1)=Cat (if x.k=6 then P else Cat P (Star (Lan a))) (Lan a):=by rw[win _ (by omega)];exact ze3 a o _
  have hk:x.k=4\/x.k=5\/x.k=6:=by
   rcases zaQ x.k with ⟨h,_⟩|⟨h,_⟩|⟨_,h⟩|⟨h,_⟩
   ·have:=hw.1;omega
   ·have:=hw.1;omega
   ·exact h
   ·have:=hw.1;omega
  rcases List.mem_append.1 he with h|h
  ·have hin:=zem a o e h
   have hk2:=ih hw.2.2 o (if x.k=6 then P else Cat P (Star (Lan a))) e h
   refine⟨fun hb s hs=>?_,fun hb c hc hpc s hs=>?_⟩
   ·rw[win _ (by omega)] at hs⊢
    exact hk2.1 hb s hs
   ·rw[win _ (by omega)] at hs⊢
    exact hk2.2 hb c hc hpc s hs
  ·unfold repE at h
   simp only[List.mem_append,List.mem_cons,List.not_mem_nil,or_false] at h
   rcases h with (rfl|rfl)|h|h
   ·refine zaO fun s hs=>?_
    rw[w0] at hs
    rw[w2]
    split
    ·exact hs
    ·exact⟨s,[],by simp,hs,Star.nil⟩
   ·refine zaO fun s hs=>?_
    rw[w3] at hs
    rw[w1]
    obtain⟨u,v,rfl,hu,hv⟩:=hs
    rcases hk with h4|h4|h4
    ·rw[if_neg (by omega)] at hu
     obtain⟨u1,u2,rfl,h1,h2⟩:=hu
     exact⟨u1,u2++v,by simp,h1,by rw[zdH,if_pos h4];exact zcH h2 hv⟩
    ·rw[if_neg (by omega)] at hu
     obtain⟨u1,u2,rfl,h1,h2⟩:=hu
     exact⟨u1,u2++v,by simp,h1,by rw[zdH,if_neg (by omega),if_pos h4];exact ze4 h2 hv⟩
    ·rw[if_pos h4] at hu
     exact⟨u,v,rfl,hu,by rw[zdH,if_neg (by omega),if_neg (by omega)];exact Or.inr hv⟩
   ·split at h
    ·simp at h
    ·rename_i h5
     have he2:e=fre (2*(o+a.flat.length)) (2*(o+a.flat.length)+1):=by simpa using h
     subst he2
     refine zaO fun s hs=>?_
     rw[w0] at hs
     rw[w1]
     refine⟨s,[],by simp,hs,?_⟩
     rw[zdH]
     rcases hk with h4|h4|h4
     ·rw[if_pos h4];exact Star.nil
     ·exact absurd h4 h5
     ·rw[if_neg (by omega),if_neg (by omega)];exact Or.inl rfl
   ·split at h
    ·simp at h
    ·rename_i h6
     have he2:e=fre (2*(o+a.flat.length-1)+1) (2*(o+a.flat.length-1)):=by simpa using h
     subst he2
     refine zaO fun s hs=>?_
     rw[w3,if_neg h6] at hs
     rw[w2,if_neg h6]
     obtain⟨u,v,rfl,⟨u1,u2,rfl,h1,h2⟩,hv⟩:=hs
     exact⟨u1,u2++v,by simp,h1,zcH h2 hv⟩
 | bin x a b ih jh=>
  intro o P e he
  have hp:=a.flat_pos
  have hq:=b.flat_pos
  have w0:wOf (.bin x a b) o P (2*(o+a.flat.length+b.flat.length))=P:=by simp[wOf]
  have w1:wOf (.bin x a b) o P (2*(o+a.flat.length+b.flat.length)+1)=Cat P (Lan (.bin x a b)):=by unfold wOf;rw[if_neg (by omega),if_pos rfl]
  have wa:∀q,q<2*(o+a.flat.length)->wOf (.bin x a b) o P q=wOf a o P q:=fun q hq=>by
   show (if q=_ then _ else if q=_ then _ else if q<_ then _ else _)=_
   rw[if_neg (by omega),if_neg (by omega),if_pos hq]
  have wb:∀q,2*(o+a.flat.length)<=q->q<2*(o+a.flat.length+b.flat.length)->wOf (.bin x a b) o P q=wOf b (o+a.flat.length) (if x.k=2 then Cat P (Lan a) else P) q:=fun q hq hq2=>by
   show (if q=_ then _ else if q=_ then _ else if q<_ then _ else _)=_
   rw[if_neg (by omega),if_neg (by omega),if_neg (by omega)]
  have a0:wOf (.bin x a b) o P (2*(o+a.flat.length-1))=P:=by rw[wa _ (by omega)];exact zcG a o _
  have a1:wOf (.bin x a b) o P (2*(o+a.flat.length-1)+1)=Cat P (Lan a):=by rw[wa _ (by omega)];exact ze3 a o _
  have b0:wOf (.bin x a b) o P (2*(o+a.flat.length+b.flat.length-1))=(if x.k=2 then Cat P (Lan a) else P):=by rw[wb _ (by omega) (by omega)];exact zcG b (o+a.flat.length) _
  have b1:wOf (.bin x a b) o P (2*(o+a.flat.length+b.flat.length-1)+1)=Cat (if x.k=2 then Cat P (Lan a) else P) (Lan b):=by rw[wb _ (by omega) (by omega)];exact ze3 b (o+a.flat.length) _
  rcases List.mem_append.1 he with h|h
  ·have hin:=zem a o e h
   have hk2:=ih hw.2.2.1 o P e h
   refine⟨fun hb s hs=>?_,fun hb c hc hpc s hs=>?_⟩
   ·rw[wa _ (by omega)] at hs⊢
    exact hk2.1 hb s hs
   ·rw[wa _ (by omega)] at hs⊢
    exact hk2.2 hb c hc hpc s hs
  ·rcases List.mem_append.1 h with h|h
   ·have hin:=zem b (o+a.flat.length) e h
    have hk2:=jh hw.2.2.2 (o+a.flat.length) (if x.k=2 then Cat P (Lan a) else P) e h
    refine⟨fun hb s hs=>?_,fun hb c hc hpc s hs=>?_⟩
    ·rw[wb _ (by omega) (by omega)] at hs⊢
     exact hk2.1 hb s hs
    ·rw[wb _ (by omega) (by omega)] at hs⊢
     exact hk2.2 hb c hc hpc s hs
   ·unfold pairE at h
    split at h
    ·rename_i h2
     simp only[List.mem_cons,List.not_mem_nil,or_false] at h
     rcases h with rfl|rfl|rfl
     ·refine zaO fun s hs=>?_
      rw[w0] at hs;rw[a0];exact hs
     ·refine zaO fun s hs=>?_
      rw[a1] at hs;rw[b0,if_pos h2];exact hs
     ·refine zaO fun s hs=>?_
      rw[b1,if_pos h2] at hs
      rw[w1]
      obtain⟨u,v,rfl,⟨u1,u2,rfl,h3,h4⟩,hv⟩:=hs
      exact⟨u1,u2++v,by simp,h3,by rw[zdI,if_pos h2];exact⟨u2,v,rfl,h4,hv⟩⟩
    ·rename_i h2
     simp only[List.mem_cons,List.not_mem_nil,or_false] at h
     rcases h with rfl|rfl|rfl|rfl
     ·refine zaO fun s hs=>?_
      rw[w0] at hs;rw[a0];exact hs
     ·refine zaO fun s hs=>?_
      rw[a1] at hs
      rw[w1]
      obtain⟨u,v,rfl,hu,hv⟩:=hs
      exact⟨u,v,rfl,hu,by rw[zdI,if_neg h2];exact Or.inl hv⟩
     ·refine zaO fun s hs=>?_
      rw[w0] at hs;rw[b0,if_neg h2];exact hs
     ·refine zaO fun s hs=>?_
      rw[b1,if_neg h2] at hs
      rw[w1]
      obtain⟨u,v,rfl,hu,hv⟩:=hs
      exact⟨u,v,rfl,hu,by rw[zdI,if_neg h2];exact Or.inr hv⟩
theorem RunP.free {L:List En}{f:Nat}{z:Nat->Nat}{k x:Nat}(h:RunP L f z k x) (e:En) (he:e∈L) (hb:e.b=true) (hf:e.f=x):RunP L f z k e.t:=by
 cases k with
 | zero=>exact FR.step e h he hb hf rfl
 | succ k=>exact FR.step e h he hb hf rfl
theorem RunP.byte {L:List En}{f:Nat}{z:Nat->Nat}{k x:Nat}(h:RunP L f z k x) (e:En) (he:e∈L) (hb:e.b=false) (hp:e.p (z k)=true) (hf:e.f=x):RunP L f z (k+1) e.t:=
 FR.base ⟨e,he,hb,hp,by rw[hf];exact h,rfl⟩
theorem RunP.keeps {L:List En}{f:Nat}{z:Nat->Nat}(hz:∀j,z j<256) {W:Nat->List Nat->Prop}(hW:∀e∈L,zj2 e W) (h0:W f []):∀k x,RunP L f z k x->W x ((List.range k).map z):=by
 intro k
 induction k with
 | zero=>
  intro x h
  exact FR.within (C:=fun x=>W x []) (fun x hx=>by rw[hx];exact h0) (fun e he hb hf=>(hW e he).1 hb _ hf) h
 | succ k ih=>
  intro x h
  have e2:(List.range (k+1)).map z=(List.range k).map z++[z k]:=by rw[List.range_succ,List.map_append];rfl
  rw[e2]
  refine FR.within (C:=fun x=>W x ((List.range k).map z++[z k])) (fun x hx=>?_) (fun e he hb hf=>(hW e he).1 hb _ hf) h
  obtain⟨e,he,hb,hp,hf,rfl⟩:=hx
  exact (hW e he).2 hb _ (hz k) hp _ (ih _ hf)
def zsg (z:Nat->Nat) (i n:Nat):List Nat:=(List.range n).map fun q=>z (i+q)
theorem zcI (z:Nat->Nat) (i n:Nat) (u v:List Nat) (h:zsg z i n=u++v):u=zsg z i u.length/\v=zsg z (i+u.length) v.length/\n=u.length+v.length:=by
 have hl:n=u.length+v.length:=by
  have:=congrArg List.length h
  simpa [zsg] using this
 subst hl
 have e:zsg z i (u.length+v.length)=zsg z i u.length++zsg z (i+u.length) v.length:=by
  unfold zsg
  rw[List.range_add,List.map_append,List.map_map]
  congr 1
  refine List.map_congr_left fun q _=>?_
  show z (i+(u.length+q))=z (i+u.length+q)
  rw[Nat.add_assoc]
 rw[e] at h
 have h2:=List.append_inj h (by simp[zsg])
 exact⟨h2.1.symm,h2.2.symm,rfl⟩
theorem zoj (t:Rx) (hw:t.wf):∀(o:Nat) (L:List En) (f:Nat) (z:Nat->Nat),(∀e∈thE t o,e∈L)->∀i n,Lan t (zsg z i n)->RunP L f z i (2*rtI t o)->RunP L f z (i+n) (2*rtI t o+1):=by
 induction t with
 | leaf x=>
  intro o L f z hL i n hs hr
  rw[ze2] at hr⊢
  have he:(⟨2*o,2*o+1,x.p,decide (x.k=0)⟩:En)∈L:=hL _ (by simp[thE,leafE])
  rw[zcg] at hs
  by_cases h1:x.k=1
  ·rw[if_pos h1] at hs
   obtain⟨b,hs,hb,hp⟩:=hs
   have hn:n=1:=by
    have:=congrArg List.length hs
    simpa [zsg] using this
   subst hn
   have hzb:z i=b:=by simpa [zsg] using hs
   exact RunP.byte hr _ he (by simp;omega) (by rw[hzb];exact hp) rfl
  ·rw[if_neg h1] at hs
   have hn:n=0:=by
    have:=congrArg List.length hs
    simpa [zsg] using this
   subst hn
   have h0:x.k=0:=by
    rcases zaQ x.k with ⟨_,h⟩|⟨h,_⟩|⟨h,_⟩|⟨h,_⟩
    ·omega
    all_goals (have:=hw.1;omega)
   exact RunP.free hr _ he (by simp[h0]) rfl
 | un x a ih=>
  intro o L f z hL i n hs hr
  have hk:x.k=4\/x.k=5\/x.k=6:=by
   rcases zaQ x.k with ⟨h,_⟩|⟨h,_⟩|⟨_,h⟩|⟨h,_⟩
   ·have:=hw.1;omega
   ·have:=hw.1;omega
   ·exact h
   ·have:=hw.1;omega
  rw[zj0] at hr⊢
  have hA:∀i n,Lan a (zsg z i n)->RunP L f z i (2*rtI a o)->RunP L f z (i+n) (2*rtI a o+1):=fun i n=>ih hw.2.2 o L f z (fun e he=>hL e (List.mem_append.2 (Or.inl he))) i n
  have hm:∀e∈repE x.k (o+a.flat.length-1) (o+a.flat.length),e∈L:=fun e he=>hL e (List.mem_append.2 (Or.inr he))
  have e1:fre (2*(o+a.flat.length)) (2*rtI a o)∈L:=hm _ (by simp[repE,rtI])
  have e2:fre (2*rtI a o+1) (2*(o+a.flat.length)+1)∈L:=hm _ (by simp[repE,rtI])
  have e3:x.k≠5->fre (2*(o+a.flat.length)) (2*(o+a.flat.length)+1)∈L:=fun h=>hm _ (by simp[repE,h])
  have e4:x.k≠6->fre (2*rtI a o+1) (2*rtI a o)∈L:=fun h=>hm _ (by simp[repE,rtI,h])
  have hgo:RunP L f z i (2*rtI a o):=hr.free _ e1 rfl rfl
  have hStar:x.k≠6->∀s,Star (Lan a) s->∀i n,zsg z i n=s->RunP L f z i (2*rtI a o+1)->RunP L f z (i+n) (2*rtI a o+1):=by
   intro h6 s hst
   induction hst with
   | nil=>
    intro i n hz h
    have hn:n=0:=by
     have:=congrArg List.length hz
     simpa [zsg] using this
    subst hn
    exact h
   | @app u v h1 h2 ih2=>
    intro i n hz h
    obtain⟨hu,hv,rfl⟩:=zcI z i n u v hz
    have h3:=hA i u.length (by rw[<-hu];exact h1) (h.free _ (e4 h6) rfl rfl)
    have h4:=ih2 (i+u.length) v.length hv.symm h3
    rwa [Nat.add_assoc] at h4
  rw[zdH] at hs
  rcases hk with h4|h4|h4
  ·rw[if_pos h4] at hs
   generalize hz:zsg z i n=s at hs
   cases hs with
   | nil=>
    have hn:n=0:=by
     have:=congrArg List.length hz
     simpa [zsg] using this
    subst hn
    exact hr.free _ (e3 (by omega)) rfl rfl
   | @app u v h1 h2=>
    obtain⟨hu,hv,rfl⟩:=zcI z i n u v hz
    have h3:=hA i u.length (by rw[<-hu];exact h1) hgo
    have h5:=hStar (by omega) v h2 (i+u.length) v.length hv.symm h3
    rw[Nat.add_assoc] at h5
    exact h5.free _ e2 rfl rfl
  ·rw[if_neg (by omega),if_pos h4] at hs
   obtain⟨u,v,hz,h1,h2⟩:=hs
   obtain⟨hu,hv,rfl⟩:=zcI z i n u v hz
   have h3:=hA i u.length (by rw[<-hu];exact h1) hgo
   have h5:=hStar (by omega) v h2 (i+u.length) v.length hv.symm h3
   rw[Nat.add_assoc] at h5
   exact h5.free _ e2 rfl rfl
  ·rw[if_neg (by omega),if_neg (by omega)] at hs
   rcases hs with hs|hs
   ·have hn:n=0:=by
     have:=congrArg List.length hs
     simpa [zsg] using this
    subst hn
    exact hr.free _ (e3 (by omega)) rfl rfl
   ·exact (hA i n hs hgo).free _ e2 rfl rfl
 | bin x a b ih jh=>
  intro o L f z hL i n hs hr
  have hp:=a.flat_pos
  have hq:=b.flat_pos
  rw[zgO] at hr⊢
  have hA:∀i n,Lan a (zsg z i n)->RunP L f z i (2*rtI a o)->RunP L f z (i+n) (2*rtI a o+1):=fun i n=>ih hw.2.2.1 o L f z (fun e he=>hL e (List.mem_append.2 (Or.inl he))) i n
  have hB:∀i n,Lan b (zsg z i n)->RunP L f z i (2*rtI b (o+a.flat.length))->RunP L f z (i+n) (2*rtI b (o+a.flat.length)+1):=fun i n=>jh hw.2.2.2 (o+a.flat.length) L f z (fun e he=>hL e (List.mem_append.2 (Or.inr (List.mem_append.2 (Or.inl he))))) i n
  have hm:∀e∈pairE x.k (rtI a o) (rtI b (o+a.flat.length)) (o+a.flat.length+b.flat.length),e∈L:=fun e he=>hL e (List.mem_append.2 (Or.inr (List.mem_append.2 (Or.inr he))))
  rw[zdI] at hs
  by_cases h2:x.k=2
  ·rw[if_pos h2] at hs
   obtain⟨u,v,hz,h1,h3⟩:=hs
   obtain⟨hu,hv,rfl⟩:=zcI z i n u v hz
   have e1:fre (2*(o+a.flat.length+b.flat.length)) (2*rtI a o)∈L:=hm _ (by simp[pairE,h2])
   have e2:fre (2*rtI a o+1) (2*rtI b (o+a.flat.length))∈L:=hm _ (by simp[pairE,h2])
   have e3:fre (2*rtI b (o+a.flat.length)+1) (2*(o+a.flat.length+b.flat.length)+1)∈L:=hm _ (by simp[pairE,h2])
   have h4:=hA i u.length (by rw[<-hu];exact h1) (hr.free _ e1 rfl rfl)
   have h5:=hB (i+u.length) v.length (by rw[<-hv];exact h3) (h4.free _ e2 rfl rfl)
   rw[Nat.add_assoc] at h5
   exact h5.free _ e3 rfl rfl
  ·rw[if_neg h2] at hs
   have e1:fre (2*(o+a.flat.length+b.flat.length)) (2*rtI a o)∈L:=hm _ (by simp[pairE,h2])
   have e2:fre (2*rtI a o+1) (2*(o+a.flat.length+b.flat.length)+1)∈L:=hm _ (by simp[pairE,h2])
   have e3:fre (2*(o+a.flat.length+b.flat.length)) (2*rtI b (o+a.flat.length))∈L:=hm _ (by simp[pairE,h2])
   have e4:fre (2*rtI b (o+a.flat.length)+1) (2*(o+a.flat.length+b.flat.length)+1)∈L:=hm _ (by simp[pairE,h2])
   rcases hs with hs|hs
   ·exact (hA i n hs (hr.free _ e1 rfl rfl)).free _ e2 rfl rfl
   ·exact (hB i n hs (hr.free _ e3 rfl rfl)).free _ e4 rfl rfl
theorem zhE (t:Rx) (hw:t.wf) (z:Nat->Nat) (hz:∀j,z j<256) (k:Nat):RunP (thE t 0) (2*rtI t 0) z k (2*rtI t 0+1)↔Lan t ((List.range k).map z):=by
 constructor
 ·intro h
  have h2:=RunP.keeps hz (W:=wOf t 0 (fun s=>s=[])) (zj3 t hw 0 _) (by rw[zcG]) k _ h
  rw[ze3] at h2
  obtain⟨u,v,e,rfl,hv⟩:=h2
  rw[e]
  simpa using hv
 ·intro h
  have e:zsg z 0 k=(List.range k).map z:=by
   unfold zsg
   refine List.map_congr_left fun q _=>?_
   rw[Nat.zero_add]
  have h0:RunP (thE t 0) (2*rtI t 0) z 0 (2*rtI t 0):=FR.base rfl
  have:=zoj t hw 0 (thE t 0) (2*rtI t 0) z (fun _ h=>h) 0 k (by rw[e];exact h) h0
  rwa [Nat.zero_add] at this
end Go.Proofs.YtjehgdjlncofeaaGreat
