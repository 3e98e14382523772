import Derived.Test.YtkkhakmdjinenaaGreatZClasses
import Derived.Laws.CopyOwn
set_option linter.all false
set_option maxHeartbeats 2000000
set_option maxRecDepth 100000
open Go.Lib (hid)
namespace Go.Proofs.YtkkhakmdjinenaaGreat
open Go.Proofs.Tryz
open List (mem_append mem_cons mem_map mem_singleton replicate take_of_length_le)
open Or (inl inr)
open Builtin (clear_ copy_ firstCells lenOf zeroCells)
variable {B c e g k n q t x:Nat}{kQ l nm:List Nat}{mk:Nat->Int}{r:Int}{w:World}{xs:List Value}
structure NF where
 N:Nat
 F:Nat
 T:Nat
 L:List En
def NF.ok(m:NF):Prop:=Ok m.L m.N m.F m.T
def En.by(o:Nat)(e:En):En:=⟨e.f+o,e.t+o,e.p,e.b⟩
def bG(f t:Nat):En:=⟨f,t,fun _=>false,true⟩
def uo(M:Nat->NF):Nat->Nat
 | 0=>1
 | k+1=>uo M k+(M k).N
def uE(M:Nat->NF):Nat->List En
 | 0=>[]
 | k+1=>uE M k++(bG 0 (uo M k+(M k).F) :: (M k).L.map (En.by (uo M k)))
theorem Mj(M:Nat->NF)(k:Nat):1<=uo M k:=by
 induction k with
 | zero=>exact Nat.le_refl _
 | succ k ih=>show 1<=uo M k+_;omega
theorem QH(M:Nat->NF){i:Nat}(h:i<=k):uo M i<=uo M k:=by
 induction k with
 | zero=>rw[show i=0 by omega];exact Nat.le_refl _
 | succ k ih=>
  by_cases e:i=k+1
  ·rw[e];exact Nat.le_refl _
  have:=ih (by omega);show uo M i<=uo M k+_;omega
theorem LG(M:Nat->NF)(n:Nat)(h:∀k,k<n->(M k).ok):∀e∈uE M n,e.f<uo M n/\1<=e.t/\e.t<uo M n:=by
 induction n with
 | zero=>intro e he;simp[uE] at he
 | succ n ih=>
  intro e he;have hp:=Mj M n;have hk:=h n (by omega);simp only[uE,mem_append,mem_cons,mem_map] at he;rcases he with he|rfl|⟨e',jJ,rfl⟩
  ·obtain⟨h1,h2,h3⟩:=ih (fun k hk=>h k (by omega)) e he;show _<uo M n+_/\_/\_<uo M n+_;omega
  ·have:=hk.f;show 0<uo M n+_/\1<=uo M n+_/\uo M n+_<uo M n+_;omega
  obtain⟨h1,h2⟩:=hk.e e' jJ;show e'.f+uo M n<uo M n+_/\1<=e'.t+uo M n/\e'.t+uo M n<uo M n+_;omega
theorem XW(M:Nat->NF)(n B:Nat)(h:∀k,k<n->(M k).L.length<=B):(uE M n).length<=n*(B+1):=by
 induction n with
 | zero=>simp[uE]
 | succ n ih=>
  have h1:=ih (fun k hk=>h k (by omega));have h2:=h n (by omega);simp only[uE,List.length_append,List.length_cons,List.length_map];rw[Nat.succ_mul];omega
theorem Su(M:Nat->NF)(n B:Nat)(h:∀k,k<n->(M k).N<=B):uo M n<=1+n*B:=by
 induction n with
 | zero=>simp[uo]
 | succ n ih=>
  have h1:=ih (fun k hk=>h k (by omega));have h2:=h n (by omega);show uo M n+_<=_;rw[Nat.succ_mul];omega
structure zm (E:List En)(p:Nat)(m:NF):Prop where
 pos:1<=p
 zero:∀e∈E,1<=e.t
 OO:∀e∈E,p<=e.t->e.t<p+m.N->e=bG 0 (p+m.F)\/∃e'∈m.L,e=e'.by p
 free:bG 0 (p+m.F)∈E
 all:∀e'∈m.L,e'.by p∈E
theorem zqi(M:Nat->NF)(n:Nat)(h:∀k,k<n->(M k).ok)(i:Nat)(hi:i<n):zm (uE M n) (uo M i) (M i):=by
 induction n with
 | zero=>omega
 | succ n ih=>
  have hz:∀e∈uE M (n+1),1<=e.t:=fun e he=>(LG M (n+1) h e he).2.1
  by_cases e:i=n
  ·subst e;refine⟨Mj M i,hz,fun e he h1 h2=>?_,by simp[uE],fun e' jJ=>by simp only[uE,mem_append,mem_cons,mem_map];exact inr (inr ⟨e',jJ,rfl⟩)⟩;simp only[uE,mem_append,mem_cons,mem_map] at he;rcases he with he|rfl|⟨e',jJ,rfl⟩
   ·have:=(LG M i (fun k hk=>h k (by omega)) e he).2.2;omega
   ·exact inl rfl
   exact inr ⟨e',jJ,rfl⟩
  have S:=ih (fun k hk=>h k (by omega)) (by omega);have hle:uo M i+(M i).N<=uo M n:=QH M (show i+1<=n by omega);refine⟨S.pos,hz,fun e he h1 h2=>?_,by simp only[uE,mem_append];exact inl S.free,fun e' jJ=>by simp only[uE,mem_append];exact inl (S.all e' jJ)⟩;simp only[uE,mem_append,mem_cons,mem_map] at he;rcases he with he|rfl|⟨e',jJ,rfl⟩
  ·exact S.OO e he h1 h2
  ·have:uo M n+(M n).F<uo M i+(M i).N:=h2;omega
  have:e'.t+uo M n<uo M i+(M i).N:=h2;omega
theorem zm.fr0{E:List En}{p:Nat}{m:NF}(h:zm E p m){A:Nat->Prop}(k:FR E A 0):A 0:=by
 have:∀y,FR E A y->y=0->A 0:=by
  intro y k
  induction k with
  | base ha=>intro e;subst e;exact ha
  | step e _ h1 h2 h3 h4 ih=>
   intro e0;have:=h.zero e h1;omega
 exact this 0 k rfl
theorem zm.fr{E:List En}{p:Nat}{m:NF}(h:zm E p m)(hm:m.ok){A:Nat->Prop}(hq:q<m.N):FR E A (p+q)↔FR m.L (fun q=>q<m.N/\(A (p+q)\/(A 0/\q=m.F))) q:=by
 constructor
 ·have:∀y,FR E A y->∀q,q<m.N->y=p+q->FR m.L (fun q=>q<m.N/\(A (p+q)\/(A 0/\q=m.F))) q:=by
   intro y k
   induction k with
   | base ha=>intro q hq e;subst e;exact .base ⟨hq,inl ha⟩
   | step e k0 h1 h2 h3 h4 ih=>
    intro q hq e0;rcases h.OO e h1 (by omega) (by omega) with rfl|⟨e',jJ,rfl⟩
    ·have e1:0=_:=h3;have e2:p+m.F=_:=h4;subst e1;exact .base ⟨hq,inr ⟨h.fr0 k0,by omega⟩⟩
    have e1:e'.f+p=_:=h3;have e2:e'.t+p=_:=h4;exact .step e' (ih e'.f (hm.e e' jJ).1 (by omega)) jJ h2 rfl (by omega)
  exact fun k=>this _ k q hq rfl
 intro k;clear hq
 induction k with
 | base ha=>
  rcases ha.2 with h1|⟨h1,rfl⟩
  ·exact .base h1
  exact .step (bG 0 (p+m.F)) (.base h1) h.free rfl rfl rfl
 | step e _ h1 h2 h3 h4 ih=>
  subst h3 h4;exact .step (e.by p) ih (h.all e h1) h2 (Nat.add_comm _ _) (Nat.add_comm _ _)
theorem zm.mv{E:List En}{p:Nat}{m:NF}(h:zm E p m)(hm:m.ok){A B:Nat->Prop}(Yq:∀q,q<m.N->(A (p+q)↔B q))(hq:q<m.N):Mv E A c (p+q)↔Mv m.L B c q:=by
 constructor
 ·rintro⟨e,h1,h2,h3,h4,h5⟩;rcases h.OO e h1 (by omega) (by omega) with rfl|⟨e',jJ,rfl⟩
  ·cases h2
  have e2:e'.t+p=_:=h5;refine⟨e',jJ,h2,h3,(Yq _ (hm.e e' jJ).1).1 ?_,by omega⟩;rw[Nat.add_comm];exact h4
 rintro⟨e,h1,h2,h3,h4,h5⟩;subst h5;refine⟨e.by p,h.all e h1,h2,h3,?_,Nat.add_comm _ _⟩;have:=(Yq _ (hm.e e h1).1).2 h4;rwa [Nat.add_comm] at this
theorem zm.run{E:List En}{p:Nat}{m:NF}(h:zm E p m)(hm:m.ok)(z:Nat->Nat)(k:Nat):∀q,q<m.N->(cy E 0 z k (p+q)↔cy m.L m.F z k q):=by
 induction k with
 | zero=>
  intro q hq;have hp:=h.pos;have hf:=hm.f;rw[cy,h.fr hm hq];exact FR.congr (fun x=>⟨fun ⟨h1,h2⟩=>by omega,fun h1=>⟨by omega,inr ⟨rfl,h1⟩⟩⟩) q
 | succ k ih=>
  intro q hq;rw[cy,h.fr hm hq];refine FR.congr (fun x=>?_) q;constructor
  ·rintro⟨h1,h2|⟨⟨e,h3,h4,h5,h6,h7⟩,_⟩⟩
   ·exact (h.mv hm ih h1).1 h2
   have:=h.zero e h3;omega
  intro h1;have hx:=Mv.lt (fun e he=>(hm.e e he).2) h1;exact⟨hx,inl ((h.mv hm ih hx).2 h1)⟩
open Go.RowKit Go.Maps Go.WideElems Go.ChangeMaps Go.MapKept
theorem jU:(prog.info? 117).map (fun i=>(i.zero,i.size,i.bytes))=some (some (.agg #[.int .i64 0,.int .i64 0,.int .u64 0,.int .u64 0,.int .u64 0,.int .u64 0,.bool false]),7,56):=by kernel_rfl
theorem zqj{c0 c1 c2 c3 c4 c5 c6:Value}(h:St w t g #[c0,c1,c2,c3,c4,c5,c6]):w.cell? ⟨g,0,none⟩=some c0/\w.cell? ⟨g,1,none⟩=some c1/\w.cell? ⟨g,2,none⟩=some c2/\w.cell? ⟨g,3,none⟩=some c3/\w.cell? ⟨g,4,none⟩=some c4/\w.cell? ⟨g,5,none⟩=some c5/\w.cell? ⟨g,6,none⟩=some c6:=
 ⟨h.at_ 0,h.at_ 1,h.at_ 2,h.at_ 3,h.at_ 4,h.at_ 5,h.at_ 6⟩
theorem E9{t' size:Nat}{v:Value}{c0 c1 c2 c3:Value}(h:w.ownsRow B t size v n xs)(hs:St w t' g #[c0,c1,c2,c3])(ht:t≠t')(d0 d1 d2 d3:Value):
  ((((w.setCell ⟨g,0,none⟩ d0).setCell ⟨g,1,none⟩ d1).setCell ⟨g,2,none⟩ d2).setCell ⟨g,3,none⟩ d3).ownsRow B t size v n xs:=
 jz (jz (jz (jz h hs ht 0 d0) (hs.set 0 d0) ht 1 d1) ((hs.set 0 d0).set 1 d1) ht 2 d2) (((hs.set 0 d0).set 1 d1).set 2 d2) ht 3 d3
def Src(L:List En)(F T x:Nat):Prop:=x=F\/x=T\/∃e∈L,e.f=x\/e.t=x
theorem Pe{s:Nat}(h:kQ=nm\/kQ=nm++[s])(hk:nm[k]?=some x):kQ[k]?=some x:=by
 rcases h with rfl|rfl
 ·exact hk
 rw[List.getElem?_append_left (List.getElem?_eq_some_iff.1 hk).1];exact hk
theorem WV{L:List En}{F T s:Nat}(h:kQ=nm\/kQ=nm++[s])(hs:Src L F T s)(hn:∀x∈nm,Src L F T x):∀x∈kQ,Src L F T x:=by
 rcases h with rfl|rfl
 ·exact hn
 intro x hx;rcases List.mem_append.1 hx with hx|hx
 ·exact hn x hx
 rw[List.mem_singleton.1 hx];exact hs
theorem zpd{s:Nat}(h:kQ=nm\/kQ=nm++[s]):nm.length<=kQ.length/\kQ.length<=nm.length+1:=by
 rcases h with rfl|rfl <;> simp
theorem zpe{s:Nat}(h:kQ=nm\/kQ=nm++[s]){L':List En}(hb:∀e∈L',e.f<nm.length/\e.t<nm.length):L'.map (En.ov kQ)=L'.map (En.ov nm):=by
 refine List.map_congr_left fun e he=>?_
 obtain⟨h1,h2⟩:=hb e he;have g:∀i,i<nm.length->kQ.getD i 0=nm.getD i 0:=fun i hi=>by
  rw[List.getD_eq_getElem?_getD,List.getD_eq_getElem?_getD,List.getElem?_eq_getElem hi,Pe h (List.getElem?_eq_getElem hi)]
 simp only[En.ov,g _ h1,g _ h2]
theorem zfA(P:Program)(w:World)(dT sT ty elem:TypeId)(size:Nat)(g n Ar zS:Nat)(sp:Option Addr)(cur:Array Value)(t:TypeId)(cs:List Value)
  (hu:P.underlying dT=some (.slice elem)) (hs:(P.info? elem).map (·.size)=some size)
  (hg:w.heap[g]?=some (.cells cur t (0,0))) (hn:cs.length=n*size) (Ds:cur.size=cs.length)
  (jK:0<n->∃ad,sp=some ad/\∀j v,cs[j]?=some v->w.cell? (ad.add j)=some v) (h1:∀v∈cs,v.oneCell'=true):
  (copy_ #[dT,sT] ty #[.slice (some ⟨g,0,none⟩) n Ar,.slice sp n zS]).run P w=.ok (goInt n) (w.setRow g cs.toArray):=by
 have bU:=run_storeCells_at P g 0 t cs 0 cur w hg (by omega) h1;have lb:(cur.toList.take (0+0)++cs++cur.toList.drop (0+0+cs.length)).toArray=cs.toArray:=by
  rw[List.drop_eq_nil_of_le (by simp[Ds])];simp
 rw[lb] at bU;cases hq:P.info? elem with
 | none=>simp[hq] at hs
 | some i=>
  have hi:i.size=size:=by simpa [hq] using hs
  have AD:Nat.min n n=n:=Nat.min_self n
  match sp,jK with
  | some a,jK=>
   have hl:(loadCells a (n*size)).run P w=.ok cs.toArray w:=by
    by_cases h0:0<n
    ·obtain⟨ad,e,jK⟩:=jK h0;injection e with e;subst e;rw[<-hn];exact run_loadCells_list (P:=P) w a cs jK
    obtain rfl:n=0:=(by omega);have:cs=[]:=List.eq_nil_of_length_eq_zero (by omega);subst this;have:=run_loadCells_list (P:=P) w a [] (by simp);simpa using this
   simp[copy_,run_underlying hu,lenOf,firstCells,sizeOf,typeInfo,hq,hi,AD,hl,bU]
  | none,jK=>
   obtain rfl:n=0:=by
    by_cases h0:0<n
    ·obtain⟨ad,e,_⟩:=jK h0;cases e
    omega
   have:cs=[]:=List.eq_nil_of_length_eq_zero (by omega);subst this;simp[copy_,run_underlying hu,lenOf,firstCells,sizeOf,typeInfo,hq,hi,bU]
theorem zdz{P:Program}{ops:Array Oper}{rest:List Oper}{o:Oper}{a:Act}{Q:Exit->Act->World->Prop}(ow:o.guard=none)(d s:Operand)(dT sT:TypeId)
  (ho:o.op=.call { callee:=.builtin .copy,args:=#[d,s],argTypes:=#[dT,sT] }) (elem:TypeId) (size:Nat) (hu:P.underlying dT=some (.slice elem)) (cZ:(P.info? elem).map (·.size)=some size)
  (g n Ar zS:Nat) (sp:Option Addr) (hd:a.eval d=.slice (some ⟨g,0,none⟩) n Ar) (hs:a.eval s=.slice sp n zS)
  (cur:Array Value) (t:TypeId) (hg:w.heap[g]?=some (.cells cur t (0,0))) (cs:List Value) (hn:cs.length=n*size) (Ds:cur.size=cs.length)
  (jK:0<n->∃ad,sp=some ad/\∀j v,cs[j]?=some v->w.cell? (ad.add j)=some v) (h1:∀v∈cs,v.oneCell'=true)
  (h:wpList P ops Q rest (a.put o.dst (goInt n)) (w.setRow g cs.toArray)):wpList P ops Q (o :: rest) a w:=by
 refine wpList_plain ow fun K hK=>?_
 have ct:=zfA P w dT sT o.type elem size g n Ar zS sp cur t cs hu cZ hg hn Ds jK h1;unfold Oper.wp;simp[execOp,ho,resolve,invoke,builtin,hd,hs,ct,Result.andThen];exact hK _ _ h
theorem yM{base size:Nat}(h:w.ownsRow base e size (.slice (some ⟨g,0,none⟩) n n) n xs):w.heap[g]?=some (.cells xs.toArray e (0,0))/\base<=g/\n<=maxLen/\xs.length=n*size:=by
 rcases h.2 with ⟨h1,_⟩|⟨g',cap,cur,h1,h2,h3,h4,h5,h6,h7⟩
 ·cases h1
 injection h1 with e1 _ e3;injection e1 with e1;injection e1 with e1;subst e1 e3;have e:cur=xs.toArray:=by
  apply Array.toList_inj.1;rw[<-h7,take_of_length_le (by simp[h6])]
 subst e;exact⟨h3,h2,h5,by simpa using h6⟩
theorem Zb{base size:Nat}{ys:List Value}(h:w.ownsRow base e size (.slice (some ⟨g,0,none⟩) n n) n xs)(hy:ys.length=n*size):(w.setRow g ys.toArray).ownsRow base e size (.slice (some ⟨g,0,none⟩) n n) n ys:=by
 obtain⟨h1,h2,h3,h4⟩:=yM h;exact⟨hy,inr ⟨g,n,ys.toArray,rfl,h2,setRow_heap w g _ _ e _ h1,Nat.le_refl _,h3,by simpa using hy,by rw[take_of_length_le (by simp[hy])]⟩⟩
theorem RP{base size:Nat}(h:w.ownsRow base e size (.slice (some ⟨g,0,none⟩) n c) n xs)(j:Nat)(hj:j<n*size)(u:Value):(w.setCell ⟨g,j,none⟩ u).ownsRow base e size (.slice (some ⟨g,0,none⟩) n c) n (xs.set j u):=by
 refine⟨by rw[List.length_set];exact h.1,?_⟩;rcases h.2 with ⟨h1,_⟩|⟨g',cap,cur,h1,h2,h3,h4,h5,h6,h7⟩
 ·cases h1
 injection h1 with e1 _ e3;injection e1 with e1;injection e1 with e1;subst e1 e3;refine inr ⟨g,c,cur.setIfInBounds j u,rfl,h2,heap_setCell_same w g j cur e u h3,h4,h5,by simpa using h6,?_⟩;rw[Array.toList_setIfInBounds,<-h7];rw[List.take_set]
theorem KL(l:List Eg):∀v∈dj l,v.oneCell'=true:=by
 intro v hv;simp only[dj,List.mem_flatMap] at hv;obtain⟨x,_,hx⟩:=hv;simp only[cP,mem_cons,List.not_mem_nil,or_false] at hx;rcases hx with rfl|rfl|rfl|rfl|rfl|rfl|rfl <;> rfl
theorem zpf(l:List Eg)(i:Nat)(x:Eg)(h:i<l.length)(hp:x.p=l[i].p)(hb:x.b=l[i].b):dj (l.set i x)=((dj l).set (i*7) (.int .i64 x.f)).set (i*7+1) (.int .i64 x.t):=by
 induction l generalizing i with
 | nil=>simp at h
 | cons y l ih=>
  match i,h,hp,hb with
  | 0,_,hp,hb=>
   simp only[List.getElem_cons_zero] at hp hb;simp[dj,cP,hp,hb]
  | i+1,h,hp,hb=>
   have:=ih i (by simpa using h) (by simpa using hp) (by simpa using hb);show cP y++dj (l.set i x)=_;rw[this];show _=List.set (List.set (cP y++dj l) ((i+1)*7) _) ((i+1)*7+1) _;rw[show (i+1)*7=i*7+7 by omega];simp[cP]
def mx(o:Nat)(L:List En)(k:Nat):List En:=(L.take k).map (En.by o)++L.drop k
theorem UQ(o:Nat)(L:List En)(k:Nat):(mx o L k).length=L.length:=by simp[mx];omega
theorem Rb(o:Nat)(L:List En)(k:Nat)(h:k<L.length):(mx o L k)[k]'(by rw[UQ];exact h)=L[k]:=by
 unfold mx;rw[List.getElem_append_right (by simp;omega)];simp[Nat.min_eq_left (Nat.le_of_lt h)]
theorem zqk(o:Nat)(L:List En)(k:Nat)(h:k<L.length):(mx o L k).set k (L[k].by o)=mx o L (k+1):=by
 have hl:((L.take k).map (En.by o)).length=k:=by simp;omega
 have h1:(mx o L k).set k (L[k].by o)=(L.take k).map (En.by o)++(L.drop k).set 0 (L[k].by o):=by
  unfold mx;rw[List.set_append_right _ _ (by omega),hl,Nat.sub_self]
 rw[h1,List.drop_eq_getElem_cons h,List.set_cons_zero];unfold mx;rw[List.take_succ_eq_append_getElem h,List.map_append,List.append_assoc];rfl
theorem zeF(P:Program)(w:World)(T ty elem:TypeId)(z:Value)(g m c:Nat)(cur:Array Value)(t:TypeId)(hu:P.underlying T=some (.slice elem))(hz:∀w,(zeroValue elem).run P w=.ok z w)(cJ:z.cells=#[z])(ho:z.oneCell'=true)
  (hg:w.heap[g]?=some (.cells cur t (0,0))) (hm:cur.size=m):
  (clear_ #[T] ty #[.slice (some ⟨g,0,none⟩) m c]).run P w=.ok (.tuple #[]) (w.setRow g (replicate m z).toArray):=by
 have bU:=run_storeCells_at P g 0 t (replicate m z) 0 cur w hg (by simp[hm]) (fun v hv=>by rw[List.eq_of_mem_replicate hv];exact ho);have lb:(cur.toList.take (0+0)++replicate m z++cur.toList.drop (0+0+(replicate m z).length)).toArray=(replicate m z).toArray:=by
  rw[List.drop_eq_nil_of_le (by simp[hm])];simp
 rw[lb] at bU;have Oi:(zeroCells z.cells m).toList=replicate m z:=by
  rw[cJ];refine List.ext_getElem (by simp[zeroCells]) fun i h1 h2=>?_
  simp[zeroCells,Nat.mod_one]
 match m,bU,hm,Oi with
 | 0,bU,hm,_=>
  have:cur=#[]:=Array.eq_empty_of_size_eq_zero hm;subst this;have h1:=setRow_self w g #[] t (0,0) hg;simp[clear_,run_underlying hu,h1]
 | m+1,bU,_,Oi=>
  simp[clear_,run_underlying hu,hz,Oi,bU]
theorem iz.clear{V wr:World}{bm gI m:Nat}{bs:List Nat}{cs:Array Value}{P:Nat->Bool}{aL:Option Addr}{cL:Nat}(h:iz V B bs bm gI m cs P l (.slice aL n cL) wr)(hn:l.length=n):
  iz V B bs bm gI m cs (fun _=>false) [] (.slice aL 0 cL) ((wr.setRow gI (replicate m (.int .u8 0)).toArray).setCell ⟨bm,262,none⟩ (.slice aL 0 cL)):=by
 obtain⟨lU,yX,Fa,US⟩:=yM h.lD;have hk:Kept [] [gI] wr (wr.setRow gI (replicate m (.int .u8 0)).toArray):=fun k o hk _ hn=>by
  rw[setRow_other _ _ _ _ (by simpa using hn)];exact hk
 have mr:=h.sm.kept hk (by simp) (by simp only[mem_singleton];exact fun e=>ew h.lD h.sm (by decide) gI rfl e.symm);have hl:wr.ownsRow B 3 1 (.slice aL n cL) n (cW l):=by rw[<-hn];have:=h.dd;rwa [hn] at this⊢
 have uH:=fC hl hk (by simp) (fun g hg e=>by
   simp only[mem_singleton] at e
   subst e
   exact im hl h.lD (by decide) g hg rfl)
 have Qj:=Zb h.lD (ys:=replicate m (.int .u8 0)) (by simp);refine⟨(h.kept.trans (hk.mono (by simp) (fun x hx=>by rw[List.mem_singleton.1 hx];exact h.jW.2))).setCell _ _ (inl h.jW.1),(below_setRow h.below h.lo.2.1 _).setCell (p:=⟨bm,262,none⟩) h.lo.1 _,?_,h.sz,h.cI,?_,jz (UX uH) mr (by decide) _ _,?_,h.jW,h.lo⟩
 ·have:=mr.set 262 (.slice aL 0 cL);rwa [Array.setIfInBounds_setIfInBounds] at this
 ·rw[Oa];exact jz Qj mr (by decide) _ _
 intro b e;refine h.loc b ?_;cases aL with
 | none=>simp[Value.ownBlock] at e
 | some ad=>simpa [Value.ownBlock] using e
def zph(V:World)(B:Nat)(bs:List Nat)(bm gI m M:Nat)(cs:Array Value)(st:List Nat)(e:Ending)(w':World):Prop:=
 ∃l' jf,e=.returned (.tuple #[])/\iW V B bs bm gI m M cs l' jf w'/\∀x,x∈l'↔x∈st
theorem zhv(V:World)(B:Nat)(bs:List Nat)(bm gI m M:Nat)(cs:Array Value)(P:Nat->Bool)(l:List Nat)(vL:Value)(wr:World)(h:iz V B bs bm gI m cs P l vL wr)(hM:M<=100000)(hm:(M+7) / 8=m)(tu:l.length<=1000000)
  (a:Option Addr) (n c:Nat) (st:List Nat) (bU:st.length=n) (hn:n<=100000000000) (aq:∀x∈st,x<M) (hr:∀W,Kept [] bs V W->AT W W.heap.size a st):
  Calls prog 105 #[.pointer (some ⟨bm,0,none⟩),.slice a n c] wr (zph V B bs bm gI m M cs st):=by
 obtain⟨aL,cL,rfl⟩:=bP h.dd;obtain⟨c1,c2,c3⟩:=h.cells;obtain⟨q,hq⟩:∃q,l.length=q:=⟨_,rfl⟩
 rw[hq] at c2 tu;have hc:=h.clear (n:=l.length) rfl;have HC:=hid hc;have HG:=hid (yM h.lD);have H:=hid (Zz bU (Zz aq (Zz hr hm)));have d1:(wr.setRow gI (replicate m (.int .u8 0)).toArray).cell? ⟨bm,262,none⟩=some (.slice aL q cL):=by
  have hk:Kept [] [gI] wr (wr.setRow gI (replicate m (.int .u8 0)).toArray):=fun k o hk _ hn=>by
   rw[setRow_other _ _ _ _ (by simpa using hn)];exact hk
  have mr:=h.sm.kept hk (by simp) (by simp only[mem_singleton];exact fun e=>ew h.lD h.sm (by decide) gI rfl e.symm);rw[mr.at_,Array.getElem?_setIfInBounds_self_of_lt (by rw[h.sz];decide),hq]
 have d2:(wr.setRow gI (replicate m (.int .u8 0)).toArray).frozen? ⟨bm,262,none⟩=false:=by
  have hk:Kept [] [gI] wr (wr.setRow gI (replicate m (.int .u8 0)).toArray):=fun k o hk _ hn=>by
   rw[setRow_other _ _ _ _ (by simpa using hn)];exact hk
  have mr:=h.sm.kept hk (by simp) (by simp only[mem_singleton];exact fun e=>ew h.lD h.sm (by decide) gI rfl e.symm);exact mr.bb 262
 have hz:=QZ;have ct:=zeF prog wr 112 0 5 (.int .u8 0) gI m m _ 5 underlying112 hz rfl rfl HG.out.1 (by have:=HG.out.2.2.2;simpa using this);generalize wr.setRow gI (replicate m (.int .u8 0)).toArray=W1 at HC d1 d2 ct;clear h hc bU aq hr hm hq hz;go_in;go_wp2_with fail;generalize W1.setCell ⟨bm,262,none⟩ (.slice aL 0 cL)=W0 at HC⊢;clear c1 c2 c3 d1 d2 HG ct;go_loopw [5,20] (fun _ v wq=>∃(k:Nat) (l2:List Nat) (rB:Value),v=.int .i64 k/\k<=n/\Hid (iW V B bs bm gI m M cs l2 rB wq)/\Hid (∀x,x∈l2↔x∈st.take k)) (fun _ v _=>n-(intOf v).toNat)
 ·exact⟨0,[],_,rfl,Nat.zero_le _,⟨by simpa using HC.out,List.nodup_nil,by simp⟩,fun x=>by simp⟩
 obtain⟨k,l2,rB,rfl,hk,HB,HD⟩:=hrel;clear HC;by_cases vY:k<n
 ·have hkl:k<st.length:=by rw[H.out.1];exact vY
  obtain⟨gr,Qo,rfl,_,I3⟩:=(H.out.2.2.1 wr HB.out.r.kept) (by omega);have d0:=I3 k hkl;have I6:=H.out.2.1 st[k] (List.getElem_mem _);have uZ:Hid (st.take (k+1)=st.take k++[st[k]]):=List.take_succ_eq_append_getElem hkl;generalize st[k]=t at d0 I6 uZ;have i5:(k:Int)<n:=by omega
  clear I3 hkl;go_wp2_with fail;refine (Wu V B bs bm gI m M cs l2 rB wr HB.out hM H.out.2.2.2 t I6).mono ?_;rintro e w2 ⟨l3,Qn,rfl,h3,qK⟩;have HZ:Hid (∀x,x∈l3↔x∈st.take (k+1)):=fun x=>by
   rw[uZ.out,qK.mem,HD.out x];simp
  have H3:=hid h3;clear h3 qK d0;go_wp2;go_roundw
  ·exact⟨k+1,l3,Qn,by go_num,by omega,H3,HZ⟩
  simp[intOf];omega
 obtain rfl:k=n:=by omega
 have HZ:Hid (∀x,x∈l2↔x∈st):=fun x=>by
  rw[HD.out x,take_of_length_le (by rw[H.out.1];exact Nat.le_refl _)]
 go_wp2_with fail;refine bodyPost_ret (results_none rfl _ _ _) rfl ?_;exact⟨l2,_,rfl,HB.out,HZ.out⟩
def bQ(mk:Nat->Int)(S:Nat->Prop)(r:Int):Prop:=
 (r=-1/\∀x,S x->mk x=-1)\/(0<=r/\(∃x,S x/\mk x=r)/\∀x,S x->mk x=-1\/r<=mk x)
theorem bQ.congr{S S':Nat->Prop}(h:bQ mk S r)(e:∀x,S x↔S' x):bQ mk S' r:=by
 rcases h with ⟨h1,h2⟩|⟨h1,⟨x,hx,h2⟩,h3⟩
 ·exact inl ⟨h1,fun x hx=>h2 x ((e x).2 hx)⟩
 exact inr ⟨h1,⟨x,(e x).1 hx,h2⟩,fun x hx=>h3 x ((e x).2 hx)⟩
theorem bQ.none(mk:Nat->Int):bQ mk (fun x=>x∈([]:List Nat)) (-1):=inl ⟨rfl,fun x hx=>by simp at hx⟩
theorem bQ.skip(h:bQ mk (fun y=>y∈l) r)(hx:mk x=-1\/(r≠-1/\r<=mk x)):bQ mk (fun y=>y∈l++[x]) r:=by
 rcases h with ⟨h1,h2⟩|⟨h1,⟨y,hy,h2⟩,h3⟩
 ·refine inl ⟨h1,fun y hy=>?_⟩;rcases List.mem_append.1 hy with hy|hy
  ·exact h2 y hy
  rw[List.mem_singleton.1 hy];omega
 refine inr ⟨h1,⟨y,List.mem_append.2 (inl hy),h2⟩,fun z hz=>?_⟩;rcases List.mem_append.1 hz with hz|hz
 ·exact h3 z hz
 rw[List.mem_singleton.1 hz];omega
theorem bQ.take(h:bQ mk (fun y=>y∈l) r)(h0:0<=mk x)(hx:r=-1\/mk x<=r):bQ mk (fun y=>y∈l++[x]) (mk x):=by
 refine inr ⟨h0,⟨x,by simp,rfl⟩,fun z hz=>?_⟩;rcases List.mem_append.1 hz with hz|hz
 ·rcases h with ⟨h1,h2⟩|⟨h1,_,h3⟩
  ·exact inl (h2 z hz)
  rcases h3 z hz with h|h
  ·exact inl h
  exact inr (by omega)
 rw[List.mem_singleton.1 hz];exact inr (Int.le_refl _)
structure kX (w:World)(B bn gM M cM:Nat)(mk:Nat->Int):Prop where
 gz:bn<B/\gM<B
 gK:w.cell? ⟨bn,257,none⟩=some (.slice (some ⟨gM,0,none⟩) M cM)
 at_:∀i,i<M->w.cell? ⟨gM,i,none⟩=some (.int .i64 (mk i))
theorem kX.below{w':World}{bn gM M cM:Nat}(h:kX w B bn gM M cM mk)(k:Below B w w'):kX w' B bn gM M cM mk:=
 ⟨h.gz,(k.cell (p:=⟨bn,257,none⟩) h.gz.1).trans h.gK,fun i hi=>(k.cell (p:=⟨gM,i,none⟩) h.gz.2).trans (h.at_ i hi)⟩
theorem zgz(V:World)(B:Nat)(bs:List Nat)(bm gI m M bn gM cM:Nat)(cs:Array Value)(mk:Nat->Int)(HV:kX V B bn gM M cM mk)(eR:∀i,i<M->-1<=mk i)(pN:cs[0]?=some (.pointer (some ⟨bn,0,none⟩)))(hM:M<=100000)
  (l:List Nat) (vL:Value) (wr:World) (h:iW V B bs bm gI m M cs l vL wr):
  Calls prog 137 #[.pointer (some ⟨bm,0,none⟩)] wr fun e w'=>∃r,e=.returned (.int .i64 r)/\bQ mk (fun x=>x∈l) r/\w'=wr:=by
 obtain⟨aL,cL,rfl⟩:=bP h.r.dd;obtain⟨_,c3,_⟩:=h.r.cells;have c0:wr.cell? ⟨bm,0,none⟩=some (.pointer (some ⟨bn,0,none⟩)):=by rw[h.r.sm.at_,Array.getElem?_setIfInBounds_ne (by decide),pN]
 have jw:=HV.below h.r.below;have f0:=jw.gK;obtain⟨q,hq⟩:∃q,l.length=q:=⟨_,rfl⟩
 have hqM:q<=M:=by rw[<-hq];exact h.len
 rw[hq] at c3;have H:=hid (Zz h (Zz jw (Zz eR hq)));clear h HV jw eR pN hq;go_in;go_wp2;go_loopw [3,5,6,12] (fun v3 _ _ v wq=>∃(k:Nat) (r:Int),v=.int .i64 k/\k<=q/\v3=.int .i64 r/\-1<=r/\wq=wr/\Hid (bQ mk (fun x=>x∈l.take k) r)) (fun _ _ _ v _=>q-(intOf v).toNat)
 ·exact⟨0,-1,rfl,Nat.zero_le _,rfl,Int.le_refl _,rfl,by show bQ _ _ _;simpa using bQ.none mk⟩
 obtain⟨k,r,rfl,hk,rfl,hr,rfl,HL⟩:=hrel;by_cases aq:k<q
 ·have hkl:k<l.length:=by rw[H.out.2.2.2];exact aq
  obtain⟨gl,rfl,_,_,iJ⟩:=ek H.out.1.r.dd (by omega);have d0:=(iJ k (by omega)).1;rw[AY l k hkl] at d0;have hs:=H.out.1.lt l[k] (List.getElem_mem _);have d1:=H.out.2.1.at_ l[k] hs;have iF:=H.out.2.2.1 l[k] hs;have uZ:Hid (l.take (k+1)=l.take k++[l[k]]):=List.take_succ_eq_append_getElem hkl;generalize l[k]=x at d0 d1 hs iF uZ;have HS:Hid (∀r',(mk x=-1\/(r≠-1/\r<=mk x))->r'=r->bQ mk (fun y=>y∈l.take (k+1)) r'):=fun r' h e=>by rw[e,uZ.out];exact HL.out.skip h
  have HT:Hid (0<=mk x->(r=-1\/mk x<=r)->∀r',r'=mk x->bQ mk (fun y=>y∈l.take (k+1)) r'):=fun h0 h r' e=>by rw[e,uZ.out];exact HL.out.take h0 h
  generalize mk x=y at d1 iF HS HT;have i1:(k:Int)<q:=by omega
  have i2:(x:Int)<M:=by omega
  clear iJ hkl uZ;by_cases hy:y=-1
  ·subst hy;have HZ:=hid (HS.out r (inl rfl) rfl);go_wp2;go_roundw
   ·exact⟨k+1,r,by go_num,by omega,rfl,hr,trivial,HZ⟩
   simp[intOf];omega
  by_cases Bs:r=-1
  ·subst Bs;have HZ:=hid (HT.out (by omega) (inl rfl) y rfl);go_wp2;go_roundw
   ·exact⟨k+1,y,by go_num,by omega,rfl,by omega,trivial,HZ⟩
   simp[intOf];omega
  rcases Int.lt_or_le y r with hyr|hyr
  ·have HZ:=hid (HT.out (by omega) (inr (by omega)) y rfl);go_wp2;go_roundw
   ·exact⟨k+1,y,by go_num,by omega,rfl,by omega,trivial,HZ⟩
   simp[intOf];omega
  have HZ:=hid (HS.out r (inr ⟨Bs,by omega⟩) rfl);have hyd:decide (y<r)=false:=by simp;omega
  have eG:(y != -1)=true:=by simpa using hy
  have cr:(r == -1)=false:=by simpa using Bs
  go_wp2;go_roundw
  ·exact⟨k+1,r,by go_num,by omega,rfl,hr,trivial,HZ⟩
  simp[intOf];omega
 obtain rfl:k=q:=by omega
 have HZ:Hid (bQ mk (fun x=>x∈l) r):=by
  have:=HL.out;rwa [take_of_length_le (by rw[H.out.2.2.2];exact Nat.le_refl _)] at this
 go_wp2;go_ret;exact⟨r,rfl,HZ.out,rfl⟩
def Found(L:List En)(A:Nat->Prop)(N k:Nat)(f:Nat->Bool)(i:Nat)(ch:Bool):Prop:=
 (ch=false/\Gat L A N k f/\∀j (h:j<L.length),j<i->zqV f L[j])\/(ch=true/\Gat L A N (k+1) f)
