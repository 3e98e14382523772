import Derived.Test.YtkkhakmdjinenaaGreatZClasses
import Derived.Laws.CopyOwn
set_option linter.all false
set_option maxHeartbeats 2000000
set_option maxRecDepth 100000
open Go.Lib (hid)
namespace Go.Proofs.YtkkhakmdjinenaaGreat
open Go.Proofs.Tryz
open List (mem_append mem_cons mem_map mem_singleton replicate take_of_length_le)
open Or (inl inr)
open Builtin (clear_ copy_ firstCells lenOf zeroCells)
variable {B c e g k n q t x:Nat}{kX l nm:List Nat}{mk:Nat->Int}{r:Int}{w:World}{xs:List Value}
structure NF where
 N:Nat
 F:Nat
 T:Nat
 L:List En
def NF.ok(m:NF):Prop:=Ok m.L m.N m.F m.T
def En.by(o:Nat)(e:En):En:=⟨e.f+o,e.t+o,e.p,e.b⟩
def bG(f t:Nat):En:=⟨f,t,fun _=>false,true⟩
def uo(M:Nat->NF):Nat->Nat
 | 0=>1
 | k+1=>uo M k+(M k).N
def uE(M:Nat->NF):Nat->List En
 | 0=>[]
 | k+1=>uE M k++(bG 0 (uo M k+(M k).F) :: (M k).L.map (En.by (uo M k)))
theorem Nr(M:Nat->NF)(k:Nat):1<=uo M k:=by
 induction k with
 | zero=>exact Nat.le_refl _
 | succ k ih=>show 1<=uo M k+_;omega
theorem TD(M:Nat->NF){i:Nat}(h:i<=k):uo M i<=uo M k:=by
 induction k with
 | zero=>rw[show i=0 by omega];exact Nat.le_refl _
 | succ k ih=>
  by_cases e:i=k+1
  ·rw[e];exact Nat.le_refl _
  have:=ih (by omega);show uo M i<=uo M k+_;omega
theorem Nz(M:Nat->NF)(n:Nat)(h:∀k,k<n->(M k).ok):∀e∈uE M n,e.f<uo M n/\1<=e.t/\e.t<uo M n:=by
 induction n with
 | zero=>intro e he;simp[uE] at he
 | succ n ih=>
  intro e he;have hp:=Nr M n;have hk:=h n (by omega);simp only[uE,mem_append,mem_cons,mem_map] at he;rcases he with he|rfl|⟨e',jX,rfl⟩
  ·obtain⟨h1,h2,h3⟩:=ih (fun k hk=>h k (by omega)) e he;show _<uo M n+_/\_/\_<uo M n+_;omega
  ·have:=hk.f;show 0<uo M n+_/\1<=uo M n+_/\uo M n+_<uo M n+_;omega
  obtain⟨h1,h2⟩:=hk.e e' jX;show e'.f+uo M n<uo M n+_/\1<=e'.t+uo M n/\e'.t+uo M n<uo M n+_;omega
theorem YO(M:Nat->NF)(n B:Nat)(h:∀k,k<n->(M k).L.length<=B):(uE M n).length<=n*(B+1):=by
 induction n with
 | zero=>simp[uE]
 | succ n ih=>
  have h1:=ih (fun k hk=>h k (by omega));have h2:=h n (by omega);simp only[uE,List.length_append,List.length_cons,List.length_map];rw[Nat.succ_mul];omega
theorem OA(M:Nat->NF)(n B:Nat)(h:∀k,k<n->(M k).N<=B):uo M n<=1+n*B:=by
 induction n with
 | zero=>simp[uo]
 | succ n ih=>
  have h1:=ih (fun k hk=>h k (by omega));have h2:=h n (by omega);show uo M n+_<=_;rw[Nat.succ_mul];omega
structure Ae (E:List En)(p:Nat)(m:NF):Prop where
 pos:1<=p
 zero:∀e∈E,1<=e.t
 RP:∀e∈E,p<=e.t->e.t<p+m.N->e=bG 0 (p+m.F)\/∃e'∈m.L,e=e'.by p
 free:bG 0 (p+m.F)∈E
 all:∀e'∈m.L,e'.by p∈E
theorem zqC(M:Nat->NF)(n:Nat)(h:∀k,k<n->(M k).ok)(i:Nat)(hi:i<n):Ae (uE M n) (uo M i) (M i):=by
 induction n with
 | zero=>omega
 | succ n ih=>
  have hz:∀e∈uE M (n+1),1<=e.t:=fun e he=>(Nz M (n+1) h e he).2.1
  by_cases e:i=n
  ·subst e;refine⟨Nr M i,hz,fun e he h1 h2=>?_,by simp[uE],fun e' jX=>by simp only[uE,mem_append,mem_cons,mem_map];exact inr (inr ⟨e',jX,rfl⟩)⟩;simp only[uE,mem_append,mem_cons,mem_map] at he;rcases he with he|rfl|⟨e',jX,rfl⟩
   ·have:=(Nz M i (fun k hk=>h k (by omega)) e he).2.2;omega
   ·exact inl rfl
   exact inr ⟨e',jX,rfl⟩
  have S:=ih (fun k hk=>h k (by omega)) (by omega);have hle:uo M i+(M i).N<=uo M n:=TD M (show i+1<=n by omega);refine⟨S.pos,hz,fun e he h1 h2=>?_,by simp only[uE,mem_append];exact inl S.free,fun e' jX=>by simp only[uE,mem_append];exact inl (S.all e' jX)⟩;simp only[uE,mem_append,mem_cons,mem_map] at he;rcases he with he|rfl|⟨e',jX,rfl⟩
  ·exact S.RP e he h1 h2
  ·have:uo M n+(M n).F<uo M i+(M i).N:=h2;omega
  have:e'.t+uo M n<uo M i+(M i).N:=h2;omega
theorem Ae.fr0{E:List En}{p:Nat}{m:NF}(h:Ae E p m){A:Nat->Prop}(k:FR E A 0):A 0:=by
 have:∀y,FR E A y->y=0->A 0:=by
  intro y k
  induction k with
  | base ha=>intro e;subst e;exact ha
  | step e _ h1 h2 h3 h4 ih=>
   intro e0;have:=h.zero e h1;omega
 exact this 0 k rfl
theorem Ae.fr{E:List En}{p:Nat}{m:NF}(h:Ae E p m)(hm:m.ok){A:Nat->Prop}(hq:q<m.N):FR E A (p+q)↔FR m.L (fun q=>q<m.N/\(A (p+q)\/(A 0/\q=m.F))) q:=by
 constructor
 ·have:∀y,FR E A y->∀q,q<m.N->y=p+q->FR m.L (fun q=>q<m.N/\(A (p+q)\/(A 0/\q=m.F))) q:=by
   intro y k
   induction k with
   | base ha=>intro q hq e;subst e;exact .base ⟨hq,inl ha⟩
   | step e k0 h1 h2 h3 h4 ih=>
    intro q hq e0;rcases h.RP e h1 (by omega) (by omega) with rfl|⟨e',jX,rfl⟩
    ·have e1:0=_:=h3;have e2:p+m.F=_:=h4;subst e1;exact .base ⟨hq,inr ⟨h.fr0 k0,by omega⟩⟩
    have e1:e'.f+p=_:=h3;have e2:e'.t+p=_:=h4;exact .step e' (ih e'.f (hm.e e' jX).1 (by omega)) jX h2 rfl (by omega)
  exact fun k=>this _ k q hq rfl
 intro k;clear hq
 induction k with
 | base ha=>
  rcases ha.2 with h1|⟨h1,rfl⟩
  ·exact .base h1
  exact .step (bG 0 (p+m.F)) (.base h1) h.free rfl rfl rfl
 | step e _ h1 h2 h3 h4 ih=>
  subst h3 h4;exact .step (e.by p) ih (h.all e h1) h2 (Nat.add_comm _ _) (Nat.add_comm _ _)
theorem Ae.mv{E:List En}{p:Nat}{m:NF}(h:Ae E p m)(hm:m.ok){A B:Nat->Prop}(hAB:∀q,q<m.N->(A (p+q)↔B q))(hq:q<m.N):Mv E A c (p+q)↔Mv m.L B c q:=by
 constructor
 ·rintro⟨e,h1,h2,h3,h4,h5⟩;rcases h.RP e h1 (by omega) (by omega) with rfl|⟨e',jX,rfl⟩
  ·cases h2
  have e2:e'.t+p=_:=h5;refine⟨e',jX,h2,h3,(hAB _ (hm.e e' jX).1).1 ?_,by omega⟩;rw[Nat.add_comm];exact h4
 rintro⟨e,h1,h2,h3,h4,h5⟩;subst h5;refine⟨e.by p,h.all e h1,h2,h3,?_,Nat.add_comm _ _⟩;have:=(hAB _ (hm.e e h1).1).2 h4;rwa [Nat.add_comm] at this
theorem Ae.run{E:List En}{p:Nat}{m:NF}(h:Ae E p m)(hm:m.ok)(z:Nat->Nat)(k:Nat):∀q,q<m.N->(ct E 0 z k (p+q)↔ct m.L m.F z k q):=by
 induction k with
 | zero=>
  intro q hq;have hp:=h.pos;have hf:=hm.f;rw[ct,h.fr hm hq];exact FR.congr (fun x=>⟨fun ⟨h1,h2⟩=>by omega,fun h1=>⟨by omega,inr ⟨rfl,h1⟩⟩⟩) q
 | succ k ih=>
  intro q hq;rw[ct,h.fr hm hq];refine FR.congr (fun x=>?_) q;constructor
  ·rintro⟨h1,h2|⟨⟨e,h3,h4,h5,h6,h7⟩,_⟩⟩
   ·exact (h.mv hm ih h1).1 h2
   have:=h.zero e h3;omega
  intro h1;have hx:=Mv.lt (fun e he=>(hm.e e he).2) h1;exact⟨hx,inl ((h.mv hm ih hx).2 h1)⟩
open Go.RowKit Go.Maps
theorem kc:(prog.info? 117).map (fun i=>(i.zero,i.size,i.bytes))=some (some (.agg #[.int .i64 0,.int .i64 0,.int .u64 0,.int .u64 0,.int .u64 0,.int .u64 0,.bool false]),7,56):=by kernel_rfl
theorem Xi{c0 c1 c2 c3 c4 c5 c6:Value}(h:St w t g #[c0,c1,c2,c3,c4,c5,c6]):w.cell? ⟨g,0,none⟩=some c0/\w.cell? ⟨g,1,none⟩=some c1/\w.cell? ⟨g,2,none⟩=some c2/\w.cell? ⟨g,3,none⟩=some c3/\w.cell? ⟨g,4,none⟩=some c4/\w.cell? ⟨g,5,none⟩=some c5/\w.cell? ⟨g,6,none⟩=some c6:=
 ⟨h.at_ 0,h.at_ 1,h.at_ 2,h.at_ 3,h.at_ 4,h.at_ 5,h.at_ 6⟩
theorem Fx{t' size:Nat}{v:Value}{c0 c1 c2 c3:Value}(h:w.ownsRow B t size v n xs)(hs:St w t' g #[c0,c1,c2,c3])(ht:t≠t')(d0 d1 d2 d3:Value):
  ((((w.setCell ⟨g,0,none⟩ d0).setCell ⟨g,1,none⟩ d1).setCell ⟨g,2,none⟩ d2).setCell ⟨g,3,none⟩ d3).ownsRow B t size v n xs:=
 jE (jE (jE (jE h hs ht 0 d0) (hs.set 0 d0) ht 1 d1) ((hs.set 0 d0).set 1 d1) ht 2 d2) (((hs.set 0 d0).set 1 d1).set 2 d2) ht 3 d3
def Src(L:List En)(F T x:Nat):Prop:=x=F\/x=T\/∃e∈L,e.f=x\/e.t=x
theorem Ss{s:Nat}(h:kX=nm\/kX=nm++[s])(hk:nm[k]?=some x):kX[k]?=some x:=by
 rcases h with rfl|rfl
 ·exact hk
 rw[List.getElem?_append_left (List.getElem?_eq_some_iff.1 hk).1];exact hk
theorem Vs{L:List En}{F T s:Nat}(h:kX=nm\/kX=nm++[s])(hs:Src L F T s)(hn:∀x∈nm,Src L F T x):∀x∈kX,Src L F T x:=by
 rcases h with rfl|rfl
 ·exact hn
 intro x hx;rcases List.mem_append.1 hx with hx|hx
 ·exact hn x hx
 rw[List.mem_singleton.1 hx];exact hs
theorem zpx{s:Nat}(h:kX=nm\/kX=nm++[s]):nm.length<=kX.length/\kX.length<=nm.length+1:=by
 rcases h with rfl|rfl <;> simp
theorem zpy{s:Nat}(h:kX=nm\/kX=nm++[s]){L':List En}(hb:∀e∈L',e.f<nm.length/\e.t<nm.length):L'.map (En.oG kX)=L'.map (En.oG nm):=by
 refine List.map_congr_left fun e he=>?_
 obtain⟨h1,h2⟩:=hb e he;have g:∀i,i<nm.length->kX.getD i 0=nm.getD i 0:=fun i hi=>by
  rw[List.getD_eq_getElem?_getD,List.getD_eq_getElem?_getD,List.getElem?_eq_getElem hi,Ss h (List.getElem?_eq_getElem hi)]
 simp only[En.oG,g _ h1,g _ h2]
theorem zfG(P:Program)(w:World)(dT sT ty elem:TypeId)(size:Nat)(g n zH AJ:Nat)(sp:Option Addr)(cur:Array Value)(t:TypeId)(cs:List Value)
  (hu:P.underlying dT=some (.slice elem)) (hs:(P.info? elem).map (·.size)=some size)
  (hg:w.heap[g]?=some (.cells cur t (0,0))) (hn:cs.length=n*size) (Ep:cur.size=cs.length)
  (jQ:0<n->∃ad,sp=some ad/\∀j v,cs[j]?=some v->w.cell? (ad.add j)=some v) (h1:∀v∈cs,v.oneCell'=true):
  (copy_ #[dT,sT] ty #[.slice (some ⟨g,0,none⟩) n zH,.slice sp n AJ]).run P w=.ok (goInt n) (w.setRow g cs.toArray):=by
 have bY:=run_storeCells_at P g 0 t cs 0 cur w hg (by omega) h1;have ll:(cur.toList.take (0+0)++cs++cur.toList.drop (0+0+cs.length)).toArray=cs.toArray:=by
  rw[List.drop_eq_nil_of_le (by simp[Ep])];simp
 rw[ll] at bY;cases hq:P.info? elem with
 | none=>simp[hq] at hs
 | some i=>
  have hi:i.size=size:=by simpa [hq] using hs
  have zY:Nat.min n n=n:=Nat.min_self n
  match sp,jQ with
  | some a,jQ=>
   have hl:(loadCells a (n*size)).run P w=.ok cs.toArray w:=by
    by_cases h0:0<n
    ·obtain⟨ad,e,jQ⟩:=jQ h0;injection e with e;subst e;rw[<-hn];exact run_loadCells_list (P:=P) w a cs jQ
    obtain rfl:n=0:=(by omega);have:cs=[]:=List.eq_nil_of_length_eq_zero (by omega);subst this;have:=run_loadCells_list (P:=P) w a [] (by simp);simpa using this
   simp[copy_,run_underlying hu,lenOf,firstCells,sizeOf,typeInfo,hq,hi,zY,hl,bY]
  | none,jQ=>
   obtain rfl:n=0:=by
    by_cases h0:0<n
    ·obtain⟨ad,e,_⟩:=jQ h0;cases e
    omega
   have:cs=[]:=List.eq_nil_of_length_eq_zero (by omega);subst this;simp[copy_,run_underlying hu,lenOf,firstCells,sizeOf,typeInfo,hq,hi,bY]
theorem zdD{P:Program}{ops:Array Oper}{rest:List Oper}{o:Oper}{a:Act}{Q:Exit->Act->World->Prop}(oE:o.guard=none)(d s:Operand)(dT sT:TypeId)
  (ho:o.op=.call { callee:=.builtin .copy,args:=#[d,s],argTypes:=#[dT,sT] }) (elem:TypeId) (size:Nat) (hu:P.underlying dT=some (.slice elem)) (dc:(P.info? elem).map (·.size)=some size)
  (g n zH AJ:Nat) (sp:Option Addr) (hd:a.eval d=.slice (some ⟨g,0,none⟩) n zH) (hs:a.eval s=.slice sp n AJ)
  (cur:Array Value) (t:TypeId) (hg:w.heap[g]?=some (.cells cur t (0,0))) (cs:List Value) (hn:cs.length=n*size) (Ep:cur.size=cs.length)
  (jQ:0<n->∃ad,sp=some ad/\∀j v,cs[j]?=some v->w.cell? (ad.add j)=some v) (h1:∀v∈cs,v.oneCell'=true)
  (h:wpList P ops Q rest (a.put o.dst (goInt n)) (w.setRow g cs.toArray)):wpList P ops Q (o :: rest) a w:=by
 refine wpList_plain oE fun K hK=>?_
 have cy:=zfG P w dT sT o.type elem size g n zH AJ sp cur t cs hu dc hg hn Ep jQ h1;unfold Oper.wp;simp[execOp,ho,resolve,invoke,builtin,hd,hs,cy,Result.andThen];exact hK _ _ h
theorem zo{base size:Nat}(h:w.ownsRow base e size (.slice (some ⟨g,0,none⟩) n n) n xs):w.heap[g]?=some (.cells xs.toArray e (0,0))/\base<=g/\n<=maxLen/\xs.length=n*size:=by
 rcases h.2 with ⟨h1,_⟩|⟨g',cap,cur,h1,h2,h3,h4,h5,h6,h7⟩
 ·cases h1
 injection h1 with e1 _ e3;injection e1 with e1;injection e1 with e1;subst e1 e3;have e:cur=xs.toArray:=by
  apply Array.toList_inj.1;rw[<-h7,take_of_length_le (by simp[h6])]
 subst e;exact⟨h3,h2,h5,by simpa using h6⟩
theorem VZ{base size:Nat}{ys:List Value}(h:w.ownsRow base e size (.slice (some ⟨g,0,none⟩) n n) n xs)(hy:ys.length=n*size):(w.setRow g ys.toArray).ownsRow base e size (.slice (some ⟨g,0,none⟩) n n) n ys:=by
 obtain⟨h1,h2,h3,h4⟩:=zo h;exact⟨hy,inr ⟨g,n,ys.toArray,rfl,h2,setRow_heap w g _ _ e _ h1,Nat.le_refl _,h3,by simpa using hy,by rw[take_of_length_le (by simp[hy])]⟩⟩
theorem TL{base size:Nat}(h:w.ownsRow base e size (.slice (some ⟨g,0,none⟩) n c) n xs)(j:Nat)(hj:j<n*size)(u:Value):(w.setCell ⟨g,j,none⟩ u).ownsRow base e size (.slice (some ⟨g,0,none⟩) n c) n (xs.set j u):=by
 refine⟨by rw[List.length_set];exact h.1,?_⟩;rcases h.2 with ⟨h1,_⟩|⟨g',cap,cur,h1,h2,h3,h4,h5,h6,h7⟩
 ·cases h1
 injection h1 with e1 _ e3;injection e1 with e1;injection e1 with e1;subst e1 e3;refine inr ⟨g,c,cur.setIfInBounds j u,rfl,h2,heap_setCell_same w g j cur e u h3,h4,h5,by simpa using h6,?_⟩;rw[Array.toList_setIfInBounds,<-h7];rw[List.take_set]
theorem GL(l:List Eg):∀v∈dj l,v.oneCell'=true:=by
 intro v hv;simp only[dj,List.mem_flatMap] at hv;obtain⟨x,_,hx⟩:=hv;simp only[cQ,mem_cons,List.not_mem_nil,or_false] at hx;rcases hx with rfl|rfl|rfl|rfl|rfl|rfl|rfl <;> rfl
theorem zpz(l:List Eg)(i:Nat)(x:Eg)(h:i<l.length)(hp:x.p=l[i].p)(hb:x.b=l[i].b):dj (l.set i x)=((dj l).set (i*7) (.int .i64 x.f)).set (i*7+1) (.int .i64 x.t):=by
 induction l generalizing i with
 | nil=>simp at h
 | cons y l ih=>
  match i,h,hp,hb with
  | 0,_,hp,hb=>
   simp only[List.getElem_cons_zero] at hp hb;simp[dj,cQ,hp,hb]
  | i+1,h,hp,hb=>
   have:=ih i (by simpa using h) (by simpa using hp) (by simpa using hb);show cQ y++dj (l.set i x)=_;rw[this];show _=List.set (List.set (cQ y++dj l) ((i+1)*7) _) ((i+1)*7+1) _;rw[show (i+1)*7=i*7+7 by omega];simp[cQ]
def mx(o:Nat)(L:List En)(k:Nat):List En:=(L.take k).map (En.by o)++L.drop k
theorem Xt(o:Nat)(L:List En)(k:Nat):(mx o L k).length=L.length:=by simp[mx];omega
theorem Rk(o:Nat)(L:List En)(k:Nat)(h:k<L.length):(mx o L k)[k]'(by rw[Xt];exact h)=L[k]:=by
 unfold mx;rw[List.getElem_append_right (by simp;omega)];simp[Nat.min_eq_left (Nat.le_of_lt h)]
theorem zqE(o:Nat)(L:List En)(k:Nat)(h:k<L.length):(mx o L k).set k (L[k].by o)=mx o L (k+1):=by
 have hl:((L.take k).map (En.by o)).length=k:=by simp;omega
 have h1:(mx o L k).set k (L[k].by o)=(L.take k).map (En.by o)++(L.drop k).set 0 (L[k].by o):=by
  unfold mx;rw[List.set_append_right _ _ (by omega),hl,Nat.sub_self]
 rw[h1,List.drop_eq_getElem_cons h,List.set_cons_zero];unfold mx;rw[List.take_succ_eq_append_getElem h,List.map_append,List.append_assoc];rfl
theorem zeI(P:Program)(w:World)(T ty elem:TypeId)(z:Value)(g m c:Nat)(cur:Array Value)(t:TypeId)(hu:P.underlying T=some (.slice elem))(hz:∀w,(zeroValue elem).run P w=.ok z w)(cP:z.cells=#[z])(ho:z.oneCell'=true)
  (hg:w.heap[g]?=some (.cells cur t (0,0))) (hm:cur.size=m):
  (clear_ #[T] ty #[.slice (some ⟨g,0,none⟩) m c]).run P w=.ok (.tuple #[]) (w.setRow g (replicate m z).toArray):=by
 have bY:=run_storeCells_at P g 0 t (replicate m z) 0 cur w hg (by simp[hm]) (fun v hv=>by rw[List.eq_of_mem_replicate hv];exact ho);have ll:(cur.toList.take (0+0)++replicate m z++cur.toList.drop (0+0+(replicate m z).length)).toArray=(replicate m z).toArray:=by
  rw[List.drop_eq_nil_of_le (by simp[hm])];simp
 rw[ll] at bY;have RQ:(zeroCells z.cells m).toList=replicate m z:=by
  rw[cP];refine List.ext_getElem (by simp[zeroCells]) fun i h1 h2=>?_
  simp[zeroCells,Nat.mod_one]
 match m,bY,hm,RQ with
 | 0,bY,hm,_=>
  have:cur=#[]:=Array.eq_empty_of_size_eq_zero hm;subst this;have h1:=setRow_self w g #[] t (0,0) hg;simp[clear_,run_underlying hu,h1]
 | m+1,bY,_,RQ=>
  simp[clear_,run_underlying hu,hz,RQ,bY]
theorem iK.clear{V wr:World}{bm gI m:Nat}{bs:List Nat}{cs:Array Value}{P:Nat->Bool}{aL:Option Addr}{cL:Nat}(h:iK V B bs bm gI m cs P l (.slice aL n cL) wr)(hn:l.length=n):
  iK V B bs bm gI m cs (fun _=>false) [] (.slice aL 0 cL) ((wr.setRow gI (replicate m (.int .u8 0)).toArray).setCell ⟨bm,262,none⟩ (.slice aL 0 cL)):=by
 obtain⟨l7,yR,FV,X2⟩:=zo h.lG;have hk:Kept [] [gI] wr (wr.setRow gI (replicate m (.int .u8 0)).toArray):=fun k o hk _ hn=>by
  rw[setRow_other _ _ _ _ (by simpa using hn)];exact hk
 have mN:=h.sm.kept hk (by simp) (by simp only[mem_singleton];exact fun e=>eB h.lG h.sm (by decide) gI rfl e.symm);have hl:wr.ownsRow B 3 1 (.slice aL n cL) n (cY l):=by rw[<-hn];have:=h.de;rwa [hn] at this⊢
 have u9:=fI hl hk (by simp) (fun g hg e=>by
   simp only[mem_singleton] at e
   subst e
   exact iB hl h.lG (by decide) g hg rfl)
 have RS:=VZ h.lG (ys:=replicate m (.int .u8 0)) (by simp);refine⟨(h.kept.trans (hk.mono (by simp) (fun x hx=>by rw[List.mem_singleton.1 hx];exact h.kd.2))).setCell _ _ (inl h.kd.1),(below_setRow h.below h.lo.2.1 _).setCell (p:=⟨bm,262,none⟩) h.lo.1 _,?_,h.sz,h.cI,?_,jE (Y1 u9) mN (by decide) _ _,?_,h.kd,h.lo⟩
 ·have:=mN.set 262 (.slice aL 0 cL);rwa [Array.setIfInBounds_setIfInBounds] at this
 ·rw[SF];exact jE RS mN (by decide) _ _
 intro b e;refine h.loc b ?_;cases aL with
 | none=>simp[Value.ownBlock] at e
 | some ad=>simpa [Value.ownBlock] using e
def zpB(V:World)(B:Nat)(bs:List Nat)(bm gI m M:Nat)(cs:Array Value)(st:List Nat)(e:Ending)(w':World):Prop:=
 ∃l' jr,e=.returned (.tuple #[])/\ji V B bs bm gI m M cs l' jr w'/\∀x,x∈l'↔x∈st
theorem zhD(V:World)(B:Nat)(bs:List Nat)(bm gI m M:Nat)(cs:Array Value)(P:Nat->Bool)(l:List Nat)(vL:Value)(wr:World)(h:iK V B bs bm gI m cs P l vL wr)(hM:M<=100000)(hm:(M+7) / 8=m)(uu:l.length<=1000000)
  (a:Option Addr) (n c:Nat) (st:List Nat) (bY:st.length=n) (hn:n<=100000000000) (aq:∀x∈st,x<M) (hr:∀W,Kept [] bs V W->Bk W W.heap.size a st):
  Calls prog 105 #[.pointer (some ⟨bm,0,none⟩),.slice a n c] wr (zpB V B bs bm gI m M cs st):=by
 obtain⟨aL,cL,rfl⟩:=bP h.de;obtain⟨c1,c2,c3⟩:=h.cells;obtain⟨q,hq⟩:∃q,l.length=q:=⟨_,rfl⟩
 rw[hq] at c2 uu;have hc:=h.clear (n:=l.length) rfl;have HC:=hid hc;have HG:=hid (zo h.lG);have H:=ψ bY aq hr hm;have d1:(wr.setRow gI (replicate m (.int .u8 0)).toArray).cell? ⟨bm,262,none⟩=some (.slice aL q cL):=by
  have hk:Kept [] [gI] wr (wr.setRow gI (replicate m (.int .u8 0)).toArray):=fun k o hk _ hn=>by
   rw[setRow_other _ _ _ _ (by simpa using hn)];exact hk
  have mN:=h.sm.kept hk (by simp) (by simp only[mem_singleton];exact fun e=>eB h.lG h.sm (by decide) gI rfl e.symm);rw[mN.at_,Array.getElem?_setIfInBounds_self_of_lt (by rw[h.sz];decide),hq]
 have d2:(wr.setRow gI (replicate m (.int .u8 0)).toArray).frozen? ⟨bm,262,none⟩=false:=by
  have hk:Kept [] [gI] wr (wr.setRow gI (replicate m (.int .u8 0)).toArray):=fun k o hk _ hn=>by
   rw[setRow_other _ _ _ _ (by simpa using hn)];exact hk
  have mN:=h.sm.kept hk (by simp) (by simp only[mem_singleton];exact fun e=>eB h.lG h.sm (by decide) gI rfl e.symm);exact mN.bb 262
 have hz:=QQ;have cy:=zeI prog wr 112 0 5 (.int .u8 0) gI m m _ 5 underlying112 hz rfl rfl HG.out.1 (by have:=HG.out.2.2.2;simpa using this);generalize wr.setRow gI (replicate m (.int .u8 0)).toArray=W1 at HC d1 d2 cy;clear h hc bY aq hr hm hq hz;go_in;go_wp2_with fail;generalize W1.setCell ⟨bm,262,none⟩ (.slice aL 0 cL)=W0 at HC⊢;clear c1 c2 c3 d1 d2 HG cy;go_loopw [5,20] (fun _ v wq=>∃(k:Nat) (l2:List Nat) (rq:Value),v=.int .i64 k/\k<=n/\Hid (ji V B bs bm gI m M cs l2 rq wq)/\Hid (∀x,x∈l2↔x∈st.take k)) (fun _ v _=>n-(intOf v).toNat)
 ·exact⟨0,[],_,rfl,Nat.zero_le _,⟨by simpa using HC.out,List.nodup_nil,by simp⟩,fun x=>by simp⟩
 obtain⟨k,l2,rq,rfl,hk,HB,HD⟩:=hrel;clear HC;by_cases wL:k<n
 ·have hkl:k<st.length:=by rw[H.out.1];exact wL
  obtain⟨gr,R2,rfl,_,KS⟩:=(H.out.2.2.1 wr HB.out.r.kept) (by omega);have d0:=KS k hkl;have Hv:=H.out.2.1 st[k] (List.getElem_mem _);have vo:Hid (st.take (k+1)=st.take k++[st[k]]):=List.take_succ_eq_append_getElem hkl;generalize st[k]=t at d0 Hv vo;have i5:(k:Int)<n:=by omega
  clear KS hkl;go_wp2_with fail;refine (XZ V B bs bm gI m M cs l2 rq wr HB.out hM H.out.2.2.2 t Hv).mono ?_;rintro e w2 ⟨l3,RV,rfl,h3,rG⟩;have HZ:Hid (∀x,x∈l3↔x∈st.take (k+1)):=fun x=>by
   rw[vo.out,rG.mem,HD.out x];simp
  have H3:=hid h3;clear h3 rG d0;go_wp2;go_roundw
  ·exact⟨k+1,l3,RV,by go_num,by omega,H3,HZ⟩
  simp[intOf];omega
 obtain rfl:k=n:=by omega
 have HZ:Hid (∀x,x∈l2↔x∈st):=fun x=>by
  rw[HD.out x,take_of_length_le (by rw[H.out.1];exact Nat.le_refl _)]
 go_wp2_with fail;refine bodyPost_ret (results_none rfl _ _ _) rfl ?_;exact⟨l2,_,rfl,HB.out,HZ.out⟩
def bU(mk:Nat->Int)(S:Nat->Prop)(r:Int):Prop:=
 (r=-1/\∀x,S x->mk x=-1)\/(0<=r/\(∃x,S x/\mk x=r)/\∀x,S x->mk x=-1\/r<=mk x)
theorem bU.congr{S S':Nat->Prop}(h:bU mk S r)(e:∀x,S x↔S' x):bU mk S' r:=by
 rcases h with ⟨h1,h2⟩|⟨h1,⟨x,hx,h2⟩,h3⟩
 ·exact inl ⟨h1,fun x hx=>h2 x ((e x).2 hx)⟩
 exact inr ⟨h1,⟨x,(e x).1 hx,h2⟩,fun x hx=>h3 x ((e x).2 hx)⟩
theorem bU.none(mk:Nat->Int):bU mk (fun x=>x∈([]:List Nat)) (-1):=inl ⟨rfl,fun x hx=>by simp at hx⟩
theorem bU.skip(h:bU mk (fun y=>y∈l) r)(hx:mk x=-1\/(r≠-1/\r<=mk x)):bU mk (fun y=>y∈l++[x]) r:=by
 rcases h with ⟨h1,h2⟩|⟨h1,⟨y,hy,h2⟩,h3⟩
 ·refine inl ⟨h1,fun y hy=>?_⟩;rcases List.mem_append.1 hy with hy|hy
  ·exact h2 y hy
  rw[List.mem_singleton.1 hy];omega
 refine inr ⟨h1,⟨y,List.mem_append.2 (inl hy),h2⟩,fun z hz=>?_⟩;rcases List.mem_append.1 hz with hz|hz
 ·exact h3 z hz
 rw[List.mem_singleton.1 hz];omega
theorem bU.take(h:bU mk (fun y=>y∈l) r)(h0:0<=mk x)(hx:r=-1\/mk x<=r):bU mk (fun y=>y∈l++[x]) (mk x):=by
 refine inr ⟨h0,⟨x,by simp,rfl⟩,fun z hz=>?_⟩;rcases List.mem_append.1 hz with hz|hz
 ·rcases h with ⟨h1,h2⟩|⟨h1,_,h3⟩
  ·exact inl (h2 z hz)
  rcases h3 z hz with h|h
  ·exact inl h
  exact inr (by omega)
 rw[List.mem_singleton.1 hz];exact inr (Int.le_refl _)
structure lu (w:World)(B bn gM M cM:Nat)(mk:Nat->Int):Prop where
 gG:bn<B/\gM<B
 gW:w.cell? ⟨bn,257,none⟩=some (.slice (some ⟨gM,0,none⟩) M cM)
 at_:∀i,i<M->w.cell? ⟨gM,i,none⟩=some (.int .i64 (mk i))
theorem lu.below{w':World}{bn gM M cM:Nat}(h:lu w B bn gM M cM mk)(k:Below B w w'):lu w' B bn gM M cM mk:=
 ⟨h.gG,(k.cell (p:=⟨bn,257,none⟩) h.gG.1).trans h.gW,fun i hi=>(k.cell (p:=⟨gM,i,none⟩) h.gG.2).trans (h.at_ i hi)⟩
theorem zgH(V:World)(B:Nat)(bs:List Nat)(bm gI m M bn gM cM:Nat)(cs:Array Value)(mk:Nat->Int)(HV:lu V B bn gM M cM mk)(fJ:∀i,i<M->-1<=mk i)(pT:cs[0]?=some (.pointer (some ⟨bn,0,none⟩)))(hM:M<=100000)
  (l:List Nat) (vL:Value) (wr:World) (h:ji V B bs bm gI m M cs l vL wr):
  Calls prog 137 #[.pointer (some ⟨bm,0,none⟩)] wr fun e w'=>∃r,e=.returned (.int .i64 r)/\bU mk (fun x=>x∈l) r/\w'=wr:=by
 obtain⟨aL,cL,rfl⟩:=bP h.r.de;obtain⟨_,c3,_⟩:=h.r.cells;have c0:wr.cell? ⟨bm,0,none⟩=some (.pointer (some ⟨bn,0,none⟩)):=by rw[h.r.sm.at_,Array.getElem?_setIfInBounds_ne (by decide),pT]
 have ju:=HV.below h.r.below;have f0:=ju.gW;obtain⟨q,hq⟩:∃q,l.length=q:=⟨_,rfl⟩
 have hqM:q<=M:=by rw[<-hq];exact h.len
 rw[hq] at c3;have H:=ψ h ju fJ hq;clear h HV ju fJ pT hq;go_in;go_wp2;go_loopw [3,5,6,12] (fun v3 _ _ v wq=>∃(k:Nat) (r:Int),v=.int .i64 k/\k<=q/\v3=.int .i64 r/\-1<=r/\wq=wr/\Hid (bU mk (fun x=>x∈l.take k) r)) (fun _ _ _ v _=>q-(intOf v).toNat)
 ·exact⟨0,-1,rfl,Nat.zero_le _,rfl,Int.le_refl _,rfl,by show bU _ _ _;simpa using bU.none mk⟩
 obtain⟨k,r,rfl,hk,rfl,hr,rfl,HL⟩:=hrel;by_cases aq:k<q
 ·have hkl:k<l.length:=by rw[H.out.2.2.2];exact aq
  obtain⟨gl,rfl,_,_,gq⟩:=eC H.out.1.r.de (by omega);have d0:=(gq k (by omega)).1;rw[BW l k hkl] at d0;have hs:=H.out.1.lt l[k] (List.getElem_mem _);have d1:=H.out.2.1.at_ l[k] hs;have jd:=H.out.2.2.1 l[k] hs;have vo:Hid (l.take (k+1)=l.take k++[l[k]]):=List.take_succ_eq_append_getElem hkl;generalize l[k]=x at d0 d1 hs jd vo;have HS:Hid (∀r',(mk x=-1\/(r≠-1/\r<=mk x))->r'=r->bU mk (fun y=>y∈l.take (k+1)) r'):=fun r' h e=>by rw[e,vo.out];exact HL.out.skip h
  have HT:Hid (0<=mk x->(r=-1\/mk x<=r)->∀r',r'=mk x->bU mk (fun y=>y∈l.take (k+1)) r'):=fun h0 h r' e=>by rw[e,vo.out];exact HL.out.take h0 h
  generalize mk x=y at d1 jd HS HT;have i1:(k:Int)<q:=by omega
  have i2:(x:Int)<M:=by omega
  clear gq hkl vo;by_cases hy:y=-1
  ·subst hy;have HZ:=hid (HS.out r (inl rfl) rfl);go_wp2;go_roundw
   ·exact⟨k+1,r,by go_num,by omega,rfl,hr,trivial,HZ⟩
   simp[intOf];omega
  by_cases Bg:r=-1
  ·subst Bg;have HZ:=hid (HT.out (by omega) (inl rfl) y rfl);go_wp2;go_roundw
   ·exact⟨k+1,y,by go_num,by omega,rfl,by omega,trivial,HZ⟩
   simp[intOf];omega
  rcases Int.lt_or_le y r with hyr|hyr
  ·have HZ:=hid (HT.out (by omega) (inr (by omega)) y rfl);go_wp2;go_roundw
   ·exact⟨k+1,y,by go_num,by omega,rfl,by omega,trivial,HZ⟩
   simp[intOf];omega
  have HZ:=hid (HS.out r (inr ⟨Bg,by omega⟩) rfl);have hyd:decide (y<r)=false:=by simp;omega
  have eQ:(y != -1)=true:=by simpa using hy
  have cv:(r == -1)=false:=by simpa using Bg
  go_wp2;go_roundw
  ·exact⟨k+1,r,by go_num,by omega,rfl,hr,trivial,HZ⟩
  simp[intOf];omega
 obtain rfl:k=q:=by omega
 have HZ:Hid (bU mk (fun x=>x∈l) r):=by
  have:=HL.out;rwa [take_of_length_le (by rw[H.out.2.2.2];exact Nat.le_refl _)] at this
 go_wp2;go_ret;exact⟨r,rfl,HZ.out,rfl⟩
def Found(L:List En)(A:Nat->Prop)(N k:Nat)(f:Nat->Bool)(i:Nat)(ch:Bool):Prop:=
 (ch=false/\Gat L A N k f/\∀j (h:j<L.length),j<i->zrf f L[j])\/(ch=true/\Gat L A N (k+1) f)
