import Derived.Test.YtbacgnhkapancaaGreatZClasses
import Derived.Laws.CopyOwn
set_option linter.all false
set_option maxHeartbeats 2000000
set_option maxRecDepth 100000
open Go.Lib (hid)
namespace Go.Proofs.YtbacgnhkapancaaGreat
open Builtin (clear_ copy_ firstCells lenOf zeroCells)
open Or (inl inr)
open List (mem_append mem_cons mem_map mem_singleton replicate take_of_length_le)
open Go.Proofs.Tryz
variable {e:Nat}{kF nm:List Nat}{xs:List Value}
structure NF where
 N:Nat
 F:Nat
 T:Nat
 L:List En
def NF.ok(m:NF):Prop:=Ok m.L m.N m.F m.T
def En.by(o:Nat)(e:En):En:=⟨e.f+o,e.t+o,e.p,e.b⟩
def bB(f t:Nat):En:=⟨f,t,fun _=>false,true⟩
def uo(M:Nat->NF):Nat->Nat
 | 0=>1
 | k+1=>uo M k+(M k).N
def uE(M:Nat->NF):Nat->List En
 | 0=>[]
 | k+1=>uE M k++(bB 0 (uo M k+(M k).F) :: (M k).L.map (En.by (uo M k)))
theorem KV(M:Nat->NF)(k:Nat):1<=uo M k:=by
 induction k with
 | zero=>exact Nat.le_refl _
 | succ k ih=>show 1<=uo M k+_;omega
theorem Py(M:Nat->NF){i k:Nat}(h:i<=k):uo M i<=uo M k:=by
 induction k with
 | zero=>rw[show i=0 by omega];exact Nat.le_refl _
 | succ k ih=>
  by_cases e:i=k+1
  ·rw[e];exact Nat.le_refl _
  have:=ih (by omega);show uo M i<=uo M k+_;omega
theorem KF(M:Nat->NF)(n:Nat)(h:∀k,k<n->(M k).ok):∀e∈uE M n,e.f<uo M n/\1<=e.t/\e.t<uo M n:=by
 induction n with
 | zero=>intro e he;simp[uE] at he
 | succ n ih=>
  intro e he;have hp:=KV M n;have hk:=h n (by omega);simp only[uE,mem_append,mem_cons,mem_map] at he;rcases he with he|rfl|⟨e',jw,rfl⟩
  ·obtain⟨h1,h2,h3⟩:=ih (fun k hk=>h k (by omega)) e he;show _<uo M n+_/\_/\_<uo M n+_;omega
  ·have:=hk.f;show 0<uo M n+_/\1<=uo M n+_/\uo M n+_<uo M n+_;omega
  obtain⟨h1,h2⟩:=hk.e e' jw;show e'.f+uo M n<uo M n+_/\1<=e'.t+uo M n/\e'.t+uo M n<uo M n+_;omega
theorem Uc(M:Nat->NF)(n B:Nat)(h:∀k,k<n->(M k).L.length<=B):(uE M n).length<=n*(B+1):=by
 induction n with
 | zero=>simp[uE]
 | succ n ih=>
  have h1:=ih (fun k hk=>h k (by omega));have h2:=h n (by omega);simp only[uE,List.length_append,List.length_cons,List.length_map];rw[Nat.succ_mul];omega
theorem Rk(M:Nat->NF)(n B:Nat)(h:∀k,k<n->(M k).N<=B):uo M n<=1+n*B:=by
 induction n with
 | zero=>simp[uo]
 | succ n ih=>
  have h1:=ih (fun k hk=>h k (by omega));have h2:=h n (by omega);show uo M n+_<=_;rw[Nat.succ_mul];omega
structure zr (E:List En)(p:Nat)(m:NF):Prop where
 pos:1<=p
 zero:∀e∈E,1<=e.t
 Rv:∀e∈E,p<=e.t->e.t<p+m.N->e=bB 0 (p+m.F)\/∃e'∈m.L,e=e'.by p
 free:bB 0 (p+m.F)∈E
 all:∀e'∈m.L,e'.by p∈E
theorem zqg(M:Nat->NF)(n:Nat)(h:∀k,k<n->(M k).ok)(i:Nat)(hi:i<n):zr (uE M n) (uo M i) (M i):=by
 induction n with
 | zero=>omega
 | succ n ih=>
  have hz:∀e∈uE M (n+1),1<=e.t:=fun e he=>(KF M (n+1) h e he).2.1
  by_cases e:i=n
  ·subst e;refine⟨KV M i,hz,fun e he h1 h2=>?_,by simp[uE],fun e' jw=>by simp only[uE,mem_append,mem_cons,mem_map];exact inr (inr ⟨e',jw,rfl⟩)⟩;simp only[uE,mem_append,mem_cons,mem_map] at he;rcases he with he|rfl|⟨e',jw,rfl⟩
   ·have:=(KF M i (fun k hk=>h k (by omega)) e he).2.2;omega
   ·exact inl rfl
   exact inr ⟨e',jw,rfl⟩
  have S:=ih (fun k hk=>h k (by omega)) (by omega);have hle:uo M i+(M i).N<=uo M n:=Py M (show i+1<=n by omega);refine⟨S.pos,hz,fun e he h1 h2=>?_,by simp only[uE,mem_append];exact inl S.free,fun e' jw=>by simp only[uE,mem_append];exact inl (S.all e' jw)⟩;simp only[uE,mem_append,mem_cons,mem_map] at he;rcases he with he|rfl|⟨e',jw,rfl⟩
  ·exact S.Rv e he h1 h2
  ·have:uo M n+(M n).F<uo M i+(M i).N:=h2;omega
  have:e'.t+uo M n<uo M i+(M i).N:=h2;omega
theorem zr.fr0{E:List En}{p:Nat}{m:NF}(h:zr E p m){A:Nat->Prop}(k:FR E A 0):A 0:=by
 have:∀y,FR E A y->y=0->A 0:=by
  intro y k
  induction k with
  | base ha=>intro e;subst e;exact ha
  | step e _ h1 h2 h3 h4 ih=>
   intro e0;have:=h.zero e h1;omega
 exact this 0 k rfl
theorem zr.fr{E:List En}{p:Nat}{m:NF}(h:zr E p m)(hm:m.ok){A:Nat->Prop}{q:Nat}(hq:q<m.N):FR E A (p+q)↔FR m.L (fun q=>q<m.N/\(A (p+q)\/(A 0/\q=m.F))) q:=by
 constructor
 ·have:∀y,FR E A y->∀q,q<m.N->y=p+q->FR m.L (fun q=>q<m.N/\(A (p+q)\/(A 0/\q=m.F))) q:=by
   intro y k
   induction k with
   | base ha=>intro q hq e;subst e;exact .base ⟨hq,inl ha⟩
   | step e k0 h1 h2 h3 h4 ih=>
    intro q hq e0;rcases h.Rv e h1 (by omega) (by omega) with rfl|⟨e',jw,rfl⟩
    ·have e1:0=_:=h3;have e2:p+m.F=_:=h4;subst e1;exact .base ⟨hq,inr ⟨h.fr0 k0,by omega⟩⟩
    have e1:e'.f+p=_:=h3;have e2:e'.t+p=_:=h4;exact .step e' (ih e'.f (hm.e e' jw).1 (by omega)) jw h2 rfl (by omega)
  exact fun k=>this _ k q hq rfl
 intro k;clear hq
 induction k with
 | base ha=>
  rcases ha.2 with h1|⟨h1,rfl⟩
  ·exact .base h1
  exact .step (bB 0 (p+m.F)) (.base h1) h.free rfl rfl rfl
 | step e _ h1 h2 h3 h4 ih=>
  subst h3 h4;exact .step (e.by p) ih (h.all e h1) h2 (Nat.add_comm _ _) (Nat.add_comm _ _)
theorem zr.mv{E:List En}{p:Nat}{m:NF}(h:zr E p m)(hm:m.ok){A B:Nat->Prop}(hAB:∀q,q<m.N->(A (p+q)↔B q)){c q:Nat}(hq:q<m.N):Mv E A c (p+q)↔Mv m.L B c q:=by
 constructor
 ·rintro⟨e,h1,h2,h3,h4,h5⟩;rcases h.Rv e h1 (by omega) (by omega) with rfl|⟨e',jw,rfl⟩
  ·cases h2
  have e2:e'.t+p=_:=h5;refine⟨e',jw,h2,h3,(hAB _ (hm.e e' jw).1).1 ?_,by omega⟩;rw[Nat.add_comm];exact h4
 rintro⟨e,h1,h2,h3,h4,h5⟩;subst h5;refine⟨e.by p,h.all e h1,h2,h3,?_,Nat.add_comm _ _⟩;have:=(hAB _ (hm.e e h1).1).2 h4;rwa [Nat.add_comm] at this
theorem zr.run{E:List En}{p:Nat}{m:NF}(h:zr E p m)(hm:m.ok)(z:Nat->Nat)(k:Nat):∀q,q<m.N->(cq E 0 z k (p+q)↔cq m.L m.F z k q):=by
 induction k with
 | zero=>
  intro q hq;have hp:=h.pos;have hf:=hm.f;rw[cq,h.fr hm hq];exact FR.congr (fun x=>⟨fun ⟨h1,h2⟩=>by omega,fun h1=>⟨by omega,inr ⟨rfl,h1⟩⟩⟩) q
 | succ k ih=>
  intro q hq;rw[cq,h.fr hm hq];refine FR.congr (fun x=>?_) q;constructor
  ·rintro⟨h1,h2|⟨⟨e,h3,h4,h5,h6,h7⟩,_⟩⟩
   ·exact (h.mv hm ih h1).1 h2
   have:=h.zero e h3;omega
  intro h1;have hx:=Mv.lt (fun e he=>(hm.e e he).2) h1;exact⟨hx,inl ((h.mv hm ih hx).2 h1)⟩
open Go.RowKit Go.Maps Go.WideElems Go.ChangeMaps Go.MapKept
theorem jS:(prog.info? 128).map (fun i=>(i.zero,i.size,i.bytes))=some (some (.agg #[.int .i64 0,.int .i64 0,.int .u64 0,.int .u64 0,.int .u64 0,.int .u64 0,.bool false]),7,56):=by kernel_rfl
theorem Xd{w:World}{g t:Nat}{c0 c1 c2 c3 c4 c5 c6:Value}(h:St w t g #[c0,c1,c2,c3,c4,c5,c6]):w.cell? ⟨g,0,none⟩=some c0/\w.cell? ⟨g,1,none⟩=some c1/\w.cell? ⟨g,2,none⟩=some c2/\w.cell? ⟨g,3,none⟩=some c3/\w.cell? ⟨g,4,none⟩=some c4/\w.cell? ⟨g,5,none⟩=some c5/\w.cell? ⟨g,6,none⟩=some c6:=
 ⟨h.at_ 0,h.at_ 1,h.at_ 2,h.at_ 3,h.at_ 4,h.at_ 5,h.at_ 6⟩
theorem E0{w:World}{B t t' g size n:Nat}{v:Value}{c0 c1 c2 c3:Value}(h:w.ownsRow B t size v n xs)(hs:St w t' g #[c0,c1,c2,c3])(ht:t≠t')(d0 d1 d2 d3:Value):
  ((((w.setCell ⟨g,0,none⟩ d0).setCell ⟨g,1,none⟩ d1).setCell ⟨g,2,none⟩ d2).setCell ⟨g,3,none⟩ d3).ownsRow B t size v n xs:=
 jt (jt (jt (jt h hs ht 0 d0) (hs.set 0 d0) ht 1 d1) ((hs.set 0 d0).set 1 d1) ht 2 d2) (((hs.set 0 d0).set 1 d1).set 2 d2) ht 3 d3
def Src(L:List En)(F T x:Nat):Prop:=x=F\/x=T\/∃e∈L,e.f=x\/e.t=x
theorem OX{s k x:Nat}(h:kF=nm\/kF=nm++[s])(hk:nm[k]?=some x):kF[k]?=some x:=by
 rcases h with rfl|rfl
 ·exact hk
 rw[List.getElem?_append_left (List.getElem?_eq_some_iff.1 hk).1];exact hk
theorem UN{L:List En}{F T s:Nat}(h:kF=nm\/kF=nm++[s])(hs:Src L F T s)(hn:∀x∈nm,Src L F T x):∀x∈kF,Src L F T x:=by
 rcases h with rfl|rfl
 ·exact hn
 intro x hx;rcases List.mem_append.1 hx with hx|hx
 ·exact hn x hx
 rw[List.mem_singleton.1 hx];exact hs
theorem zpc{s:Nat}(h:kF=nm\/kF=nm++[s]):nm.length<=kF.length/\kF.length<=nm.length+1:=by
 rcases h with rfl|rfl <;> simp
theorem zpd{s:Nat}(h:kF=nm\/kF=nm++[s]){L':List En}(hb:∀e∈L',e.f<nm.length/\e.t<nm.length):L'.map (En.oa kF)=L'.map (En.oa nm):=by
 refine List.map_congr_left fun e he=>?_
 obtain⟨h1,h2⟩:=hb e he;have g:∀i,i<nm.length->kF.getD i 0=nm.getD i 0:=fun i hi=>by
  rw[List.getD_eq_getElem?_getD,List.getD_eq_getElem?_getD,List.getElem?_eq_getElem hi,OX h (List.getElem?_eq_getElem hi)]
 simp only[En.oa,g _ h1,g _ h2]
theorem zfz(P:Program)(w:World)(dT sT ty elem:TypeId)(size:Nat)(g n zF zB:Nat)(sp:Option Addr)(cur:Array Value)(t:TypeId)(cs:List Value)
  (hu:P.underlying dT=some (.slice elem)) (hs:(P.info? elem).map (·.size)=some size)
  (hg:w.heap[g]?=some (.cells cur t (0,0))) (hn:cs.length=n*size) (Cz:cur.size=cs.length)
  (jL:0<n->∃ad,sp=some ad/\∀j v,cs[j]?=some v->w.cell? (ad.add j)=some v) (h1:∀v∈cs,v.oneCell'=true):
  (copy_ #[dT,sT] ty #[.slice (some ⟨g,0,none⟩) n zF,.slice sp n zB]).run P w=.ok (goInt n) (w.setRow g cs.toArray):=by
 have bQ:=run_storeCells_at P g 0 t cs 0 cur w hg (by omega) h1;have kQ:(cur.toList.take (0+0)++cs++cur.toList.drop (0+0+cs.length)).toArray=cs.toArray:=by
  rw[List.drop_eq_nil_of_le (by simp[Cz])];simp
 rw[kQ] at bQ;cases hq:P.info? elem with
 | none=>simp[hq] at hs
 | some i=>
  have hi:i.size=size:=by simpa [hq] using hs
  have Ar:Nat.min n n=n:=Nat.min_self n
  match sp,jL with
  | some a,jL=>
   have hl:(loadCells a (n*size)).run P w=.ok cs.toArray w:=by
    by_cases h0:0<n
    ·obtain⟨ad,e,jL⟩:=jL h0;injection e with e;subst e;rw[<-hn];exact run_loadCells_list (P:=P) w a cs jL
    obtain rfl:n=0:=(by omega);have:cs=[]:=List.eq_nil_of_length_eq_zero (by omega);subst this;have:=run_loadCells_list (P:=P) w a [] (by simp);simpa using this
   simp[copy_,run_underlying hu,lenOf,firstCells,sizeOf,typeInfo,hq,hi,Ar,hl,bQ]
  | none,jL=>
   obtain rfl:n=0:=by
    by_cases h0:0<n
    ·obtain⟨ad,e,_⟩:=jL h0;cases e
    omega
   have:cs=[]:=List.eq_nil_of_length_eq_zero (by omega);subst this;simp[copy_,run_underlying hu,lenOf,firstCells,sizeOf,typeInfo,hq,hi,bQ]
theorem zdz{P:Program}{w:World}{ops:Array Oper}{rest:List Oper}{o:Oper}{a:Act}{Q:Exit->Act->World->Prop}(oG:o.guard=none)(d s:Operand)(dT sT:TypeId)
  (ho:o.op=.call { callee:=.builtin .copy,args:=#[d,s],argTypes:=#[dT,sT] }) (elem:TypeId) (size:Nat) (hu:P.underlying dT=some (.slice elem)) (cU:(P.info? elem).map (·.size)=some size)
  (g n zF zB:Nat) (sp:Option Addr) (hd:a.eval d=.slice (some ⟨g,0,none⟩) n zF) (hs:a.eval s=.slice sp n zB)
  (cur:Array Value) (t:TypeId) (hg:w.heap[g]?=some (.cells cur t (0,0))) (cs:List Value) (hn:cs.length=n*size) (Cz:cur.size=cs.length)
  (jL:0<n->∃ad,sp=some ad/\∀j v,cs[j]?=some v->w.cell? (ad.add j)=some v) (h1:∀v∈cs,v.oneCell'=true)
  (h:wpList P ops Q rest (a.put o.dst (goInt n)) (w.setRow g cs.toArray)):wpList P ops Q (o :: rest) a w:=by
 refine wpList_plain oG fun K hK=>?_
 have cj:=zfz P w dT sT o.type elem size g n zF zB sp cur t cs hu cU hg hn Cz jL h1;unfold Oper.wp;simp[execOp,ho,resolve,invoke,builtin,hd,hs,cj,Result.andThen];exact hK _ _ h
theorem yI{w:World}{base g n size:Nat}(h:w.ownsRow base e size (.slice (some ⟨g,0,none⟩) n n) n xs):w.heap[g]?=some (.cells xs.toArray e (0,0))/\base<=g/\n<=maxLen/\xs.length=n*size:=by
 rcases h.2 with ⟨h1,_⟩|⟨g',cap,cur,h1,h2,h3,h4,h5,h6,h7⟩
 ·cases h1
 injection h1 with e1 _ e3;injection e1 with e1;injection e1 with e1;subst e1 e3;have e:cur=xs.toArray:=by
  apply Array.toList_inj.1;rw[<-h7,take_of_length_le (by simp[h6])]
 subst e;exact⟨h3,h2,h5,by simpa using h6⟩
theorem UD{w:World}{base g n size:Nat}{ys:List Value}(h:w.ownsRow base e size (.slice (some ⟨g,0,none⟩) n n) n xs)(hy:ys.length=n*size):(w.setRow g ys.toArray).ownsRow base e size (.slice (some ⟨g,0,none⟩) n n) n ys:=by
 obtain⟨h1,h2,h3,h4⟩:=yI h;exact⟨hy,inr ⟨g,n,ys.toArray,rfl,h2,setRow_heap w g _ _ e _ h1,Nat.le_refl _,h3,by simpa using hy,by rw[take_of_length_le (by simp[hy])]⟩⟩
theorem Qo{w:World}{base g n c size:Nat}(h:w.ownsRow base e size (.slice (some ⟨g,0,none⟩) n c) n xs)(j:Nat)(hj:j<n*size)(u:Value):(w.setCell ⟨g,j,none⟩ u).ownsRow base e size (.slice (some ⟨g,0,none⟩) n c) n (xs.set j u):=by
 refine⟨by rw[List.length_set];exact h.1,?_⟩;rcases h.2 with ⟨h1,_⟩|⟨g',cap,cur,h1,h2,h3,h4,h5,h6,h7⟩
 ·cases h1
 injection h1 with e1 _ e3;injection e1 with e1;injection e1 with e1;subst e1 e3;refine inr ⟨g,c,cur.setIfInBounds j u,rfl,h2,heap_setCell_same w g j cur e u h3,h4,h5,by simpa using h6,?_⟩;rw[Array.toList_setIfInBounds,<-h7];rw[List.take_set]
theorem JY(l:List Eg):∀v∈dc l,v.oneCell'=true:=by
 intro v hv;simp only[dc,List.mem_flatMap] at hv;obtain⟨x,_,hx⟩:=hv;simp only[cG,mem_cons,List.not_mem_nil,or_false] at hx;rcases hx with rfl|rfl|rfl|rfl|rfl|rfl|rfl <;> rfl
theorem zpe(l:List Eg)(i:Nat)(x:Eg)(h:i<l.length)(hp:x.p=l[i].p)(hb:x.b=l[i].b):dc (l.set i x)=((dc l).set (i*7) (.int .i64 x.f)).set (i*7+1) (.int .i64 x.t):=by
 induction l generalizing i with
 | nil=>simp at h
 | cons y l ih=>
  match i,h,hp,hb with
  | 0,_,hp,hb=>
   simp only[List.getElem_cons_zero] at hp hb;simp[dc,cG,hp,hb]
  | i+1,h,hp,hb=>
   have:=ih i (by simpa using h) (by simpa using hp) (by simpa using hb);show cG y++dc (l.set i x)=_;rw[this];show _=List.set (List.set (cG y++dc l) ((i+1)*7) _) ((i+1)*7+1) _;rw[show (i+1)*7=i*7+7 by omega];simp[cG]
def mx(o:Nat)(L:List En)(k:Nat):List En:=(L.take k).map (En.by o)++L.drop k
theorem UU(o:Nat)(L:List En)(k:Nat):(mx o L k).length=L.length:=by simp[mx];omega
theorem Ow(o:Nat)(L:List En)(k:Nat)(h:k<L.length):(mx o L k)[k]'(by rw[UU];exact h)=L[k]:=by
 unfold mx;rw[List.getElem_append_right (by simp;omega)];simp[Nat.min_eq_left (Nat.le_of_lt h)]
theorem zqi(o:Nat)(L:List En)(k:Nat)(h:k<L.length):(mx o L k).set k (L[k].by o)=mx o L (k+1):=by
 have hl:((L.take k).map (En.by o)).length=k:=by simp;omega
 have h1:(mx o L k).set k (L[k].by o)=(L.take k).map (En.by o)++(L.drop k).set 0 (L[k].by o):=by
  unfold mx;rw[List.set_append_right _ _ (by omega),hl,Nat.sub_self]
 rw[h1,List.drop_eq_getElem_cons h,List.set_cons_zero];unfold mx;rw[List.take_succ_eq_append_getElem h,List.map_append,List.append_assoc];rfl
theorem zeB(P:Program)(w:World)(T ty elem:TypeId)(z:Value)(g m c:Nat)(cur:Array Value)(t:TypeId)(hu:P.underlying T=some (.slice elem))(hz:∀w,(zeroValue elem).run P w=.ok z w)(cH:z.cells=#[z])(ho:z.oneCell'=true)
  (hg:w.heap[g]?=some (.cells cur t (0,0))) (hm:cur.size=m):
  (clear_ #[T] ty #[.slice (some ⟨g,0,none⟩) m c]).run P w=.ok (.tuple #[]) (w.setRow g (replicate m z).toArray):=by
 have bQ:=run_storeCells_at P g 0 t (replicate m z) 0 cur w hg (by simp[hm]) (fun v hv=>by rw[List.eq_of_mem_replicate hv];exact ho);have kQ:(cur.toList.take (0+0)++replicate m z++cur.toList.drop (0+0+(replicate m z).length)).toArray=(replicate m z).toArray:=by
  rw[List.drop_eq_nil_of_le (by simp[hm])];simp
 rw[kQ] at bQ;have Sc:(zeroCells z.cells m).toList=replicate m z:=by
  rw[cH];refine List.ext_getElem (by simp[zeroCells]) fun i h1 h2=>?_
  simp[zeroCells,Nat.mod_one]
 match m,bQ,hm,Sc with
 | 0,bQ,hm,_=>
  have:cur=#[]:=Array.eq_empty_of_size_eq_zero hm;subst this;have h1:=setRow_self w g #[] t (0,0) hg;simp[clear_,run_underlying hu,h1]
 | m+1,bQ,_,Sc=>
  simp[clear_,run_underlying hu,hz,Sc,bQ]
theorem iv.clear{V wr:World}{B bm gI m:Nat}{bs:List Nat}{cs:Array Value}{P:Nat->Bool}{l:List Nat}{aL:Option Addr}{n cL:Nat}(h:iv V B bs bm gI m cs P l (.slice aL n cL) wr)(hn:l.length=n):
  iv V B bs bm gI m cs (fun _=>false) [] (.slice aL 0 cL) ((wr.setRow gI (replicate m (.int .u8 0)).toArray).setCell ⟨bm,262,none⟩ (.slice aL 0 cL)):=by
 obtain⟨lE,Aa,E9,TG⟩:=yI h.lg;have hk:Kept [] [gI] wr (wr.setRow gI (replicate m (.int .u8 0)).toArray):=fun k o hk _ hn=>by
  rw[setRow_other _ _ _ _ (by simpa using hn)];exact hk
 have mw:=h.sm.kept hk (by simp) (by simp only[mem_singleton];exact fun e=>ef h.lg h.sm (by decide) gI rfl e.symm);have hl:wr.ownsRow B 3 1 (.slice aL n cL) n (cO l):=by rw[<-hn];have:=h.cY;rwa [hn] at this⊢
 have ur:=fA hl hk (by simp) (fun g hg e=>by
   simp only[mem_singleton] at e
   subst e
   exact iy hl h.lg (by decide) g hg rfl)
 have Qf:=UD h.lg (ys:=replicate m (.int .u8 0)) (by simp);refine⟨(h.kept.trans (hk.mono (by simp) (fun x hx=>by rw[List.mem_singleton.1 hx];exact h.jT.2))).setCell _ _ (inl h.jT.1),(below_setRow h.below h.lo.2.1 _).setCell (p:=⟨bm,262,none⟩) h.lo.1 _,?_,h.sz,h.cI,?_,jt (Vt ur) mw (by decide) _ _,?_,h.jT,h.lo⟩
 ·have:=mw.set 262 (.slice aL 0 cL);rwa [Array.setIfInBounds_setIfInBounds] at this
 ·rw[Rq];exact jt Qf mw (by decide) _ _
 intro b e;refine h.loc b ?_;cases aL with
 | none=>simp[Value.ownBlock] at e
 | some ad=>simpa [Value.ownBlock] using e
def zpg(V:World)(B:Nat)(bs:List Nat)(bm gI m M:Nat)(cs:Array Value)(st:List Nat)(e:Ending)(w':World):Prop:=
 ∃l' jd,e=.returned (.tuple #[])/\iP V B bs bm gI m M cs l' jd w'/\∀x,x∈l'↔x∈st
theorem zht(V:World)(B:Nat)(bs:List Nat)(bm gI m M:Nat)(cs:Array Value)(P:Nat->Bool)(l:List Nat)(vL:Value)(wr:World)(h:iv V B bs bm gI m cs P l vL wr)(hM:M<=100000)(hm:(M+7) / 8=m)(tH:l.length<=1000000)
  (a:Option Addr) (n c:Nat) (st:List Nat) (bQ:st.length=n) (hn:n<=100000000000) (an:∀x∈st,x<M) (hr:∀W,Kept [] bs V W->Bm W W.heap.size a st):
  Calls prog 117 #[.pointer (some ⟨bm,0,none⟩),.slice a n c] wr (zpg V B bs bm gI m M cs st):=by
 obtain⟨aL,cL,rfl⟩:=bJ h.cY;obtain⟨c1,c2,c3⟩:=h.cells;obtain⟨q,hq⟩:∃q,l.length=q:=⟨_,rfl⟩
 rw[hq] at c2 tH;have hc:=h.clear (n:=l.length) rfl;have HC:=hid hc;have HG:=hid (yI h.lg);have H:=hid (Zz bQ (Zz an (Zz hr hm)));have d1:(wr.setRow gI (replicate m (.int .u8 0)).toArray).cell? ⟨bm,262,none⟩=some (.slice aL q cL):=by
  have hk:Kept [] [gI] wr (wr.setRow gI (replicate m (.int .u8 0)).toArray):=fun k o hk _ hn=>by
   rw[setRow_other _ _ _ _ (by simpa using hn)];exact hk
  have mw:=h.sm.kept hk (by simp) (by simp only[mem_singleton];exact fun e=>ef h.lg h.sm (by decide) gI rfl e.symm);rw[mw.at_,Array.getElem?_setIfInBounds_self_of_lt (by rw[h.sz];decide),hq]
 have d2:(wr.setRow gI (replicate m (.int .u8 0)).toArray).frozen? ⟨bm,262,none⟩=false:=by
  have hk:Kept [] [gI] wr (wr.setRow gI (replicate m (.int .u8 0)).toArray):=fun k o hk _ hn=>by
   rw[setRow_other _ _ _ _ (by simpa using hn)];exact hk
  have mw:=h.sm.kept hk (by simp) (by simp only[mem_singleton];exact fun e=>ef h.lg h.sm (by decide) gI rfl e.symm);exact mw.aZ 262
 have hz:=Pb;have cj:=zeB prog wr 86 0 5 (.int .u8 0) gI m m _ 5 underlying86 hz rfl rfl HG.out.1 (by have:=HG.out.2.2.2;simpa using this);generalize wr.setRow gI (replicate m (.int .u8 0)).toArray=W1 at HC d1 d2 cj;clear h hc bQ an hr hm hq hz;go_enter func117,ntmps117;go_wp2_with fail;generalize W1.setCell ⟨bm,262,none⟩ (.slice aL 0 cL)=W0 at HC⊢;clear c1 c2 c3 d1 d2 HG cj;go_loopw [5,20] (fun _ v wq=>∃(k:Nat) (l2:List Nat) (qu:Value),v=.int .i64 k/\k<=n/\Hid (iP V B bs bm gI m M cs l2 qu wq)/\Hid (∀x,x∈l2↔x∈st.take k)) (fun _ v _=>n-(intOf v).toNat)
 ·exact⟨0,[],_,rfl,Nat.zero_le _,⟨by simpa using HC.out,List.nodup_nil,by simp⟩,fun x=>by simp⟩
 obtain⟨k,l2,qu,rfl,hk,HB,HD⟩:=hrel;clear HC;by_cases vD:k<n
 ·have hkl:k<st.length:=by rw[H.out.1];exact vD
  obtain⟨gr,O2,rfl,_,J5⟩:=(H.out.2.2.1 wr HB.out.r.kept) (by omega);have d0:=J5 k hkl;have IQ:=H.out.2.1 st[k] (List.getElem_mem _);have uQ:Hid (st.take (k+1)=st.take k++[st[k]]):=List.take_succ_eq_append_getElem hkl;generalize st[k]=t at d0 IQ uQ;have i5:(k:Int)<n:=by omega
  clear J5 hkl;go_wp2_with fail;refine (Uz V B bs bm gI m M cs l2 qu wr HB.out hM H.out.2.2.2 t IQ).mono ?_;rintro e w2 ⟨l3,QQ,rfl,h3,qv⟩;have HZ:Hid (∀x,x∈l3↔x∈st.take (k+1)):=fun x=>by
   rw[uQ.out,qv.mem,HD.out x];simp
  have H3:=hid h3;clear h3 qv d0;go_wp2;go_roundw
  ·exact⟨k+1,l3,QQ,by go_num,by omega,H3,HZ⟩
  simp[intOf];omega
 obtain rfl:k=n:=by omega
 have HZ:Hid (∀x,x∈l2↔x∈st):=fun x=>by
  rw[HD.out x,take_of_length_le (by rw[H.out.1];exact Nat.le_refl _)]
 go_wp2_with fail;refine bodyPost_ret (results_none rfl _ _ _) rfl ?_;exact⟨l2,_,rfl,HB.out,HZ.out⟩
def bI(mk:Nat->Int)(S:Nat->Prop)(r:Int):Prop:=
 (r=-1/\∀x,S x->mk x=-1)\/(0<=r/\(∃x,S x/\mk x=r)/\∀x,S x->mk x=-1\/r<=mk x)
theorem bI.congr{mk:Nat->Int}{S S':Nat->Prop}{r:Int}(h:bI mk S r)(e:∀x,S x↔S' x):bI mk S' r:=by
 rcases h with ⟨h1,h2⟩|⟨h1,⟨x,hx,h2⟩,h3⟩
 ·exact inl ⟨h1,fun x hx=>h2 x ((e x).2 hx)⟩
 exact inr ⟨h1,⟨x,(e x).1 hx,h2⟩,fun x hx=>h3 x ((e x).2 hx)⟩
theorem bI.none(mk:Nat->Int):bI mk (fun x=>x∈([]:List Nat)) (-1):=inl ⟨rfl,fun x hx=>by simp at hx⟩
theorem bI.skip{mk:Nat->Int}{l:List Nat}{r:Int}{x:Nat}(h:bI mk (fun y=>y∈l) r)(hx:mk x=-1\/(r≠-1/\r<=mk x)):bI mk (fun y=>y∈l++[x]) r:=by
 rcases h with ⟨h1,h2⟩|⟨h1,⟨y,hy,h2⟩,h3⟩
 ·refine inl ⟨h1,fun y hy=>?_⟩;rcases List.mem_append.1 hy with hy|hy
  ·exact h2 y hy
  rw[List.mem_singleton.1 hy];omega
 refine inr ⟨h1,⟨y,List.mem_append.2 (inl hy),h2⟩,fun z hz=>?_⟩;rcases List.mem_append.1 hz with hz|hz
 ·exact h3 z hz
 rw[List.mem_singleton.1 hz];omega
theorem bI.take{mk:Nat->Int}{l:List Nat}{r:Int}{x:Nat}(h:bI mk (fun y=>y∈l) r)(h0:0<=mk x)(hx:r=-1\/mk x<=r):bI mk (fun y=>y∈l++[x]) (mk x):=by
 refine inr ⟨h0,⟨x,by simp,rfl⟩,fun z hz=>?_⟩;rcases List.mem_append.1 hz with hz|hz
 ·rcases h with ⟨h1,h2⟩|⟨h1,_,h3⟩
  ·exact inl (h2 z hz)
  rcases h3 z hz with h|h
  ·exact inl h
  exact inr (by omega)
 rw[List.mem_singleton.1 hz];exact inr (Int.le_refl _)
structure kW (w:World)(B bn gM M cM:Nat)(mk:Nat->Int):Prop where
 ga:bn<B/\gM<B
 gw:w.cell? ⟨bn,257,none⟩=some (.slice (some ⟨gM,0,none⟩) M cM)
 at_:∀i,i<M->w.cell? ⟨gM,i,none⟩=some (.int .i64 (mk i))
theorem kW.below{w w':World}{B bn gM M cM:Nat}{mk:Nat->Int}(h:kW w B bn gM M cM mk)(k:Below B w w'):kW w' B bn gM M cM mk:=
 ⟨h.ga,(k.cell (p:=⟨bn,257,none⟩) h.ga.1).trans h.gw,fun i hi=>(k.cell (p:=⟨gM,i,none⟩) h.ga.2).trans (h.at_ i hi)⟩
theorem zgy(V:World)(B:Nat)(bs:List Nat)(bm gI m M bn gM cM:Nat)(cs:Array Value)(mk:Nat->Int)(HV:kW V B bn gM M cM mk)(fu:∀i,i<M->-1<=mk i)(pG:cs[0]?=some (.pointer (some ⟨bn,0,none⟩)))(hM:M<=100000)
  (l:List Nat) (vL:Value) (wr:World) (h:iP V B bs bm gI m M cs l vL wr):
  Calls prog 146 #[.pointer (some ⟨bm,0,none⟩)] wr fun e w'=>∃r,e=.returned (.int .i64 r)/\bI mk (fun x=>x∈l) r/\w'=wr:=by
 obtain⟨aL,cL,rfl⟩:=bJ h.r.cY;obtain⟨_,c3,_⟩:=h.r.cells;have c0:wr.cell? ⟨bm,0,none⟩=some (.pointer (some ⟨bn,0,none⟩)):=by rw[h.r.sm.at_,Array.getElem?_setIfInBounds_ne (by decide),pG]
 have iQ:=HV.below h.r.below;have f0:=iQ.gw;obtain⟨q,hq⟩:∃q,l.length=q:=⟨_,rfl⟩
 have hqM:q<=M:=by rw[<-hq];exact h.len
 rw[hq] at c3;have H:=hid (Zz h (Zz iQ (Zz fu hq)));clear h HV iQ fu pG hq;go_enter func146,ntmps146;go_wp2_with fail;go_loopw [3,5,6,12] (fun v3 _ _ v wq=>∃(k:Nat) (r:Int),v=.int .i64 k/\k<=q/\v3=.int .i64 r/\-1<=r/\wq=wr/\Hid (bI mk (fun x=>x∈l.take k) r)) (fun _ _ _ v _=>q-(intOf v).toNat)
 ·exact⟨0,-1,rfl,Nat.zero_le _,rfl,Int.le_refl _,rfl,by show bI _ _ _;simpa using bI.none mk⟩
 obtain⟨k,r,rfl,hk,rfl,hr,rfl,HL⟩:=hrel;by_cases an:k<q
 ·have hkl:k<l.length:=by rw[H.out.2.2.2];exact an
  obtain⟨gl,rfl,_,_,fW⟩:=ep H.out.1.r.cY (by omega);have d0:=(fW k (by omega)).1;rw[By l k hkl] at d0;have hs:=H.out.1.lt l[k] (List.getElem_mem _);have d1:=H.out.2.1.at_ l[k] hs;have iD:=H.out.2.2.1 l[k] hs;have uQ:Hid (l.take (k+1)=l.take k++[l[k]]):=List.take_succ_eq_append_getElem hkl;generalize l[k]=x at d0 d1 hs iD uQ;have HS:Hid (∀r',(mk x=-1\/(r≠-1/\r<=mk x))->r'=r->bI mk (fun y=>y∈l.take (k+1)) r'):=fun r' h e=>by rw[e,uQ.out];exact HL.out.skip h
  have HT:Hid (0<=mk x->(r=-1\/mk x<=r)->∀r',r'=mk x->bI mk (fun y=>y∈l.take (k+1)) r'):=fun h0 h r' e=>by rw[e,uQ.out];exact HL.out.take h0 h
  generalize mk x=y at d1 iD HS HT;have i1:(k:Int)<q:=by omega
  have i2:(x:Int)<M:=by omega
  clear fW hkl uQ;by_cases hy:y=-1
  ·subst hy;have HZ:=hid (HS.out r (inl rfl) rfl);go_wp2;go_roundw
   ·exact⟨k+1,r,by go_num,by omega,rfl,hr,trivial,HZ⟩
   simp[intOf];omega
  by_cases AP:r=-1
  ·subst AP;have HZ:=hid (HT.out (by omega) (inl rfl) y rfl);go_wp2;go_roundw
   ·exact⟨k+1,y,by go_num,by omega,rfl,by omega,trivial,HZ⟩
   simp[intOf];omega
  rcases Int.lt_or_le y r with hyr|hyr
  ·have HZ:=hid (HT.out (by omega) (inr (by omega)) y rfl);go_wp2;go_roundw
   ·exact⟨k+1,y,by go_num,by omega,rfl,by omega,trivial,HZ⟩
   simp[intOf];omega
  have HZ:=hid (HS.out r (inr ⟨AP,by omega⟩) rfl);have hyd:decide (y<r)=false:=by simp;omega
  have fp:(y != -1)=true:=by simpa using hy
  have cr:(r == -1)=false:=by simpa using AP
  go_wp2;go_roundw
  ·exact⟨k+1,r,by go_num,by omega,rfl,hr,trivial,HZ⟩
  simp[intOf];omega
 obtain rfl:k=q:=by omega
 have HZ:Hid (bI mk (fun x=>x∈l) r):=by
  have:=HL.out;rwa [take_of_length_le (by rw[H.out.2.2.2];exact Nat.le_refl _)] at this
 go_wp2;go_ret;exact⟨r,rfl,HZ.out,rfl⟩
def Found(L:List En)(A:Nat->Prop)(N k:Nat)(f:Nat->Bool)(i:Nat)(ch:Bool):Prop:=
 (ch=false/\Vu L A N k f/\∀j (h:j<L.length),j<i->zqS f L[j])\/(ch=true/\Vu L A N (k+1) f)
end Go.Proofs.YtbacgnhkapancaaGreat
