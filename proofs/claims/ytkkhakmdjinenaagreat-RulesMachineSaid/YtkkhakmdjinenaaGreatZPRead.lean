import Derived.Test.YtkkhakmdjinenaaGreatZBldB
import Derived.Test.YtkkhakmdjinenaaGreatZEscQuote
import Derived.Test.YtkkhakmdjinenaaGreatZFirst
import Derived.Lib.IndexAny
set_option linter.all false
set_option maxHeartbeats 2000000
set_option maxRecDepth 100000
open Go.Lib (hid)
namespace Go.Proofs.YtkkhakmdjinenaaGreat
open Go.RowKit Go.Proofs.Tryz
open Nat (le_refl)
open UInt8 (toNat_lt)
variable {c:Nat}{r:List Nat}
def du:ByteArray:=⟨#[47,93,94,45,34]⟩
def nC:ByteArray:=⟨#[47,40,41,91,93,124,42,43,63,46,34,126]⟩
def cj(c:Nat):Bool:=decide (32<=c) && decide (c<=126)
theorem GU(c:Nat)(w:World):
  Calls prog 150 #[.int .u8 c] w fun e w'=>e=.returned (.bool (cj c))/\w=w':=by
 have HP:Hid (cj c=(decide (32<=c) && decide (c<=126))):=rfl;rcases (by omega:c<32\/(32<=c/\c<=126)\/(32<=c/\126<c)) with h|⟨h,h'⟩|⟨h,h'⟩
 all_goals
  go_in
  go_wp2
  go_ret
  exact⟨congrArg (fun b=>Ending.returned (.bool b)) (by rw[HP.out,Bool.eq_iff_iff];simp <;> omega),rfl⟩
def iE(s:ByteArray)(c:Nat):Int:=Lib.indexByte s.data.toList c.toUInt8
theorem Qm(s:ByteArray)(c:Nat)(hc:c<256):decide (0<=iE s c)=fV s c:=by
 unfold iE;rw[<-Lib.contains_iff_indexByte,Bool.eq_iff_iff];unfold fV;rw[List.contains_iff_mem,List.any_eq_true];constructor
 ·intro h;exact⟨_,h,by simp[Nat.mod_eq_of_lt hc]⟩
 rintro⟨x,hx,e⟩;have e:=eq_of_beq e;rw[show c.toUInt8=x by rw[<-e];simp];exact hx
theorem N5(s:ByteArray)(c:Nat)(w:World):
  Calls prog 155 #[.string s,.int .u8 c] w fun e w'=>e=.returned (.int .i64 (iE s c))/\w=w':=by
 refine (Tryz.strings_IndexByte s c w).mono ?_;rintro e w' ⟨rfl,rfl⟩;exact⟨rfl,rfl⟩
def hv(c:Nat):Nat:=if 48<=c/\c<=57 then c-48 else if 97<=c/\c<=102 then c-87 else 16
theorem Oq:∀d,d<16->hv (iZ d)=d:=by decide
theorem X7(c:Nat)(h:hv c<16):iZ (hv c)=c:=by
 unfold hv at h⊢;unfold iZ
 repeat' split at h
 all_goals (repeat' split) <;> omega
def iz:Nat × Nat × Bool:=(0,0,false)
def qe:List Nat->Nat × Nat × Bool
 | x :: y :: _=>if hv x<16/\hv y<16 then (16*hv x+hv y,4,true) else iz
 | _=>iz
def uS:List Nat->Nat × Nat × Bool
 | []=>iz
 | d :: u=>if d=110 then (10,2,true) else if d=116 then (9,2,true) else if d=114 then (13,2,true) else if d=120 then qe u
   else if cj d && !isWord d then (d,2,true) else iz
def rd:List Nat->Nat × Nat × Bool
 | []=>iz
 | c :: t=>if c=92 then uS t else (c,1,true)
def ml(r:Nat × Nat × Bool):Value:=.tuple #[.int .u8 ((r.1:Nat):Int),.int .i64 ((r.2.1:Nat):Int),.bool r.2.2]
theorem BU(a b:Nat)(o:Bool):ml (a,b,o)=.tuple #[.int .u8 (a:Int),.int .i64 (b:Int),.bool o]:=rfl
theorem zq6(l:List Nat):(qe l).1<256/\(qe l).2.1<=4/\((qe l).2.2=true->(qe l).2.1=4/\2<=l.length):=by
 unfold qe;split
 ·split
  ·refine⟨?_,by simp,by simp⟩;simp;omega
  simp[iz]
 simp[iz]
theorem TA(l:List Nat):(uS l).1<256/\((uS l).2.2=true->2<=(uS l).2.1/\(uS l).2.1<=l.length+1):=by
 unfold uS;split
 ·simp[iz]
 rename_i d u;have h:=zq6 u
 repeat' split
 all_goals first
  | simp[iz];done
  | (
   refine⟨h.1,fun e=>?_⟩
   have:=h.2.2 e
   simp;omega)
  | (
   rename_i hd
   simp[cj] at hd⊢
   omega)
theorem Fg(l:List Nat)(hl:∀n∈l,n<256):(rd l).1<256/\((rd l).2.2=true->1<=(rd l).2.1/\(rd l).2.1<=l.length):=by
 unfold rd;split
 ·simp[iz]
 rename_i c t;split
 ·have h:=TA t;refine⟨h.1,fun e=>?_⟩;have:=h.2 e;simp;omega
 simp;exact hl c (by simp)
theorem zoh(c:Nat)(hc:c<256)(o:Bool)(ho:o=true->cj c=true/\isWord c=false)(r:List Nat):rd (dY c o++r)=(c,(dY c o).length,true):=by
 unfold dY;by_cases h1:c=10
 ·subst h1;rfl
 by_cases h2:c=9
 ·subst h2;rfl
 by_cases h3:c=13
 ·subst h3;rfl
 rw[if_neg h1,if_neg h2,if_neg h3];by_cases h4:c<32\/126<c
 ·rw[if_pos h4];have e1:=Oq (c / 16) (by omega);have e2:=Oq (c % 16) (by omega);have hm:c / 16<16/\c % 16<16:=⟨by omega,by omega⟩
  simp[rd,uS,qe,e1,e2,hm];omega
 rw[if_neg h4];by_cases h5:c=92\/o=true
 ·rw[if_pos h5];have hp:cj c=true/\isWord c=false:=by
   rcases h5 with h5|h5
   ·subst h5;decide
   exact ho h5
  have hx:c≠110/\c≠116/\c≠114/\c≠120:=by
   refine⟨?_,?_,?_,?_⟩ <;> (rintro rfl;revert hp;decide)
  simp[rd,uS,hx,hp]
 rw[if_neg h5];have:c≠92:=fun e=>h5 (Or.inl e)
 simp[rd,this]
theorem FU(s:ByteArray)(k:Nat)(h:k<s.size):(aa s).drop k=s[k].toNat :: (aa s).drop (k+1):=by
 have hl:k<(aa s).length:=by simpa [aa] using h
 rw[List.drop_eq_getElem_cons hl];simp[aa];rfl
theorem od(s:ByteArray):(aa s).length=s.size:=by simp[aa]
theorem VA(s:ByteArray)(k:Nat)(h:s.size<=k):(aa s).drop k=[]:=List.drop_eq_nil_of_le (by rw[od];exact h)
theorem Fu(s:ByteArray)(a:Nat):aa (s.extract a s.size)=(aa s).drop a:=by
 unfold aa;rw[Lib.extract_to_end,List.map_drop]
def ar(a k:Nat):Nat->Bool:=fun x=>decide (a<=x) && decide (x<a+k)
theorem GZ(a:Nat):ar a 0=fun _=>false:=by funext x;simp[ar]
theorem T7(a k:Nat):ar a (k+1)=ins (ar a k) (a+k):=by
 funext x;rw[Bool.eq_iff_iff];simp only[ar,ins,Bool.or_eq_true,Bool.and_eq_true,decide_eq_true_eq,beq_iff_eq];omega
theorem Gq(a c:Nat)(ha:a<256)(hc:c<256)(w:World):
  Calls prog 189 #[.int .u8 a,.int .u8 c] w fun e w'=>e=.returned (.agg #[.int .u64 ((wd (ar a (c+1-a)) 0:Nat):Int),.int .u64 ((wd (ar a (c+1-a)) 1:Nat):Int),.int .u64 ((wd (ar a (c+1-a)) 2:Nat):Int),.int .u64 ((wd (ar a (c+1-a)) 3:Nat):Int)])/\Below w.heap.size w w':=by
 rcases (by omega:c+1<=a\/a<=c) with h|h
 ·go_in;go_wp2;go_loopw [13] (fun i wr=>i=.int .i64 0/\fX w (ar a 0) wr) (fun _ _=>0)
  ·exact⟨rfl,by rw[GZ];exact fX.start w⟩
  obtain⟨rfl,R⟩:=hrel;obtain⟨r0,r1,r2,r3,r4,r5,r6,r7⟩:=bQ R.s0;obtain⟨q0,q1,q2,q3,q4,q5,q6,q7⟩:=bQ R.s1;go_wp2_with fail;exact bodyPost_ret (v:=(.agg #[.int .u64 ((wd (ar a 0) 0:Nat):Int),.int .u64 ((wd (ar a 0) 1:Nat):Int),.int .u64 ((wd (ar a 0) 2:Nat):Int),.int .u64 ((wd (ar a 0) 3:Nat):Int)])) (by simp[results,results189,go_sem,r0,r1,r2,r3]) rfl ⟨by rw[show c+1-a=0 by omega],qA R.below (le_refl _) _ _ _ _⟩
 obtain⟨n,hn,cU⟩:∃n,c+1-a=n/\c+1=a+n:=⟨_,rfl,by omega⟩
 rw[hn];have h1:1<=n:=by omega
 obtain rfl:c=a+n-1:=by omega
 clear hn cU;have h3:a+n<=256:=by omega
 have Bv:((a+n-1:Nat):Int)=(a:Int)+(n:Int)-1:=by omega
 rw[Bv];clear Bv hc h;go_in;go_wp2;go_loopw [6,13] (fun _ i wr=>∃k:Nat,i=.int .i64 k/\k<=n/\fX w (ar a k) wr) (fun _ i _=>n-(intOf i).toNat)
 ·exact⟨0,rfl,Nat.zero_le _,by rw[GZ];exact fX.start w⟩
 obtain⟨k,rfl,hk,R⟩:=hrel;obtain⟨r0,r1,r2,r3,r4,r5,r6,r7⟩:=bQ R.s0;obtain⟨q0,q1,q2,q3,q4,q5,q6,q7⟩:=bQ R.s1;by_cases aq:k<n
 ·go_wp2_with fail;rw[show (a:Int)+(k:Int)=((a+k:Nat):Int) from by omega];refine (YS (ar a k) (a+k) (by omega) _).mono ?_;rintro e w1 ⟨rfl,b1⟩;have R1:=R.step b1 (ar a (k+1));rw[T7] at R1;have HR:=hid R1;have hs:=b1.size;have oh:=R.s1.lt;obtain⟨q0,q1,q2,q3,q4,q5,q6,q7⟩:=bQ (R.s1.ab b1);clear R b1 R1;go_wp2;go_roundw
  ·exact⟨k+1,by go_num,by omega,by rw[T7];exact HR.out⟩
  simp[intOf];omega
 obtain rfl:k=n:=by omega
 go_wp2_with fail;exact bodyPost_ret (v:=(.agg #[.int .u64 ((wd (ar a k) 0:Nat):Int),.int .u64 ((wd (ar a k) 1:Nat):Int),.int .u64 ((wd (ar a k) 2:Nat):Int),.int .u64 ((wd (ar a k) 3:Nat):Int)])) (by simp[results,results189,go_sem,r0,r1,r2,r3]) rfl ⟨rfl,qA R.below (le_refl _) _ _ _ _⟩
abbrev bf:=List Pc × List Nat
def aJ:Nat->Bool:=fun _=>false
def aw(c:Nat):List Nat->Option (List Nat)
 | []=>none
 | x :: r=>if x=c then some r else none
def aI(sp:ByteArray)(s:List Nat):Option (Nat × List Nat):=
 if (rd s).2.2=true/\¬((rd s).2.1=1/\fV sp (rd s).1=true) then some ((rd s).1,s.drop (rd s).2.1) else none
def cJ(s:List Nat):Option (Nat × Nat × List Nat):=
 match aI du s with
 | none=>none
 | some (a,r)=>match aw 45 r with
  | none=>some (a,a,r)
  | some r1=>match aI du r1 with
   | none=>none
   | some (c,r2)=>if a<=c then some (a,c,r2) else none
def aD:Nat->(Nat->Bool)->List Nat->Option ((Nat->Bool) × List Nat)
 | 0,_,_=>none
 | f+1,q,s=>match aw 93 s with
  | some r=>some (q,r)
  | none=>match cJ s with
   | none=>none
   | some (a,c,r)=>aD f (fun x=>q x || ar a (c+1-a) x) r
def ec(s:List Nat):Option ((Nat->Bool) × List Nat):=
 match aw 94 s with
 | some r=>match aD (r.length+1) aJ r with
  | none=>none
  | some (q,r1)=>if ew (fun x=>!q x)=true then none else some (fun x=>!q x,r1)
 | none=>match aD (s.length+1) aJ s with
  | none=>none
  | some (q,r1)=>if ew q=true then none else some (q,r1)
def eH(c:Nat):Option Int:=if c=42 then some 4 else if c=43 then some 5 else if c=63 then some 6 else none
def bx:List Nat->List Pc->bf
 | [],acc=>(acc,[])
 | c :: r,acc=>match eH c with
  | some k=>bx r (acc++[⟨k,aJ⟩])
  | none=>(acc,c :: r)
def cr(atom:bf->Option bf)(s:bf):Option bf:=match atom s with
 | none=>none
 | some x=>some (bx x.2 x.1)
def gK:List Nat->Bool
 | []=>true
 | c :: _=>c == 124 || c == 41
def aY(atom:bf->Option bf):Nat->bf->Option bf
 | 0,_=>none
 | f+1,s=>if gK s.2=true then some s else match cr atom s with
  | none=>none
  | some x=>aY atom f (x.1++[⟨2,aJ⟩],x.2)
def cq(atom:bf->Option bf)(s:bf):Option bf:=match cr atom s with
 | none=>none
 | some x=>aY atom (x.2.length+1) x
def aX(atom:bf->Option bf):Nat->bf->Option bf
 | 0,_=>none
 | f+1,s=>match aw 124 s.2 with
  | none=>some s
  | some r=>match cq atom (s.1,r) with
   | none=>none
   | some x=>aX atom f (x.1++[⟨3,aJ⟩],x.2)
def bh(atom:bf->Option bf)(s:bf):Option bf:=match cq atom s with
 | none=>none
 | some x=>aX atom (x.2.length+1) x
def aW(group:bf->Option bf)(s:bf):Option bf:=
 match aw 46 s.2 with
 | some r=>some (s.1++[⟨1,fun _=>true⟩],r)
 | none=>match aw 126 s.2 with
  | some r=>some (s.1++[⟨0,aJ⟩],r)
  | none=>match aw 40 s.2 with
   | some r=>group (s.1,r)
   | none=>match aw 91 s.2 with
    | some r=>match ec r with
     | none=>none
     | some (q,r1)=>some (s.1++[⟨1,q⟩],r1)
    | none=>match aI nC s.2 with
     | none=>none
     | some (c,r)=>some (s.1++[⟨1,eP (fun _=>c) 1⟩],r)
def eh(atom:bf->Option bf)(s:bf):Option bf:=match bh atom s with
 | none=>none
 | some x=>match aw 41 x.2 with
  | none=>none
  | some r=>some (x.1,r)
def dA:Nat->bf->Option bf
 | 0=>aW fun _=>none
 | D+1=>aW (eh (dA D))
def eZ(s:List Nat):Option (List Pc):=match bh (dA 99) ([],s) with
 | some (l,[])=>some l
 | _=>none
def mK(g:bf->Option bf):Prop:=∀s s',g s=some s'->s'.2.length<s.2.length/\s'.1.length+2*s'.2.length<s.1.length+2*s.2.length
def Le(s' s:bf):Prop:=s'.2.length<=s.2.length/\s'.1.length+2*s'.2.length<=s.1.length+2*s.2.length
theorem uZ{s:List Nat}(h:aw c s=some r):s=c :: r:=by
 cases s with
 | nil=>simp[aw] at h
 | cons x t=>
  simp only[aw] at h;split at h
  ·simp at h;subst h;rename_i e;rw[e]
  simp at h
theorem zpV(s:List Nat):(rd s).2.2=true->1<=(rd s).2.1/\1<=s.length:=by
 cases s with
 | nil=>simp[rd,iz]
 | cons c t=>
  intro h;refine⟨?_,by simp⟩;unfold rd at h⊢;simp only at h⊢;split at h
  ·rename_i e;rw[if_pos e];have:=(TA t).2 h;omega
  rename_i e;rw[if_neg e];simp
theorem MU{sp:ByteArray}{s:List Nat}(h:aI sp s=some (c,r)):r.length<s.length:=by
 unfold aI at h;split at h
 ·rename_i e;have:=zpV s e.1;simp at h;rw[<-h.2];simp;omega
 simp at h
theorem LB{s:List Nat}{a:Nat}(h:cJ s=some (a,c,r)):r.length<s.length/\a<=c:=by
 unfold cJ at h;rcases h1:aI du s with _|⟨a1,r1⟩
 ·simp[h1] at h
 rw[h1] at h;have l1:=MU h1;simp only at h;rcases h2:aw 45 r1 with _|r2
 ·simp[h2] at h;obtain⟨rfl,rfl,rfl⟩:=h;exact⟨l1,le_refl _⟩
 rw[h2] at h;have l2:=uZ h2;simp only at h;rcases h3:aI du r2 with _|⟨c1,r3⟩
 ·simp[h3] at h
 rw[h3] at h;have l3:=MU h3;simp only at h;split at h
 ·rename_i e;simp at h;obtain⟨rfl,rfl,rfl⟩:=h;rw[l2] at l1;simp at l1;exact⟨by omega,e⟩
 simp at h
theorem X1(f:Nat)(q:Nat->Bool)(s:List Nat)(q':Nat->Bool)(r:List Nat)(h:aD f q s=some (q',r)):r.length<s.length:=by
 induction f generalizing q s with
 | zero=>simp[aD] at h
 | succ f ih=>
  unfold aD at h;rcases h1:aw 93 s with _|r1
  ·rw[h1] at h;simp only at h;rcases h2:cJ s with _|⟨a,c,r2⟩
   ·simp[h2] at h
   rw[h2] at h;simp only at h;have:=ih _ _ h;have:=(LB h2).1;omega
  rw[h1] at h;have:=uZ h1;simp at h;rw[this,<-h.2];simp
theorem zgS(f g:Nat)(q:Nat->Bool)(s:List Nat)(hf:s.length<f)(hg:s.length<g):aD f q s=aD g q s:=by
 induction f generalizing g q s with
 | zero=>omega
 | succ f ih=>
  match g,hg with
  | g+1,hg=>
   unfold aD;rcases h1:aw 93 s with _|r1
   ·rcases h2:cJ s with _|⟨a,c,r2⟩
    ·rfl
    have:=(LB h2).1;exact ih g _ r2 (by omega) (by omega)
   rfl
theorem zlP{s:List Nat}{q:Nat->Bool}(h:ec s=some (q,r)):r.length<s.length:=by
 unfold ec at h;rcases h1:aw 94 s with _|r1
 ·rw[h1] at h;simp only at h;rcases h2:aD (s.length+1) aJ s with _|⟨q2,r2⟩
  ·simp[h2] at h
  rw[h2] at h;have:=X1 _ _ _ _ _ h2;simp only at h;split at h
  ·simp at h
  simp at h;rw[<-h.2];exact this
 rw[h1] at h;have e:=uZ h1;simp only at h;rcases h2:aD (r1.length+1) aJ r1 with _|⟨q2,r2⟩
 ·simp[h2] at h
 rw[h2] at h;have:=X1 _ _ _ _ _ h2;simp only at h;split at h
 ·simp at h
 simp at h;rw[e,<-h.2];simp;omega
theorem zj7(s:List Nat)(acc:List Pc):Le (bx s acc) (acc,s):=by
 induction s generalizing acc with
 | nil=>exact⟨le_refl _,le_refl _⟩
 | cons c r ih=>
  unfold bx;rcases eH c with _|k
  ·exact⟨le_refl _,le_refl _⟩
  obtain⟨h1,h2⟩:=ih (acc++[⟨k,aJ⟩]);simp at h1 h2;exact⟨by simp;omega,by simp;omega⟩
theorem Da{atom:bf->Option bf}(hd:mK atom):mK (cr atom):=by
 intro s s' h;unfold cr at h;rcases h1:atom s with _|x
 ·simp[h1] at h
 rw[h1] at h;simp at h;obtain⟨h2,h3⟩:=hd s x h1;obtain⟨h4,h5⟩:=zj7 x.2 x.1;rw[h] at h4 h5;simp at h4 h5;exact⟨by omega,by omega⟩
theorem zj8{atom:bf->Option bf}(hd:mK atom)(f:Nat)(s s':bf)(h:aY atom f s=some s'):Le s' s:=by
 induction f generalizing s with
 | zero=>simp[aY] at h
 | succ f ih=>
  unfold aY at h;split at h
  ·simp at h;subst h;exact⟨le_refl _,le_refl _⟩
  rcases h1:cr atom s with _|x
  ·simp[h1] at h
  rw[h1] at h;obtain⟨h2,h3⟩:=Da hd s x h1;obtain⟨h4,h5⟩:=ih _ h;simp at h4 h5;exact⟨by omega,by omega⟩
theorem zgT{atom:bf->Option bf}(hd:mK atom)(f g:Nat)(s:bf)(hf:s.2.length<f)(hg:s.2.length<g):aY atom f s=aY atom g s:=by
 induction f generalizing g s with
 | zero=>omega
 | succ f ih=>
  match g,hg with
  | g+1,hg=>
   unfold aY;split
   ·rfl
   rcases h1:cr atom s with _|x
   ·rfl
   have:=(Da hd s x h1).1;exact ih g _ (by simp;omega) (by simp;omega)
theorem C8{atom:bf->Option bf}(hd:mK atom):mK (cq atom):=by
 intro s s' h;unfold cq at h;rcases h1:cr atom s with _|x
 ·simp[h1] at h
 rw[h1] at h;obtain⟨h2,h3⟩:=Da hd s x h1;obtain⟨h4,h5⟩:=zj8 hd _ _ _ h;exact⟨by omega,by omega⟩
theorem zj9{atom:bf->Option bf}(hd:mK atom)(f:Nat)(s s':bf)(h:aX atom f s=some s'):Le s' s:=by
 induction f generalizing s with
 | zero=>simp[aX] at h
 | succ f ih=>
  unfold aX at h;rcases h0:aw 124 s.2 with _|r
  ·rw[h0] at h;simp at h;subst h;exact⟨le_refl _,le_refl _⟩
  rw[h0] at h;have e:=uZ h0;simp only at h;rcases h1:cq atom (s.1,r) with _|x
  ·simp[h1] at h
  rw[h1] at h;obtain⟨h2,h3⟩:=C8 hd _ x h1;obtain⟨h4,h5⟩:=ih _ h;simp at h2 h3 h4 h5;exact⟨by rw[e];simp;omega,by rw[e];simp;omega⟩
theorem zgU{atom:bf->Option bf}(hd:mK atom)(f g:Nat)(s:bf)(hf:s.2.length<f)(hg:s.2.length<g):aX atom f s=aX atom g s:=by
 induction f generalizing g s with
 | zero=>omega
 | succ f ih=>
  match g,hg with
  | g+1,hg=>
   unfold aX;rcases h0:aw 124 s.2 with _|r
   ·rfl
   have e:=uZ h0;simp only;rcases h1:cq atom (s.1,r) with _|x
   ·rfl
   have:=(C8 hd _ x h1).1;simp at this;rw[e] at hf hg;simp at hf hg;exact ih g _ (by simp;omega) (by simp;omega)
theorem QA{atom:bf->Option bf}(hd:mK atom):mK (bh atom):=by
 intro s s' h;unfold bh at h;rcases h1:cq atom s with _|x
 ·simp[h1] at h
 rw[h1] at h;obtain⟨h2,h3⟩:=C8 hd s x h1;obtain⟨h4,h5⟩:=zj9 hd _ _ _ h;exact⟨by omega,by omega⟩
theorem zh0{atom:bf->Option bf}(hd:mK atom):mK (eh atom):=by
 intro s s' h;unfold eh at h;rcases h1:bh atom s with _|x
 ·simp[h1] at h
 rw[h1] at h;simp only at h;rcases h2:aw 41 x.2 with _|r
 ·simp[h2] at h
 rw[h2] at h;have e:=uZ h2;simp at h;subst h;obtain⟨h3,h4⟩:=QA hd s x h1;rw[e] at h3 h4;simp at h3 h4;exact⟨by simp;omega,by simp;omega⟩
theorem Wc{group:bf->Option bf}(hd:mK group):mK (aW group):=by
 intro s s' h;unfold aW at h;rcases h1:aw 46 s.2 with _|r
 ·rw[h1] at h;simp only at h;rcases h2:aw 126 s.2 with _|r
  ·rw[h2] at h;simp only at h;rcases h3:aw 40 s.2 with _|r
   ·rw[h3] at h;simp only at h;rcases h4:aw 91 s.2 with _|r
    ·rw[h4] at h;simp only at h;rcases h5:aI nC s.2 with _|⟨c,r⟩
     ·simp[h5] at h
     rw[h5] at h;have:=MU h5;simp at h;subst h;exact⟨by simp;omega,by simp;omega⟩
    rw[h4] at h;have e:=uZ h4;simp only at h;rcases h5:ec r with _|⟨q,r1⟩
    ·simp[h5] at h
    rw[h5] at h;have:=zlP h5;simp at h;subst h;exact⟨by rw[e];simp;omega,by rw[e];simp;omega⟩
   rw[h3] at h;have e:=uZ h3;obtain⟨h4,h5⟩:=hd _ _ h;simp at h4 h5;exact⟨by rw[e];simp;omega,by rw[e];simp;omega⟩
  rw[h2] at h;have e:=uZ h2;simp at h;subst h;exact⟨by rw[e];simp,by rw[e];simp;omega⟩
 rw[h1] at h;have e:=uZ h1;simp at h;subst h;exact⟨by rw[e];simp,by rw[e];simp;omega⟩
theorem yP(D:Nat):mK (dA D):=by
 induction D with
 | zero=>exact Wc (fun s s' h=>by simp at h)
 | succ D ih=>exact Wc (zh0 ih)
theorem IL(c:Nat)(h:c≠32)(h1:c≠9)(h2:c≠10)(h3:c≠13):bS c=if gH c then 2 else if isWord c || c == 95 then 3 else if 32<c/\c<127 then 4 else 0:=by
 unfold bS;rw[if_neg (by simp[qM,h,h1,h2,h3])]
theorem zj2(c:Nat)(h:48<=c)(h':c<=57):bS c=2:=by
 rw[IL c (by omega) (by omega) (by omega) (by omega),if_pos (by simp[gH,h,h'])]
theorem zj3(c:Nat)(h:65<=c)(h':c<=90):bS c=3:=by
 rw[IL c (by omega) (by omega) (by omega) (by omega),if_neg (by simp[gH];omega),if_pos (by simp[isWord,gH];omega)]
theorem zj4(c:Nat)(h:97<=c)(h':c<=122):bS c=3:=by
 rw[IL c (by omega) (by omega) (by omega) (by omega),if_neg (by simp[gH];omega),if_pos (by simp[isWord,gH];omega)]
theorem zhW(c:Nat)(h:32<c)(h':c<127)(h1:c<48\/57<c)(h2:c<65\/90<c)(h3:c<97\/122<c)(h4:c≠95):bS c=4:=by
 rw[IL c (by omega) (by omega) (by omega) (by omega),if_neg (by simp[gH];omega),if_neg (by simp[isWord,gH];omega),if_pos ⟨h,h'⟩]
theorem zhX(c:Nat)(h:c<32\/126<c)(h1:c≠9)(h2:c≠10)(h3:c≠13):bS c=0:=by
 rw[IL c (by omega) (by omega) (by omega) (by omega),if_neg (by simp[gH];omega),if_neg (by simp[isWord,gH];omega),if_neg (by omega)]
theorem Lz(c:Nat)(hc:c<256)(w:World):
  Calls prog 130 #[.int .u8 c] w fun e w'=>e=.returned (.int .i64 (bS c))/\w=w':=by
 have hk:(c=32\/c=9\/c=10\/c=13)\/(48<=c/\c<=57)\/(65<=c/\c<=90)\/c=95\/(97<=c/\c<=122)\/((32<c/\c<127)/\(c<48\/57<c)/\(c<65\/90<c)/\(c<97\/122<c)/\c≠95)\/((c<32\/126<c)/\c≠9/\c≠10/\c≠13):=by omega
 rcases hk with h|⟨h,h'⟩|⟨h,h'⟩|h|⟨h,h'⟩|⟨⟨h,h'⟩,h1,h2,h3,h4⟩|⟨h,h1,h2,h3⟩
 ·rcases h with h|h|h|h <;> subst h
  all_goals
   go_in
   go_wp2
   go_ret
   exact⟨rfl,rfl⟩
 ·have HC:=hid (zj2 c h h');have e1:((c:Int) == 32)=false:=by simp;omega
  have e2:((c:Int) == 9)=false:=by simp;omega
  have e3:((c:Int) == 10)=false:=by simp;omega
  have e4:((c:Int) == 13)=false:=by simp;omega
  go_in;go_wp2;go_ret;exact⟨by rw[HC.out];rfl,rfl⟩
 ·have HC:=hid (zj3 c h h');have e1:((c:Int) == 32)=false:=by simp;omega
  have e2:((c:Int) == 9)=false:=by simp;omega
  have e3:((c:Int) == 10)=false:=by simp;omega
  have e4:((c:Int) == 13)=false:=by simp;omega
  go_in;go_wp2;go_ret;exact⟨by rw[HC.out];rfl,rfl⟩
 ·subst h;go_in;go_wp2;go_ret;exact⟨rfl,rfl⟩
 ·have HC:=hid (zj4 c h h');have e1:((c:Int) == 32)=false:=by simp;omega
  have e2:((c:Int) == 9)=false:=by simp;omega
  have e3:((c:Int) == 10)=false:=by simp;omega
  have e4:((c:Int) == 13)=false:=by simp;omega
  go_in;go_wp2;go_ret;exact⟨by rw[HC.out];rfl,rfl⟩
 ·have HC:=hid (zhW c h h' h1 h2 h3 h4);have e1:((c:Int) == 32)=false:=by simp;omega
  have e2:((c:Int) == 9)=false:=by simp;omega
  have e3:((c:Int) == 10)=false:=by simp;omega
  have e4:((c:Int) == 13)=false:=by simp;omega
  have e5:((c:Int) == 95)=false:=by simp;omega
  have HP:Hid (cj c=true):=by show _=_;unfold cj;simp;omega
  clear h4;rcases h1 with h1|h1 <;> rcases h2 with h2|h2 <;> rcases h3 with h3|h3
  all_goals first
   | (exfalso;omega)
   | (
    go_in
    go_wp2_with fail
    refine (GU c _).mono ?_
    rintro e w1 ⟨rfl,rfl⟩
    rw[HP.out]
    go_wp2
    go_ret
    exact⟨by rw[HC.out];rfl,rfl⟩)
 have HC:=hid (zhX c h h1 h2 h3);have e1:((c:Int) == 32)=false:=by simp;omega
 have e2:((c:Int) == 9)=false:=by simp;omega
 have e3:((c:Int) == 10)=false:=by simp;omega
 have e4:((c:Int) == 13)=false:=by simp;omega
 have e5:((c:Int) == 95)=false:=by simp;omega
 have HP:Hid (cj c=false):=by show _=_;unfold cj;simp;omega
 clear h1 h2 h3;rcases h with h|h
 all_goals
  go_in
  go_wp2_with fail
  refine (GU c _).mono ?_
  rintro e w1 ⟨rfl,rfl⟩
  rw[HP.out]
  go_wp2
  go_ret
  exact⟨by rw[HC.out];rfl,rfl⟩
theorem znv(s:ByteArray)(w:World)(hs:s.size<=maxLen):
  Calls prog 95 #[.string s] w fun e w'=>e=.returned (.bool (dN s))/\w=w':=by
 unfold maxLen at hs;have HT:Hid (dN s=(dX s s.size && decide (1<=s.size) && decide (s.size<=40))):=rfl;rcases (by omega:s.size=0\/(1<=s.size/\s.size<=40)\/(1<=s.size/\40<s.size)) with h|⟨h,h'⟩|⟨h,h'⟩
 ·have hl:s.toList=[]:=by rw[ByteArray.toList_eq];exact List.eq_nil_of_length_eq_zero (by simpa using h)
  have gy:(!s.toList.isEmpty)=false:=by rw[hl];rfl
  have HK:Hid (dN s=false):=by show _=_;rw[HT.out,h];simp
  clear h;go_in;go_wp2;go_ret;exact⟨by rw[HK.out];rfl,rfl⟩
 ·have hl:s.toList.isEmpty=false:=yS s (by omega);have gy:(!s.toList.isEmpty)=true:=by rw[hl];rfl
  have h0:0<s.size:=h;have hb:=toNat_lt s[0];have HN:=hid (SX s 0 h);have HS:=hid (fun h=>TW s 1 s.size (by omega) h);have HA:Hid (nameAt 0 s[0].toNat=(bS s[0].toNat == 3 || (bS s[0].toNat == 2 && decide (0≠0)))):=rfl;go_in;go_wp2_with fail;refine (Lz s[0].toNat hb _).mono ?_;rintro e w1 ⟨rfl,rfl⟩;obtain⟨q,OY⟩:∃q,q=bS s[0].toNat:=⟨_,rfl⟩
  rw[<-OY] at HA⊢;have HQ:=hid OY;clear OY;by_cases hq:q=3
  ·subst hq;go_wp2_with fail
   go_loop [20] (fun i=>∃k:Nat,k<=s.size/\i=.int .i64 k/\Hid (dX s k=true)) (fun i=>s.size-(intOf i).toNat)
   ·exact⟨0,Nat.zero_le _,rfl,by simp[Hid,dX]⟩
   clear HN HS;obtain⟨k,hk,rfl,HF⟩:=hrel;by_cases aq:k<s.size
   ·have HN:=hid (SX s k aq);have HS:=hid (fun h=>TW s (k+1) s.size aq h);have HB:Hid (nameAt k s[k].toNat=(bS s[k].toNat == 3 || (bS s[k].toNat == 2 && decide (k≠0)))):=rfl;have hb:=toNat_lt s[k];go_wp2_with fail;refine (Lz s[k].toNat hb _).mono ?_;rintro e w1 ⟨rfl,rfl⟩;have HZ:Hid (k=0->bS s[k].toNat=3):=by
     show _->_;intro e;subst e;exact HQ.out.symm
    generalize bS s[k].toNat=r at HB HZ⊢;rcases (by omega:r=3\/r=2\/(r≠3/\r≠2)) with h|h|⟨h,h'⟩
    ·subst h;have HK:Hid (dX s (k+1)=true):=(by show _=_;rw[HN.out,HF.out,HB.out];rfl);clear HN HS HB;go_wp2_with fail;go_round
     ·exact⟨k+1,by omega,by go_num,HK⟩
     simp[intOf];omega
    ·subst h;have px:k≠0:=(fun e=>by have:=HZ.out e;omega);have HK:Hid (dX s (k+1)=true):=(by show _=_;rw[HN.out,HF.out,HB.out];simp;omega);clear HN HS HB px;go_wp2_with fail;go_round
     ·exact⟨k+1,by omega,by go_num,HK⟩
     simp[intOf];omega
    have HK:Hid (dN s=false):=(by show _=_;rw[HT.out,HS.out (by rw[HN.out,HF.out,HB.out];simp[h,h'])];rfl);have e3:((r:Int) != 3)=true:=(by simp;omega);have e2:((r:Int) != 2)=true:=(by simp;omega);clear HN HS HB h h';go_wp2;go_ret;exact⟨by rw[HK.out];rfl,rfl⟩
   obtain rfl:k=s.size:=(by omega);have HK:Hid (dN s=true):=(by show _=_;rw[HT.out,HF.out];simp[h];omega);go_wp2;go_ret;exact⟨by rw[HK.out];rfl,rfl⟩
  have HK:Hid (dN s=false):=by show _=_;rw[HT.out,HS.out (by rw[HN.out,HA.out];simp[hq])];rfl
  have e3:((q:Int) != 3)=true:=by simp;omega
  clear HN HS HA hq;go_wp2;go_ret;exact⟨by rw[HK.out];rfl,rfl⟩
 have hl:s.toList.isEmpty=false:=yS s (by omega);have gy:(!s.toList.isEmpty)=true:=by rw[hl];rfl
 have HK:Hid (dN s=false):=by show _=_;rw[HT.out];simp;omega
 go_in;go_wp2;go_ret;exact⟨by rw[HK.out];rfl,rfl⟩
theorem zhY:∀c,c<256->(isWord c=(bS c == 2 || (bS c == 3 && c != 95))):=by decide +kernel
theorem Vt(c:Nat)(hc:c<256)(w:World):
  Calls prog 191 #[.int .u8 c] w fun e w'=>e=.returned (.bool (isWord c))/\w=w':=by
 have HW:=hid (zhY c hc);rcases (by omega:c=95\/c≠95) with h|h
 ·subst h;go_in;go_wp2_with fail;refine (Lz 95 (by decide) _).mono ?_;rintro e w1 ⟨rfl,rfl⟩;have h3:bS 95=3:=rfl;rw[h3];clear h3;go_wp2;go_ret;exact⟨rfl,rfl⟩
 have e1:((c:Int) != 95)=true:=by simp;omega
 have e2:(c != 95)=true:=by simpa using h
 have H2:=hid e2;clear h e2;go_in;go_wp2_with fail;refine (Lz c hc _).mono ?_;rintro e w1 ⟨rfl,rfl⟩;generalize bS c=q at HW⊢;rcases (by omega:q=2\/q=3\/(q≠2/\q≠3)) with h|h|⟨h,h'⟩
 ·subst h;go_wp2;go_ret;exact⟨by rw[HW.out];rfl,rfl⟩
 ·subst h;go_wp2;go_ret;exact⟨by rw[HW.out,H2.out];rfl,rfl⟩
 have HK:Hid (isWord c=false):=by show _=_;rw[HW.out];simp[h,h']
 have e2:((q:Int) == 2)=false:=by simp;omega
 have e3:((q:Int) == 3)=false:=by simp;omega
 clear h h' HW;go_wp2;go_ret;exact⟨by rw[HK.out];rfl,rfl⟩
def zX(c:Nat):Int:=if hv c<16 then ((hv c:Nat):Int) else -1
theorem zpT:∀c,c<256->Lib.indexByte (⟨#[48,49,50,51,52,53,54,55,56,57,97,98,99,100,101,102]⟩:ByteArray).data.toList c.toUInt8=zX c:=by decide +kernel
theorem zlH(c:Nat)(hc:c<256)(w:World):
  Calls prog 155 #[.string ⟨#[48,49,50,51,52,53,54,55,56,57,97,98,99,100,101,102]⟩,.int .u8 c] w fun e w'=>e=.returned (.int .i64 (zX c))/\w'=w:=by
 refine (Tryz.strings_IndexByte _ c w).mono ?_;rintro e w' ⟨rfl,rfl⟩;exact⟨by rw[<-zpT c hc];rfl,rfl⟩
theorem znw(b:UInt8)(w:World):
  Calls prog 155 #[.string ⟨#[48,49,50,51,52,53,54,55,56,57,97,98,99,100,101,102]⟩,.int .u8 b.toNat] w fun e w'=>e=.returned (.int .i64 (zX b.toNat))/\w'=w:=zlH b.toNat (toNat_lt b) w
theorem Y7(c:Nat)(h:hv c<16):zX c=((hv c:Nat):Int):=by unfold zX;rw[if_pos h]
theorem zoW(c:Nat)(h:¬hv c<16):zX c=-1:=by unfold zX;rw[if_neg h]
theorem zlJ(l:List Nat)(h:l.length<2):qe l=iz:=by
 match l,h with
 | [],_=>rfl
 | [_],_=>rfl
theorem znx(s:ByteArray)(h:4<=s.size):(aa s).drop 2=s[2].toNat :: s[3].toNat :: (aa s).drop 4:=by
 rw[FU s 2 (by omega),FU s 3 (by omega)]
theorem zqM:∀a:Nat,a<16->∀b:Nat,b<16->bits .or .i64 ((a:Int)*16) (b:Int)=((16*a+b:Nat):Int):=by decide +kernel
theorem vp(w:World)(n:Nat):Below w.heap.size w (w.drewN n):=⟨rfl,rfl,rfl,le_refl _,fun _ _=>rfl⟩
theorem zpU(s:ByteArray)(hs:s.size<=maxLen)(w:World):
  Calls prog 190 #[.string s] w fun e w'=>e=.returned (ml (qe ((aa s).drop 2)))/\Below w.heap.size w w':=by
 unfold maxLen at hs;by_cases h4:4<=s.size
 ·have HN:=hid (znx s h4);have g2:(2:Int)<(s.size:Int):=by omega
  have g3:(3:Int)<(s.size:Int):=by omega
  go_in;go_wp2_with fail;go_quiet ((go_at_call 155;exact Calls.quiet_of_same (znw _ _)));have HR:Hid (qe (s[2].toNat :: s[3].toNat :: (aa s).drop 4)=if hv s[2].toNat<16/\hv s[3].toNat<16 then (16*hv s[2].toNat+hv s[3].toNat,4,true) else iz):=rfl;have Y2:=Y7 s[2].toNat;have Y3:=Y7 s[3].toNat;have N2:=zoW s[2].toNat;have N3:=zoW s[3].toNat;generalize hv s[2].toNat=x at HR Y2 N2;generalize hv s[3].toNat=y at HR Y3 N3;generalize zX s[2].toNat=p at Y2 N2⊢;generalize zX s[3].toNat=q at Y3 N3⊢;by_cases hx:x<16
  ·by_cases hy:y<16
   ·obtain rfl:=Y2 hx;obtain rfl:=Y3 hy;have HZ:Hid (ml (qe ((aa s).drop 2))=.tuple #[.int .u8 ((16*x+y:Nat):Int),.int .i64 4,.bool true]):=by
     show _=_;rw[HN.out,HR.out,if_pos ⟨hx,hy⟩];rfl
    have HO:=zqM x hx y hy;clear Y2 Y3 N2 N3 HR;go_wp2_with fail
    go_ret3
    exact⟨by rw[HZ.out];rfl,vp _ _⟩
   obtain rfl:=Y2 hx;obtain rfl:=N3 hy;have HZ:Hid (ml (qe ((aa s).drop 2))=.tuple #[.int .u8 0,.int .i64 0,.bool false]):=by
    show _=_;rw[HN.out,HR.out,if_neg (fun h=>hy h.2)];rfl
   clear Y2 Y3 N2 N3 HR;go_wp2_with fail
   go_ret3
   exact⟨by rw[HZ.out];rfl,vp _ _⟩
  obtain rfl:=N2 hx;have HZ:Hid (ml (qe ((aa s).drop 2))=.tuple #[.int .u8 0,.int .i64 0,.bool false]):=by
   show _=_;rw[HN.out,HR.out,if_neg (fun h=>hx h.1)];rfl
  clear Y2 Y3 N2 N3 HR;go_wp2_with fail
  go_ret3
  exact⟨by rw[HZ.out];rfl,vp _ _⟩
 have HX:Hid (ml (qe ((aa s).drop 2))=.tuple #[.int .u8 0,.int .i64 0,.bool false]):=by
  show _=_;rw[zlJ _ (by rw[List.length_drop,od];omega)];rfl
 go_in;go_wp2_with fail
 go_ret3
 exact⟨by rw[HX.out];rfl,Below.refl _ _⟩
theorem zlK(s:ByteArray)(h:s.size=0):aa s=[]:=List.eq_nil_of_length_eq_zero (by rw[od];exact h)
theorem OP(s:ByteArray)(h:0<s.size):aa s=s[0].toNat :: (aa s).drop 1:=FU s 0 h
theorem L4(c:Nat)(t:List Nat):rd (c :: t)=if c=92 then uS t else (c,1,true):=rfl
theorem VM(s:ByteArray)(h:0<s.size)(h0:s[0].toNat≠92):rd (aa s)=(s[0].toNat,1,true):=
 (congrArg rd (OP s h)).trans ((L4 _ _).trans (if_neg h0))
theorem Yk(s:ByteArray)(h:0<s.size)(h0:s[0].toNat=92):rd (aa s)=uS ((aa s).drop 1):=
 (congrArg rd (OP s h)).trans ((L4 _ _).trans (if_pos h0))
theorem zqN(s:ByteArray)(h:1<s.size):uS ((aa s).drop 1)=if s[1].toNat=110 then (10,2,true) else if s[1].toNat=116 then (9,2,true) else if s[1].toNat=114 then (13,2,true) else if s[1].toNat=120 then qe ((aa s).drop 2)
   else if cj s[1].toNat && !isWord s[1].toNat then (s[1].toNat,2,true) else iz:=by
 rw[FU s 1 h];rfl
theorem Kx(s:ByteArray)(hs:s.size<=maxLen)(w:World):
  Calls prog 180 #[.string s] w fun e w'=>e=.returned (ml (rd (aa s)))/\Below w.heap.size w w':=by
 have HS:=hid hs;unfold maxLen at hs;rcases Nat.eq_zero_or_pos s.size with hz|hp
 ·have hl:s.toList=[]:=by rw[ByteArray.toList_eq];exact List.eq_nil_of_length_eq_zero (by simpa using hz)
  have gy:(!s.toList.isEmpty)=false:=by rw[hl];rfl
  have HZ:Hid (ml (rd (aa s))=.tuple #[.int .u8 0,.int .i64 0,.bool false]):=by show _=_;rw[zlK s hz];rfl
  clear hz;go_in;go_wp2_with fail
  go_ret3
  exact⟨by rw[HZ.out];rfl,Below.refl _ _⟩
 have hl:s.toList.isEmpty=false:=yS s hp;have gy:(!s.toList.isEmpty)=true:=by rw[hl];rfl
 by_cases h0:s[0].toNat=92
 ·have e0:((s[0].toNat:Int) != 92)=false:=by simp;omega
  have HB:=hid (Yk s hp h0);clear h0;by_cases h1:s.size=1
  ·have e1:((s.size:Int) == 1)=true:=(by simp;omega);have HZ:Hid (ml (rd (aa s))=.tuple #[.int .u8 0,.int .i64 0,.bool false]):=by
    show _=_;rw[HB.out,VA s 1 (by omega)];rfl
   clear h1;go_in;go_wp2_with fail
   go_ret3
   exact⟨by rw[HZ.out];rfl,Below.refl _ _⟩
  have e1:((s.size:Int) == 1)=false:=by simp;omega
  have g1:1<s.size:=by omega
  have HT:=hid (zqN s g1);have hc:=toNat_lt s[1];clear h1;rcases (by omega:s[1].toNat=110\/s[1].toNat=116\/s[1].toNat=114\/s[1].toNat=120\/(s[1].toNat≠110/\s[1].toNat≠116/\s[1].toNat≠114/\s[1].toNat≠120)) with h|h|h|h|⟨h,h',N6,h3⟩
  ·have HZ:Hid (ml (rd (aa s))=.tuple #[.int .u8 10,.int .i64 2,.bool true]):=by
    show _=_;rw[HB.out,HT.out,h];rfl
   have f110:((s[1].toNat:Int) == 110)=true:=(by simp;omega);clear h;go_in;go_wp2_with fail
   go_ret3
   exact⟨by rw[HZ.out];rfl,Below.refl _ _⟩
  ·have HZ:Hid (ml (rd (aa s))=.tuple #[.int .u8 9,.int .i64 2,.bool true]):=by
    show _=_;rw[HB.out,HT.out,h];rfl
   have f110:((s[1].toNat:Int) == 110)=false:=(by simp;omega);have f116:((s[1].toNat:Int) == 116)=true:=(by simp;omega);clear h;go_in;go_wp2_with fail
   go_ret3
   exact⟨by rw[HZ.out];rfl,Below.refl _ _⟩
  ·have HZ:Hid (ml (rd (aa s))=.tuple #[.int .u8 13,.int .i64 2,.bool true]):=by
    show _=_;rw[HB.out,HT.out,h];rfl
   have f110:((s[1].toNat:Int) == 110)=false:=(by simp;omega);have f116:((s[1].toNat:Int) == 116)=false:=(by simp;omega);have f114:((s[1].toNat:Int) == 114)=true:=(by simp;omega);clear h;go_in;go_wp2_with fail
   go_ret3
   exact⟨by rw[HZ.out];rfl,Below.refl _ _⟩
  ·have HZ:Hid (ml (rd (aa s))=ml (qe ((aa s).drop 2))):=by
    show _=_;rw[HB.out,HT.out,h];rfl
   have f110:((s[1].toNat:Int) == 110)=false:=(by simp;omega);have f116:((s[1].toNat:Int) == 116)=false:=(by simp;omega);have f114:((s[1].toNat:Int) == 114)=false:=(by simp;omega);have f120:((s[1].toNat:Int) == 120)=true:=(by simp;omega);have HV:Hid (∀r,ml r=.tuple #[.int .u8 ((r.1:Nat):Int),.int .i64 ((r.2.1:Nat):Int),.bool r.2.2]):=(fun _=>rfl);clear h;go_in;go_wp2_with fail;refine (zpU s HS.out _).mono ?_;rintro e w1 ⟨rfl,b1⟩;rw[HV.out];go_wp2_with fail
   go_ret3
   exact⟨by rw[HZ.out,HV.out];rfl,b1⟩
  have HR:Hid (rd (aa s)=if cj s[1].toNat && !isWord s[1].toNat then (s[1].toNat,2,true) else iz):=by
   show _=_;rw[HB.out,HT.out,if_neg h,if_neg h',if_neg N6,if_neg h3]
  have f110:((s[1].toNat:Int) == 110)=false:=by simp;omega
  have f116:((s[1].toNat:Int) == 116)=false:=by simp;omega
  have f114:((s[1].toNat:Int) == 114)=false:=by simp;omega
  have f120:((s[1].toNat:Int) == 120)=false:=by simp;omega
  clear h h' N6 h3;rcases hp:cj s[1].toNat with _|_
  ·have HP:=hid hp;have HZ:Hid (ml (rd (aa s))=.tuple #[.int .u8 0,.int .i64 0,.bool false]):=(by show _=_;rw[HR.out,hp];rfl);clear hp;go_in;go_wp2_with fail;refine (GU s[1].toNat _).mono ?_;rintro e w1 ⟨rfl,rfl⟩;rw[HP.out];go_wp2_with fail
   go_ret3
   exact⟨by rw[HZ.out];rfl,Below.refl _ _⟩
  rcases hw:isWord s[1].toNat with _|_
  ·have HP:=hid hp;have HW:=hid hw;have HZ:Hid (ml (rd (aa s))=.tuple #[.int .u8 ((s[1].toNat:Nat):Int),.int .i64 2,.bool true]):=(by show _=_;rw[HR.out,hp,hw];rfl);clear hp hw;go_in;go_wp2_with fail;refine (GU s[1].toNat _).mono ?_;rintro e w1 ⟨rfl,rfl⟩;rw[HP.out];go_wp2_with fail;refine (Vt s[1].toNat hc _).mono ?_;rintro e w1 ⟨rfl,rfl⟩;rw[HW.out];go_wp2_with fail
   go_ret3
   exact⟨by rw[HZ.out];rfl,Below.refl _ _⟩
  have HP:=hid hp;have HW:=hid hw;have HZ:Hid (ml (rd (aa s))=.tuple #[.int .u8 0,.int .i64 0,.bool false]):=by show _=_;rw[HR.out,hp,hw];rfl
  clear hp hw;go_in;go_wp2_with fail;refine (GU s[1].toNat _).mono ?_;rintro e w1 ⟨rfl,rfl⟩;rw[HP.out];go_wp2_with fail;refine (Vt s[1].toNat hc _).mono ?_;rintro e w1 ⟨rfl,rfl⟩;rw[HW.out];go_wp2_with fail
  go_ret3
  exact⟨by rw[HZ.out];rfl,Below.refl _ _⟩
 have e0:((s[0].toNat:Int) != 92)=true:=by simp;omega
 have HZ:Hid (ml (rd (aa s))=.tuple #[.int .u8 ((s[0].toNat:Nat):Int),.int .i64 1,.bool true]):=by show _=_;rw[VM s hp h0];rfl
 clear h0;go_in;go_wp2_with fail
 go_ret3
 exact⟨by rw[HZ.out];rfl,Below.refl _ _⟩
