import Derived.Test.YtiijebameffenaaGreatZBldB
import Derived.Test.YtiijebameffenaaGreatZFirst
import Derived.Test.YtiijebameffenaaGreatZPPrint
import Derived.Lib.IndexAny
set_option linter.all false
set_option maxHeartbeats 2000000
set_option maxRecDepth 100000
open Go.Lib (hid)
namespace Go.Proofs.YtiijebameffenaaGreat
open Go.RowKit Go.Proofs.Tryz
open Nat (le_refl)
open UInt8 (toNat_lt)
variable {c:Nat}{r:List Nat}
def eU:ByteArray:=⟨#[47,93,94,45,34]⟩
def uR:ByteArray:=⟨#[47,40,41,91,93,124,42,43,63,46,34,126]⟩
def gz(s:ByteArray)(c:Nat):Int:=Lib.indexByte s.data.toList c.toUInt8
theorem OT(s:ByteArray)(c:Nat)(hc:c<256):decide (0<=gz s c)=Bx s c:=by
 unfold gz;rw[<-Lib.contains_iff_indexByte,Bool.eq_iff_iff];unfold Bx;rw[List.contains_iff_mem,List.any_eq_true];constructor
 ·intro h;exact⟨_,h,by simp[Nat.mod_eq_of_lt hc]⟩
 rintro⟨x,hx,e⟩;have e:=eq_of_beq e;rw[show c.toUInt8=x by rw[<-e];simp];exact hx
theorem J3(s:ByteArray)(c:Nat)(w:World):
  Calls prog 188 #[.string s,.int .u8 c] w fun e w'=>e=.returned (.int .i64 (gz s c))/\w=w':=by
 refine (Tryz.strings_IndexByte s c w).mono ?_;rintro e w' ⟨rfl,rfl⟩;exact⟨rfl,rfl⟩
def hv(c:Nat):Nat:=if 48<=c/\c<=57 then c-48 else if 97<=c/\c<=102 then c-87 else 16
def kc:Nat × Nat × Bool:=(0,0,false)
def sh:List Nat->Nat × Nat × Bool
 | x :: y :: _=>if hv x<16/\hv y<16 then (16*hv x+hv y,4,true) else kc
 | _=>kc
def zD:List Nat->Nat × Nat × Bool
 | []=>kc
 | d :: u=>if d=110 then (10,2,true) else if d=116 then (9,2,true) else if d=114 then (13,2,true) else if d=120 then sh u
   else if ep d && !isWord d then (d,2,true) else kc
def rd:List Nat->Nat × Nat × Bool
 | []=>kc
 | c :: t=>if c=92 then zD t else (c,1,true)
def pB(r:Nat × Nat × Bool):Value:=.tuple #[.int .u8 ((r.1:Nat):Int),.int .i64 ((r.2.1:Nat):Int),.bool r.2.2]
theorem G8(a b:Nat)(o:Bool):pB (a,b,o)=.tuple #[.int .u8 (a:Int),.int .i64 (b:Int),.bool o]:=rfl
theorem zpz(l:List Nat):(sh l).1<256/\(sh l).2.1<=4/\((sh l).2.2=true->(sh l).2.1=4/\2<=l.length):=by
 unfold sh;split
 ·split
  ·refine⟨?_,by simp,by simp⟩;simp;omega
  simp[kc]
 simp[kc]
theorem TQ(l:List Nat):(zD l).1<256/\((zD l).2.2=true->2<=(zD l).2.1/\(zD l).2.1<=l.length+1):=by
 unfold zD;split
 ·simp[kc]
 rename_i d u;have h:=zpz u
 repeat' split
 all_goals first
  | simp[kc];done
  | (
   refine⟨h.1,fun e=>?_⟩
   have:=h.2.2 e
   simp;omega)
  | (
   rename_i hd
   simp[ep] at hd⊢
   omega)
theorem Se(l:List Nat)(hl:∀n∈l,n<256):(rd l).1<256/\((rd l).2.2=true->1<=(rd l).2.1/\(rd l).2.1<=l.length):=by
 unfold rd;split
 ·simp[kc]
 rename_i c t;split
 ·have h:=TQ t;refine⟨h.1,fun e=>?_⟩;have:=h.2 e;simp;omega
 simp;exact hl c (by simp)
theorem Gh(s:ByteArray)(k:Nat)(h:k<s.size):(ae s).drop k=s[k].toNat :: (ae s).drop (k+1):=by
 have hl:k<(ae s).length:=by simpa [ae] using h
 rw[List.drop_eq_getElem_cons hl];simp[ae];rfl
theorem oK(s:ByteArray):(ae s).length=s.size:=by simp[ae]
theorem zmE(s:ByteArray)(k:Nat)(h:s.size<=k):(ae s).drop k=[]:=List.drop_eq_nil_of_le (by rw[oK];exact h)
theorem PX(s:ByteArray)(a:Nat):ae (s.extract a s.size)=(ae s).drop a:=by
 unfold ae;rw[Lib.extract_to_end,List.map_drop]
def ay(a k:Nat):Nat->Bool:=fun x=>decide (a<=x) && decide (x<a+k)
theorem Ym(a:Nat):ay a 0=fun _=>false:=by funext x;simp[ay]
theorem XR(a k:Nat):ay a (k+1)=ins (ay a k) (a+k):=by
 funext x;rw[Bool.eq_iff_iff];simp only[ay,ins,Bool.or_eq_true,Bool.and_eq_true,decide_eq_true_eq,beq_iff_eq];omega
theorem Gi(a c:Nat)(ha:a<256)(hc:c<256)(w:World):
  Calls prog 222 #[.int .u8 a,.int .u8 c] w fun e w'=>e=.returned (.agg #[.int .u64 ((wd (ay a (c+1-a)) 0:Nat):Int),.int .u64 ((wd (ay a (c+1-a)) 1:Nat):Int),.int .u64 ((wd (ay a (c+1-a)) 2:Nat):Int),.int .u64 ((wd (ay a (c+1-a)) 3:Nat):Int)])/\Below w.heap.size w w':=by
 rcases (by omega:c+1<=a\/a<=c) with h|h
 ·go_enter func222,ntmps222;go_wp2;go_loopw [13] (fun i wr=>i=.int .i64 0/\jm w (ay a 0) wr) (fun _ _=>0)
  ·exact⟨rfl,by rw[Ym];exact jm.start w⟩
  obtain⟨rfl,R⟩:=hrel;obtain⟨r0,r1,r2,r3,r4,r5,r6,r7⟩:=cZ R.s0;obtain⟨q0,q1,q2,q3,q4,q5,q6,q7⟩:=cZ R.s1;go_wp2_with fail;exact bodyPost_ret (v:=(.agg #[.int .u64 ((wd (ay a 0) 0:Nat):Int),.int .u64 ((wd (ay a 0) 1:Nat):Int),.int .u64 ((wd (ay a 0) 2:Nat):Int),.int .u64 ((wd (ay a 0) 3:Nat):Int)])) (by simp[results,results222,go_sem,r0,r1,r2,r3]) rfl ⟨by rw[show c+1-a=0 by omega],uU R.below (le_refl _) _ _ _ _⟩
 obtain⟨n,hn,dj⟩:∃n,c+1-a=n/\c+1=a+n:=⟨_,rfl,by omega⟩
 rw[hn];have h1:1<=n:=by omega
 obtain rfl:c=a+n-1:=by omega
 clear hn dj;have h3:a+n<=256:=by omega
 have Bt:((a+n-1:Nat):Int)=(a:Int)+(n:Int)-1:=by omega
 rw[Bt];clear Bt hc h;go_enter func222,ntmps222;go_wp2;go_loopw [6,13] (fun _ i wr=>∃k:Nat,i=.int .i64 k/\k<=n/\jm w (ay a k) wr) (fun _ i _=>n-(intOf i).toNat)
 ·exact⟨0,rfl,Nat.zero_le _,by rw[Ym];exact jm.start w⟩
 obtain⟨k,rfl,hk,R⟩:=hrel;obtain⟨r0,r1,r2,r3,r4,r5,r6,r7⟩:=cZ R.s0;obtain⟨q0,q1,q2,q3,q4,q5,q6,q7⟩:=cZ R.s1;by_cases aw:k<n
 ·go_wp2_with fail;rw[show (a:Int)+(k:Int)=((a+k:Nat):Int) from by omega];refine (YX (ay a k) (a+k) (by omega) _).mono ?_;rintro e w1 ⟨rfl,b1⟩;have R1:=R.step b1 (ay a (k+1));rw[XR] at R1;have HR:=hid R1;have hs:=b1.size;have nw:=R.s1.lt;obtain⟨q0,q1,q2,q3,q4,q5,q6,q7⟩:=cZ (R.s1.aa b1);clear R b1 R1;go_wp2;go_roundw
  ·exact⟨k+1,by go_num,by omega,by rw[XR];exact HR.out⟩
  simp[intOf];omega
 obtain rfl:k=n:=by omega
 go_wp2_with fail;exact bodyPost_ret (v:=(.agg #[.int .u64 ((wd (ay a k) 0:Nat):Int),.int .u64 ((wd (ay a k) 1:Nat):Int),.int .u64 ((wd (ay a k) 2:Nat):Int),.int .u64 ((wd (ay a k) 3:Nat):Int)])) (by simp[results,results222,go_sem,r0,r1,r2,r3]) rfl ⟨rfl,uU R.below (le_refl _) _ _ _ _⟩
abbrev bJ:=List Pc × List Nat
def bE:Nat->Bool:=fun _=>false
def aI(c:Nat):List Nat->Option (List Nat)
 | []=>none
 | x :: r=>if x=c then some r else none
def bw(sp:ByteArray)(s:List Nat):Option (Nat × List Nat):=
 if (rd s).2.2=true/\¬((rd s).2.1=1/\Bx sp (rd s).1=true) then some ((rd s).1,s.drop (rd s).2.1) else none
def dJ(s:List Nat):Option (Nat × Nat × List Nat):=
 match bw eU s with
 | none=>none
 | some (a,r)=>match aI 45 r with
  | none=>some (a,a,r)
  | some r1=>match bw eU r1 with
   | none=>none
   | some (c,r2)=>if a<=c then some (a,c,r2) else none
def aW:Nat->(Nat->Bool)->List Nat->Option ((Nat->Bool) × List Nat)
 | 0,_,_=>none
 | f+1,q,s=>match aI 93 s with
  | some r=>some (q,r)
  | none=>match dJ s with
   | none=>none
   | some (a,c,r)=>aW f (fun x=>q x || ay a (c+1-a) x) r
def eW(s:List Nat):Option ((Nat->Bool) × List Nat):=
 match aI 94 s with
 | some r=>match aW (r.length+1) bE r with
  | none=>none
  | some (q,r1)=>if en (fun x=>!q x)=true then none else some (fun x=>!q x,r1)
 | none=>match aW (s.length+1) bE s with
  | none=>none
  | some (q,r1)=>if en q=true then none else some (q,r1)
def im(c:Nat):Option Int:=if c=42 then some 4 else if c=43 then some 5 else if c=63 then some 6 else none
def cU:List Nat->List Pc->bJ
 | [],acc=>(acc,[])
 | c :: r,acc=>match im c with
  | some k=>cU r (acc++[⟨k,bE⟩])
  | none=>(acc,c :: r)
def dQ(atom:bJ->Option bJ)(s:bJ):Option bJ:=match atom s with
 | none=>none
 | some x=>some (cU x.2 x.1)
def gE:List Nat->Bool
 | []=>true
 | c :: _=>c == 124 || c == 41
def bS(atom:bJ->Option bJ):Nat->bJ->Option bJ
 | 0,_=>none
 | f+1,s=>if gE s.2=true then some s else match dQ atom s with
  | none=>none
  | some x=>bS atom f (x.1++[⟨2,bE⟩],x.2)
def dR(atom:bJ->Option bJ)(s:bJ):Option bJ:=match dQ atom s with
 | none=>none
 | some x=>bS atom (x.2.length+1) x
def bW(atom:bJ->Option bJ):Nat->bJ->Option bJ
 | 0,_=>none
 | f+1,s=>match aI 124 s.2 with
  | none=>some s
  | some r=>match dR atom (s.1,r) with
   | none=>none
   | some x=>bW atom f (x.1++[⟨3,bE⟩],x.2)
def dd(atom:bJ->Option bJ)(s:bJ):Option bJ:=match dR atom s with
 | none=>none
 | some x=>bW atom (x.2.length+1) x
def fP(group:bJ->Option bJ)(s:bJ):Option bJ:=
 match aI 46 s.2 with
 | some r=>some (s.1++[⟨1,fun _=>true⟩],r)
 | none=>match aI 126 s.2 with
  | some r=>some (s.1++[⟨0,bE⟩],r)
  | none=>match aI 40 s.2 with
   | some r=>group (s.1,r)
   | none=>match aI 91 s.2 with
    | some r=>match eW r with
     | none=>none
     | some (q,r1)=>some (s.1++[⟨1,q⟩],r1)
    | none=>match bw uR s.2 with
     | none=>none
     | some (c,r)=>some (s.1++[⟨1,iQ (fun _=>c) 1⟩],r)
def fB(atom:bJ->Option bJ)(s:bJ):Option bJ:=match dd atom s with
 | none=>none
 | some x=>match aI 41 x.2 with
  | none=>none
  | some r=>some (x.1,r)
def eZ:Nat->bJ->Option bJ
 | 0=>fP fun _=>none
 | D+1=>fP (fB (eZ D))
def px(g:bJ->Option bJ):Prop:=∀s s',g s=some s'->s'.2.length<s.2.length/\s'.1.length+2*s'.2.length<s.1.length+2*s.2.length
def Le(s' s:bJ):Prop:=s'.2.length<=s.2.length/\s'.1.length+2*s'.2.length<=s.1.length+2*s.2.length
theorem ve{s:List Nat}(h:aI c s=some r):s=c :: r:=by
 cases s with
 | nil=>simp[aI] at h
 | cons x t=>
  simp only[aI] at h;split at h
  ·simp at h;subst h;rename_i e;rw[e]
  simp at h
theorem zou(s:List Nat):(rd s).2.2=true->1<=(rd s).2.1/\1<=s.length:=by
 cases s with
 | nil=>simp[rd,kc]
 | cons c t=>
  intro h;refine⟨?_,by simp⟩;unfold rd at h⊢;simp only at h⊢;split at h
  ·rename_i e;rw[if_pos e];have:=(TQ t).2 h;omega
  rename_i e;rw[if_neg e];simp
theorem JQ{sp:ByteArray}{s:List Nat}(h:bw sp s=some (c,r)):r.length<s.length:=by
 unfold bw at h;split at h
 ·rename_i e;have:=zou s e.1;simp at h;rw[<-h.2];simp;omega
 simp at h
theorem Ul{s:List Nat}{a:Nat}(h:dJ s=some (a,c,r)):r.length<s.length/\a<=c:=by
 unfold dJ at h;rcases h1:bw eU s with _|⟨a1,r1⟩
 ·simp[h1] at h
 rw[h1] at h;have l1:=JQ h1;simp only at h;rcases h2:aI 45 r1 with _|r2
 ·simp[h2] at h;obtain⟨rfl,rfl,rfl⟩:=h;exact⟨l1,le_refl _⟩
 rw[h2] at h;have l2:=ve h2;simp only at h;rcases h3:bw eU r2 with _|⟨c1,r3⟩
 ·simp[h3] at h
 rw[h3] at h;have l3:=JQ h3;simp only at h;split at h
 ·rename_i e;simp at h;obtain⟨rfl,rfl,rfl⟩:=h;rw[l2] at l1;simp at l1;exact⟨by omega,e⟩
 simp at h
theorem U7(f:Nat)(q:Nat->Bool)(s:List Nat)(q':Nat->Bool)(r:List Nat)(h:aW f q s=some (q',r)):r.length<s.length:=by
 induction f generalizing q s with
 | zero=>simp[aW] at h
 | succ f ih=>
  unfold aW at h;rcases h1:aI 93 s with _|r1
  ·rw[h1] at h;simp only at h;rcases h2:dJ s with _|⟨a,c,r2⟩
   ·simp[h2] at h
   rw[h2] at h;simp only at h;have:=ih _ _ h;have:=(Ul h2).1;omega
  rw[h1] at h;have:=ve h1;simp at h;rw[this,<-h.2];simp
theorem zkl{s:List Nat}{q:Nat->Bool}(h:eW s=some (q,r)):r.length<s.length:=by
 unfold eW at h;rcases h1:aI 94 s with _|r1
 ·rw[h1] at h;simp only at h;rcases h2:aW (s.length+1) bE s with _|⟨q2,r2⟩
  ·simp[h2] at h
  rw[h2] at h;have:=U7 _ _ _ _ _ h2;simp only at h;split at h
  ·simp at h
  simp at h;rw[<-h.2];exact this
 rw[h1] at h;have e:=ve h1;simp only at h;rcases h2:aW (r1.length+1) bE r1 with _|⟨q2,r2⟩
 ·simp[h2] at h
 rw[h2] at h;have:=U7 _ _ _ _ _ h2;simp only at h;split at h
 ·simp at h
 simp at h;rw[e,<-h.2];simp;omega
theorem ziC(s:List Nat)(acc:List Pc):Le (cU s acc) (acc,s):=by
 induction s generalizing acc with
 | nil=>exact⟨le_refl _,le_refl _⟩
 | cons c r ih=>
  unfold cU;rcases im c with _|k
  ·exact⟨le_refl _,le_refl _⟩
  obtain⟨h1,h2⟩:=ih (acc++[⟨k,bE⟩]);simp at h1 h2;exact⟨by simp;omega,by simp;omega⟩
theorem LX{atom:bJ->Option bJ}(hd:px atom):px (dQ atom):=by
 intro s s' h;unfold dQ at h;rcases h1:atom s with _|x
 ·simp[h1] at h
 rw[h1] at h;simp at h;obtain⟨h2,h3⟩:=hd s x h1;obtain⟨h4,h5⟩:=ziC x.2 x.1;rw[h] at h4 h5;simp at h4 h5;exact⟨by omega,by omega⟩
theorem ziD{atom:bJ->Option bJ}(hd:px atom)(f:Nat)(s s':bJ)(h:bS atom f s=some s'):Le s' s:=by
 induction f generalizing s with
 | zero=>simp[bS] at h
 | succ f ih=>
  unfold bS at h;split at h
  ·simp at h;subst h;exact⟨le_refl _,le_refl _⟩
  rcases h1:dQ atom s with _|x
  ·simp[h1] at h
  rw[h1] at h;obtain⟨h2,h3⟩:=LX hd s x h1;obtain⟨h4,h5⟩:=ih _ h;simp at h4 h5;exact⟨by omega,by omega⟩
theorem Km{atom:bJ->Option bJ}(hd:px atom):px (dR atom):=by
 intro s s' h;unfold dR at h;rcases h1:dQ atom s with _|x
 ·simp[h1] at h
 rw[h1] at h;obtain⟨h2,h3⟩:=LX hd s x h1;obtain⟨h4,h5⟩:=ziD hd _ _ _ h;exact⟨by omega,by omega⟩
theorem ziE{atom:bJ->Option bJ}(hd:px atom)(f:Nat)(s s':bJ)(h:bW atom f s=some s'):Le s' s:=by
 induction f generalizing s with
 | zero=>simp[bW] at h
 | succ f ih=>
  unfold bW at h;rcases h0:aI 124 s.2 with _|r
  ·rw[h0] at h;simp at h;subst h;exact⟨le_refl _,le_refl _⟩
  rw[h0] at h;have e:=ve h0;simp only at h;rcases h1:dR atom (s.1,r) with _|x
  ·simp[h1] at h
  rw[h1] at h;obtain⟨h2,h3⟩:=Km hd _ x h1;obtain⟨h4,h5⟩:=ih _ h;simp at h2 h3 h4 h5;exact⟨by rw[e];simp;omega,by rw[e];simp;omega⟩
theorem YH{atom:bJ->Option bJ}(hd:px atom):px (dd atom):=by
 intro s s' h;unfold dd at h;rcases h1:dR atom s with _|x
 ·simp[h1] at h
 rw[h1] at h;obtain⟨h2,h3⟩:=Km hd s x h1;obtain⟨h4,h5⟩:=ziE hd _ _ _ h;exact⟨by omega,by omega⟩
theorem zgI{atom:bJ->Option bJ}(hd:px atom):px (fB atom):=by
 intro s s' h;unfold fB at h;rcases h1:dd atom s with _|x
 ·simp[h1] at h
 rw[h1] at h;simp only at h;rcases h2:aI 41 x.2 with _|r
 ·simp[h2] at h
 rw[h2] at h;have e:=ve h2;simp at h;subst h;obtain⟨h3,h4⟩:=YH hd s x h1;rw[e] at h3 h4;simp at h3 h4;exact⟨by simp;omega,by simp;omega⟩
theorem Yo{group:bJ->Option bJ}(hd:px group):px (fP group):=by
 intro s s' h;unfold fP at h;rcases h1:aI 46 s.2 with _|r
 ·rw[h1] at h;simp only at h;rcases h2:aI 126 s.2 with _|r
  ·rw[h2] at h;simp only at h;rcases h3:aI 40 s.2 with _|r
   ·rw[h3] at h;simp only at h;rcases h4:aI 91 s.2 with _|r
    ·rw[h4] at h;simp only at h;rcases h5:bw uR s.2 with _|⟨c,r⟩
     ·simp[h5] at h
     rw[h5] at h;have:=JQ h5;simp at h;subst h;exact⟨by simp;omega,by simp;omega⟩
    rw[h4] at h;have e:=ve h4;simp only at h;rcases h5:eW r with _|⟨q,r1⟩
    ·simp[h5] at h
    rw[h5] at h;have:=zkl h5;simp at h;subst h;exact⟨by rw[e];simp;omega,by rw[e];simp;omega⟩
   rw[h3] at h;have e:=ve h3;obtain⟨h4,h5⟩:=hd _ _ h;simp at h4 h5;exact⟨by rw[e];simp;omega,by rw[e];simp;omega⟩
  rw[h2] at h;have e:=ve h2;simp at h;subst h;exact⟨by rw[e];simp,by rw[e];simp;omega⟩
 rw[h1] at h;have e:=ve h1;simp at h;subst h;exact⟨by rw[e];simp,by rw[e];simp;omega⟩
theorem Ch(D:Nat):px (eZ D):=by
 induction D with
 | zero=>exact Yo (fun s s' h=>by simp at h)
 | succ D ih=>exact Yo (zgI ih)
theorem FD(c:Nat)(h:c≠32)(h1:c≠9)(h2:c≠10)(h3:c≠13):cO c=if iK c then 2 else if isWord c || c == 95 then 3 else if 32<c/\c<127 then 4 else 0:=by
 unfold cO;rw[if_neg (by simp[Bm,h,h1,h2,h3])]
theorem ziy(c:Nat)(h:48<=c)(h':c<=57):cO c=2:=by
 rw[FD c (by omega) (by omega) (by omega) (by omega),if_pos (by simp[iK,h,h'])]
theorem ziz(c:Nat)(h:65<=c)(h':c<=90):cO c=3:=by
 rw[FD c (by omega) (by omega) (by omega) (by omega),if_neg (by simp[iK];omega),if_pos (by simp[isWord,iK];omega)]
theorem ziA(c:Nat)(h:97<=c)(h':c<=122):cO c=3:=by
 rw[FD c (by omega) (by omega) (by omega) (by omega),if_neg (by simp[iK];omega),if_pos (by simp[isWord,iK];omega)]
theorem Zp(c:Nat)(h:32<c)(h':c<127)(h1:c<48\/57<c)(h2:c<65\/90<c)(h3:c<97\/122<c)(h4:c≠95):cO c=4:=by
 rw[FD c (by omega) (by omega) (by omega) (by omega),if_neg (by simp[iK];omega),if_neg (by simp[isWord,iK];omega),if_pos ⟨h,h'⟩]
theorem zgE(c:Nat)(h:c<32\/126<c)(h1:c≠9)(h2:c≠10)(h3:c≠13):cO c=0:=by
 rw[FD c (by omega) (by omega) (by omega) (by omega),if_neg (by simp[iK];omega),if_neg (by simp[isWord,iK];omega),if_neg (by omega)]
theorem KT(c:Nat)(hc:c<256)(w:World):
  Calls prog 86 #[.int .u8 c] w fun e w'=>e=.returned (.int .i64 ((cO c:Nat):Int))/\w=w':=by
 have hk:(c=32\/c=9\/c=10\/c=13)\/(48<=c/\c<=57)\/(65<=c/\c<=90)\/c=95\/(97<=c/\c<=122)\/((32<c/\c<127)/\(c<48\/57<c)/\(c<65\/90<c)/\(c<97\/122<c)/\c≠95)\/((c<32\/126<c)/\c≠9/\c≠10/\c≠13):=by omega
 rcases hk with h|⟨h,h'⟩|⟨h,h'⟩|h|⟨h,h'⟩|⟨⟨h,h'⟩,h1,h2,h3,h4⟩|⟨h,h1,h2,h3⟩
 ·rcases h with h|h|h|h <;> subst h
  all_goals
   go_enter func86,ntmps86
   go_wp2
   go_ret
   exact⟨rfl,rfl⟩
 ·have HC:=hid (ziy c h h');have e1:((c:Int) == 32)=false:=by simp;omega
  have e2:((c:Int) == 9)=false:=by simp;omega
  have e3:((c:Int) == 10)=false:=by simp;omega
  have e4:((c:Int) == 13)=false:=by simp;omega
  go_enter func86,ntmps86;go_wp2;go_ret;exact⟨by rw[HC.out];rfl,rfl⟩
 ·have HC:=hid (ziz c h h');have e1:((c:Int) == 32)=false:=by simp;omega
  have e2:((c:Int) == 9)=false:=by simp;omega
  have e3:((c:Int) == 10)=false:=by simp;omega
  have e4:((c:Int) == 13)=false:=by simp;omega
  go_enter func86,ntmps86;go_wp2;go_ret;exact⟨by rw[HC.out];rfl,rfl⟩
 ·subst h;go_enter func86,ntmps86;go_wp2;go_ret;exact⟨rfl,rfl⟩
 ·have HC:=hid (ziA c h h');have e1:((c:Int) == 32)=false:=by simp;omega
  have e2:((c:Int) == 9)=false:=by simp;omega
  have e3:((c:Int) == 10)=false:=by simp;omega
  have e4:((c:Int) == 13)=false:=by simp;omega
  go_enter func86,ntmps86;go_wp2;go_ret;exact⟨by rw[HC.out];rfl,rfl⟩
 ·have HC:=hid (Zp c h h' h1 h2 h3 h4);have e1:((c:Int) == 32)=false:=by simp;omega
  have e2:((c:Int) == 9)=false:=by simp;omega
  have e3:((c:Int) == 10)=false:=by simp;omega
  have e4:((c:Int) == 13)=false:=by simp;omega
  have e5:((c:Int) == 95)=false:=by simp;omega
  have HP:Hid (ep c=true):=by show _=_;unfold ep;simp;omega
  clear h4;rcases h1 with h1|h1 <;> rcases h2 with h2|h2 <;> rcases h3 with h3|h3
  all_goals first
   | (exfalso;omega)
   | (
    go_enter func86,ntmps86
    go_wp2_with fail
    refine (Ix c _).mono ?_
    rintro e w1 ⟨rfl,rfl⟩
    rw[HP.out]
    go_wp2
    go_ret
    exact⟨by rw[HC.out];rfl,rfl⟩)
 have HC:=hid (zgE c h h1 h2 h3);have e1:((c:Int) == 32)=false:=by simp;omega
 have e2:((c:Int) == 9)=false:=by simp;omega
 have e3:((c:Int) == 10)=false:=by simp;omega
 have e4:((c:Int) == 13)=false:=by simp;omega
 have e5:((c:Int) == 95)=false:=by simp;omega
 have HP:Hid (ep c=false):=by show _=_;unfold ep;simp;omega
 clear h1 h2 h3;rcases h with h|h
 all_goals
  go_enter func86,ntmps86
  go_wp2_with fail
  refine (Ix c _).mono ?_
  rintro e w1 ⟨rfl,rfl⟩
  rw[HP.out]
  go_wp2
  go_ret
  exact⟨by rw[HC.out];rfl,rfl⟩
theorem MT(s:ByteArray)(w:World)(hs:s.size<=maxLen):
  Calls prog 70 #[.string s] w fun e w'=>e=.returned (.bool (bD s))/\w=w':=by
 unfold maxLen at hs;have HT:Hid (bD s=(fo s s.size && decide (1<=s.size) && decide (s.size<=40))):=rfl;rcases (by omega:s.size=0\/(1<=s.size/\s.size<=40)\/(1<=s.size/\40<s.size)) with h|⟨h,h'⟩|⟨h,h'⟩
 ·have hl:s.toList=[]:=by rw[ByteArray.toList_eq];exact List.eq_nil_of_length_eq_zero (by simpa using h)
  have iE:(!s.toList.isEmpty)=false:=by rw[hl];rfl
  have HK:Hid (bD s=false):=by show _=_;rw[HT.out,h];simp
  clear h;go_enter func70,ntmps70;go_wp2;go_ret;exact⟨by rw[HK.out];rfl,rfl⟩
 ·have hl:s.toList.isEmpty=false:=Ac s (by omega);have iE:(!s.toList.isEmpty)=true:=by rw[hl];rfl
  have h0:0<s.size:=h;have hb:=toNat_lt s[0];have HN:=hid (S4 s 0 h);have HS:=hid (fun h=>WU s 1 s.size (by omega) h);have HA:Hid (nameAt 0 s[0].toNat=(cO s[0].toNat == 3 || (cO s[0].toNat == 2 && decide (0≠0)))):=rfl;go_enter func70,ntmps70;go_wp2_with fail;refine (KT s[0].toNat hb _).mono ?_;rintro e w1 ⟨rfl,rfl⟩;obtain⟨q,Rf⟩:∃q,q=cO s[0].toNat:=⟨_,rfl⟩
  rw[<-Rf] at HA⊢;have HQ:=hid Rf;clear Rf;by_cases hq:q=3
  ·subst hq;go_wp2_with fail
   go_loop [20] (fun i=>∃k:Nat,k<=s.size/\i=.int .i64 k/\Hid (fo s k=true)) (fun i=>s.size-(intOf i).toNat)
   ·exact⟨0,Nat.zero_le _,rfl,by simp[Hid,fo]⟩
   clear HN HS;obtain⟨k,hk,rfl,HF⟩:=hrel;by_cases aw:k<s.size
   ·have HN:=hid (S4 s k aw);have HS:=hid (fun h=>WU s (k+1) s.size aw h);have HB:Hid (nameAt k s[k].toNat=(cO s[k].toNat == 3 || (cO s[k].toNat == 2 && decide (k≠0)))):=rfl;have hb:=toNat_lt s[k];go_wp2_with fail;refine (KT s[k].toNat hb _).mono ?_;rintro e w1 ⟨rfl,rfl⟩;have HZ:Hid (k=0->cO s[k].toNat=3):=by
     show _->_;intro e;subst e;exact HQ.out.symm
    generalize cO s[k].toNat=r at HB HZ⊢;rcases (by omega:r=3\/r=2\/(r≠3/\r≠2)) with h|h|⟨h,h'⟩
    ·subst h;have HK:Hid (fo s (k+1)=true):=(by show _=_;rw[HN.out,HF.out,HB.out];rfl);clear HN HS HB;go_wp2_with fail;go_round
     ·exact⟨k+1,by omega,by go_num,HK⟩
     simp[intOf];omega
    ·subst h;have pw:k≠0:=(fun e=>by have:=HZ.out e;omega);have HK:Hid (fo s (k+1)=true):=(by show _=_;rw[HN.out,HF.out,HB.out];simp;omega);clear HN HS HB pw;go_wp2_with fail;go_round
     ·exact⟨k+1,by omega,by go_num,HK⟩
     simp[intOf];omega
    have HK:Hid (bD s=false):=(by show _=_;rw[HT.out,HS.out (by rw[HN.out,HF.out,HB.out];simp[h,h'])];rfl);have e3:((r:Int) != 3)=true:=(by simp;omega);have e2:((r:Int) != 2)=true:=(by simp;omega);clear HN HS HB h h';go_wp2;go_ret;exact⟨by rw[HK.out];rfl,rfl⟩
   obtain rfl:k=s.size:=(by omega);have HK:Hid (bD s=true):=(by show _=_;rw[HT.out,HF.out];simp[h];omega);go_wp2;go_ret;exact⟨by rw[HK.out];rfl,rfl⟩
  have HK:Hid (bD s=false):=by show _=_;rw[HT.out,HS.out (by rw[HN.out,HA.out];simp[hq])];rfl
  have e3:((q:Int) != 3)=true:=by simp;omega
  clear HN HS HA hq;go_wp2;go_ret;exact⟨by rw[HK.out];rfl,rfl⟩
 have hl:s.toList.isEmpty=false:=Ac s (by omega);have iE:(!s.toList.isEmpty)=true:=by rw[hl];rfl
 have HK:Hid (bD s=false):=by show _=_;rw[HT.out];simp;omega
 go_enter func70,ntmps70;go_wp2;go_ret;exact⟨by rw[HK.out];rfl,rfl⟩
theorem zgF:∀c,c<256->(isWord c=(cO c == 2 || (cO c == 3 && c != 95))):=by decide +kernel
theorem Ya(c:Nat)(hc:c<256)(w:World):
  Calls prog 224 #[.int .u8 c] w fun e w'=>e=.returned (.bool (isWord c))/\w=w':=by
 have HW:=hid (zgF c hc);rcases (by omega:c=95\/c≠95) with h|h
 ·subst h;go_enter func224,ntmps224;go_wp2_with fail;refine (KT 95 (by decide) _).mono ?_;rintro e w1 ⟨rfl,rfl⟩;have h3:cO 95=3:=rfl;rw[h3];clear h3;go_wp2;go_ret;exact⟨rfl,rfl⟩
 have e1:((c:Int) != 95)=true:=by simp;omega
 have e2:(c != 95)=true:=by simpa using h
 have H2:=hid e2;clear h e2;go_enter func224,ntmps224;go_wp2_with fail;refine (KT c hc _).mono ?_;rintro e w1 ⟨rfl,rfl⟩;generalize cO c=q at HW⊢;rcases (by omega:q=2\/q=3\/(q≠2/\q≠3)) with h|h|⟨h,h'⟩
 ·subst h;go_wp2;go_ret;exact⟨by rw[HW.out];rfl,rfl⟩
 ·subst h;go_wp2;go_ret;exact⟨by rw[HW.out,H2.out];rfl,rfl⟩
 have HK:Hid (isWord c=false):=by show _=_;rw[HW.out];simp[h,h']
 have e2:((q:Int) == 2)=false:=by simp;omega
 have e3:((q:Int) == 3)=false:=by simp;omega
 clear h h' HW;go_wp2;go_ret;exact⟨by rw[HK.out];rfl,rfl⟩
def yW(c:Nat):Int:=if hv c<16 then ((hv c:Nat):Int) else -1
theorem zor:∀c,c<256->Lib.indexByte (⟨#[48,49,50,51,52,53,54,55,56,57,97,98,99,100,101,102]⟩:ByteArray).data.toList c.toUInt8=yW c:=by decide +kernel
theorem zke(c:Nat)(hc:c<256)(w:World):
  Calls prog 188 #[.string ⟨#[48,49,50,51,52,53,54,55,56,57,97,98,99,100,101,102]⟩,.int .u8 c] w fun e w'=>e=.returned (.int .i64 (yW c))/\w'=w:=by
 refine (Tryz.strings_IndexByte _ c w).mono ?_;rintro e w' ⟨rfl,rfl⟩;exact⟨by rw[<-zor c hc];rfl,rfl⟩
theorem zme(b:UInt8)(w:World):
  Calls prog 188 #[.string ⟨#[48,49,50,51,52,53,54,55,56,57,97,98,99,100,101,102]⟩,.int .u8 b.toNat] w fun e w'=>e=.returned (.int .i64 (yW b.toNat))/\w'=w:=zke b.toNat (toNat_lt b) w
theorem S8(c:Nat)(h:hv c<16):yW c=((hv c:Nat):Int):=by unfold yW;rw[if_pos h]
theorem VD(c:Nat)(h:¬hv c<16):yW c=-1:=by unfold yW;rw[if_neg h]
theorem zkg(l:List Nat)(h:l.length<2):sh l=kc:=by
 match l,h with
 | [],_=>rfl
 | [_],_=>rfl
theorem zmf(s:ByteArray)(h:4<=s.size):(ae s).drop 2=s[2].toNat :: s[3].toNat :: (ae s).drop 4:=by
 rw[Gh s 2 (by omega),Gh s 3 (by omega)]
theorem zpo:∀a:Nat,a<16->∀b:Nat,b<16->bits .or .i64 ((a:Int)*16) (b:Int)=((16*a+b:Nat):Int):=by decide +kernel
theorem RJ(w:World)(n:Nat):Below w.heap.size w (w.drewN n):=⟨rfl,rfl,rfl,le_refl _,fun _ _=>rfl⟩
theorem zos(s:ByteArray)(hs:s.size<=maxLen)(w:World):
  Calls prog 223 #[.string s] w fun e w'=>e=.returned (pB (sh ((ae s).drop 2)))/\Below w.heap.size w w':=by
 unfold maxLen at hs;by_cases h4:4<=s.size
 ·have HN:=hid (zmf s h4);have g2:(2:Int)<(s.size:Int):=by omega
  have g3:(3:Int)<(s.size:Int):=by omega
  go_enter func223,ntmps223;go_wp2_with fail;go_quiet ((go_at_call 188;exact Calls.quiet_of_same (zme _ _)));have HR:Hid (sh (s[2].toNat :: s[3].toNat :: (ae s).drop 4)=if hv s[2].toNat<16/\hv s[3].toNat<16 then (16*hv s[2].toNat+hv s[3].toNat,4,true) else kc):=rfl;have Y2:=S8 s[2].toNat;have Y3:=S8 s[3].toNat;have N2:=VD s[2].toNat;have N3:=VD s[3].toNat;generalize hv s[2].toNat=x at HR Y2 N2;generalize hv s[3].toNat=y at HR Y3 N3;generalize yW s[2].toNat=p at Y2 N2⊢;generalize yW s[3].toNat=q at Y3 N3⊢;by_cases hx:x<16
  ·by_cases hy:y<16
   ·obtain rfl:=Y2 hx;obtain rfl:=Y3 hy;have HZ:Hid (pB (sh ((ae s).drop 2))=.tuple #[.int .u8 ((16*x+y:Nat):Int),.int .i64 4,.bool true]):=by
     show _=_;rw[HN.out,HR.out,if_pos ⟨hx,hy⟩];rfl
    have HO:=zpo x hx y hy;clear Y2 Y3 N2 N3 HR;go_wp2_with fail
    go_ret3
    exact⟨by rw[HZ.out];rfl,RJ _ _⟩
   obtain rfl:=Y2 hx;obtain rfl:=N3 hy;have HZ:Hid (pB (sh ((ae s).drop 2))=.tuple #[.int .u8 0,.int .i64 0,.bool false]):=by
    show _=_;rw[HN.out,HR.out,if_neg (fun h=>hy h.2)];rfl
   clear Y2 Y3 N2 N3 HR;go_wp2_with fail
   go_ret3
   exact⟨by rw[HZ.out];rfl,RJ _ _⟩
  obtain rfl:=N2 hx;have HZ:Hid (pB (sh ((ae s).drop 2))=.tuple #[.int .u8 0,.int .i64 0,.bool false]):=by
   show _=_;rw[HN.out,HR.out,if_neg (fun h=>hx h.1)];rfl
  clear Y2 Y3 N2 N3 HR;go_wp2_with fail
  go_ret3
  exact⟨by rw[HZ.out];rfl,RJ _ _⟩
 have HX:Hid (pB (sh ((ae s).drop 2))=.tuple #[.int .u8 0,.int .i64 0,.bool false]):=by
  show _=_;rw[zkg _ (by rw[List.length_drop,oK];omega)];rfl
 go_enter func223,ntmps223;go_wp2_with fail
 go_ret3
 exact⟨by rw[HX.out];rfl,Below.refl _ _⟩
theorem zkh(s:ByteArray)(h:s.size=0):ae s=[]:=List.eq_nil_of_length_eq_zero (by rw[oK];exact h)
theorem Te(s:ByteArray)(h:0<s.size):ae s=s[0].toNat :: (ae s).drop 1:=Gh s 0 h
theorem Sz(c:Nat)(t:List Nat):rd (c :: t)=if c=92 then zD t else (c,1,true):=rfl
theorem zmg(s:ByteArray)(h:0<s.size)(h0:s[0].toNat≠92):rd (ae s)=(s[0].toNat,1,true):=
 (congrArg rd (Te s h)).trans ((Sz _ _).trans (if_neg h0))
theorem zot(s:ByteArray)(h:0<s.size)(h0:s[0].toNat=92):rd (ae s)=zD ((ae s).drop 1):=
 (congrArg rd (Te s h)).trans ((Sz _ _).trans (if_pos h0))
theorem zpp(s:ByteArray)(h:1<s.size):zD ((ae s).drop 1)=if s[1].toNat=110 then (10,2,true) else if s[1].toNat=116 then (9,2,true) else if s[1].toNat=114 then (13,2,true) else if s[1].toNat=120 then sh ((ae s).drop 2)
   else if ep s[1].toNat && !isWord s[1].toNat then (s[1].toNat,2,true) else kc:=by
 rw[Gh s 1 h];rfl
theorem IT(s:ByteArray)(hs:s.size<=maxLen)(w:World):
  Calls prog 208 #[.string s] w fun e w'=>e=.returned (pB (rd (ae s)))/\Below w.heap.size w w':=by
 have HS:=hid hs;unfold maxLen at hs;rcases Nat.eq_zero_or_pos s.size with hz|hp
 ·have hl:s.toList=[]:=by rw[ByteArray.toList_eq];exact List.eq_nil_of_length_eq_zero (by simpa using hz)
  have iE:(!s.toList.isEmpty)=false:=by rw[hl];rfl
  have HZ:Hid (pB (rd (ae s))=.tuple #[.int .u8 0,.int .i64 0,.bool false]):=by show _=_;rw[zkh s hz];rfl
  clear hz;go_enter func208,ntmps208;go_wp2_with fail
  go_ret3
  exact⟨by rw[HZ.out];rfl,Below.refl _ _⟩
 have hl:s.toList.isEmpty=false:=Ac s hp;have iE:(!s.toList.isEmpty)=true:=by rw[hl];rfl
 by_cases h0:s[0].toNat=92
 ·have e0:((s[0].toNat:Int) != 92)=false:=by simp;omega
  have HB:=hid (zot s hp h0);clear h0;by_cases h1:s.size=1
  ·have e1:((s.size:Int) == 1)=true:=(by simp;omega);have HZ:Hid (pB (rd (ae s))=.tuple #[.int .u8 0,.int .i64 0,.bool false]):=by
    show _=_;rw[HB.out,zmE s 1 (by omega)];rfl
   clear h1;go_enter func208,ntmps208;go_wp2_with fail
   go_ret3
   exact⟨by rw[HZ.out];rfl,Below.refl _ _⟩
  have e1:((s.size:Int) == 1)=false:=by simp;omega
  have g1:1<s.size:=by omega
  have HT:=hid (zpp s g1);have hc:=toNat_lt s[1];clear h1;rcases (by omega:s[1].toNat=110\/s[1].toNat=116\/s[1].toNat=114\/s[1].toNat=120\/(s[1].toNat≠110/\s[1].toNat≠116/\s[1].toNat≠114/\s[1].toNat≠120)) with h|h|h|h|⟨h,h',Tz,h3⟩
  ·have HZ:Hid (pB (rd (ae s))=.tuple #[.int .u8 10,.int .i64 2,.bool true]):=by
    show _=_;rw[HB.out,HT.out,h];rfl
   have f110:((s[1].toNat:Int) == 110)=true:=(by simp;omega);clear h;go_enter func208,ntmps208;go_wp2_with fail
   go_ret3
   exact⟨by rw[HZ.out];rfl,Below.refl _ _⟩
  ·have HZ:Hid (pB (rd (ae s))=.tuple #[.int .u8 9,.int .i64 2,.bool true]):=by
    show _=_;rw[HB.out,HT.out,h];rfl
   have f110:((s[1].toNat:Int) == 110)=false:=(by simp;omega);have f116:((s[1].toNat:Int) == 116)=true:=(by simp;omega);clear h;go_enter func208,ntmps208;go_wp2_with fail
   go_ret3
   exact⟨by rw[HZ.out];rfl,Below.refl _ _⟩
  ·have HZ:Hid (pB (rd (ae s))=.tuple #[.int .u8 13,.int .i64 2,.bool true]):=by
    show _=_;rw[HB.out,HT.out,h];rfl
   have f110:((s[1].toNat:Int) == 110)=false:=(by simp;omega);have f116:((s[1].toNat:Int) == 116)=false:=(by simp;omega);have f114:((s[1].toNat:Int) == 114)=true:=(by simp;omega);clear h;go_enter func208,ntmps208;go_wp2_with fail
   go_ret3
   exact⟨by rw[HZ.out];rfl,Below.refl _ _⟩
  ·have HZ:Hid (pB (rd (ae s))=pB (sh ((ae s).drop 2))):=by
    show _=_;rw[HB.out,HT.out,h];rfl
   have f110:((s[1].toNat:Int) == 110)=false:=(by simp;omega);have f116:((s[1].toNat:Int) == 116)=false:=(by simp;omega);have f114:((s[1].toNat:Int) == 114)=false:=(by simp;omega);have f120:((s[1].toNat:Int) == 120)=true:=(by simp;omega);have HV:Hid (∀r,pB r=.tuple #[.int .u8 ((r.1:Nat):Int),.int .i64 ((r.2.1:Nat):Int),.bool r.2.2]):=(fun _=>rfl);clear h;go_enter func208,ntmps208;go_wp2_with fail;refine (zos s HS.out _).mono ?_;rintro e w1 ⟨rfl,b1⟩;rw[HV.out];go_wp2_with fail
   go_ret3
   exact⟨by rw[HZ.out,HV.out];rfl,b1⟩
  have HR:Hid (rd (ae s)=if ep s[1].toNat && !isWord s[1].toNat then (s[1].toNat,2,true) else kc):=by
   show _=_;rw[HB.out,HT.out,if_neg h,if_neg h',if_neg Tz,if_neg h3]
  have f110:((s[1].toNat:Int) == 110)=false:=by simp;omega
  have f116:((s[1].toNat:Int) == 116)=false:=by simp;omega
  have f114:((s[1].toNat:Int) == 114)=false:=by simp;omega
  have f120:((s[1].toNat:Int) == 120)=false:=by simp;omega
  clear h h' Tz h3;rcases hp:ep s[1].toNat with _|_
  ·have HP:=hid hp;have HZ:Hid (pB (rd (ae s))=.tuple #[.int .u8 0,.int .i64 0,.bool false]):=(by show _=_;rw[HR.out,hp];rfl);clear hp;go_enter func208,ntmps208;go_wp2_with fail;refine (Ix s[1].toNat _).mono ?_;rintro e w1 ⟨rfl,rfl⟩;rw[HP.out];go_wp2_with fail
   go_ret3
   exact⟨by rw[HZ.out];rfl,Below.refl _ _⟩
  rcases hw:isWord s[1].toNat with _|_
  ·have HP:=hid hp;have HW:=hid hw;have HZ:Hid (pB (rd (ae s))=.tuple #[.int .u8 ((s[1].toNat:Nat):Int),.int .i64 2,.bool true]):=(by show _=_;rw[HR.out,hp,hw];rfl);clear hp hw;go_enter func208,ntmps208;go_wp2_with fail;refine (Ix s[1].toNat _).mono ?_;rintro e w1 ⟨rfl,rfl⟩;rw[HP.out];go_wp2_with fail;refine (Ya s[1].toNat hc _).mono ?_;rintro e w1 ⟨rfl,rfl⟩;rw[HW.out];go_wp2_with fail
   go_ret3
   exact⟨by rw[HZ.out];rfl,Below.refl _ _⟩
  have HP:=hid hp;have HW:=hid hw;have HZ:Hid (pB (rd (ae s))=.tuple #[.int .u8 0,.int .i64 0,.bool false]):=by show _=_;rw[HR.out,hp,hw];rfl
  clear hp hw;go_enter func208,ntmps208;go_wp2_with fail;refine (Ix s[1].toNat _).mono ?_;rintro e w1 ⟨rfl,rfl⟩;rw[HP.out];go_wp2_with fail;refine (Ya s[1].toNat hc _).mono ?_;rintro e w1 ⟨rfl,rfl⟩;rw[HW.out];go_wp2_with fail
  go_ret3
  exact⟨by rw[HZ.out];rfl,Below.refl _ _⟩
 have e0:((s[0].toNat:Int) != 92)=true:=by simp;omega
 have HZ:Hid (pB (rd (ae s))=.tuple #[.int .u8 ((s[0].toNat:Nat):Int),.int .i64 1,.bool true]):=by show _=_;rw[zmg s hp h0];rfl
 clear h0;go_enter func208,ntmps208;go_wp2_with fail
 go_ret3
 exact⟨by rw[HZ.out];rfl,Below.refl _ _⟩
end Go.Proofs.YtiijebameffenaaGreat
