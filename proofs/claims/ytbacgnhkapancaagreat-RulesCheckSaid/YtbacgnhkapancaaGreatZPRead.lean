import Derived.Test.YtbacgnhkapancaaGreatZBldB
import Derived.Test.YtbacgnhkapancaaGreatZEscQuote
import Derived.Test.YtbacgnhkapancaaGreatZFirst
import Derived.Lib.IndexAny
set_option linter.all false
set_option maxHeartbeats 2000000
set_option maxRecDepth 100000
open Go.Lib (hid)
namespace Go.Proofs.YtbacgnhkapancaaGreat
open UInt8 (toNat_lt)
open Nat (le_refl)
open Go.RowKit Go.Proofs.Tryz
def dq:ByteArray:=⟨#[47,93,94,45,34]⟩
def mU:ByteArray:=⟨#[47,40,41,91,93,124,42,43,63,46,34,126]⟩
def bW(c:Nat):Bool:=decide (32<=c) && decide (c<=126)
theorem Gk(c:Nat)(w:World):
  Calls prog 140 #[.int .u8 c] w fun e w'=>e=.returned (.bool (bW c))/\w=w':=by
 have HP:Hid (bW c=(decide (32<=c) && decide (c<=126))):=rfl;rcases (by omega:c<32\/(32<=c/\c<=126)\/(32<=c/\126<c)) with h|⟨h,h'⟩|⟨h,h'⟩
 all_goals
  go_enter func140,ntmps140
  go_wp2_with fail
  go_ret
  exact⟨congrArg (fun b=>Ending.returned (.bool b)) (by rw[HP.out,Bool.eq_iff_iff];simp <;> omega),rfl⟩
def ie(s:ByteArray)(c:Nat):Int:=Lib.indexByte s.data.toList c.toUInt8
theorem Td(s:ByteArray)(c:Nat)(hc:c<256):decide (0<=ie s c)=fE s c:=by
 unfold ie;rw[<-Lib.contains_iff_indexByte,Bool.eq_iff_iff];unfold fE;rw[List.contains_iff_mem,List.any_eq_true];constructor
 ·intro h;exact⟨_,h,by simp[Nat.mod_eq_of_lt hc]⟩
 rintro⟨x,hx,e⟩;have e:=eq_of_beq e;rw[show c.toUInt8=x by rw[<-e];simp];exact hx
theorem Nk(s:ByteArray)(c:Nat)(w:World):
  Calls prog 163 #[.string s,.int .u8 c] w fun e w'=>e=.returned (.int .i64 (ie s c))/\w=w':=by
 refine (Tryz.strings_IndexByte s c w).mono ?_;rintro e w' ⟨rfl,rfl⟩;exact⟨rfl,rfl⟩
def hv(c:Nat):Nat:=if 48<=c/\c<=57 then c-48 else if 97<=c/\c<=102 then c-87 else 16
theorem Lz:∀d,d<16->hv (iH d)=d:=by decide
theorem Zq(c:Nat)(h:hv c<16):iH (hv c)=c:=by
 unfold hv at h⊢;unfold iH
 repeat' split at h
 all_goals (repeat' split) <;> omega
def im:Nat × Nat × Bool:=(0,0,false)
def pS:List Nat->Nat × Nat × Bool
 | x :: y :: _=>if hv x<16/\hv y<16 then (16*hv x+hv y,4,true) else im
 | _=>im
def uv:List Nat->Nat × Nat × Bool
 | []=>im
 | d :: u=>if d=110 then (10,2,true) else if d=116 then (9,2,true) else if d=114 then (13,2,true) else if d=120 then pS u
   else if bW d && !isWord d then (d,2,true) else im
def rd:List Nat->Nat × Nat × Bool
 | []=>im
 | c :: t=>if c=92 then uv t else (c,1,true)
def lT(r:Nat × Nat × Bool):Value:=.tuple #[.int .u8 ((r.1:Nat):Int),.int .i64 ((r.2.1:Nat):Int),.bool r.2.2]
theorem AR(a b:Nat)(o:Bool):lT (a,b,o)=.tuple #[.int .u8 (a:Int),.int .i64 (b:Int),.bool o]:=rfl
theorem zqK(l:List Nat):(pS l).1<256/\(pS l).2.1<=4/\((pS l).2.2=true->(pS l).2.1=4/\2<=l.length):=by
 unfold pS;split
 ·split
  ·refine⟨?_,by simp,by simp⟩;simp;omega
  simp[im]
 simp[im]
theorem Sj(l:List Nat):(uv l).1<256/\((uv l).2.2=true->2<=(uv l).2.1/\(uv l).2.1<=l.length+1):=by
 unfold uv;split
 ·simp[im]
 rename_i d u;have h:=zqK u
 repeat' split
 all_goals first
  | simp[im];done
  | (
   refine⟨h.1,fun e=>?_⟩
   have:=h.2.2 e
   simp;omega)
  | (
   rename_i hd
   simp[bW] at hd⊢
   omega)
theorem EI(l:List Nat)(hl:∀n∈l,n<256):(rd l).1<256/\((rd l).2.2=true->1<=(rd l).2.1/\(rd l).2.1<=l.length):=by
 unfold rd;split
 ·simp[im]
 rename_i c t;split
 ·have h:=Sj t;refine⟨h.1,fun e=>?_⟩;have:=h.2 e;simp;omega
 simp;exact hl c (by simp)
theorem zn0(c:Nat)(hc:c<256)(o:Bool)(ho:o=true->bW c=true/\isWord c=false)(r:List Nat):rd (dV c o++r)=(c,(dV c o).length,true):=by
 unfold dV;by_cases h1:c=10
 ·subst h1;rfl
 by_cases h2:c=9
 ·subst h2;rfl
 by_cases h3:c=13
 ·subst h3;rfl
 rw[if_neg h1,if_neg h2,if_neg h3];by_cases h4:c<32\/126<c
 ·rw[if_pos h4];have e1:=Lz (c / 16) (by omega);have e2:=Lz (c % 16) (by omega);have hm:c / 16<16/\c % 16<16:=⟨by omega,by omega⟩
  simp[rd,uv,pS,e1,e2,hm];omega
 rw[if_neg h4];by_cases h5:c=92\/o=true
 ·rw[if_pos h5];have hp:bW c=true/\isWord c=false:=by
   rcases h5 with h5|h5
   ·subst h5;decide
   exact ho h5
  have hx:c≠110/\c≠116/\c≠114/\c≠120:=by
   refine⟨?_,?_,?_,?_⟩ <;> (rintro rfl;revert hp;decide)
  simp[rd,uv,hx,hp]
 rw[if_neg h5];have:c≠92:=fun e=>h5 (Or.inl e)
 simp[rd,this]
theorem Fl(s:ByteArray)(k:Nat)(h:k<s.size):(aa s).drop k=s[k].toNat :: (aa s).drop (k+1):=by
 have hl:k<(aa s).length:=by simpa [aa] using h
 rw[List.drop_eq_getElem_cons hl];simp[aa];rfl
theorem nY(s:ByteArray):(aa s).length=s.size:=by simp[aa]
theorem ZH(s:ByteArray)(k:Nat)(h:s.size<=k):(aa s).drop k=[]:=List.drop_eq_nil_of_le (by rw[nY];exact h)
theorem Eh(s:ByteArray)(a:Nat):aa (s.extract a s.size)=(aa s).drop a:=by
 unfold aa;rw[Lib.extract_to_end,List.map_drop]
def aq(a k:Nat):Nat->Bool:=fun x=>decide (a<=x) && decide (x<a+k)
theorem GP(a:Nat):aq a 0=fun _=>false:=by funext x;simp[aq]
theorem PV(a k:Nat):aq a (k+1)=ins (aq a k) (a+k):=by
 funext x;rw[Bool.eq_iff_iff];simp only[aq,ins,Bool.or_eq_true,Bool.and_eq_true,decide_eq_true_eq,beq_iff_eq];omega
theorem Kl(a c:Nat)(ha:a<256)(hc:c<256)(w:World):
  Calls prog 195 #[.int .u8 a,.int .u8 c] w fun e w'=>e=.returned (.agg #[.int .u64 ((wd (aq a (c+1-a)) 0:Nat):Int),.int .u64 ((wd (aq a (c+1-a)) 1:Nat):Int),.int .u64 ((wd (aq a (c+1-a)) 2:Nat):Int),.int .u64 ((wd (aq a (c+1-a)) 3:Nat):Int)])/\Below w.heap.size w w':=by
 rcases (by omega:c+1<=a\/a<=c) with h|h
 ·go_enter func195,ntmps195;go_wp2_with fail;go_loopw [13] (fun i wr=>i=.int .i64 0/\fK w (aq a 0) wr) (fun _ _=>0)
  ·exact⟨rfl,by rw[GP];exact fK.start w⟩
  obtain⟨rfl,R⟩:=hrel;obtain⟨r0,r1,r2,r3,r4,r5,r6,r7⟩:=bK R.s0;obtain⟨q0,q1,q2,q3,q4,q5,q6,q7⟩:=bK R.s1;go_wp2_with fail;exact bodyPost_ret (v:=(.agg #[.int .u64 ((wd (aq a 0) 0:Nat):Int),.int .u64 ((wd (aq a 0) 1:Nat):Int),.int .u64 ((wd (aq a 0) 2:Nat):Int),.int .u64 ((wd (aq a 0) 3:Nat):Int)])) (by simp[results,results195,go_sem,r0,r1,r2,r3]) rfl ⟨by rw[show c+1-a=0 by omega],p5 R.below (le_refl _) _ _ _ _⟩
 obtain⟨n,hn,cQ⟩:∃n,c+1-a=n/\c+1=a+n:=⟨_,rfl,by omega⟩
 rw[hn];have h1:1<=n:=by omega
 obtain rfl:c=a+n-1:=by omega
 clear hn cQ;have h3:a+n<=256:=by omega
 have AV:((a+n-1:Nat):Int)=(a:Int)+(n:Int)-1:=by omega
 rw[AV];clear AV hc h;go_enter func195,ntmps195;go_wp2_with fail;go_loopw [6,13] (fun _ i wr=>∃k:Nat,i=.int .i64 k/\k<=n/\fK w (aq a k) wr) (fun _ i _=>n-(intOf i).toNat)
 ·exact⟨0,rfl,Nat.zero_le _,by rw[GP];exact fK.start w⟩
 obtain⟨k,rfl,hk,R⟩:=hrel;obtain⟨r0,r1,r2,r3,r4,r5,r6,r7⟩:=bK R.s0;obtain⟨q0,q1,q2,q3,q4,q5,q6,q7⟩:=bK R.s1;by_cases an:k<n
 ·go_wp2_with fail;rw[show (a:Int)+(k:Int)=((a+k:Nat):Int) from by omega];refine (Ye (aq a k) (a+k) (by omega) _).mono ?_;rintro e w1 ⟨rfl,b1⟩;have R1:=R.step b1 (aq a (k+1));rw[PV] at R1;have HR:=hid R1;have hs:=b1.size;have nJ:=R.s1.lt;obtain⟨q0,q1,q2,q3,q4,q5,q6,q7⟩:=bK (R.s1.ab b1);clear R b1 R1;go_wp2;go_roundw
  ·exact⟨k+1,by go_num,by omega,by rw[PV];exact HR.out⟩
  simp[intOf];omega
 obtain rfl:k=n:=by omega
 go_wp2_with fail;exact bodyPost_ret (v:=(.agg #[.int .u64 ((wd (aq a k) 0:Nat):Int),.int .u64 ((wd (aq a k) 1:Nat):Int),.int .u64 ((wd (aq a k) 2:Nat):Int),.int .u64 ((wd (aq a k) 3:Nat):Int)])) (by simp[results,results195,go_sem,r0,r1,r2,r3]) rfl ⟨rfl,p5 R.below (le_refl _) _ _ _ _⟩
abbrev bc:=List Pc × List Nat
def aJ:Nat->Bool:=fun _=>false
def aw(c:Nat):List Nat->Option (List Nat)
 | []=>none
 | x :: r=>if x=c then some r else none
def aI(sp:ByteArray)(s:List Nat):Option (Nat × List Nat):=
 if (rd s).2.2=true/\¬((rd s).2.1=1/\fE sp (rd s).1=true) then some ((rd s).1,s.drop (rd s).2.1) else none
def cy(s:List Nat):Option (Nat × Nat × List Nat):=
 match aI dq s with
 | none=>none
 | some (a,r)=>match aw 45 r with
  | none=>some (a,a,r)
  | some r1=>match aI dq r1 with
   | none=>none
   | some (c,r2)=>if a<=c then some (a,c,r2) else none
def aG:Nat->(Nat->Bool)->List Nat->Option ((Nat->Bool) × List Nat)
 | 0,_,_=>none
 | f+1,q,s=>match aw 93 s with
  | some r=>some (q,r)
  | none=>match cy s with
   | none=>none
   | some (a,c,r)=>aG f (fun x=>q x || aq a (c+1-a) x) r
def dW(s:List Nat):Option ((Nat->Bool) × List Nat):=
 match aw 94 s with
 | some r=>match aG (r.length+1) aJ r with
  | none=>none
  | some (q,r1)=>if eh (fun x=>!q x)=true then none else some (fun x=>!q x,r1)
 | none=>match aG (s.length+1) aJ s with
  | none=>none
  | some (q,r1)=>if eh q=true then none else some (q,r1)
def ey(c:Nat):Option Int:=if c=42 then some 4 else if c=43 then some 5 else if c=63 then some 6 else none
def bp:List Nat->List Pc->bc
 | [],acc=>(acc,[])
 | c :: r,acc=>match ey c with
  | some k=>bp r (acc++[⟨k,aJ⟩])
  | none=>(acc,c :: r)
def ca(atom:bc->Option bc)(s:bc):Option bc:=match atom s with
 | none=>none
 | some x=>some (bp x.2 x.1)
def fZ:List Nat->Bool
 | []=>true
 | c :: _=>c == 124 || c == 41
def aX(atom:bc->Option bc):Nat->bc->Option bc
 | 0,_=>none
 | f+1,s=>if fZ s.2=true then some s else match ca atom s with
  | none=>none
  | some x=>aX atom f (x.1++[⟨2,aJ⟩],x.2)
def cb(atom:bc->Option bc)(s:bc):Option bc:=match ca atom s with
 | none=>none
 | some x=>aX atom (x.2.length+1) x
def aW(atom:bc->Option bc):Nat->bc->Option bc
 | 0,_=>none
 | f+1,s=>match aw 124 s.2 with
  | none=>some s
  | some r=>match cb atom (s.1,r) with
   | none=>none
   | some x=>aW atom f (x.1++[⟨3,aJ⟩],x.2)
def bf(atom:bc->Option bc)(s:bc):Option bc:=match cb atom s with
 | none=>none
 | some x=>aW atom (x.2.length+1) x
def aU(group:bc->Option bc)(s:bc):Option bc:=
 match aw 46 s.2 with
 | some r=>some (s.1++[⟨1,fun _=>true⟩],r)
 | none=>match aw 126 s.2 with
  | some r=>some (s.1++[⟨0,aJ⟩],r)
  | none=>match aw 40 s.2 with
   | some r=>group (s.1,r)
   | none=>match aw 91 s.2 with
    | some r=>match dW r with
     | none=>none
     | some (q,r1)=>some (s.1++[⟨1,q⟩],r1)
    | none=>match aI mU s.2 with
     | none=>none
     | some (c,r)=>some (s.1++[⟨1,eE (fun _=>c) 1⟩],r)
def ea(atom:bc->Option bc)(s:bc):Option bc:=match bf atom s with
 | none=>none
 | some x=>match aw 41 x.2 with
  | none=>none
  | some r=>some (x.1,r)
def dw:Nat->bc->Option bc
 | 0=>aU fun _=>none
 | D+1=>aU (ea (dw D))
def eO(s:List Nat):Option (List Pc):=match bf (dw 99) ([],s) with
 | some (l,[])=>some l
 | _=>none
def mh(g:bc->Option bc):Prop:=∀s s',g s=some s'->s'.2.length<s.2.length/\s'.1.length+2*s'.2.length<s.1.length+2*s.2.length
def Le(s' s:bc):Prop:=s'.2.length<=s.2.length/\s'.1.length+2*s'.2.length<=s.1.length+2*s.2.length
theorem uB{c:Nat}{s r:List Nat}(h:aw c s=some r):s=c :: r:=by
 cases s with
 | nil=>simp[aw] at h
 | cons x t=>
  simp only[aw] at h;split at h
  ·simp at h;subst h;rename_i e;rw[e]
  simp at h
theorem zpA(s:List Nat):(rd s).2.2=true->1<=(rd s).2.1/\1<=s.length:=by
 cases s with
 | nil=>simp[rd,im]
 | cons c t=>
  intro h;refine⟨?_,by simp⟩;unfold rd at h⊢;simp only at h⊢;split at h
  ·rename_i e;rw[if_pos e];have:=(Sj t).2 h;omega
  rename_i e;rw[if_neg e];simp
theorem K9{sp:ByteArray}{s:List Nat}{c:Nat}{r:List Nat}(h:aI sp s=some (c,r)):r.length<s.length:=by
 unfold aI at h;split at h
 ·rename_i e;have:=zpA s e.1;simp at h;rw[<-h.2];simp;omega
 simp at h
theorem MN{s:List Nat}{a c:Nat}{r:List Nat}(h:cy s=some (a,c,r)):r.length<s.length/\a<=c:=by
 unfold cy at h;rcases h1:aI dq s with _|⟨a1,r1⟩
 ·simp[h1] at h
 rw[h1] at h;have l1:=K9 h1;simp only at h;rcases h2:aw 45 r1 with _|r2
 ·simp[h2] at h;obtain⟨rfl,rfl,rfl⟩:=h;exact⟨l1,le_refl _⟩
 rw[h2] at h;have l2:=uB h2;simp only at h;rcases h3:aI dq r2 with _|⟨c1,r3⟩
 ·simp[h3] at h
 rw[h3] at h;have l3:=K9 h3;simp only at h;split at h
 ·rename_i e;simp at h;obtain⟨rfl,rfl,rfl⟩:=h;rw[l2] at l1;simp at l1;exact⟨by omega,e⟩
 simp at h
theorem Tx(f:Nat)(q:Nat->Bool)(s:List Nat)(q':Nat->Bool)(r:List Nat)(h:aG f q s=some (q',r)):r.length<s.length:=by
 induction f generalizing q s with
 | zero=>simp[aG] at h
 | succ f ih=>
  unfold aG at h;rcases h1:aw 93 s with _|r1
  ·rw[h1] at h;simp only at h;rcases h2:cy s with _|⟨a,c,r2⟩
   ·simp[h2] at h
   rw[h2] at h;simp only at h;have:=ih _ _ h;have:=(MN h2).1;omega
  rw[h1] at h;have:=uB h1;simp at h;rw[this,<-h.2];simp
theorem zgK(f g:Nat)(q:Nat->Bool)(s:List Nat)(hf:s.length<f)(hg:s.length<g):aG f q s=aG g q s:=by
 induction f generalizing g q s with
 | zero=>omega
 | succ f ih=>
  match g,hg with
  | g+1,hg=>
   unfold aG;rcases h1:aw 93 s with _|r1
   ·rcases h2:cy s with _|⟨a,c,r2⟩
    ·rfl
    have:=(MN h2).1;exact ih g _ r2 (by omega) (by omega)
   rfl
theorem zlz{s:List Nat}{q:Nat->Bool}{r:List Nat}(h:dW s=some (q,r)):r.length<s.length:=by
 unfold dW at h;rcases h1:aw 94 s with _|r1
 ·rw[h1] at h;simp only at h;rcases h2:aG (s.length+1) aJ s with _|⟨q2,r2⟩
  ·simp[h2] at h
  rw[h2] at h;have:=Tx _ _ _ _ _ h2;simp only at h;split at h
  ·simp at h
  simp at h;rw[<-h.2];exact this
 rw[h1] at h;have e:=uB h1;simp only at h;rcases h2:aG (r1.length+1) aJ r1 with _|⟨q2,r2⟩
 ·simp[h2] at h
 rw[h2] at h;have:=Tx _ _ _ _ _ h2;simp only at h;split at h
 ·simp at h
 simp at h;rw[e,<-h.2];simp;omega
theorem zjQ(s:List Nat)(acc:List Pc):Le (bp s acc) (acc,s):=by
 induction s generalizing acc with
 | nil=>exact⟨le_refl _,le_refl _⟩
 | cons c r ih=>
  unfold bp;rcases ey c with _|k
  ·exact⟨le_refl _,le_refl _⟩
  obtain⟨h1,h2⟩:=ih (acc++[⟨k,aJ⟩]);simp at h1 h2;exact⟨by simp;omega,by simp;omega⟩
theorem Du{atom:bc->Option bc}(hd:mh atom):mh (ca atom):=by
 intro s s' h;unfold ca at h;rcases h1:atom s with _|x
 ·simp[h1] at h
 rw[h1] at h;simp at h;obtain⟨h2,h3⟩:=hd s x h1;obtain⟨h4,h5⟩:=zjQ x.2 x.1;rw[h] at h4 h5;simp at h4 h5;exact⟨by omega,by omega⟩
theorem zjR{atom:bc->Option bc}(hd:mh atom)(f:Nat)(s s':bc)(h:aX atom f s=some s'):Le s' s:=by
 induction f generalizing s with
 | zero=>simp[aX] at h
 | succ f ih=>
  unfold aX at h;split at h
  ·simp at h;subst h;exact⟨le_refl _,le_refl _⟩
  rcases h1:ca atom s with _|x
  ·simp[h1] at h
  rw[h1] at h;obtain⟨h2,h3⟩:=Du hd s x h1;obtain⟨h4,h5⟩:=ih _ h;simp at h4 h5;exact⟨by omega,by omega⟩
theorem zgL{atom:bc->Option bc}(hd:mh atom)(f g:Nat)(s:bc)(hf:s.2.length<f)(hg:s.2.length<g):aX atom f s=aX atom g s:=by
 induction f generalizing g s with
 | zero=>omega
 | succ f ih=>
  match g,hg with
  | g+1,hg=>
   unfold aX;split
   ·rfl
   rcases h1:ca atom s with _|x
   ·rfl
   have:=(Du hd s x h1).1;exact ih g _ (by simp;omega) (by simp;omega)
theorem Ch{atom:bc->Option bc}(hd:mh atom):mh (cb atom):=by
 intro s s' h;unfold cb at h;rcases h1:ca atom s with _|x
 ·simp[h1] at h
 rw[h1] at h;obtain⟨h2,h3⟩:=Du hd s x h1;obtain⟨h4,h5⟩:=zjR hd _ _ _ h;exact⟨by omega,by omega⟩
theorem zjS{atom:bc->Option bc}(hd:mh atom)(f:Nat)(s s':bc)(h:aW atom f s=some s'):Le s' s:=by
 induction f generalizing s with
 | zero=>simp[aW] at h
 | succ f ih=>
  unfold aW at h;rcases h0:aw 124 s.2 with _|r
  ·rw[h0] at h;simp at h;subst h;exact⟨le_refl _,le_refl _⟩
  rw[h0] at h;have e:=uB h0;simp only at h;rcases h1:cb atom (s.1,r) with _|x
  ·simp[h1] at h
  rw[h1] at h;obtain⟨h2,h3⟩:=Ch hd _ x h1;obtain⟨h4,h5⟩:=ih _ h;simp at h2 h3 h4 h5;exact⟨by rw[e];simp;omega,by rw[e];simp;omega⟩
theorem zgM{atom:bc->Option bc}(hd:mh atom)(f g:Nat)(s:bc)(hf:s.2.length<f)(hg:s.2.length<g):aW atom f s=aW atom g s:=by
 induction f generalizing g s with
 | zero=>omega
 | succ f ih=>
  match g,hg with
  | g+1,hg=>
   unfold aW;rcases h0:aw 124 s.2 with _|r
   ·rfl
   have e:=uB h0;simp only;rcases h1:cb atom (s.1,r) with _|x
   ·rfl
   have:=(Ch hd _ x h1).1;simp at this;rw[e] at hf hg;simp at hf hg;exact ih g _ (by simp;omega) (by simp;omega)
theorem QT{atom:bc->Option bc}(hd:mh atom):mh (bf atom):=by
 intro s s' h;unfold bf at h;rcases h1:cb atom s with _|x
 ·simp[h1] at h
 rw[h1] at h;obtain⟨h2,h3⟩:=Ch hd s x h1;obtain⟨h4,h5⟩:=zjS hd _ _ _ h;exact⟨by omega,by omega⟩
theorem zhN{atom:bc->Option bc}(hd:mh atom):mh (ea atom):=by
 intro s s' h;unfold ea at h;rcases h1:bf atom s with _|x
 ·simp[h1] at h
 rw[h1] at h;simp only at h;rcases h2:aw 41 x.2 with _|r
 ·simp[h2] at h
 rw[h2] at h;have e:=uB h2;simp at h;subst h;obtain⟨h3,h4⟩:=QT hd s x h1;rw[e] at h3 h4;simp at h3 h4;exact⟨by simp;omega,by simp;omega⟩
theorem XV{group:bc->Option bc}(hd:mh group):mh (aU group):=by
 intro s s' h;unfold aU at h;rcases h1:aw 46 s.2 with _|r
 ·rw[h1] at h;simp only at h;rcases h2:aw 126 s.2 with _|r
  ·rw[h2] at h;simp only at h;rcases h3:aw 40 s.2 with _|r
   ·rw[h3] at h;simp only at h;rcases h4:aw 91 s.2 with _|r
    ·rw[h4] at h;simp only at h;rcases h5:aI mU s.2 with _|⟨c,r⟩
     ·simp[h5] at h
     rw[h5] at h;have:=K9 h5;simp at h;subst h;exact⟨by simp;omega,by simp;omega⟩
    rw[h4] at h;have e:=uB h4;simp only at h;rcases h5:dW r with _|⟨q,r1⟩
    ·simp[h5] at h
    rw[h5] at h;have:=zlz h5;simp at h;subst h;exact⟨by rw[e];simp;omega,by rw[e];simp;omega⟩
   rw[h3] at h;have e:=uB h3;obtain⟨h4,h5⟩:=hd _ _ h;simp at h4 h5;exact⟨by rw[e];simp;omega,by rw[e];simp;omega⟩
  rw[h2] at h;have e:=uB h2;simp at h;subst h;exact⟨by rw[e];simp,by rw[e];simp;omega⟩
 rw[h1] at h;have e:=uB h1;simp at h;subst h;exact⟨by rw[e];simp,by rw[e];simp;omega⟩
theorem yH(D:Nat):mh (dw D):=by
 induction D with
 | zero=>exact XV (fun s s' h=>by simp at h)
 | succ D ih=>exact XV (zhN ih)
theorem IA(c:Nat)(h:c≠32)(h1:c≠9)(h2:c≠10)(h3:c≠13):bP c=if gp c then 2 else if isWord c || c == 95 then 3 else if 32<c/\c<127 then 4 else 0:=by
 unfold bP;rw[if_neg (by simp[qI,h,h1,h2,h3])]
theorem zjL(c:Nat)(h:48<=c)(h':c<=57):bP c=2:=by
 rw[IA c (by omega) (by omega) (by omega) (by omega),if_pos (by simp[gp,h,h'])]
theorem zjM(c:Nat)(h:65<=c)(h':c<=90):bP c=3:=by
 rw[IA c (by omega) (by omega) (by omega) (by omega),if_neg (by simp[gp];omega),if_pos (by simp[isWord,gp];omega)]
theorem zjN(c:Nat)(h:97<=c)(h':c<=122):bP c=3:=by
 rw[IA c (by omega) (by omega) (by omega) (by omega),if_neg (by simp[gp];omega),if_pos (by simp[isWord,gp];omega)]
theorem zhJ(c:Nat)(h:32<c)(h':c<127)(h1:c<48\/57<c)(h2:c<65\/90<c)(h3:c<97\/122<c)(h4:c≠95):bP c=4:=by
 rw[IA c (by omega) (by omega) (by omega) (by omega),if_neg (by simp[gp];omega),if_neg (by simp[isWord,gp];omega),if_pos ⟨h,h'⟩]
theorem zhK(c:Nat)(h:c<32\/126<c)(h1:c≠9)(h2:c≠10)(h3:c≠13):bP c=0:=by
 rw[IA c (by omega) (by omega) (by omega) (by omega),if_neg (by simp[gp];omega),if_neg (by simp[isWord,gp];omega),if_neg (by omega)]
theorem MV(c:Nat)(hc:c<256)(w:World):
  Calls prog 107 #[.int .u8 c] w fun e w'=>e=.returned (.int .i64 ((bP c:Nat):Int))/\w=w':=by
 have hk:(c=32\/c=9\/c=10\/c=13)\/(48<=c/\c<=57)\/(65<=c/\c<=90)\/c=95\/(97<=c/\c<=122)\/((32<c/\c<127)/\(c<48\/57<c)/\(c<65\/90<c)/\(c<97\/122<c)/\c≠95)\/((c<32\/126<c)/\c≠9/\c≠10/\c≠13):=by omega
 rcases hk with h|⟨h,h'⟩|⟨h,h'⟩|h|⟨h,h'⟩|⟨⟨h,h'⟩,h1,h2,h3,h4⟩|⟨h,h1,h2,h3⟩
 ·rcases h with h|h|h|h <;> subst h
  all_goals
   go_enter func107,ntmps107
   go_wp2_with fail
   go_ret
   exact⟨rfl,rfl⟩
 ·have HC:=hid (zjL c h h');have e1:((c:Int) == 32)=false:=by simp;omega
  have e2:((c:Int) == 9)=false:=by simp;omega
  have e3:((c:Int) == 10)=false:=by simp;omega
  have e4:((c:Int) == 13)=false:=by simp;omega
  go_enter func107,ntmps107;go_wp2;go_ret;exact⟨by rw[HC.out];rfl,rfl⟩
 ·have HC:=hid (zjM c h h');have e1:((c:Int) == 32)=false:=by simp;omega
  have e2:((c:Int) == 9)=false:=by simp;omega
  have e3:((c:Int) == 10)=false:=by simp;omega
  have e4:((c:Int) == 13)=false:=by simp;omega
  go_enter func107,ntmps107;go_wp2;go_ret;exact⟨by rw[HC.out];rfl,rfl⟩
 ·subst h;go_enter func107,ntmps107;go_wp2;go_ret;exact⟨rfl,rfl⟩
 ·have HC:=hid (zjN c h h');have e1:((c:Int) == 32)=false:=by simp;omega
  have e2:((c:Int) == 9)=false:=by simp;omega
  have e3:((c:Int) == 10)=false:=by simp;omega
  have e4:((c:Int) == 13)=false:=by simp;omega
  go_enter func107,ntmps107;go_wp2;go_ret;exact⟨by rw[HC.out];rfl,rfl⟩
 ·have HC:=hid (zhJ c h h' h1 h2 h3 h4);have e1:((c:Int) == 32)=false:=by simp;omega
  have e2:((c:Int) == 9)=false:=by simp;omega
  have e3:((c:Int) == 10)=false:=by simp;omega
  have e4:((c:Int) == 13)=false:=by simp;omega
  have e5:((c:Int) == 95)=false:=by simp;omega
  have HP:Hid (bW c=true):=by show _=_;unfold bW;simp;omega
  clear h4;rcases h1 with h1|h1 <;> rcases h2 with h2|h2 <;> rcases h3 with h3|h3
  all_goals first
   | (exfalso;omega)
   | (
    go_enter func107,ntmps107
    go_wp2_with fail
    refine (Gk c _).mono ?_
    rintro e w1 ⟨rfl,rfl⟩
    rw[HP.out]
    go_wp2_with fail
    go_ret
    exact⟨by rw[HC.out];rfl,rfl⟩)
 have HC:=hid (zhK c h h1 h2 h3);have e1:((c:Int) == 32)=false:=by simp;omega
 have e2:((c:Int) == 9)=false:=by simp;omega
 have e3:((c:Int) == 10)=false:=by simp;omega
 have e4:((c:Int) == 13)=false:=by simp;omega
 have e5:((c:Int) == 95)=false:=by simp;omega
 have HP:Hid (bW c=false):=by show _=_;unfold bW;simp;omega
 clear h1 h2 h3;rcases h with h|h
 all_goals
  go_enter func107,ntmps107
  go_wp2_with fail
  refine (Gk c _).mono ?_
  rintro e w1 ⟨rfl,rfl⟩
  rw[HP.out]
  go_wp2_with fail
  go_ret
  exact⟨by rw[HC.out];rfl,rfl⟩
theorem znf(s:ByteArray)(w:World)(hs:s.size<=maxLen):
  Calls prog 74 #[.string s] w fun e w'=>e=.returned (.bool (dI s))/\w=w':=by
 unfold maxLen at hs;have HT:Hid (dI s=(dR s s.size && decide (1<=s.size) && decide (s.size<=40))):=rfl;rcases (by omega:s.size=0\/(1<=s.size/\s.size<=40)\/(1<=s.size/\40<s.size)) with h|⟨h,h'⟩|⟨h,h'⟩
 ·have hl:s.toList=[]:=by rw[ByteArray.toList_eq];exact List.eq_nil_of_length_eq_zero (by simpa using h)
  have fY:(!s.toList.isEmpty)=false:=by rw[hl];rfl
  have HK:Hid (dI s=false):=by show _=_;rw[HT.out,h];simp
  clear h;go_enter func74,ntmps74;go_wp2;go_ret;exact⟨by rw[HK.out];rfl,rfl⟩
 ·have hl:s.toList.isEmpty=false:=yi s (by omega);have fY:(!s.toList.isEmpty)=true:=by rw[hl];rfl
  have h0:0<s.size:=h;have hb:=toNat_lt s[0];have HN:=hid (Ql s 0 h);have HS:=hid (fun h=>Ti s 1 s.size (by omega) h);have HA:Hid (nameAt 0 s[0].toNat=(bP s[0].toNat == 3 || (bP s[0].toNat == 2 && decide (0≠0)))):=rfl;go_enter func74,ntmps74;go_wp2_with fail;refine (MV s[0].toNat hb _).mono ?_;rintro e w1 ⟨rfl,rfl⟩;obtain⟨q,NQ⟩:∃q,q=bP s[0].toNat:=⟨_,rfl⟩
  rw[<-NQ] at HA⊢;have HQ:=hid NQ;clear NQ;by_cases hq:q=3
  ·subst hq;go_wp2_with fail
   go_loop [20] (fun i=>∃k:Nat,k<=s.size/\i=.int .i64 k/\Hid (dR s k=true)) (fun i=>s.size-(intOf i).toNat)
   ·exact⟨0,Nat.zero_le _,rfl,by simp[Hid,dR]⟩
   clear HN HS;obtain⟨k,hk,rfl,HF⟩:=hrel;by_cases an:k<s.size
   ·have HN:=hid (Ql s k an);have HS:=hid (fun h=>Ti s (k+1) s.size an h);have HB:Hid (nameAt k s[k].toNat=(bP s[k].toNat == 3 || (bP s[k].toNat == 2 && decide (k≠0)))):=rfl;have hb:=toNat_lt s[k];go_wp2_with fail;refine (MV s[k].toNat hb _).mono ?_;rintro e w1 ⟨rfl,rfl⟩;have HZ:Hid (k=0->bP s[k].toNat=3):=by
     show _->_;intro e;subst e;exact HQ.out.symm
    generalize bP s[k].toNat=r at HB HZ⊢;rcases (by omega:r=3\/r=2\/(r≠3/\r≠2)) with h|h|⟨h,h'⟩
    ·subst h;have HK:Hid (dR s (k+1)=true):=(by show _=_;rw[HN.out,HF.out,HB.out];rfl);clear HN HS HB;go_wp2_with fail;go_round
     ·exact⟨k+1,by omega,by go_num,HK⟩
     simp[intOf];omega
    ·subst h;have oU:k≠0:=(fun e=>by have:=HZ.out e;omega);have HK:Hid (dR s (k+1)=true):=(by show _=_;rw[HN.out,HF.out,HB.out];simp;omega);clear HN HS HB oU;go_wp2_with fail;go_round
     ·exact⟨k+1,by omega,by go_num,HK⟩
     simp[intOf];omega
    have HK:Hid (dI s=false):=(by show _=_;rw[HT.out,HS.out (by rw[HN.out,HF.out,HB.out];simp[h,h'])];rfl);have e3:((r:Int) != 3)=true:=(by simp;omega);have e2:((r:Int) != 2)=true:=(by simp;omega);clear HN HS HB h h';go_wp2;go_ret;exact⟨by rw[HK.out];rfl,rfl⟩
   obtain rfl:k=s.size:=(by omega);have HK:Hid (dI s=true):=(by show _=_;rw[HT.out,HF.out];simp[h];omega);go_wp2;go_ret;exact⟨by rw[HK.out];rfl,rfl⟩
  have HK:Hid (dI s=false):=by show _=_;rw[HT.out,HS.out (by rw[HN.out,HA.out];simp[hq])];rfl
  have e3:((q:Int) != 3)=true:=by simp;omega
  clear HN HS HA hq;go_wp2;go_ret;exact⟨by rw[HK.out];rfl,rfl⟩
 have hl:s.toList.isEmpty=false:=yi s (by omega);have fY:(!s.toList.isEmpty)=true:=by rw[hl];rfl
 have HK:Hid (dI s=false):=by show _=_;rw[HT.out];simp;omega
 go_enter func74,ntmps74;go_wp2;go_ret;exact⟨by rw[HK.out];rfl,rfl⟩
theorem zhL:∀c,c<256->(isWord c=(bP c == 2 || (bP c == 3 && c != 95))):=by decide +kernel
theorem X5(c:Nat)(hc:c<256)(w:World):
  Calls prog 197 #[.int .u8 c] w fun e w'=>e=.returned (.bool (isWord c))/\w=w':=by
 have HW:=hid (zhL c hc);rcases (by omega:c=95\/c≠95) with h|h
 ·subst h;go_enter func197,ntmps197;go_wp2_with fail;refine (MV 95 (by decide) _).mono ?_;rintro e w1 ⟨rfl,rfl⟩;have h3:bP 95=3:=rfl;rw[h3];clear h3;go_wp2;go_ret;exact⟨rfl,rfl⟩
 have e1:((c:Int) != 95)=true:=by simp;omega
 have e2:(c != 95)=true:=by simpa using h
 have H2:=hid e2;clear h e2;go_enter func197,ntmps197;go_wp2_with fail;refine (MV c hc _).mono ?_;rintro e w1 ⟨rfl,rfl⟩;generalize bP c=q at HW⊢;rcases (by omega:q=2\/q=3\/(q≠2/\q≠3)) with h|h|⟨h,h'⟩
 ·subst h;go_wp2;go_ret;exact⟨by rw[HW.out];rfl,rfl⟩
 ·subst h;go_wp2;go_ret;exact⟨by rw[HW.out,H2.out];rfl,rfl⟩
 have HK:Hid (isWord c=false):=by show _=_;rw[HW.out];simp[h,h']
 have e2:((q:Int) == 2)=false:=by simp;omega
 have e3:((q:Int) == 3)=false:=by simp;omega
 clear h h' HW;go_wp2;go_ret;exact⟨by rw[HK.out];rfl,rfl⟩
def zJ(c:Nat):Int:=if hv c<16 then ((hv c:Nat):Int) else -1
theorem zpy:∀c,c<256->Lib.indexByte (⟨#[48,49,50,51,52,53,54,55,56,57,97,98,99,100,101,102]⟩:ByteArray).data.toList c.toUInt8=zJ c:=by decide +kernel
theorem zlr(c:Nat)(hc:c<256)(w:World):
  Calls prog 163 #[.string ⟨#[48,49,50,51,52,53,54,55,56,57,97,98,99,100,101,102]⟩,.int .u8 c] w fun e w'=>e=.returned (.int .i64 (zJ c))/\w'=w:=by
 refine (Tryz.strings_IndexByte _ c w).mono ?_;rintro e w' ⟨rfl,rfl⟩;exact⟨by rw[<-zpy c hc];rfl,rfl⟩
theorem zng(b:UInt8)(w:World):
  Calls prog 163 #[.string ⟨#[48,49,50,51,52,53,54,55,56,57,97,98,99,100,101,102]⟩,.int .u8 b.toNat] w fun e w'=>e=.returned (.int .i64 (zJ b.toNat))/\w'=w:=zlr b.toNat (toNat_lt b) w
theorem Vi(c:Nat)(h:hv c<16):zJ c=((hv c:Nat):Int):=by unfold zJ;rw[if_pos h]
theorem Zm(c:Nat)(h:¬hv c<16):zJ c=-1:=by unfold zJ;rw[if_neg h]
theorem zlt(l:List Nat)(h:l.length<2):pS l=im:=by
 match l,h with
 | [],_=>rfl
 | [_],_=>rfl
theorem znh(s:ByteArray)(h:4<=s.size):(aa s).drop 2=s[2].toNat :: s[3].toNat :: (aa s).drop 4:=by
 rw[Fl s 2 (by omega),Fl s 3 (by omega)]
theorem zqp:∀a:Nat,a<16->∀b:Nat,b<16->bits .or .i64 ((a:Int)*16) (b:Int)=((16*a+b:Nat):Int):=by decide +kernel
theorem uc(w:World)(n:Nat):Below w.heap.size w (w.drewN n):=⟨rfl,rfl,rfl,le_refl _,fun _ _=>rfl⟩
theorem zpz(s:ByteArray)(hs:s.size<=maxLen)(w:World):
  Calls prog 196 #[.string s] w fun e w'=>e=.returned (lT (pS ((aa s).drop 2)))/\Below w.heap.size w w':=by
 unfold maxLen at hs;by_cases h4:4<=s.size
 ·have HN:=hid (znh s h4);have g2:(2:Int)<(s.size:Int):=by omega
  have g3:(3:Int)<(s.size:Int):=by omega
  go_enter func196,ntmps196;go_wp2_with fail;go_quiet ((go_at_call 163;exact Calls.quiet_of_same (zng _ _)));have HR:Hid (pS (s[2].toNat :: s[3].toNat :: (aa s).drop 4)=if hv s[2].toNat<16/\hv s[3].toNat<16 then (16*hv s[2].toNat+hv s[3].toNat,4,true) else im):=rfl;have Y2:=Vi s[2].toNat;have Y3:=Vi s[3].toNat;have N2:=Zm s[2].toNat;have N3:=Zm s[3].toNat;generalize hv s[2].toNat=x at HR Y2 N2;generalize hv s[3].toNat=y at HR Y3 N3;generalize zJ s[2].toNat=p at Y2 N2⊢;generalize zJ s[3].toNat=q at Y3 N3⊢;by_cases hx:x<16
  ·by_cases hy:y<16
   ·obtain rfl:=Y2 hx;obtain rfl:=Y3 hy;have HZ:Hid (lT (pS ((aa s).drop 2))=.tuple #[.int .u8 ((16*x+y:Nat):Int),.int .i64 4,.bool true]):=by
     show _=_;rw[HN.out,HR.out,if_pos ⟨hx,hy⟩];rfl
    have HO:=zqp x hx y hy;clear Y2 Y3 N2 N3 HR;go_wp2_with fail
    go_ret3
    exact⟨by rw[HZ.out];rfl,uc _ _⟩
   obtain rfl:=Y2 hx;obtain rfl:=N3 hy;have HZ:Hid (lT (pS ((aa s).drop 2))=.tuple #[.int .u8 0,.int .i64 0,.bool false]):=by
    show _=_;rw[HN.out,HR.out,if_neg (fun h=>hy h.2)];rfl
   clear Y2 Y3 N2 N3 HR;go_wp2_with fail
   go_ret3
   exact⟨by rw[HZ.out];rfl,uc _ _⟩
  obtain rfl:=N2 hx;have HZ:Hid (lT (pS ((aa s).drop 2))=.tuple #[.int .u8 0,.int .i64 0,.bool false]):=by
   show _=_;rw[HN.out,HR.out,if_neg (fun h=>hx h.1)];rfl
  clear Y2 Y3 N2 N3 HR;go_wp2_with fail
  go_ret3
  exact⟨by rw[HZ.out];rfl,uc _ _⟩
 have HX:Hid (lT (pS ((aa s).drop 2))=.tuple #[.int .u8 0,.int .i64 0,.bool false]):=by
  show _=_;rw[zlt _ (by rw[List.length_drop,nY];omega)];rfl
 go_enter func196,ntmps196;go_wp2_with fail
 go_ret3
 exact⟨by rw[HX.out];rfl,Below.refl _ _⟩
theorem zlu(s:ByteArray)(h:s.size=0):aa s=[]:=List.eq_nil_of_length_eq_zero (by rw[nY];exact h)
theorem Pk(s:ByteArray)(h:0<s.size):aa s=s[0].toNat :: (aa s).drop 1:=Fl s 0 h
theorem Lh(c:Nat)(t:List Nat):rd (c :: t)=if c=92 then uv t else (c,1,true):=rfl
theorem ZB(s:ByteArray)(h:0<s.size)(h0:s[0].toNat≠92):rd (aa s)=(s[0].toNat,1,true):=
 (congrArg rd (Pk s h)).trans ((Lh _ _).trans (if_neg h0))
theorem UG(s:ByteArray)(h:0<s.size)(h0:s[0].toNat=92):rd (aa s)=uv ((aa s).drop 1):=
 (congrArg rd (Pk s h)).trans ((Lh _ _).trans (if_pos h0))
theorem zqq(s:ByteArray)(h:1<s.size):uv ((aa s).drop 1)=if s[1].toNat=110 then (10,2,true) else if s[1].toNat=116 then (9,2,true) else if s[1].toNat=114 then (13,2,true) else if s[1].toNat=120 then pS ((aa s).drop 2)
   else if bW s[1].toNat && !isWord s[1].toNat then (s[1].toNat,2,true) else im:=by
 rw[Fl s 1 h];rfl
theorem IZ(s:ByteArray)(hs:s.size<=maxLen)(w:World):
  Calls prog 187 #[.string s] w fun e w'=>e=.returned (lT (rd (aa s)))/\Below w.heap.size w w':=by
 have HS:=hid hs;unfold maxLen at hs;rcases Nat.eq_zero_or_pos s.size with hz|hp
 ·have hl:s.toList=[]:=by rw[ByteArray.toList_eq];exact List.eq_nil_of_length_eq_zero (by simpa using hz)
  have fY:(!s.toList.isEmpty)=false:=by rw[hl];rfl
  have HZ:Hid (lT (rd (aa s))=.tuple #[.int .u8 0,.int .i64 0,.bool false]):=by show _=_;rw[zlu s hz];rfl
  clear hz;go_enter func187,ntmps187;go_wp2_with fail
  go_ret3
  exact⟨by rw[HZ.out];rfl,Below.refl _ _⟩
 have hl:s.toList.isEmpty=false:=yi s hp;have fY:(!s.toList.isEmpty)=true:=by rw[hl];rfl
 by_cases h0:s[0].toNat=92
 ·have e0:((s[0].toNat:Int) != 92)=false:=by simp;omega
  have HB:=hid (UG s hp h0);clear h0;by_cases h1:s.size=1
  ·have e1:((s.size:Int) == 1)=true:=(by simp;omega);have HZ:Hid (lT (rd (aa s))=.tuple #[.int .u8 0,.int .i64 0,.bool false]):=by
    show _=_;rw[HB.out,ZH s 1 (by omega)];rfl
   clear h1;go_enter func187,ntmps187;go_wp2_with fail
   go_ret3
   exact⟨by rw[HZ.out];rfl,Below.refl _ _⟩
  have e1:((s.size:Int) == 1)=false:=by simp;omega
  have g1:1<s.size:=by omega
  have HT:=hid (zqq s g1);have hc:=toNat_lt s[1];clear h1;rcases (by omega:s[1].toNat=110\/s[1].toNat=116\/s[1].toNat=114\/s[1].toNat=120\/(s[1].toNat≠110/\s[1].toNat≠116/\s[1].toNat≠114/\s[1].toNat≠120)) with h|h|h|h|⟨h,h',KP,h3⟩
  ·have HZ:Hid (lT (rd (aa s))=.tuple #[.int .u8 10,.int .i64 2,.bool true]):=by
    show _=_;rw[HB.out,HT.out,h];rfl
   have f110:((s[1].toNat:Int) == 110)=true:=(by simp;omega);clear h;go_enter func187,ntmps187;go_wp2_with fail
   go_ret3
   exact⟨by rw[HZ.out];rfl,Below.refl _ _⟩
  ·have HZ:Hid (lT (rd (aa s))=.tuple #[.int .u8 9,.int .i64 2,.bool true]):=by
    show _=_;rw[HB.out,HT.out,h];rfl
   have f110:((s[1].toNat:Int) == 110)=false:=(by simp;omega);have f116:((s[1].toNat:Int) == 116)=true:=(by simp;omega);clear h;go_enter func187,ntmps187;go_wp2_with fail
   go_ret3
   exact⟨by rw[HZ.out];rfl,Below.refl _ _⟩
  ·have HZ:Hid (lT (rd (aa s))=.tuple #[.int .u8 13,.int .i64 2,.bool true]):=by
    show _=_;rw[HB.out,HT.out,h];rfl
   have f110:((s[1].toNat:Int) == 110)=false:=(by simp;omega);have f116:((s[1].toNat:Int) == 116)=false:=(by simp;omega);have f114:((s[1].toNat:Int) == 114)=true:=(by simp;omega);clear h;go_enter func187,ntmps187;go_wp2_with fail
   go_ret3
   exact⟨by rw[HZ.out];rfl,Below.refl _ _⟩
  ·have HZ:Hid (lT (rd (aa s))=lT (pS ((aa s).drop 2))):=by
    show _=_;rw[HB.out,HT.out,h];rfl
   have f110:((s[1].toNat:Int) == 110)=false:=(by simp;omega);have f116:((s[1].toNat:Int) == 116)=false:=(by simp;omega);have f114:((s[1].toNat:Int) == 114)=false:=(by simp;omega);have f120:((s[1].toNat:Int) == 120)=true:=(by simp;omega);have HV:Hid (∀r,lT r=.tuple #[.int .u8 ((r.1:Nat):Int),.int .i64 ((r.2.1:Nat):Int),.bool r.2.2]):=(fun _=>rfl);clear h;go_enter func187,ntmps187;go_wp2_with fail;refine (zpz s HS.out _).mono ?_;rintro e w1 ⟨rfl,b1⟩;rw[HV.out];go_wp2_with fail
   go_ret3
   exact⟨by rw[HZ.out,HV.out];rfl,b1⟩
  have HR:Hid (rd (aa s)=if bW s[1].toNat && !isWord s[1].toNat then (s[1].toNat,2,true) else im):=by
   show _=_;rw[HB.out,HT.out,if_neg h,if_neg h',if_neg KP,if_neg h3]
  have f110:((s[1].toNat:Int) == 110)=false:=by simp;omega
  have f116:((s[1].toNat:Int) == 116)=false:=by simp;omega
  have f114:((s[1].toNat:Int) == 114)=false:=by simp;omega
  have f120:((s[1].toNat:Int) == 120)=false:=by simp;omega
  clear h h' KP h3;rcases hp:bW s[1].toNat with _|_
  ·have HP:=hid hp;have HZ:Hid (lT (rd (aa s))=.tuple #[.int .u8 0,.int .i64 0,.bool false]):=(by show _=_;rw[HR.out,hp];rfl);clear hp;go_enter func187,ntmps187;go_wp2_with fail;refine (Gk s[1].toNat _).mono ?_;rintro e w1 ⟨rfl,rfl⟩;rw[HP.out];go_wp2_with fail
   go_ret3
   exact⟨by rw[HZ.out];rfl,Below.refl _ _⟩
  rcases hw:isWord s[1].toNat with _|_
  ·have HP:=hid hp;have HW:=hid hw;have HZ:Hid (lT (rd (aa s))=.tuple #[.int .u8 ((s[1].toNat:Nat):Int),.int .i64 2,.bool true]):=(by show _=_;rw[HR.out,hp,hw];rfl);clear hp hw;go_enter func187,ntmps187;go_wp2_with fail;refine (Gk s[1].toNat _).mono ?_;rintro e w1 ⟨rfl,rfl⟩;rw[HP.out];go_wp2_with fail;refine (X5 s[1].toNat hc _).mono ?_;rintro e w1 ⟨rfl,rfl⟩;rw[HW.out];go_wp2_with fail
   go_ret3
   exact⟨by rw[HZ.out];rfl,Below.refl _ _⟩
  have HP:=hid hp;have HW:=hid hw;have HZ:Hid (lT (rd (aa s))=.tuple #[.int .u8 0,.int .i64 0,.bool false]):=by show _=_;rw[HR.out,hp,hw];rfl
  clear hp hw;go_enter func187,ntmps187;go_wp2_with fail;refine (Gk s[1].toNat _).mono ?_;rintro e w1 ⟨rfl,rfl⟩;rw[HP.out];go_wp2_with fail;refine (X5 s[1].toNat hc _).mono ?_;rintro e w1 ⟨rfl,rfl⟩;rw[HW.out];go_wp2_with fail
  go_ret3
  exact⟨by rw[HZ.out];rfl,Below.refl _ _⟩
 have e0:((s[0].toNat:Int) != 92)=true:=by simp;omega
 have HZ:Hid (lT (rd (aa s))=.tuple #[.int .u8 ((s[0].toNat:Nat):Int),.int .i64 1,.bool true]):=by show _=_;rw[ZB s hp h0];rfl
 clear h0;go_enter func187,ntmps187;go_wp2_with fail
 go_ret3
 exact⟨by rw[HZ.out];rfl,Below.refl _ _⟩
end Go.Proofs.YtbacgnhkapancaaGreat
