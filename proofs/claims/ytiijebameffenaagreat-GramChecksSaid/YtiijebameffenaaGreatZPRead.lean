import Derived.Test.YtiijebameffenaaGreatZBldB
import Derived.Test.YtiijebameffenaaGreatZFirst
import Derived.Test.YtiijebameffenaaGreatZPPrint
import Derived.Lib.IndexAny
set_option linter.all false
set_option maxHeartbeats 2000000
set_option maxRecDepth 100000
open Go.Lib (hid)
namespace Go.Proofs.YtiijebameffenaaGreat
open Go.RowKit Go.Proofs.Tryz
open Nat (le_refl)
open UInt8 (toNat_lt)
variable {c:Nat}{r:List Nat}
def du:ByteArray:=⟨#[47,93,94,45,34]⟩
def oy:ByteArray:=⟨#[47,40,41,91,93,124,42,43,63,46,34,126]⟩
def iK(s:ByteArray)(c:Nat):Int:=Lib.indexByte s.data.toList c.toUInt8
theorem Ro(s:ByteArray)(c:Nat)(hc:c<256):decide (0<=iK s c)=fZ s c:=by
 unfold iK;rw[<-Lib.contains_iff_indexByte,Bool.eq_iff_iff];unfold fZ;rw[List.contains_iff_mem,List.any_eq_true];constructor
 ·intro h;exact⟨_,h,by simp[Nat.mod_eq_of_lt hc]⟩
 rintro⟨x,hx,e⟩;have e:=eq_of_beq e;rw[show c.toUInt8=x by rw[<-e];simp];exact hx
theorem Oz(s:ByteArray)(c:Nat)(w:World):
  Calls prog 188 #[.string s,.int .u8 c] w fun e w'=>e=.returned (.int .i64 (iK s c))/\w=w':=by
 refine (Tryz.strings_IndexByte s c w).mono ?_;rintro e w' ⟨rfl,rfl⟩;exact⟨rfl,rfl⟩
def hv(c:Nat):Nat:=if 48<=c/\c<=57 then c-48 else if 97<=c/\c<=102 then c-87 else 16
theorem NV:∀d,d<16->hv (je d)=d:=by decide
theorem Vm(c:Nat)(h:hv c<16):je (hv c)=c:=by
 unfold hv at h⊢;unfold je
 repeat' split at h
 all_goals (repeat' split) <;> omega
def iD:Nat × Nat × Bool:=(0,0,false)
def qN:List Nat->Nat × Nat × Bool
 | x :: y :: _=>if hv x<16/\hv y<16 then (16*hv x+hv y,4,true) else iD
 | _=>iD
def vD:List Nat->Nat × Nat × Bool
 | []=>iD
 | d :: u=>if d=110 then (10,2,true) else if d=116 then (9,2,true) else if d=114 then (13,2,true) else if d=120 then qN u
   else if cj d && !isWord d then (d,2,true) else iD
def rd:List Nat->Nat × Nat × Bool
 | []=>iD
 | c :: t=>if c=92 then vD t else (c,1,true)
def mG(r:Nat × Nat × Bool):Value:=.tuple #[.int .u8 ((r.1:Nat):Int),.int .i64 ((r.2.1:Nat):Int),.bool r.2.2]
theorem Co(a b:Nat)(o:Bool):mG (a,b,o)=.tuple #[.int .u8 (a:Int),.int .i64 (b:Int),.bool o]:=rfl
theorem zrP(l:List Nat):(qN l).1<256/\(qN l).2.1<=4/\((qN l).2.2=true->(qN l).2.1=4/\2<=l.length):=by
 unfold qN;split
 ·split
  ·refine⟨?_,by simp,by simp⟩;simp;omega
  simp[iD]
 simp[iD]
theorem SC(l:List Nat):(vD l).1<256/\((vD l).2.2=true->2<=(vD l).2.1/\(vD l).2.1<=l.length+1):=by
 unfold vD;split
 ·simp[iD]
 rename_i d u;have h:=zrP u
 repeat' split
 all_goals first
  | simp[iD];done
  | (
   refine⟨h.1,fun e=>?_⟩
   have:=h.2.2 e
   simp;omega)
  | (
   rename_i hd
   simp[cj] at hd⊢
   omega)
theorem Gg(l:List Nat)(hl:∀n∈l,n<256):(rd l).1<256/\((rd l).2.2=true->1<=(rd l).2.1/\(rd l).2.1<=l.length):=by
 unfold rd;split
 ·simp[iD]
 rename_i c t;split
 ·have h:=SC t;refine⟨h.1,fun e=>?_⟩;have:=h.2 e;simp;omega
 simp;exact hl c (by simp)
theorem zoM(c:Nat)(hc:c<256)(o:Bool)(ho:o=true->cj c=true/\isWord c=false)(r:List Nat):rd (eo c o++r)=(c,(eo c o).length,true):=by
 unfold eo;by_cases h1:c=10
 ·subst h1;rfl
 by_cases h2:c=9
 ·subst h2;rfl
 by_cases h3:c=13
 ·subst h3;rfl
 rw[if_neg h1,if_neg h2,if_neg h3];by_cases h4:c<32\/126<c
 ·rw[if_pos h4];have e1:=NV (c / 16) (by omega);have e2:=NV (c % 16) (by omega);have hm:c / 16<16/\c % 16<16:=⟨by omega,by omega⟩
  simp[rd,vD,qN,e1,e2,hm];omega
 rw[if_neg h4];by_cases h5:c=92\/o=true
 ·rw[if_pos h5];have hp:cj c=true/\isWord c=false:=by
   rcases h5 with h5|h5
   ·subst h5;decide
   exact ho h5
  have hx:c≠110/\c≠116/\c≠114/\c≠120:=by
   refine⟨?_,?_,?_,?_⟩ <;> (rintro rfl;revert hp;decide)
  simp[rd,vD,hx,hp]
 rw[if_neg h5];have:c≠92:=fun e=>h5 (Or.inl e)
 simp[rd,this]
theorem Im(s:ByteArray)(k:Nat)(h:k<s.size):(aa s).drop k=s[k].toNat :: (aa s).drop (k+1):=by
 have hl:k<(aa s).length:=by simpa [aa] using h
 rw[List.drop_eq_getElem_cons hl];simp[aa];rfl
theorem o0(s:ByteArray):(aa s).length=s.size:=by simp[aa]
theorem zjg(s:ByteArray)(k:Nat)(h:s.size<=k):(aa s).drop k=[]:=List.drop_eq_nil_of_le (by rw[o0];exact h)
theorem GS(s:ByteArray)(a:Nat):aa (s.extract a s.size)=(aa s).drop a:=by
 unfold aa;rw[Lib.extract_to_end,List.map_drop]
def av(a k:Nat):Nat->Bool:=fun x=>decide (a<=x) && decide (x<a+k)
theorem Jq(a:Nat):av a 0=fun _=>false:=by funext x;simp[av]
theorem PK(a k:Nat):av a (k+1)=ins (av a k) (a+k):=by
 funext x;rw[Bool.eq_iff_iff];simp only[av,ins,Bool.or_eq_true,Bool.and_eq_true,decide_eq_true_eq,beq_iff_eq];omega
theorem LP(a c:Nat)(ha:a<256)(hc:c<256)(w:World):
  Calls prog 222 #[.int .u8 a,.int .u8 c] w fun e w'=>e=.returned (.agg #[.int .u64 ((wd (av a (c+1-a)) 0:Nat):Int),.int .u64 ((wd (av a (c+1-a)) 1:Nat):Int),.int .u64 ((wd (av a (c+1-a)) 2:Nat):Int),.int .u64 ((wd (av a (c+1-a)) 3:Nat):Int)])/\ϐ w w':=by
 rcases (by omega:c+1<=a\/a<=c) with h|h
 ·go_in;go_wp2;go_loopw [13] (fun i wr=>i=.int .i64 0/\gp w (av a 0) wr) (fun _ _=>0)
  ·exact⟨rfl,by rw[Jq];exact gp.start w⟩
  obtain⟨rfl,R⟩:=hrel;obtain⟨r0,r1,r2,r3,r4,r5,r6,r7⟩:=bZ R.s0;obtain⟨q0,q1,q2,q3,q4,q5,q6,q7⟩:=bZ R.s1;go_wp2_with fail;exact bodyPost_ret (v:=(.agg #[.int .u64 ((wd (av a 0) 0:Nat):Int),.int .u64 ((wd (av a 0) 1:Nat):Int),.int .u64 ((wd (av a 0) 2:Nat):Int),.int .u64 ((wd (av a 0) 3:Nat):Int)])) (by simp[results,results222,go_sem,r0,r1,r2,r3]) rfl ⟨by rw[show c+1-a=0 by omega],td R.below (le_refl _) _ _ _ _⟩
 obtain⟨n,hn,dd⟩:∃n,c+1-a=n/\c+1=a+n:=⟨_,rfl,by omega⟩
 rw[hn];have h1:1<=n:=by omega
 obtain rfl:c=a+n-1:=by omega
 clear hn dd;have h3:a+n<=256:=by omega
 have C8:((a+n-1:Nat):Int)=(a:Int)+(n:Int)-1:=by omega
 rw[C8];clear C8 hc h;go_in;go_wp2;go_loopw [6,13] (fun _ i wr=>∃k:Nat,i=.int .i64 k/\k<=n/\gp w (av a k) wr) (fun _ i _=>n-(intOf i).toNat)
 ·exact⟨0,rfl,Nat.zero_le _,by rw[Jq];exact gp.start w⟩
 obtain⟨k,rfl,hk,R⟩:=hrel;obtain⟨r0,r1,r2,r3,r4,r5,r6,r7⟩:=bZ R.s0;obtain⟨q0,q1,q2,q3,q4,q5,q6,q7⟩:=bZ R.s1;by_cases aq:k<n
 ·go_wp2_with fail;rw[show (a:Int)+(k:Int)=((a+k:Nat):Int) from by omega];refine (Wx (av a k) (a+k) (by omega) _).mono ?_;rintro e w1 ⟨rfl,b1⟩;have R1:=R.step b1 (av a (k+1));rw[PK] at R1;have HR:=hid R1;have hs:=b1.size;have oY:=R.s1.lt;obtain⟨q0,q1,q2,q3,q4,q5,q6,q7⟩:=bZ (R.s1.ae b1);clear R b1 R1;go_wp2;go_roundw
  ·exact⟨k+1,by go_num,by omega,by rw[PK];exact HR.o⟩
  simp[intOf];omega
 obtain rfl:k=n:=by omega
 go_wp2_with fail;exact bodyPost_ret (v:=(.agg #[.int .u64 ((wd (av a k) 0:Nat):Int),.int .u64 ((wd (av a k) 1:Nat):Int),.int .u64 ((wd (av a k) 2:Nat):Int),.int .u64 ((wd (av a k) 3:Nat):Int)])) (by simp[results,results222,go_sem,r0,r1,r2,r3]) rfl ⟨rfl,td R.below (le_refl _) _ _ _ _⟩
abbrev bf:=List Pc × List Nat
def aO:Nat->Bool:=fun _=>false
def aw(c:Nat):List Nat->Option (List Nat)
 | []=>none
 | x :: r=>if x=c then some r else none
def aI(sp:ByteArray)(s:List Nat):Option (Nat × List Nat):=
 if (rd s).2.2=true/\¬((rd s).2.1=1/\fZ sp (rd s).1=true) then some ((rd s).1,s.drop (rd s).2.1) else none
def cO(s:List Nat):Option (Nat × Nat × List Nat):=
 match aI du s with
 | none=>none
 | some (a,r)=>match aw 45 r with
  | none=>some (a,a,r)
  | some r1=>match aI du r1 with
   | none=>none
   | some (c,r2)=>if a<=c then some (a,c,r2) else none
def aD:Nat->(Nat->Bool)->List Nat->Option ((Nat->Bool) × List Nat)
 | 0,_,_=>none
 | f+1,q,s=>match aw 93 s with
  | some r=>some (q,r)
  | none=>match cO s with
   | none=>none
   | some (a,c,r)=>aD f (fun x=>q x || av a (c+1-a) x) r
def ek(s:List Nat):Option ((Nat->Bool) × List Nat):=
 match aw 94 s with
 | some r=>match aD (r.length+1) aO r with
  | none=>none
  | some (q,r1)=>if eD (fun x=>!q x)=true then none else some (fun x=>!q x,r1)
 | none=>match aD (s.length+1) aO s with
  | none=>none
  | some (q,r1)=>if eD q=true then none else some (q,r1)
def eZ(c:Nat):Option Int:=if c=42 then some 4 else if c=43 then some 5 else if c=63 then some 6 else none
def bB:List Nat->List Pc->bf
 | [],acc=>(acc,[])
 | c :: r,acc=>match eZ c with
  | some k=>bB r (acc++[⟨k,aO⟩])
  | none=>(acc,c :: r)
def ct(atom:bf->Option bf)(s:bf):Option bf:=match atom s with
 | none=>none
 | some x=>some (bB x.2 x.1)
def gK:List Nat->Bool
 | []=>true
 | c :: _=>c == 124 || c == 41
def aX(atom:bf->Option bf):Nat->bf->Option bf
 | 0,_=>none
 | f+1,s=>if gK s.2=true then some s else match ct atom s with
  | none=>none
  | some x=>aX atom f (x.1++[⟨2,aO⟩],x.2)
def cm(atom:bf->Option bf)(s:bf):Option bf:=match ct atom s with
 | none=>none
 | some x=>aX atom (x.2.length+1) x
def aY(atom:bf->Option bf):Nat->bf->Option bf
 | 0,_=>none
 | f+1,s=>match aw 124 s.2 with
  | none=>some s
  | some r=>match cm atom (s.1,r) with
   | none=>none
   | some x=>aY atom f (x.1++[⟨3,aO⟩],x.2)
def bx(atom:bf->Option bf)(s:bf):Option bf:=match cm atom s with
 | none=>none
 | some x=>aY atom (x.2.length+1) x
def aW(group:bf->Option bf)(s:bf):Option bf:=
 match aw 46 s.2 with
 | some r=>some (s.1++[⟨1,fun _=>true⟩],r)
 | none=>match aw 126 s.2 with
  | some r=>some (s.1++[⟨0,aO⟩],r)
  | none=>match aw 40 s.2 with
   | some r=>group (s.1,r)
   | none=>match aw 91 s.2 with
    | some r=>match ek r with
     | none=>none
     | some (q,r1)=>some (s.1++[⟨1,q⟩],r1)
    | none=>match aI oy s.2 with
     | none=>none
     | some (c,r)=>some (s.1++[⟨1,fu (fun _=>c) 1⟩],r)
def eu(atom:bf->Option bf)(s:bf):Option bf:=match bx atom s with
 | none=>none
 | some x=>match aw 41 x.2 with
  | none=>none
  | some r=>some (x.1,r)
def dB:Nat->bf->Option bf
 | 0=>aW fun _=>none
 | D+1=>aW (eu (dB D))
def fB(s:List Nat):Option (List Pc):=match bx (dB 99) ([],s) with
 | some (l,[])=>some l
 | _=>none
def nj(g:bf->Option bf):Prop:=∀s s',g s=some s'->s'.2.length<s.2.length/\s'.1.length+2*s'.2.length<s.1.length+2*s.2.length
def Le(s' s:bf):Prop:=s'.2.length<=s.2.length/\s'.1.length+2*s'.2.length<=s.1.length+2*s.2.length
theorem xm{s:List Nat}(h:aw c s=some r):s=c :: r:=by
 cases s with
 | nil=>simp[aw] at h
 | cons x t=>
  simp only[aw] at h;split at h
  ·simp at h;subst h;rename_i e;rw[e]
  simp at h
theorem zqA(s:List Nat):(rd s).2.2=true->1<=(rd s).2.1/\1<=s.length:=by
 cases s with
 | nil=>simp[rd,iD]
 | cons c t=>
  intro h;refine⟨?_,by simp⟩;unfold rd at h⊢;simp only at h⊢;split at h
  ·rename_i e;rw[if_pos e];have:=(SC t).2 h;omega
  rename_i e;rw[if_neg e];simp
theorem Ns{sp:ByteArray}{s:List Nat}(h:aI sp s=some (c,r)):r.length<s.length:=by
 unfold aI at h;split at h
 ·rename_i e;have:=zqA s e.1;simp at h;rw[<-h.2];simp;omega
 simp at h
theorem Pg{s:List Nat}{a:Nat}(h:cO s=some (a,c,r)):r.length<s.length/\a<=c:=by
 unfold cO at h;rcases h1:aI du s with _|⟨a1,r1⟩
 ·simp[h1] at h
 rw[h1] at h;have l1:=Ns h1;simp only at h;rcases h2:aw 45 r1 with _|r2
 ·simp[h2] at h;obtain⟨rfl,rfl,rfl⟩:=h;exact⟨l1,le_refl _⟩
 rw[h2] at h;have l2:=xm h2;simp only at h;rcases h3:aI du r2 with _|⟨c1,r3⟩
 ·simp[h3] at h
 rw[h3] at h;have l3:=Ns h3;simp only at h;split at h
 ·rename_i e;simp at h;obtain⟨rfl,rfl,rfl⟩:=h;rw[l2] at l1;simp at l1;exact⟨by omega,e⟩
 simp at h
theorem WB(f:Nat)(q:Nat->Bool)(s:List Nat)(q':Nat->Bool)(r:List Nat)(h:aD f q s=some (q',r)):r.length<s.length:=by
 induction f generalizing q s with
 | zero=>simp[aD] at h
 | succ f ih=>
  unfold aD at h;rcases h1:aw 93 s with _|r1
  ·rw[h1] at h;simp only at h;rcases h2:cO s with _|⟨a,c,r2⟩
   ·simp[h2] at h
   rw[h2] at h;simp only at h;have:=ih _ _ h;have:=(Pg h2).1;omega
  rw[h1] at h;have:=xm h1;simp at h;rw[this,<-h.2];simp
theorem zgL(f g:Nat)(q:Nat->Bool)(s:List Nat)(hf:s.length<f)(hg:s.length<g):aD f q s=aD g q s:=by
 induction f generalizing g q s with
 | zero=>omega
 | succ f ih=>
  match g,hg with
  | g+1,hg=>
   unfold aD;rcases h1:aw 93 s with _|r1
   ·rcases h2:cO s with _|⟨a,c,r2⟩
    ·rfl
    have:=(Pg h2).1;exact ih g _ r2 (by omega) (by omega)
   rfl
theorem zl9{s:List Nat}{q:Nat->Bool}(h:ek s=some (q,r)):r.length<s.length:=by
 unfold ek at h;rcases h1:aw 94 s with _|r1
 ·rw[h1] at h;simp only at h;rcases h2:aD (s.length+1) aO s with _|⟨q2,r2⟩
  ·simp[h2] at h
  rw[h2] at h;have:=WB _ _ _ _ _ h2;simp only at h;split at h
  ·simp at h
  simp at h;rw[<-h.2];exact this
 rw[h1] at h;have e:=xm h1;simp only at h;rcases h2:aD (r1.length+1) aO r1 with _|⟨q2,r2⟩
 ·simp[h2] at h
 rw[h2] at h;have:=WB _ _ _ _ _ h2;simp only at h;split at h
 ·simp at h
 simp at h;rw[e,<-h.2];simp;omega
theorem zkb(s:List Nat)(acc:List Pc):Le (bB s acc) (acc,s):=by
 induction s generalizing acc with
 | nil=>exact⟨le_refl _,le_refl _⟩
 | cons c r ih=>
  unfold bB;rcases eZ c with _|k
  ·exact⟨le_refl _,le_refl _⟩
  obtain⟨h1,h2⟩:=ih (acc++[⟨k,aO⟩]);simp at h1 h2;exact⟨by simp;omega,by simp;omega⟩
theorem Dh{atom:bf->Option bf}(hd:nj atom):nj (ct atom):=by
 intro s s' h;unfold ct at h;rcases h1:atom s with _|x
 ·simp[h1] at h
 rw[h1] at h;simp at h;obtain⟨h2,h3⟩:=hd s x h1;obtain⟨h4,h5⟩:=zkb x.2 x.1;rw[h] at h4 h5;simp at h4 h5;exact⟨by omega,by omega⟩
theorem zkc{atom:bf->Option bf}(hd:nj atom)(f:Nat)(s s':bf)(h:aX atom f s=some s'):Le s' s:=by
 induction f generalizing s with
 | zero=>simp[aX] at h
 | succ f ih=>
  unfold aX at h;split at h
  ·simp at h;subst h;exact⟨le_refl _,le_refl _⟩
  rcases h1:ct atom s with _|x
  ·simp[h1] at h
  rw[h1] at h;obtain⟨h2,h3⟩:=Dh hd s x h1;obtain⟨h4,h5⟩:=ih _ h;simp at h4 h5;exact⟨by omega,by omega⟩
theorem zgM{atom:bf->Option bf}(hd:nj atom)(f g:Nat)(s:bf)(hf:s.2.length<f)(hg:s.2.length<g):aX atom f s=aX atom g s:=by
 induction f generalizing g s with
 | zero=>omega
 | succ f ih=>
  match g,hg with
  | g+1,hg=>
   unfold aX;split
   ·rfl
   rcases h1:ct atom s with _|x
   ·rfl
   have:=(Dh hd s x h1).1;exact ih g _ (by simp;omega) (by simp;omega)
theorem DG{atom:bf->Option bf}(hd:nj atom):nj (cm atom):=by
 intro s s' h;unfold cm at h;rcases h1:ct atom s with _|x
 ·simp[h1] at h
 rw[h1] at h;obtain⟨h2,h3⟩:=Dh hd s x h1;obtain⟨h4,h5⟩:=zkc hd _ _ _ h;exact⟨by omega,by omega⟩
theorem zkd{atom:bf->Option bf}(hd:nj atom)(f:Nat)(s s':bf)(h:aY atom f s=some s'):Le s' s:=by
 induction f generalizing s with
 | zero=>simp[aY] at h
 | succ f ih=>
  unfold aY at h;rcases h0:aw 124 s.2 with _|r
  ·rw[h0] at h;simp at h;subst h;exact⟨le_refl _,le_refl _⟩
  rw[h0] at h;have e:=xm h0;simp only at h;rcases h1:cm atom (s.1,r) with _|x
  ·simp[h1] at h
  rw[h1] at h;obtain⟨h2,h3⟩:=DG hd _ x h1;obtain⟨h4,h5⟩:=ih _ h;simp at h2 h3 h4 h5;exact⟨by rw[e];simp;omega,by rw[e];simp;omega⟩
theorem zgN{atom:bf->Option bf}(hd:nj atom)(f g:Nat)(s:bf)(hf:s.2.length<f)(hg:s.2.length<g):aY atom f s=aY atom g s:=by
 induction f generalizing g s with
 | zero=>omega
 | succ f ih=>
  match g,hg with
  | g+1,hg=>
   unfold aY;rcases h0:aw 124 s.2 with _|r
   ·rfl
   have e:=xm h0;simp only;rcases h1:cm atom (s.1,r) with _|x
   ·rfl
   have:=(DG hd _ x h1).1;simp at this;rw[e] at hf hg;simp at hf hg;exact ih g _ (by simp;omega) (by simp;omega)
theorem Zr{atom:bf->Option bf}(hd:nj atom):nj (bx atom):=by
 intro s s' h;unfold bx at h;rcases h1:cm atom s with _|x
 ·simp[h1] at h
 rw[h1] at h;obtain⟨h2,h3⟩:=DG hd s x h1;obtain⟨h4,h5⟩:=zkd hd _ _ _ h;exact⟨by omega,by omega⟩
theorem zhU{atom:bf->Option bf}(hd:nj atom):nj (eu atom):=by
 intro s s' h;unfold eu at h;rcases h1:bx atom s with _|x
 ·simp[h1] at h
 rw[h1] at h;simp only at h;rcases h2:aw 41 x.2 with _|r
 ·simp[h2] at h
 rw[h2] at h;have e:=xm h2;simp at h;subst h;obtain⟨h3,h4⟩:=Zr hd s x h1;rw[e] at h3 h4;simp at h3 h4;exact⟨by simp;omega,by simp;omega⟩
theorem Y4{group:bf->Option bf}(hd:nj group):nj (aW group):=by
 intro s s' h;unfold aW at h;rcases h1:aw 46 s.2 with _|r
 ·rw[h1] at h;simp only at h;rcases h2:aw 126 s.2 with _|r
  ·rw[h2] at h;simp only at h;rcases h3:aw 40 s.2 with _|r
   ·rw[h3] at h;simp only at h;rcases h4:aw 91 s.2 with _|r
    ·rw[h4] at h;simp only at h;rcases h5:aI oy s.2 with _|⟨c,r⟩
     ·simp[h5] at h
     rw[h5] at h;have:=Ns h5;simp at h;subst h;exact⟨by simp;omega,by simp;omega⟩
    rw[h4] at h;have e:=xm h4;simp only at h;rcases h5:ek r with _|⟨q,r1⟩
    ·simp[h5] at h
    rw[h5] at h;have:=zl9 h5;simp at h;subst h;exact⟨by rw[e];simp;omega,by rw[e];simp;omega⟩
   rw[h3] at h;have e:=xm h3;obtain⟨h4,h5⟩:=hd _ _ h;simp at h4 h5;exact⟨by rw[e];simp;omega,by rw[e];simp;omega⟩
  rw[h2] at h;have e:=xm h2;simp at h;subst h;exact⟨by rw[e];simp,by rw[e];simp;omega⟩
 rw[h1] at h;have e:=xm h1;simp at h;subst h;exact⟨by rw[e];simp,by rw[e];simp;omega⟩
theorem AX(D:Nat):nj (dB D):=by
 induction D with
 | zero=>exact Y4 (fun s s' h=>by simp at h)
 | succ D ih=>exact Y4 (zhU ih)
theorem JA(c:Nat)(h:c≠32)(h1:c≠9)(h2:c≠10)(h3:c≠13):bU c=if gV c then 2 else if isWord c || c == 95 then 3 else if 32<c/\c<127 then 4 else 0:=by
 unfold bU;rw[if_neg (by simp[sJ,h,h1,h2,h3])]
theorem zj7(c:Nat)(h:48<=c)(h':c<=57):bU c=2:=by
 rw[JA c (by omega) (by omega) (by omega) (by omega),if_pos (by simp[gV,h,h'])]
theorem zj8(c:Nat)(h:65<=c)(h':c<=90):bU c=3:=by
 rw[JA c (by omega) (by omega) (by omega) (by omega),if_neg (by simp[gV];omega),if_pos (by simp[isWord,gV];omega)]
theorem zj9(c:Nat)(h:97<=c)(h':c<=122):bU c=3:=by
 rw[JA c (by omega) (by omega) (by omega) (by omega),if_neg (by simp[gV];omega),if_pos (by simp[isWord,gV];omega)]
theorem zhP(c:Nat)(h:32<c)(h':c<127)(h1:c<48\/57<c)(h2:c<65\/90<c)(h3:c<97\/122<c)(h4:c≠95):bU c=4:=by
 rw[JA c (by omega) (by omega) (by omega) (by omega),if_neg (by simp[gV];omega),if_neg (by simp[isWord,gV];omega),if_pos ⟨h,h'⟩]
theorem zhQ(c:Nat)(h:c<32\/126<c)(h1:c≠9)(h2:c≠10)(h3:c≠13):bU c=0:=by
 rw[JA c (by omega) (by omega) (by omega) (by omega),if_neg (by simp[gV];omega),if_neg (by simp[isWord,gV];omega),if_neg (by omega)]
theorem NW(c:Nat)(hc:c<256)(w:World):
  Calls prog 86 #[.int .u8 c] w fun e w'=>e=.returned (.int .i64 (bU c))/\w=w':=by
 have hk:(c=32\/c=9\/c=10\/c=13)\/(48<=c/\c<=57)\/(65<=c/\c<=90)\/c=95\/(97<=c/\c<=122)\/((32<c/\c<127)/\(c<48\/57<c)/\(c<65\/90<c)/\(c<97\/122<c)/\c≠95)\/((c<32\/126<c)/\c≠9/\c≠10/\c≠13):=by omega
 rcases hk with h|⟨h,h'⟩|⟨h,h'⟩|h|⟨h,h'⟩|⟨⟨h,h'⟩,h1,h2,h3,h4⟩|⟨h,h1,h2,h3⟩
 ·rcases h with h|h|h|h <;> subst h
  all_goals
   go_in
   go_wp2
   go_ret
   exact⟨rfl,rfl⟩
 ·have HC:=hid (zj7 c h h');have e1:((c:Int) == 32)=false:=by simp;omega
  have e2:((c:Int) == 9)=false:=by simp;omega
  have e3:((c:Int) == 10)=false:=by simp;omega
  have e4:((c:Int) == 13)=false:=by simp;omega
  go_in;go_wp2;go_ret;exact⟨by rw[HC.o];rfl,rfl⟩
 ·have HC:=hid (zj8 c h h');have e1:((c:Int) == 32)=false:=by simp;omega
  have e2:((c:Int) == 9)=false:=by simp;omega
  have e3:((c:Int) == 10)=false:=by simp;omega
  have e4:((c:Int) == 13)=false:=by simp;omega
  go_in;go_wp2;go_ret;exact⟨by rw[HC.o];rfl,rfl⟩
 ·subst h;go_in;go_wp2;go_ret;exact⟨rfl,rfl⟩
 ·have HC:=hid (zj9 c h h');have e1:((c:Int) == 32)=false:=by simp;omega
  have e2:((c:Int) == 9)=false:=by simp;omega
  have e3:((c:Int) == 10)=false:=by simp;omega
  have e4:((c:Int) == 13)=false:=by simp;omega
  go_in;go_wp2;go_ret;exact⟨by rw[HC.o];rfl,rfl⟩
 ·have HC:=hid (zhP c h h' h1 h2 h3 h4);have e1:((c:Int) == 32)=false:=by simp;omega
  have e2:((c:Int) == 9)=false:=by simp;omega
  have e3:((c:Int) == 10)=false:=by simp;omega
  have e4:((c:Int) == 13)=false:=by simp;omega
  have e5:((c:Int) == 95)=false:=by simp;omega
  have HP:Hid (cj c=true):=by show _=_;unfold cj;simp;omega
  clear h4;rcases h1 with h1|h1 <;> rcases h2 with h2|h2 <;> rcases h3 with h3|h3
  all_goals first
   | (exfalso;omega)
   | (
    go_in
    go_wp2_with fail
    refine (JV c _).mono ?_
    rintro e w1 ⟨rfl,rfl⟩
    rw[HP.o]
    go_wp2
    go_ret
    exact⟨by rw[HC.o];rfl,rfl⟩)
 have HC:=hid (zhQ c h h1 h2 h3);have e1:((c:Int) == 32)=false:=by simp;omega
 have e2:((c:Int) == 9)=false:=by simp;omega
 have e3:((c:Int) == 10)=false:=by simp;omega
 have e4:((c:Int) == 13)=false:=by simp;omega
 have e5:((c:Int) == 95)=false:=by simp;omega
 have HP:Hid (cj c=false):=by show _=_;unfold cj;simp;omega
 clear h1 h2 h3;rcases h with h|h
 all_goals
  go_in
  go_wp2_with fail
  refine (JV c _).mono ?_
  rintro e w1 ⟨rfl,rfl⟩
  rw[HP.o]
  go_wp2
  go_ret
  exact⟨by rw[HC.o];rfl,rfl⟩
theorem Tl(s:ByteArray)(w:World)(hs:s.size<=maxLen):
  Calls prog 70 #[.string s] w fun e w'=>e=.returned (.bool (bG s))/\w=w':=by
 unfold maxLen at hs;have HT:Hid (bG s=(ee s s.size && decide (1<=s.size) && decide (s.size<=40))):=rfl;rcases (by omega:s.size=0\/(1<=s.size/\s.size<=40)\/(1<=s.size/\40<s.size)) with h|⟨h,h'⟩|⟨h,h'⟩
 ·have hl:s.toList=[]:=by rw[ByteArray.toList_eq];exact List.eq_nil_of_length_eq_zero (by simpa using h)
  have iu:(!s.toList.isEmpty)=false:=by rw[hl];rfl
  have HK:Hid (bG s=false):=by show _=_;rw[HT.o,h];simp
  clear h;go_in;go_wp2;go_ret;exact⟨by rw[HK.o];rfl,rfl⟩
 ·have hl:s.toList.isEmpty=false:=AL s (by omega);have iu:(!s.toList.isEmpty)=true:=by rw[hl];rfl
  have h0:0<s.size:=h;have hb:=toNat_lt s[0];have HN:=hid (P6 s 0 h);have HS:=hid (fun h=>Qf s 1 s.size (by omega) h);have HA:Hid (nameAt 0 s[0].toNat=(bU s[0].toNat == 3 || (bU s[0].toNat == 2 && decide (0≠0)))):=rfl;go_in;go_wp2_with fail;refine (NW s[0].toNat hb _).mono ?_;rintro e w1 ⟨rfl,rfl⟩;obtain⟨q,QJ⟩:∃q,q=bU s[0].toNat:=⟨_,rfl⟩
  rw[<-QJ] at HA⊢;have HQ:=hid QJ;clear QJ;by_cases hq:q=3
  ·subst hq;go_wp2_with fail
   go_loop [20] (fun i=>∃k:Nat,k<=s.size/\i=.int .i64 k/\Hid (ee s k=true)) (fun i=>s.size-(intOf i).toNat)
   ·exact⟨0,Nat.zero_le _,rfl,by simp[Hid,ee]⟩
   clear HN HS;obtain⟨k,hk,rfl,HF⟩:=hrel;by_cases aq:k<s.size
   ·have HN:=hid (P6 s k aq);have HS:=hid (fun h=>Qf s (k+1) s.size aq h);have HB:Hid (nameAt k s[k].toNat=(bU s[k].toNat == 3 || (bU s[k].toNat == 2 && decide (k≠0)))):=rfl;have hb:=toNat_lt s[k];go_wp2_with fail;refine (NW s[k].toNat hb _).mono ?_;rintro e w1 ⟨rfl,rfl⟩;have HZ:Hid (k=0->bU s[k].toNat=3):=by
     show _->_;intro e;subst e;exact HQ.o.symm
    generalize bU s[k].toNat=r at HB HZ⊢;rcases (by omega:r=3\/r=2\/(r≠3/\r≠2)) with h|h|⟨h,h'⟩
    ·subst h;have HK:Hid (ee s (k+1)=true):=(by show _=_;rw[HN.o,HF.o,HB.o];rfl);clear HN HS HB;go_wp2_with fail;go_round
     ·exact⟨k+1,by omega,by go_num,HK⟩
     simp[intOf];omega
    ·subst h;have rB:k≠0:=(fun e=>by have:=HZ.o e;omega);have HK:Hid (ee s (k+1)=true):=(by show _=_;rw[HN.o,HF.o,HB.o];simp;omega);clear HN HS HB rB;go_wp2_with fail;go_round
     ·exact⟨k+1,by omega,by go_num,HK⟩
     simp[intOf];omega
    have HK:Hid (bG s=false):=(by show _=_;rw[HT.o,HS.o (by rw[HN.o,HF.o,HB.o];simp[h,h'])];rfl);have e3:((r:Int) != 3)=true:=(by simp;omega);have e2:((r:Int) != 2)=true:=(by simp;omega);clear HN HS HB h h';go_wp2;go_ret;exact⟨by rw[HK.o];rfl,rfl⟩
   obtain rfl:k=s.size:=(by omega);have HK:Hid (bG s=true):=(by show _=_;rw[HT.o,HF.o];simp[h];omega);go_wp2;go_ret;exact⟨by rw[HK.o];rfl,rfl⟩
  have HK:Hid (bG s=false):=by show _=_;rw[HT.o,HS.o (by rw[HN.o,HA.o];simp[hq])];rfl
  have e3:((q:Int) != 3)=true:=by simp;omega
  clear HN HS HA hq;go_wp2;go_ret;exact⟨by rw[HK.o];rfl,rfl⟩
 have hl:s.toList.isEmpty=false:=AL s (by omega);have iu:(!s.toList.isEmpty)=true:=by rw[hl];rfl
 have HK:Hid (bG s=false):=by show _=_;rw[HT.o];simp;omega
 go_in;go_wp2;go_ret;exact⟨by rw[HK.o];rfl,rfl⟩
theorem zhR:∀c,c<256->(isWord c=(bU c == 2 || (bU c == 3 && c != 95))):=by decide +kernel
theorem ZA(c:Nat)(hc:c<256)(w:World):
  Calls prog 224 #[.int .u8 c] w fun e w'=>e=.returned (.bool (isWord c))/\w=w':=by
 have HW:=hid (zhR c hc);rcases (by omega:c=95\/c≠95) with h|h
 ·subst h;go_in;go_wp2_with fail;refine (NW 95 (by decide) _).mono ?_;rintro e w1 ⟨rfl,rfl⟩;have h3:bU 95=3:=rfl;rw[h3];clear h3;go_wp2;go_ret;exact⟨rfl,rfl⟩
 have e1:((c:Int) != 95)=true:=by simp;omega
 have e2:(c != 95)=true:=by simpa using h
 have H2:=hid e2;clear h e2;go_in;go_wp2_with fail;refine (NW c hc _).mono ?_;rintro e w1 ⟨rfl,rfl⟩;generalize bU c=q at HW⊢;rcases (by omega:q=2\/q=3\/(q≠2/\q≠3)) with h|h|⟨h,h'⟩
 ·subst h;go_wp2;go_ret;exact⟨by rw[HW.o];rfl,rfl⟩
 ·subst h;go_wp2;go_ret;exact⟨by rw[HW.o,H2.o];rfl,rfl⟩
 have HK:Hid (isWord c=false):=by show _=_;rw[HW.o];simp[h,h']
 have e2:((q:Int) == 2)=false:=by simp;omega
 have e3:((q:Int) == 3)=false:=by simp;omega
 clear h h' HW;go_wp2;go_ret;exact⟨by rw[HK.o];rfl,rfl⟩
def A0(c:Nat):Int:=if hv c<16 then ((hv c:Nat):Int) else -1
theorem zqy:∀c,c<256->Lib.indexByte (⟨#[48,49,50,51,52,53,54,55,56,57,97,98,99,100,101,102]⟩:ByteArray).data.toList c.toUInt8=A0 c:=by decide +kernel
theorem zl2(c:Nat)(hc:c<256)(w:World):
  Calls prog 188 #[.string ⟨#[48,49,50,51,52,53,54,55,56,57,97,98,99,100,101,102]⟩,.int .u8 c] w fun e w'=>e=.returned (.int .i64 (A0 c))/\w'=w:=by
 refine (Tryz.strings_IndexByte _ c w).mono ?_;rintro e w' ⟨rfl,rfl⟩;exact⟨by rw[<-zqy c hc];rfl,rfl⟩
theorem zn7(b:UInt8)(w:World):
  Calls prog 188 #[.string ⟨#[48,49,50,51,52,53,54,55,56,57,97,98,99,100,101,102]⟩,.int .u8 b.toNat] w fun e w'=>e=.returned (.int .i64 (A0 b.toNat))/\w'=w:=zl2 b.toNat (toNat_lt b) w
theorem zl3(c:Nat)(h:hv c<16):A0 c=((hv c:Nat):Int):=by unfold A0;rw[if_pos h]
theorem zpn(c:Nat)(h:¬hv c<16):A0 c=-1:=by unfold A0;rw[if_neg h]
theorem zl4(l:List Nat)(h:l.length<2):qN l=iD:=by
 match l,h with
 | [],_=>rfl
 | [_],_=>rfl
theorem zn8(s:ByteArray)(h:4<=s.size):(aa s).drop 2=s[2].toNat :: s[3].toNat :: (aa s).drop 4:=by
 rw[Im s 2 (by omega),Im s 3 (by omega)]
theorem zrA:∀a:Nat,a<16->∀b:Nat,b<16->bits .or .i64 ((a:Int)*16) (b:Int)=((16*a+b:Nat):Int):=by decide +kernel
theorem wR(w:World)(n:Nat):ϐ w (w.drewN n):=⟨rfl,rfl,rfl,le_refl _,fun _ _=>rfl⟩
theorem zqz(s:ByteArray)(hs:s.size<=maxLen)(w:World):
  Calls prog 223 #[.string s] w fun e w'=>e=.returned (mG (qN ((aa s).drop 2)))/\ϐ w w':=by
 unfold maxLen at hs;by_cases h4:4<=s.size
 ·have HN:=hid (zn8 s h4);have g2:(2:Int)<(s.size:Int):=by omega
  have g3:(3:Int)<(s.size:Int):=by omega
  go_in;go_wp2_with fail;go_quiet ((go_at_call 188;exact Calls.quiet_of_same (zn7 _ _)));have HR:Hid (qN (s[2].toNat :: s[3].toNat :: (aa s).drop 4)=if hv s[2].toNat<16/\hv s[3].toNat<16 then (16*hv s[2].toNat+hv s[3].toNat,4,true) else iD):=rfl;have Y2:=zl3 s[2].toNat;have Y3:=zl3 s[3].toNat;have N2:=zpn s[2].toNat;have N3:=zpn s[3].toNat;generalize hv s[2].toNat=x at HR Y2 N2;generalize hv s[3].toNat=y at HR Y3 N3;generalize A0 s[2].toNat=p at Y2 N2⊢;generalize A0 s[3].toNat=q at Y3 N3⊢;by_cases hx:x<16
  ·by_cases hy:y<16
   ·obtain rfl:=Y2 hx;obtain rfl:=Y3 hy;have HZ:Hid (mG (qN ((aa s).drop 2))=.tuple #[.int .u8 ((16*x+y:Nat):Int),.int .i64 4,.bool true]):=by
     show _=_;rw[HN.o,HR.o,if_pos ⟨hx,hy⟩];rfl
    have HO:=zrA x hx y hy;clear Y2 Y3 N2 N3 HR;go_wp2_with fail
    go_ret3
    exact⟨by rw[HZ.o];rfl,wR _ _⟩
   obtain rfl:=Y2 hx;obtain rfl:=N3 hy;have HZ:Hid (mG (qN ((aa s).drop 2))=.tuple #[.int .u8 0,.int .i64 0,.bool false]):=by
    show _=_;rw[HN.o,HR.o,if_neg (fun h=>hy h.2)];rfl
   clear Y2 Y3 N2 N3 HR;go_wp2_with fail
   go_ret3
   exact⟨by rw[HZ.o];rfl,wR _ _⟩
  obtain rfl:=N2 hx;have HZ:Hid (mG (qN ((aa s).drop 2))=.tuple #[.int .u8 0,.int .i64 0,.bool false]):=by
   show _=_;rw[HN.o,HR.o,if_neg (fun h=>hx h.1)];rfl
  clear Y2 Y3 N2 N3 HR;go_wp2_with fail
  go_ret3
  exact⟨by rw[HZ.o];rfl,wR _ _⟩
 have HX:Hid (mG (qN ((aa s).drop 2))=.tuple #[.int .u8 0,.int .i64 0,.bool false]):=by
  show _=_;rw[zl4 _ (by rw[List.length_drop,o0];omega)];rfl
 go_in;go_wp2_with fail
 go_ret3
 exact⟨by rw[HX.o];rfl,Below.refl _ _⟩
theorem zl5(s:ByteArray)(h:s.size=0):aa s=[]:=List.eq_nil_of_length_eq_zero (by rw[o0];exact h)
theorem PO(s:ByteArray)(h:0<s.size):aa s=s[0].toNat :: (aa s).drop 1:=Im s 0 h
theorem Ob(c:Nat)(t:List Nat):rd (c :: t)=if c=92 then vD t else (c,1,true):=rfl
theorem zi0(s:ByteArray)(h:0<s.size)(h0:s[0].toNat≠92):rd (aa s)=(s[0].toNat,1,true):=
 (congrArg rd (PO s h)).trans ((Ob _ _).trans (if_neg h0))
theorem Yu(s:ByteArray)(h:0<s.size)(h0:s[0].toNat=92):rd (aa s)=vD ((aa s).drop 1):=
 (congrArg rd (PO s h)).trans ((Ob _ _).trans (if_pos h0))
theorem zrB(s:ByteArray)(h:1<s.size):vD ((aa s).drop 1)=if s[1].toNat=110 then (10,2,true) else if s[1].toNat=116 then (9,2,true) else if s[1].toNat=114 then (13,2,true) else if s[1].toNat=120 then qN ((aa s).drop 2)
   else if cj s[1].toNat && !isWord s[1].toNat then (s[1].toNat,2,true) else iD:=by
 rw[Im s 1 h];rfl
theorem Kw(s:ByteArray)(hs:s.size<=maxLen)(w:World):
  Calls prog 208 #[.string s] w fun e w'=>e=.returned (mG (rd (aa s)))/\ϐ w w':=by
 have HS:=hid hs;unfold maxLen at hs;rcases Nat.eq_zero_or_pos s.size with hz|hp
 ·have hl:s.toList=[]:=by rw[ByteArray.toList_eq];exact List.eq_nil_of_length_eq_zero (by simpa using hz)
  have iu:(!s.toList.isEmpty)=false:=by rw[hl];rfl
  have HZ:Hid (mG (rd (aa s))=.tuple #[.int .u8 0,.int .i64 0,.bool false]):=by show _=_;rw[zl5 s hz];rfl
  clear hz;go_in;go_wp2_with fail
  go_ret3
  exact⟨by rw[HZ.o];rfl,Below.refl _ _⟩
 have hl:s.toList.isEmpty=false:=AL s hp;have iu:(!s.toList.isEmpty)=true:=by rw[hl];rfl
 by_cases h0:s[0].toNat=92
 ·have e0:((s[0].toNat:Int) != 92)=false:=by simp;omega
  have HB:=hid (Yu s hp h0);clear h0;by_cases h1:s.size=1
  ·have e1:((s.size:Int) == 1)=true:=(by simp;omega);have HZ:Hid (mG (rd (aa s))=.tuple #[.int .u8 0,.int .i64 0,.bool false]):=by
    show _=_;rw[HB.o,zjg s 1 (by omega)];rfl
   clear h1;go_in;go_wp2_with fail
   go_ret3
   exact⟨by rw[HZ.o];rfl,Below.refl _ _⟩
  have e1:((s.size:Int) == 1)=false:=by simp;omega
  have g1:1<s.size:=by omega
  have HT:=hid (zrB s g1);have hc:=toNat_lt s[1];clear h1;rcases (by omega:s[1].toNat=110\/s[1].toNat=116\/s[1].toNat=114\/s[1].toNat=120\/(s[1].toNat≠110/\s[1].toNat≠116/\s[1].toNat≠114/\s[1].toNat≠120)) with h|h|h|h|⟨h,h',ON,h3⟩
  ·have HZ:Hid (mG (rd (aa s))=.tuple #[.int .u8 10,.int .i64 2,.bool true]):=by
    show _=_;rw[HB.o,HT.o,h];rfl
   have f110:((s[1].toNat:Int) == 110)=true:=(by simp;omega);clear h;go_in;go_wp2_with fail
   go_ret3
   exact⟨by rw[HZ.o];rfl,Below.refl _ _⟩
  ·have HZ:Hid (mG (rd (aa s))=.tuple #[.int .u8 9,.int .i64 2,.bool true]):=by
    show _=_;rw[HB.o,HT.o,h];rfl
   have f110:((s[1].toNat:Int) == 110)=false:=(by simp;omega);have f116:((s[1].toNat:Int) == 116)=true:=(by simp;omega);clear h;go_in;go_wp2_with fail
   go_ret3
   exact⟨by rw[HZ.o];rfl,Below.refl _ _⟩
  ·have HZ:Hid (mG (rd (aa s))=.tuple #[.int .u8 13,.int .i64 2,.bool true]):=by
    show _=_;rw[HB.o,HT.o,h];rfl
   have f110:((s[1].toNat:Int) == 110)=false:=(by simp;omega);have f116:((s[1].toNat:Int) == 116)=false:=(by simp;omega);have f114:((s[1].toNat:Int) == 114)=true:=(by simp;omega);clear h;go_in;go_wp2_with fail
   go_ret3
   exact⟨by rw[HZ.o];rfl,Below.refl _ _⟩
  ·have HZ:Hid (mG (rd (aa s))=mG (qN ((aa s).drop 2))):=by
    show _=_;rw[HB.o,HT.o,h];rfl
   have f110:((s[1].toNat:Int) == 110)=false:=(by simp;omega);have f116:((s[1].toNat:Int) == 116)=false:=(by simp;omega);have f114:((s[1].toNat:Int) == 114)=false:=(by simp;omega);have f120:((s[1].toNat:Int) == 120)=true:=(by simp;omega);have HV:Hid (∀r,mG r=.tuple #[.int .u8 ((r.1:Nat):Int),.int .i64 ((r.2.1:Nat):Int),.bool r.2.2]):=(fun _=>rfl);clear h;go_in;go_wp2_with fail;refine (zqz s HS.o _).mono ?_;rintro e w1 ⟨rfl,b1⟩;rw[HV.o];go_wp2_with fail
   go_ret3
   exact⟨by rw[HZ.o,HV.o];rfl,b1⟩
  have HR:Hid (rd (aa s)=if cj s[1].toNat && !isWord s[1].toNat then (s[1].toNat,2,true) else iD):=by
   show _=_;rw[HB.o,HT.o,if_neg h,if_neg h',if_neg ON,if_neg h3]
  have f110:((s[1].toNat:Int) == 110)=false:=by simp;omega
  have f116:((s[1].toNat:Int) == 116)=false:=by simp;omega
  have f114:((s[1].toNat:Int) == 114)=false:=by simp;omega
  have f120:((s[1].toNat:Int) == 120)=false:=by simp;omega
  clear h h' ON h3;rcases hp:cj s[1].toNat with _|_
  ·have HP:=hid hp;have HZ:Hid (mG (rd (aa s))=.tuple #[.int .u8 0,.int .i64 0,.bool false]):=(by show _=_;rw[HR.o,hp];rfl);clear hp;go_in;go_wp2_with fail;refine (JV s[1].toNat _).mono ?_;rintro e w1 ⟨rfl,rfl⟩;rw[HP.o];go_wp2_with fail
   go_ret3
   exact⟨by rw[HZ.o];rfl,Below.refl _ _⟩
  rcases hw:isWord s[1].toNat with _|_
  ·have HP:=hid hp;have HW:=hid hw;have HZ:Hid (mG (rd (aa s))=.tuple #[.int .u8 ((s[1].toNat:Nat):Int),.int .i64 2,.bool true]):=(by show _=_;rw[HR.o,hp,hw];rfl);clear hp hw;go_in;go_wp2_with fail;refine (JV s[1].toNat _).mono ?_;rintro e w1 ⟨rfl,rfl⟩;rw[HP.o];go_wp2_with fail;refine (ZA s[1].toNat hc _).mono ?_;rintro e w1 ⟨rfl,rfl⟩;rw[HW.o];go_wp2_with fail
   go_ret3
   exact⟨by rw[HZ.o];rfl,Below.refl _ _⟩
  have HP:=hid hp;have HW:=hid hw;have HZ:Hid (mG (rd (aa s))=.tuple #[.int .u8 0,.int .i64 0,.bool false]):=by show _=_;rw[HR.o,hp,hw];rfl
  clear hp hw;go_in;go_wp2_with fail;refine (JV s[1].toNat _).mono ?_;rintro e w1 ⟨rfl,rfl⟩;rw[HP.o];go_wp2_with fail;refine (ZA s[1].toNat hc _).mono ?_;rintro e w1 ⟨rfl,rfl⟩;rw[HW.o];go_wp2_with fail
  go_ret3
  exact⟨by rw[HZ.o];rfl,Below.refl _ _⟩
 have e0:((s[0].toNat:Int) != 92)=true:=by simp;omega
 have HZ:Hid (mG (rd (aa s))=.tuple #[.int .u8 ((s[0].toNat:Nat):Int),.int .i64 1,.bool true]):=by show _=_;rw[zi0 s hp h0];rfl
 clear h0;go_in;go_wp2_with fail
 go_ret3
 exact⟨by rw[HZ.o];rfl,Below.refl _ _⟩
