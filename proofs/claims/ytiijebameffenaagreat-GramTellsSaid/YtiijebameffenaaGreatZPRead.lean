import Derived.Test.YtiijebameffenaaGreatZBldB
import Derived.Test.YtiijebameffenaaGreatZFirst
import Derived.Test.YtiijebameffenaaGreatZPPrint
import Derived.Lib.IndexAny
set_option linter.all false
set_option maxHeartbeats 2000000
set_option maxRecDepth 100000
open Go.Lib (hid)
namespace Go.Proofs.YtiijebameffenaaGreat
open Go.RowKit Go.Proofs.Tryz
open Nat (le_refl)
open UInt8 (toNat_lt)
variable {c:Nat}{r:List Nat}
def eY:ByteArray:=⟨#[47,93,94,45,34]⟩
def uA:ByteArray:=⟨#[47,40,41,91,93,124,42,43,63,46,34,126]⟩
def gJ(s:ByteArray)(c:Nat):Int:=Lib.indexByte s.data.toList c.toUInt8
theorem Od(s:ByteArray)(c:Nat)(hc:c<256):decide (0<=gJ s c)=A6 s c:=by
 unfold gJ;rw[<-Lib.contains_iff_indexByte,Bool.eq_iff_iff];unfold A6;rw[List.contains_iff_mem,List.any_eq_true];constructor
 ·intro h;exact⟨_,h,by simp[Nat.mod_eq_of_lt hc]⟩
 rintro⟨x,hx,e⟩;have e:=eq_of_beq e;rw[show c.toUInt8=x by rw[<-e];simp];exact hx
theorem L6(s:ByteArray)(c:Nat)(w:World):
  Calls prog 188 #[.string s,.int .u8 c] w fun e w'=>e=.returned (.int .i64 (gJ s c))/\w=w':=by
 refine (Tryz.strings_IndexByte s c w).mono ?_;rintro e w' ⟨rfl,rfl⟩;exact⟨rfl,rfl⟩
def hv(c:Nat):Nat:=if 48<=c/\c<=57 then c-48 else if 97<=c/\c<=102 then c-87 else 16
def jY:Nat × Nat × Bool:=(0,0,false)
def rY:List Nat->Nat × Nat × Bool
 | x :: y :: _=>if hv x<16/\hv y<16 then (16*hv x+hv y,4,true) else jY
 | _=>jY
def zc:List Nat->Nat × Nat × Bool
 | []=>jY
 | d :: u=>if d=110 then (10,2,true) else if d=116 then (9,2,true) else if d=114 then (13,2,true) else if d=120 then rY u
   else if en d && !isWord d then (d,2,true) else jY
def rd:List Nat->Nat × Nat × Bool
 | []=>jY
 | c :: t=>if c=92 then zc t else (c,1,true)
def pC(r:Nat × Nat × Bool):Value:=.tuple #[.int .u8 ((r.1:Nat):Int),.int .i64 ((r.2.1:Nat):Int),.bool r.2.2]
theorem Fo(a b:Nat)(o:Bool):pC (a,b,o)=.tuple #[.int .u8 (a:Int),.int .i64 (b:Int),.bool o]:=rfl
theorem zo7(l:List Nat):(rY l).1<256/\(rY l).2.1<=4/\((rY l).2.2=true->(rY l).2.1=4/\2<=l.length):=by
 unfold rY;split
 ·split
  ·refine⟨?_,by simp,by simp⟩;simp;omega
  simp[jY]
 simp[jY]
theorem Sh(l:List Nat):(zc l).1<256/\((zc l).2.2=true->2<=(zc l).2.1/\(zc l).2.1<=l.length+1):=by
 unfold zc;split
 ·simp[jY]
 rename_i d u;have h:=zo7 u
 repeat' split
 all_goals first
  | simp[jY];done
  | (
   refine⟨h.1,fun e=>?_⟩
   have:=h.2.2 e
   simp;omega)
  | (
   rename_i hd
   simp[en] at hd⊢
   omega)
theorem Ot(l:List Nat)(hl:∀n∈l,n<256):(rd l).1<256/\((rd l).2.2=true->1<=(rd l).2.1/\(rd l).2.1<=l.length):=by
 unfold rd;split
 ·simp[jY]
 rename_i c t;split
 ·have h:=Sh t;refine⟨h.1,fun e=>?_⟩;have:=h.2 e;simp;omega
 simp;exact hl c (by simp)
theorem Jh(s:ByteArray)(k:Nat)(h:k<s.size):(ae s).drop k=s[k].toNat :: (ae s).drop (k+1):=by
 have hl:k<(ae s).length:=by simpa [ae] using h
 rw[List.drop_eq_getElem_cons hl];simp[ae];rfl
theorem oO(s:ByteArray):(ae s).length=s.size:=by simp[ae]
theorem zmm(s:ByteArray)(k:Nat)(h:s.size<=k):(ae s).drop k=[]:=List.drop_eq_nil_of_le (by rw[oO];exact h)
theorem PO(s:ByteArray)(a:Nat):ae (s.extract a s.size)=(ae s).drop a:=by
 unfold ae;rw[Lib.extract_to_end,List.map_drop]
def ay(a k:Nat):Nat->Bool:=fun x=>decide (a<=x) && decide (x<a+k)
theorem U1(a:Nat):ay a 0=fun _=>false:=by funext x;simp[ay]
theorem WY(a k:Nat):ay a (k+1)=ins (ay a k) (a+k):=by
 funext x;rw[Bool.eq_iff_iff];simp only[ay,ins,Bool.or_eq_true,Bool.and_eq_true,decide_eq_true_eq,beq_iff_eq];omega
theorem I8(a c:Nat)(ha:a<256)(hc:c<256)(w:World):
  Calls prog 222 #[.int .u8 a,.int .u8 c] w fun e w'=>e=.returned (.agg #[.int .u64 ((wd (ay a (c+1-a)) 0:Nat):Int),.int .u64 ((wd (ay a (c+1-a)) 1:Nat):Int),.int .u64 ((wd (ay a (c+1-a)) 2:Nat):Int),.int .u64 ((wd (ay a (c+1-a)) 3:Nat):Int)])/\Below w.heap.size w w':=by
 rcases (by omega:c+1<=a\/a<=c) with h|h
 ·go_enter func222,ntmps222;go_wp2;go_loopw [13] (fun i wr=>i=.int .i64 0/\js w (ay a 0) wr) (fun _ _=>0)
  ·exact⟨rfl,by rw[U1];exact js.start w⟩
  obtain⟨rfl,R⟩:=hrel;obtain⟨r0,r1,r2,r3,r4,r5,r6,r7⟩:=cW R.s0;obtain⟨q0,q1,q2,q3,q4,q5,q6,q7⟩:=cW R.s1;go_wp2_with fail;exact bodyPost_ret (v:=(.agg #[.int .u64 ((wd (ay a 0) 0:Nat):Int),.int .u64 ((wd (ay a 0) 1:Nat):Int),.int .u64 ((wd (ay a 0) 2:Nat):Int),.int .u64 ((wd (ay a 0) 3:Nat):Int)])) (by simp[results,results222,go_sem,r0,r1,r2,r3]) rfl ⟨by rw[show c+1-a=0 by omega],uW R.below (le_refl _) _ _ _ _⟩
 obtain⟨n,hn,dj⟩:∃n,c+1-a=n/\c+1=a+n:=⟨_,rfl,by omega⟩
 rw[hn];have h1:1<=n:=by omega
 obtain rfl:c=a+n-1:=by omega
 clear hn dj;have h3:a+n<=256:=by omega
 have AU:((a+n-1:Nat):Int)=(a:Int)+(n:Int)-1:=by omega
 rw[AU];clear AU hc h;go_enter func222,ntmps222;go_wp2;go_loopw [6,13] (fun _ i wr=>∃k:Nat,i=.int .i64 k/\k<=n/\js w (ay a k) wr) (fun _ i _=>n-(intOf i).toNat)
 ·exact⟨0,rfl,Nat.zero_le _,by rw[U1];exact js.start w⟩
 obtain⟨k,rfl,hk,R⟩:=hrel;obtain⟨r0,r1,r2,r3,r4,r5,r6,r7⟩:=cW R.s0;obtain⟨q0,q1,q2,q3,q4,q5,q6,q7⟩:=cW R.s1;by_cases aw:k<n
 ·go_wp2_with fail;rw[show (a:Int)+(k:Int)=((a+k:Nat):Int) from by omega];refine (T8 (ay a k) (a+k) (by omega) _).mono ?_;rintro e w1 ⟨rfl,b1⟩;have R1:=R.step b1 (ay a (k+1));rw[WY] at R1;have HR:=hid R1;have hs:=b1.size;have nz:=R.s1.lt;obtain⟨q0,q1,q2,q3,q4,q5,q6,q7⟩:=cW (R.s1.aa b1);clear R b1 R1;go_wp2;go_roundw
  ·exact⟨k+1,by go_num,by omega,by rw[WY];exact HR.out⟩
  simp[intOf];omega
 obtain rfl:k=n:=by omega
 go_wp2_with fail;exact bodyPost_ret (v:=(.agg #[.int .u64 ((wd (ay a k) 0:Nat):Int),.int .u64 ((wd (ay a k) 1:Nat):Int),.int .u64 ((wd (ay a k) 2:Nat):Int),.int .u64 ((wd (ay a k) 3:Nat):Int)])) (by simp[results,results222,go_sem,r0,r1,r2,r3]) rfl ⟨rfl,uW R.below (le_refl _) _ _ _ _⟩
abbrev bI:=List Pc × List Nat
def bE:Nat->Bool:=fun _=>false
def aG(c:Nat):List Nat->Option (List Nat)
 | []=>none
 | x :: r=>if x=c then some r else none
def bu(sp:ByteArray)(s:List Nat):Option (Nat × List Nat):=
 if (rd s).2.2=true/\¬((rd s).2.1=1/\A6 sp (rd s).1=true) then some ((rd s).1,s.drop (rd s).2.1) else none
def dK(s:List Nat):Option (Nat × Nat × List Nat):=
 match bu eY s with
 | none=>none
 | some (a,r)=>match aG 45 r with
  | none=>some (a,a,r)
  | some r1=>match bu eY r1 with
   | none=>none
   | some (c,r2)=>if a<=c then some (a,c,r2) else none
def aO:Nat->(Nat->Bool)->List Nat->Option ((Nat->Bool) × List Nat)
 | 0,_,_=>none
 | f+1,q,s=>match aG 93 s with
  | some r=>some (q,r)
  | none=>match dK s with
   | none=>none
   | some (a,c,r)=>aO f (fun x=>q x || ay a (c+1-a) x) r
def eW(s:List Nat):Option ((Nat->Bool) × List Nat):=
 match aG 94 s with
 | some r=>match aO (r.length+1) bE r with
  | none=>none
  | some (q,r1)=>if eh (fun x=>!q x)=true then none else some (fun x=>!q x,r1)
 | none=>match aO (s.length+1) bE s with
  | none=>none
  | some (q,r1)=>if eh q=true then none else some (q,r1)
def ia(c:Nat):Option Int:=if c=42 then some 4 else if c=43 then some 5 else if c=63 then some 6 else none
def cU:List Nat->List Pc->bI
 | [],acc=>(acc,[])
 | c :: r,acc=>match ia c with
  | some k=>cU r (acc++[⟨k,bE⟩])
  | none=>(acc,c :: r)
def dQ(atom:bI->Option bI)(s:bI):Option bI:=match atom s with
 | none=>none
 | some x=>some (cU x.2 x.1)
def gV:List Nat->Bool
 | []=>true
 | c :: _=>c == 124 || c == 41
def bQ(atom:bI->Option bI):Nat->bI->Option bI
 | 0,_=>none
 | f+1,s=>if gV s.2=true then some s else match dQ atom s with
  | none=>none
  | some x=>bQ atom f (x.1++[⟨2,bE⟩],x.2)
def dT(atom:bI->Option bI)(s:bI):Option bI:=match dQ atom s with
 | none=>none
 | some x=>bQ atom (x.2.length+1) x
def bS(atom:bI->Option bI):Nat->bI->Option bI
 | 0,_=>none
 | f+1,s=>match aG 124 s.2 with
  | none=>some s
  | some r=>match dT atom (s.1,r) with
   | none=>none
   | some x=>bS atom f (x.1++[⟨3,bE⟩],x.2)
def dc(atom:bI->Option bI)(s:bI):Option bI:=match dT atom s with
 | none=>none
 | some x=>bS atom (x.2.length+1) x
def gd(group:bI->Option bI)(s:bI):Option bI:=
 match aG 46 s.2 with
 | some r=>some (s.1++[⟨1,fun _=>true⟩],r)
 | none=>match aG 126 s.2 with
  | some r=>some (s.1++[⟨0,bE⟩],r)
  | none=>match aG 40 s.2 with
   | some r=>group (s.1,r)
   | none=>match aG 91 s.2 with
    | some r=>match eW r with
     | none=>none
     | some (q,r1)=>some (s.1++[⟨1,q⟩],r1)
    | none=>match bu uA s.2 with
     | none=>none
     | some (c,r)=>some (s.1++[⟨1,iT (fun _=>c) 1⟩],r)
def fJ(atom:bI->Option bI)(s:bI):Option bI:=match dc atom s with
 | none=>none
 | some x=>match aG 41 x.2 with
  | none=>none
  | some r=>some (x.1,r)
def eZ:Nat->bI->Option bI
 | 0=>gd fun _=>none
 | D+1=>gd (fJ (eZ D))
def pa(g:bI->Option bI):Prop:=∀s s',g s=some s'->s'.2.length<s.2.length/\s'.1.length+2*s'.2.length<s.1.length+2*s.2.length
def Le(s' s:bI):Prop:=s'.2.length<=s.2.length/\s'.1.length+2*s'.2.length<=s.1.length+2*s.2.length
theorem uL{s:List Nat}(h:aG c s=some r):s=c :: r:=by
 cases s with
 | nil=>simp[aG] at h
 | cons x t=>
  simp only[aG] at h;split at h
  ·simp at h;subst h;rename_i e;rw[e]
  simp at h
theorem zn1(s:List Nat):(rd s).2.2=true->1<=(rd s).2.1/\1<=s.length:=by
 cases s with
 | nil=>simp[rd,jY]
 | cons c t=>
  intro h;refine⟨?_,by simp⟩;unfold rd at h⊢;simp only at h⊢;split at h
  ·rename_i e;rw[if_pos e];have:=(Sh t).2 h;omega
  rename_i e;rw[if_neg e];simp
theorem MF{sp:ByteArray}{s:List Nat}(h:bu sp s=some (c,r)):r.length<s.length:=by
 unfold bu at h;split at h
 ·rename_i e;have:=zn1 s e.1;simp at h;rw[<-h.2];simp;omega
 simp at h
theorem WR{s:List Nat}{a:Nat}(h:dK s=some (a,c,r)):r.length<s.length/\a<=c:=by
 unfold dK at h;rcases h1:bu eY s with _|⟨a1,r1⟩
 ·simp[h1] at h
 rw[h1] at h;have l1:=MF h1;simp only at h;rcases h2:aG 45 r1 with _|r2
 ·simp[h2] at h;obtain⟨rfl,rfl,rfl⟩:=h;exact⟨l1,le_refl _⟩
 rw[h2] at h;have l2:=uL h2;simp only at h;rcases h3:bu eY r2 with _|⟨c1,r3⟩
 ·simp[h3] at h
 rw[h3] at h;have l3:=MF h3;simp only at h;split at h
 ·rename_i e;simp at h;obtain⟨rfl,rfl,rfl⟩:=h;rw[l2] at l1;simp at l1;exact⟨by omega,e⟩
 simp at h
theorem XX(f:Nat)(q:Nat->Bool)(s:List Nat)(q':Nat->Bool)(r:List Nat)(h:aO f q s=some (q',r)):r.length<s.length:=by
 induction f generalizing q s with
 | zero=>simp[aO] at h
 | succ f ih=>
  unfold aO at h;rcases h1:aG 93 s with _|r1
  ·rw[h1] at h;simp only at h;rcases h2:dK s with _|⟨a,c,r2⟩
   ·simp[h2] at h
   rw[h2] at h;simp only at h;have:=ih _ _ h;have:=(WR h2).1;omega
  rw[h1] at h;have:=uL h1;simp at h;rw[this,<-h.2];simp
theorem zkb{s:List Nat}{q:Nat->Bool}(h:eW s=some (q,r)):r.length<s.length:=by
 unfold eW at h;rcases h1:aG 94 s with _|r1
 ·rw[h1] at h;simp only at h;rcases h2:aO (s.length+1) bE s with _|⟨q2,r2⟩
  ·simp[h2] at h
  rw[h2] at h;have:=XX _ _ _ _ _ h2;simp only at h;split at h
  ·simp at h
  simp at h;rw[<-h.2];exact this
 rw[h1] at h;have e:=uL h1;simp only at h;rcases h2:aO (r1.length+1) bE r1 with _|⟨q2,r2⟩
 ·simp[h2] at h
 rw[h2] at h;have:=XX _ _ _ _ _ h2;simp only at h;split at h
 ·simp at h
 simp at h;rw[e,<-h.2];simp;omega
theorem ziA(s:List Nat)(acc:List Pc):Le (cU s acc) (acc,s):=by
 induction s generalizing acc with
 | nil=>exact⟨le_refl _,le_refl _⟩
 | cons c r ih=>
  unfold cU;rcases ia c with _|k
  ·exact⟨le_refl _,le_refl _⟩
  obtain⟨h1,h2⟩:=ih (acc++[⟨k,bE⟩]);simp at h1 h2;exact⟨by simp;omega,by simp;omega⟩
theorem KT{atom:bI->Option bI}(hd:pa atom):pa (dQ atom):=by
 intro s s' h;unfold dQ at h;rcases h1:atom s with _|x
 ·simp[h1] at h
 rw[h1] at h;simp at h;obtain⟨h2,h3⟩:=hd s x h1;obtain⟨h4,h5⟩:=ziA x.2 x.1;rw[h] at h4 h5;simp at h4 h5;exact⟨by omega,by omega⟩
theorem Zb{atom:bI->Option bI}(hd:pa atom)(f:Nat)(s s':bI)(h:bQ atom f s=some s'):Le s' s:=by
 induction f generalizing s with
 | zero=>simp[bQ] at h
 | succ f ih=>
  unfold bQ at h;split at h
  ·simp at h;subst h;exact⟨le_refl _,le_refl _⟩
  rcases h1:dQ atom s with _|x
  ·simp[h1] at h
  rw[h1] at h;obtain⟨h2,h3⟩:=KT hd s x h1;obtain⟨h4,h5⟩:=ih _ h;simp at h4 h5;exact⟨by omega,by omega⟩
theorem Lb{atom:bI->Option bI}(hd:pa atom):pa (dT atom):=by
 intro s s' h;unfold dT at h;rcases h1:dQ atom s with _|x
 ·simp[h1] at h
 rw[h1] at h;obtain⟨h2,h3⟩:=KT hd s x h1;obtain⟨h4,h5⟩:=Zb hd _ _ _ h;exact⟨by omega,by omega⟩
theorem ziC{atom:bI->Option bI}(hd:pa atom)(f:Nat)(s s':bI)(h:bS atom f s=some s'):Le s' s:=by
 induction f generalizing s with
 | zero=>simp[bS] at h
 | succ f ih=>
  unfold bS at h;rcases h0:aG 124 s.2 with _|r
  ·rw[h0] at h;simp at h;subst h;exact⟨le_refl _,le_refl _⟩
  rw[h0] at h;have e:=uL h0;simp only at h;rcases h1:dT atom (s.1,r) with _|x
  ·simp[h1] at h
  rw[h1] at h;obtain⟨h2,h3⟩:=Lb hd _ x h1;obtain⟨h4,h5⟩:=ih _ h;simp at h2 h3 h4 h5;exact⟨by rw[e];simp;omega,by rw[e];simp;omega⟩
theorem YO{atom:bI->Option bI}(hd:pa atom):pa (dc atom):=by
 intro s s' h;unfold dc at h;rcases h1:dT atom s with _|x
 ·simp[h1] at h
 rw[h1] at h;obtain⟨h2,h3⟩:=Lb hd s x h1;obtain⟨h4,h5⟩:=ziC hd _ _ _ h;exact⟨by omega,by omega⟩
theorem zgL{atom:bI->Option bI}(hd:pa atom):pa (fJ atom):=by
 intro s s' h;unfold fJ at h;rcases h1:dc atom s with _|x
 ·simp[h1] at h
 rw[h1] at h;simp only at h;rcases h2:aG 41 x.2 with _|r
 ·simp[h2] at h
 rw[h2] at h;have e:=uL h2;simp at h;subst h;obtain⟨h3,h4⟩:=YO hd s x h1;rw[e] at h3 h4;simp at h3 h4;exact⟨by simp;omega,by simp;omega⟩
theorem UF{group:bI->Option bI}(hd:pa group):pa (gd group):=by
 intro s s' h;unfold gd at h;rcases h1:aG 46 s.2 with _|r
 ·rw[h1] at h;simp only at h;rcases h2:aG 126 s.2 with _|r
  ·rw[h2] at h;simp only at h;rcases h3:aG 40 s.2 with _|r
   ·rw[h3] at h;simp only at h;rcases h4:aG 91 s.2 with _|r
    ·rw[h4] at h;simp only at h;rcases h5:bu uA s.2 with _|⟨c,r⟩
     ·simp[h5] at h
     rw[h5] at h;have:=MF h5;simp at h;subst h;exact⟨by simp;omega,by simp;omega⟩
    rw[h4] at h;have e:=uL h4;simp only at h;rcases h5:eW r with _|⟨q,r1⟩
    ·simp[h5] at h
    rw[h5] at h;have:=zkb h5;simp at h;subst h;exact⟨by rw[e];simp;omega,by rw[e];simp;omega⟩
   rw[h3] at h;have e:=uL h3;obtain⟨h4,h5⟩:=hd _ _ h;simp at h4 h5;exact⟨by rw[e];simp;omega,by rw[e];simp;omega⟩
  rw[h2] at h;have e:=uL h2;simp at h;subst h;exact⟨by rw[e];simp,by rw[e];simp;omega⟩
 rw[h1] at h;have e:=uL h1;simp at h;subst h;exact⟨by rw[e];simp,by rw[e];simp;omega⟩
theorem Dl(D:Nat):pa (eZ D):=by
 induction D with
 | zero=>exact UF (fun s s' h=>by simp at h)
 | succ D ih=>exact UF (zgL ih)
theorem Iz(c:Nat)(h:c≠32)(h1:c≠9)(h2:c≠10)(h3:c≠13):cH c=if iM c then 2 else if isWord c || c == 95 then 3 else if 32<c/\c<127 then 4 else 0:=by
 unfold cH;rw[if_neg (by simp[Az,h,h1,h2,h3])]
theorem ziw(c:Nat)(h:48<=c)(h':c<=57):cH c=2:=by
 rw[Iz c (by omega) (by omega) (by omega) (by omega),if_pos (by simp[iM,h,h'])]
theorem zix(c:Nat)(h:65<=c)(h':c<=90):cH c=3:=by
 rw[Iz c (by omega) (by omega) (by omega) (by omega),if_neg (by simp[iM];omega),if_pos (by simp[isWord,iM];omega)]
theorem ziy(c:Nat)(h:97<=c)(h':c<=122):cH c=3:=by
 rw[Iz c (by omega) (by omega) (by omega) (by omega),if_neg (by simp[iM];omega),if_pos (by simp[isWord,iM];omega)]
theorem zgG(c:Nat)(h:32<c)(h':c<127)(h1:c<48\/57<c)(h2:c<65\/90<c)(h3:c<97\/122<c)(h4:c≠95):cH c=4:=by
 rw[Iz c (by omega) (by omega) (by omega) (by omega),if_neg (by simp[iM];omega),if_neg (by simp[isWord,iM];omega),if_pos ⟨h,h'⟩]
theorem zgH(c:Nat)(h:c<32\/126<c)(h1:c≠9)(h2:c≠10)(h3:c≠13):cH c=0:=by
 rw[Iz c (by omega) (by omega) (by omega) (by omega),if_neg (by simp[iM];omega),if_neg (by simp[isWord,iM];omega),if_neg (by omega)]
theorem KM(c:Nat)(hc:c<256)(w:World):
  Calls prog 86 #[.int .u8 c] w fun e w'=>e=.returned (.int .i64 ((cH c:Nat):Int))/\w=w':=by
 have hk:(c=32\/c=9\/c=10\/c=13)\/(48<=c/\c<=57)\/(65<=c/\c<=90)\/c=95\/(97<=c/\c<=122)\/((32<c/\c<127)/\(c<48\/57<c)/\(c<65\/90<c)/\(c<97\/122<c)/\c≠95)\/((c<32\/126<c)/\c≠9/\c≠10/\c≠13):=by omega
 rcases hk with h|⟨h,h'⟩|⟨h,h'⟩|h|⟨h,h'⟩|⟨⟨h,h'⟩,h1,h2,h3,h4⟩|⟨h,h1,h2,h3⟩
 ·rcases h with h|h|h|h <;> subst h
  all_goals
   go_enter func86,ntmps86
   go_wp2
   go_ret
   exact⟨rfl,rfl⟩
 ·have HC:=hid (ziw c h h');have e1:((c:Int) == 32)=false:=by simp;omega
  have e2:((c:Int) == 9)=false:=by simp;omega
  have e3:((c:Int) == 10)=false:=by simp;omega
  have e4:((c:Int) == 13)=false:=by simp;omega
  go_enter func86,ntmps86;go_wp2;go_ret;exact⟨by rw[HC.out];rfl,rfl⟩
 ·have HC:=hid (zix c h h');have e1:((c:Int) == 32)=false:=by simp;omega
  have e2:((c:Int) == 9)=false:=by simp;omega
  have e3:((c:Int) == 10)=false:=by simp;omega
  have e4:((c:Int) == 13)=false:=by simp;omega
  go_enter func86,ntmps86;go_wp2;go_ret;exact⟨by rw[HC.out];rfl,rfl⟩
 ·subst h;go_enter func86,ntmps86;go_wp2;go_ret;exact⟨rfl,rfl⟩
 ·have HC:=hid (ziy c h h');have e1:((c:Int) == 32)=false:=by simp;omega
  have e2:((c:Int) == 9)=false:=by simp;omega
  have e3:((c:Int) == 10)=false:=by simp;omega
  have e4:((c:Int) == 13)=false:=by simp;omega
  go_enter func86,ntmps86;go_wp2;go_ret;exact⟨by rw[HC.out];rfl,rfl⟩
 ·have HC:=hid (zgG c h h' h1 h2 h3 h4);have e1:((c:Int) == 32)=false:=by simp;omega
  have e2:((c:Int) == 9)=false:=by simp;omega
  have e3:((c:Int) == 10)=false:=by simp;omega
  have e4:((c:Int) == 13)=false:=by simp;omega
  have e5:((c:Int) == 95)=false:=by simp;omega
  have HP:Hid (en c=true):=by show _=_;unfold en;simp;omega
  clear h4;rcases h1 with h1|h1 <;> rcases h2 with h2|h2 <;> rcases h3 with h3|h3
  all_goals first
   | (exfalso;omega)
   | (
    go_enter func86,ntmps86
    go_wp2_with fail
    refine (Hi c _).mono ?_
    rintro e w1 ⟨rfl,rfl⟩
    rw[HP.out]
    go_wp2
    go_ret
    exact⟨by rw[HC.out];rfl,rfl⟩)
 have HC:=hid (zgH c h h1 h2 h3);have e1:((c:Int) == 32)=false:=by simp;omega
 have e2:((c:Int) == 9)=false:=by simp;omega
 have e3:((c:Int) == 10)=false:=by simp;omega
 have e4:((c:Int) == 13)=false:=by simp;omega
 have e5:((c:Int) == 95)=false:=by simp;omega
 have HP:Hid (en c=false):=by show _=_;unfold en;simp;omega
 clear h1 h2 h3;rcases h with h|h
 all_goals
  go_enter func86,ntmps86
  go_wp2_with fail
  refine (Hi c _).mono ?_
  rintro e w1 ⟨rfl,rfl⟩
  rw[HP.out]
  go_wp2
  go_ret
  exact⟨by rw[HC.out];rfl,rfl⟩
theorem Qr(s:ByteArray)(w:World)(hs:s.size<=maxLen):
  Calls prog 70 #[.string s] w fun e w'=>e=.returned (.bool (bW s))/\w=w':=by
 unfold maxLen at hs;have HT:Hid (bW s=(fu s s.size && decide (1<=s.size) && decide (s.size<=40))):=rfl;rcases (by omega:s.size=0\/(1<=s.size/\s.size<=40)\/(1<=s.size/\40<s.size)) with h|⟨h,h'⟩|⟨h,h'⟩
 ·have hl:s.toList=[]:=by rw[ByteArray.toList_eq];exact List.eq_nil_of_length_eq_zero (by simpa using h)
  have iy:(!s.toList.isEmpty)=false:=by rw[hl];rfl
  have HK:Hid (bW s=false):=by show _=_;rw[HT.out,h];simp
  clear h;go_enter func70,ntmps70;go_wp2;go_ret;exact⟨by rw[HK.out];rfl,rfl⟩
 ·have hl:s.toList.isEmpty=false:=zy s (by omega);have iy:(!s.toList.isEmpty)=true:=by rw[hl];rfl
  have h0:0<s.size:=h;have hb:=toNat_lt s[0];have HN:=hid (Tf s 0 h);have HS:=hid (fun h=>XQ s 1 s.size (by omega) h);have HA:Hid (nameAt 0 s[0].toNat=(cH s[0].toNat == 3 || (cH s[0].toNat == 2 && decide (0≠0)))):=rfl;go_enter func70,ntmps70;go_wp2_with fail;refine (KM s[0].toNat hb _).mono ?_;rintro e w1 ⟨rfl,rfl⟩;obtain⟨q,PJ⟩:∃q,q=cH s[0].toNat:=⟨_,rfl⟩
  rw[<-PJ] at HA⊢;have HQ:=hid PJ;clear PJ;by_cases hq:q=3
  ·subst hq;go_wp2_with fail
   go_loop [20] (fun i=>∃k:Nat,k<=s.size/\i=.int .i64 k/\Hid (fu s k=true)) (fun i=>s.size-(intOf i).toNat)
   ·exact⟨0,Nat.zero_le _,rfl,by simp[Hid,fu]⟩
   clear HN HS;obtain⟨k,hk,rfl,HF⟩:=hrel;by_cases aw:k<s.size
   ·have HN:=hid (Tf s k aw);have HS:=hid (fun h=>XQ s (k+1) s.size aw h);have HB:Hid (nameAt k s[k].toNat=(cH s[k].toNat == 3 || (cH s[k].toNat == 2 && decide (k≠0)))):=rfl;have hb:=toNat_lt s[k];go_wp2_with fail;refine (KM s[k].toNat hb _).mono ?_;rintro e w1 ⟨rfl,rfl⟩;have HZ:Hid (k=0->cH s[k].toNat=3):=by
     show _->_;intro e;subst e;exact HQ.out.symm
    generalize cH s[k].toNat=r at HB HZ⊢;rcases (by omega:r=3\/r=2\/(r≠3/\r≠2)) with h|h|⟨h,h'⟩
    ·subst h;have HK:Hid (fu s (k+1)=true):=(by show _=_;rw[HN.out,HF.out,HB.out];rfl);clear HN HS HB;go_wp2_with fail;go_round
     ·exact⟨k+1,by omega,by go_num,HK⟩
     simp[intOf];omega
    ·subst h;have p8:k≠0:=(fun e=>by have:=HZ.out e;omega);have HK:Hid (fu s (k+1)=true):=(by show _=_;rw[HN.out,HF.out,HB.out];simp;omega);clear HN HS HB p8;go_wp2_with fail;go_round
     ·exact⟨k+1,by omega,by go_num,HK⟩
     simp[intOf];omega
    have HK:Hid (bW s=false):=(by show _=_;rw[HT.out,HS.out (by rw[HN.out,HF.out,HB.out];simp[h,h'])];rfl);have e3:((r:Int) != 3)=true:=(by simp;omega);have e2:((r:Int) != 2)=true:=(by simp;omega);clear HN HS HB h h';go_wp2;go_ret;exact⟨by rw[HK.out];rfl,rfl⟩
   obtain rfl:k=s.size:=(by omega);have HK:Hid (bW s=true):=(by show _=_;rw[HT.out,HF.out];simp[h];omega);go_wp2;go_ret;exact⟨by rw[HK.out];rfl,rfl⟩
  have HK:Hid (bW s=false):=by show _=_;rw[HT.out,HS.out (by rw[HN.out,HA.out];simp[hq])];rfl
  have e3:((q:Int) != 3)=true:=by simp;omega
  clear HN HS HA hq;go_wp2;go_ret;exact⟨by rw[HK.out];rfl,rfl⟩
 have hl:s.toList.isEmpty=false:=zy s (by omega);have iy:(!s.toList.isEmpty)=true:=by rw[hl];rfl
 have HK:Hid (bW s=false):=by show _=_;rw[HT.out];simp;omega
 go_enter func70,ntmps70;go_wp2;go_ret;exact⟨by rw[HK.out];rfl,rfl⟩
theorem zgI:∀c,c<256->(isWord c=(cH c == 2 || (cH c == 3 && c != 95))):=by decide +kernel
theorem S7(c:Nat)(hc:c<256)(w:World):
  Calls prog 224 #[.int .u8 c] w fun e w'=>e=.returned (.bool (isWord c))/\w=w':=by
 have HW:=hid (zgI c hc);rcases (by omega:c=95\/c≠95) with h|h
 ·subst h;go_enter func224,ntmps224;go_wp2_with fail;refine (KM 95 (by decide) _).mono ?_;rintro e w1 ⟨rfl,rfl⟩;have h3:cH 95=3:=rfl;rw[h3];clear h3;go_wp2;go_ret;exact⟨rfl,rfl⟩
 have e1:((c:Int) != 95)=true:=by simp;omega
 have e2:(c != 95)=true:=by simpa using h
 have H2:=hid e2;clear h e2;go_enter func224,ntmps224;go_wp2_with fail;refine (KM c hc _).mono ?_;rintro e w1 ⟨rfl,rfl⟩;generalize cH c=q at HW⊢;rcases (by omega:q=2\/q=3\/(q≠2/\q≠3)) with h|h|⟨h,h'⟩
 ·subst h;go_wp2;go_ret;exact⟨by rw[HW.out];rfl,rfl⟩
 ·subst h;go_wp2;go_ret;exact⟨by rw[HW.out,H2.out];rfl,rfl⟩
 have HK:Hid (isWord c=false):=by show _=_;rw[HW.out];simp[h,h']
 have e2:((q:Int) == 2)=false:=by simp;omega
 have e3:((q:Int) == 3)=false:=by simp;omega
 clear h h' HW;go_wp2;go_ret;exact⟨by rw[HK.out];rfl,rfl⟩
def yR(c:Nat):Int:=if hv c<16 then ((hv c:Nat):Int) else -1
theorem znY:∀c,c<256->Lib.indexByte (⟨#[48,49,50,51,52,53,54,55,56,57,97,98,99,100,101,102]⟩:ByteArray).data.toList c.toUInt8=yR c:=by decide +kernel
theorem zj4(c:Nat)(hc:c<256)(w:World):
  Calls prog 188 #[.string ⟨#[48,49,50,51,52,53,54,55,56,57,97,98,99,100,101,102]⟩,.int .u8 c] w fun e w'=>e=.returned (.int .i64 (yR c))/\w'=w:=by
 refine (Tryz.strings_IndexByte _ c w).mono ?_;rintro e w' ⟨rfl,rfl⟩;exact⟨by rw[<-znY c hc];rfl,rfl⟩
theorem zlV(b:UInt8)(w:World):
  Calls prog 188 #[.string ⟨#[48,49,50,51,52,53,54,55,56,57,97,98,99,100,101,102]⟩,.int .u8 b.toNat] w fun e w'=>e=.returned (.int .i64 (yR b.toNat))/\w'=w:=zj4 b.toNat (toNat_lt b) w
theorem SJ(c:Nat)(h:hv c<16):yR c=((hv c:Nat):Int):=by unfold yR;rw[if_pos h]
theorem Ud(c:Nat)(h:¬hv c<16):yR c=-1:=by unfold yR;rw[if_neg h]
theorem zj6(l:List Nat)(h:l.length<2):rY l=jY:=by
 match l,h with
 | [],_=>rfl
 | [_],_=>rfl
theorem zlW(s:ByteArray)(h:4<=s.size):(ae s).drop 2=s[2].toNat :: s[3].toNat :: (ae s).drop 4:=by
 rw[Jh s 2 (by omega),Jh s 3 (by omega)]
theorem zoW:∀a:Nat,a<16->∀b:Nat,b<16->bits .or .i64 ((a:Int)*16) (b:Int)=((16*a+b:Nat):Int):=by decide +kernel
theorem O1(w:World)(n:Nat):Below w.heap.size w (w.drewN n):=⟨rfl,rfl,rfl,le_refl _,fun _ _=>rfl⟩
theorem znZ(s:ByteArray)(hs:s.size<=maxLen)(w:World):
  Calls prog 223 #[.string s] w fun e w'=>e=.returned (pC (rY ((ae s).drop 2)))/\Below w.heap.size w w':=by
 unfold maxLen at hs;by_cases h4:4<=s.size
 ·have HN:=hid (zlW s h4);have g2:(2:Int)<(s.size:Int):=by omega
  have g3:(3:Int)<(s.size:Int):=by omega
  go_enter func223,ntmps223;go_wp2_with fail;go_quiet ((go_at_call 188;exact Calls.quiet_of_same (zlV _ _)));have HR:Hid (rY (s[2].toNat :: s[3].toNat :: (ae s).drop 4)=if hv s[2].toNat<16/\hv s[3].toNat<16 then (16*hv s[2].toNat+hv s[3].toNat,4,true) else jY):=rfl;have Y2:=SJ s[2].toNat;have Y3:=SJ s[3].toNat;have N2:=Ud s[2].toNat;have N3:=Ud s[3].toNat;generalize hv s[2].toNat=x at HR Y2 N2;generalize hv s[3].toNat=y at HR Y3 N3;generalize yR s[2].toNat=p at Y2 N2⊢;generalize yR s[3].toNat=q at Y3 N3⊢;by_cases hx:x<16
  ·by_cases hy:y<16
   ·obtain rfl:=Y2 hx;obtain rfl:=Y3 hy;have HZ:Hid (pC (rY ((ae s).drop 2))=.tuple #[.int .u8 ((16*x+y:Nat):Int),.int .i64 4,.bool true]):=by
     show _=_;rw[HN.out,HR.out,if_pos ⟨hx,hy⟩];rfl
    have HO:=zoW x hx y hy;clear Y2 Y3 N2 N3 HR;go_wp2_with fail
    go_ret3
    exact⟨by rw[HZ.out];rfl,O1 _ _⟩
   obtain rfl:=Y2 hx;obtain rfl:=N3 hy;have HZ:Hid (pC (rY ((ae s).drop 2))=.tuple #[.int .u8 0,.int .i64 0,.bool false]):=by
    show _=_;rw[HN.out,HR.out,if_neg (fun h=>hy h.2)];rfl
   clear Y2 Y3 N2 N3 HR;go_wp2_with fail
   go_ret3
   exact⟨by rw[HZ.out];rfl,O1 _ _⟩
  obtain rfl:=N2 hx;have HZ:Hid (pC (rY ((ae s).drop 2))=.tuple #[.int .u8 0,.int .i64 0,.bool false]):=by
   show _=_;rw[HN.out,HR.out,if_neg (fun h=>hx h.1)];rfl
  clear Y2 Y3 N2 N3 HR;go_wp2_with fail
  go_ret3
  exact⟨by rw[HZ.out];rfl,O1 _ _⟩
 have HX:Hid (pC (rY ((ae s).drop 2))=.tuple #[.int .u8 0,.int .i64 0,.bool false]):=by
  show _=_;rw[zj6 _ (by rw[List.length_drop,oO];omega)];rfl
 go_enter func223,ntmps223;go_wp2_with fail
 go_ret3
 exact⟨by rw[HX.out];rfl,Below.refl _ _⟩
theorem zj7(s:ByteArray)(h:s.size=0):ae s=[]:=List.eq_nil_of_length_eq_zero (by rw[oO];exact h)
theorem Vd(s:ByteArray)(h:0<s.size):ae s=s[0].toNat :: (ae s).drop 1:=Jh s 0 h
theorem X5(c:Nat)(t:List Nat):rd (c :: t)=if c=92 then zc t else (c,1,true):=rfl
theorem zlX(s:ByteArray)(h:0<s.size)(h0:s[0].toNat≠92):rd (ae s)=(s[0].toNat,1,true):=
 (congrArg rd (Vd s h)).trans ((X5 _ _).trans (if_neg h0))
theorem zn0(s:ByteArray)(h:0<s.size)(h0:s[0].toNat=92):rd (ae s)=zc ((ae s).drop 1):=
 (congrArg rd (Vd s h)).trans ((X5 _ _).trans (if_pos h0))
theorem zoX(s:ByteArray)(h:1<s.size):zc ((ae s).drop 1)=if s[1].toNat=110 then (10,2,true) else if s[1].toNat=116 then (9,2,true) else if s[1].toNat=114 then (13,2,true) else if s[1].toNat=120 then rY ((ae s).drop 2)
   else if en s[1].toNat && !isWord s[1].toNat then (s[1].toNat,2,true) else jY:=by
 rw[Jh s 1 h];rfl
theorem Ip(s:ByteArray)(hs:s.size<=maxLen)(w:World):
  Calls prog 208 #[.string s] w fun e w'=>e=.returned (pC (rd (ae s)))/\Below w.heap.size w w':=by
 have HS:=hid hs;unfold maxLen at hs;rcases Nat.eq_zero_or_pos s.size with hz|hp
 ·have hl:s.toList=[]:=by rw[ByteArray.toList_eq];exact List.eq_nil_of_length_eq_zero (by simpa using hz)
  have iy:(!s.toList.isEmpty)=false:=by rw[hl];rfl
  have HZ:Hid (pC (rd (ae s))=.tuple #[.int .u8 0,.int .i64 0,.bool false]):=by show _=_;rw[zj7 s hz];rfl
  clear hz;go_enter func208,ntmps208;go_wp2_with fail
  go_ret3
  exact⟨by rw[HZ.out];rfl,Below.refl _ _⟩
 have hl:s.toList.isEmpty=false:=zy s hp;have iy:(!s.toList.isEmpty)=true:=by rw[hl];rfl
 by_cases h0:s[0].toNat=92
 ·have e0:((s[0].toNat:Int) != 92)=false:=by simp;omega
  have HB:=hid (zn0 s hp h0);clear h0;by_cases h1:s.size=1
  ·have e1:((s.size:Int) == 1)=true:=(by simp;omega);have HZ:Hid (pC (rd (ae s))=.tuple #[.int .u8 0,.int .i64 0,.bool false]):=by
    show _=_;rw[HB.out,zmm s 1 (by omega)];rfl
   clear h1;go_enter func208,ntmps208;go_wp2_with fail
   go_ret3
   exact⟨by rw[HZ.out];rfl,Below.refl _ _⟩
  have e1:((s.size:Int) == 1)=false:=by simp;omega
  have g1:1<s.size:=by omega
  have HT:=hid (zoX s g1);have hc:=toNat_lt s[1];clear h1;rcases (by omega:s[1].toNat=110\/s[1].toNat=116\/s[1].toNat=114\/s[1].toNat=120\/(s[1].toNat≠110/\s[1].toNat≠116/\s[1].toNat≠114/\s[1].toNat≠120)) with h|h|h|h|⟨h,h',WB,h3⟩
  ·have HZ:Hid (pC (rd (ae s))=.tuple #[.int .u8 10,.int .i64 2,.bool true]):=by
    show _=_;rw[HB.out,HT.out,h];rfl
   have f110:((s[1].toNat:Int) == 110)=true:=(by simp;omega);clear h;go_enter func208,ntmps208;go_wp2_with fail
   go_ret3
   exact⟨by rw[HZ.out];rfl,Below.refl _ _⟩
  ·have HZ:Hid (pC (rd (ae s))=.tuple #[.int .u8 9,.int .i64 2,.bool true]):=by
    show _=_;rw[HB.out,HT.out,h];rfl
   have f110:((s[1].toNat:Int) == 110)=false:=(by simp;omega);have f116:((s[1].toNat:Int) == 116)=true:=(by simp;omega);clear h;go_enter func208,ntmps208;go_wp2_with fail
   go_ret3
   exact⟨by rw[HZ.out];rfl,Below.refl _ _⟩
  ·have HZ:Hid (pC (rd (ae s))=.tuple #[.int .u8 13,.int .i64 2,.bool true]):=by
    show _=_;rw[HB.out,HT.out,h];rfl
   have f110:((s[1].toNat:Int) == 110)=false:=(by simp;omega);have f116:((s[1].toNat:Int) == 116)=false:=(by simp;omega);have f114:((s[1].toNat:Int) == 114)=true:=(by simp;omega);clear h;go_enter func208,ntmps208;go_wp2_with fail
   go_ret3
   exact⟨by rw[HZ.out];rfl,Below.refl _ _⟩
  ·have HZ:Hid (pC (rd (ae s))=pC (rY ((ae s).drop 2))):=by
    show _=_;rw[HB.out,HT.out,h];rfl
   have f110:((s[1].toNat:Int) == 110)=false:=(by simp;omega);have f116:((s[1].toNat:Int) == 116)=false:=(by simp;omega);have f114:((s[1].toNat:Int) == 114)=false:=(by simp;omega);have f120:((s[1].toNat:Int) == 120)=true:=(by simp;omega);have HV:Hid (∀r,pC r=.tuple #[.int .u8 ((r.1:Nat):Int),.int .i64 ((r.2.1:Nat):Int),.bool r.2.2]):=(fun _=>rfl);clear h;go_enter func208,ntmps208;go_wp2_with fail;refine (znZ s HS.out _).mono ?_;rintro e w1 ⟨rfl,b1⟩;rw[HV.out];go_wp2_with fail
   go_ret3
   exact⟨by rw[HZ.out,HV.out];rfl,b1⟩
  have HR:Hid (rd (ae s)=if en s[1].toNat && !isWord s[1].toNat then (s[1].toNat,2,true) else jY):=by
   show _=_;rw[HB.out,HT.out,if_neg h,if_neg h',if_neg WB,if_neg h3]
  have f110:((s[1].toNat:Int) == 110)=false:=by simp;omega
  have f116:((s[1].toNat:Int) == 116)=false:=by simp;omega
  have f114:((s[1].toNat:Int) == 114)=false:=by simp;omega
  have f120:((s[1].toNat:Int) == 120)=false:=by simp;omega
  clear h h' WB h3;rcases hp:en s[1].toNat with _|_
  ·have HP:=hid hp;have HZ:Hid (pC (rd (ae s))=.tuple #[.int .u8 0,.int .i64 0,.bool false]):=(by show _=_;rw[HR.out,hp];rfl);clear hp;go_enter func208,ntmps208;go_wp2_with fail;refine (Hi s[1].toNat _).mono ?_;rintro e w1 ⟨rfl,rfl⟩;rw[HP.out];go_wp2_with fail
   go_ret3
   exact⟨by rw[HZ.out];rfl,Below.refl _ _⟩
  rcases hw:isWord s[1].toNat with _|_
  ·have HP:=hid hp;have HW:=hid hw;have HZ:Hid (pC (rd (ae s))=.tuple #[.int .u8 ((s[1].toNat:Nat):Int),.int .i64 2,.bool true]):=(by show _=_;rw[HR.out,hp,hw];rfl);clear hp hw;go_enter func208,ntmps208;go_wp2_with fail;refine (Hi s[1].toNat _).mono ?_;rintro e w1 ⟨rfl,rfl⟩;rw[HP.out];go_wp2_with fail;refine (S7 s[1].toNat hc _).mono ?_;rintro e w1 ⟨rfl,rfl⟩;rw[HW.out];go_wp2_with fail
   go_ret3
   exact⟨by rw[HZ.out];rfl,Below.refl _ _⟩
  have HP:=hid hp;have HW:=hid hw;have HZ:Hid (pC (rd (ae s))=.tuple #[.int .u8 0,.int .i64 0,.bool false]):=by show _=_;rw[HR.out,hp,hw];rfl
  clear hp hw;go_enter func208,ntmps208;go_wp2_with fail;refine (Hi s[1].toNat _).mono ?_;rintro e w1 ⟨rfl,rfl⟩;rw[HP.out];go_wp2_with fail;refine (S7 s[1].toNat hc _).mono ?_;rintro e w1 ⟨rfl,rfl⟩;rw[HW.out];go_wp2_with fail
  go_ret3
  exact⟨by rw[HZ.out];rfl,Below.refl _ _⟩
 have e0:((s[0].toNat:Int) != 92)=true:=by simp;omega
 have HZ:Hid (pC (rd (ae s))=.tuple #[.int .u8 ((s[0].toNat:Nat):Int),.int .i64 1,.bool true]):=by show _=_;rw[zlX s hp h0];rfl
 clear h0;go_enter func208,ntmps208;go_wp2_with fail
 go_ret3
 exact⟨by rw[HZ.out];rfl,Below.refl _ _⟩
end Go.Proofs.YtiijebameffenaaGreat
