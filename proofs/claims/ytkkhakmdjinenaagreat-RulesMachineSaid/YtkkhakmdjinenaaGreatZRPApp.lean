import Derived.Test.YtkkhakmdjinenaaGreatZPParse
import Derived.Deep.Cut
set_option linter.all false
open Go.Lib (hid)
namespace Go.Proofs.YtkkhakmdjinenaaGreat
open Go.RowKit Go.Proofs.Tryz
open Option (map_some)
variable {B:Nat}{atom:bf->Option bf}
def jc(g:bf->Option bf):Prop:=∀(acc l:List Pc) (r:List Nat),g (acc++l,r)=(g (l,r)).map fun x=>(acc++x.1,x.2)
theorem zif(s:List Nat)(acc l:List Pc):bx s (acc++l)=(acc++(bx s l).1,(bx s l).2):=by
 induction s generalizing l with
 | nil=>rfl
 | cons c r ih=>
  unfold bx;rcases eH c with _|k
  ·rfl
  simp only;rw[List.append_assoc,ih]
theorem Tr(h:jc atom):jc (cr atom):=fun acc l r=>by
 unfold cr
 rw[h acc l r]
 rcases atom (l,r) with _|x
 ·rfl
 ·simp only[map_some]
  rw[zif]
theorem Ve{atom:bf->Option bf}(h:jc atom):∀(f:Nat) (acc l:List Pc) (r:List Nat),aY atom f (acc++l,r)=(aY atom f (l,r)).map fun x=>(acc++x.1,x.2)
 | 0,_,_,_=>rfl
 | f+1,acc,l,r=>by
  unfold aY
  rw[Tr h acc l r]
  simp only
  split
  ·rfl
  ·rcases cr atom (l,r) with _|x
   ·rfl
   ·simp only[map_some]
    rw[List.append_assoc]
    exact Ve h f acc _ _
theorem SU(h:jc atom):jc (cq atom):=fun acc l r=>by
 unfold cq
 rw[Tr h acc l r]
 rcases cr atom (l,r) with _|x
 ·rfl
 ·simp only[map_some]
  exact Ve h _ acc _ _
theorem U1{atom:bf->Option bf}(h:jc atom):∀(f:Nat) (acc l:List Pc) (r:List Nat),aX atom f (acc++l,r)=(aX atom f (l,r)).map fun x=>(acc++x.1,x.2)
 | 0,_,_,_=>rfl
 | f+1,acc,l,r=>by
  unfold aX
  simp only
  rcases aw 124 r with _|r1
  ·rfl
  ·simp only
   rw[SU h acc l r1]
   rcases cq atom (l,r1) with _|x
   ·rfl
   ·simp only[map_some]
    rw[List.append_assoc]
    exact U1 h f acc _ _
theorem zl9(h:jc atom):jc (bh atom):=fun acc l r=>by
 unfold bh
 rw[SU h acc l r]
 rcases cq atom (l,r) with _|x
 ·rfl
 ·simp only[map_some]
  exact U1 h _ acc _ _
theorem zig(h:jc atom):jc (eh atom):=fun acc l r=>by
 unfold eh
 rw[zl9 h acc l r]
 rcases bh atom (l,r) with _|x
 ·rfl
 ·simp only[map_some]
  rcases aw 41 x.2 with _|r1 <;> rfl
theorem XR{group:bf->Option bf}(h:jc group):jc (aW group):=fun acc l r=>by
 unfold aW
 simp only
 rcases aw 46 r with _|r1
 ·rcases aw 126 r with _|r1
  ·rcases aw 40 r with _|r1
   ·rcases aw 91 r with _|r1
    ·rcases aI nC r with _|⟨c,r1⟩
     ·rfl
     ·simp
    ·simp only
     rcases ec r1 with _|⟨q,r2⟩
     ·rfl
     ·simp
   ·exact h acc l r1
  ·simp
 ·simp
theorem Te:∀D,jc (dA D)
 | 0=>XR fun _ _ _=>rfl
 | D+1=>XR (zig (Te D))
def sub(g:bf->Option bf)(r:List Nat):Option (List Pc × List Nat):=g ([],r)
theorem jc.at_{g:bf->Option bf}(h:jc g)(l:List Pc)(r:List Nat):g (l,r)=(sub g r).map fun x=>(l++x.1,x.2):=by
 have:=h l [] r;rw[List.append_nil] at this;exact this
theorem wh(s:ByteArray):(aa s).length=s.size:=by
 show (s.data.toList.map UInt8.toNat).length=_;rw[List.length_map];exact Array.length_toList
theorem xR(s:ByteArray)(k:Nat)(h:k<s.size):(aa s).drop k=(s[k]'h).toNat :: (aa s).drop (k+1):=by
 rw[List.drop_eq_getElem_cons (by rw[wh];exact h)];congr 1;simp[aa];rfl
theorem xB(s:ByteArray)(k:Nat)(h:s.size<=k):(aa s).drop k=[]:=List.drop_of_length_le (by rw[wh];exact h)
theorem Kd(s:ByteArray)(c:Nat)(w:World)(hs:s.size<=maxLen):
  Calls prog 89 #[.string s,.int .u8 c] w fun e w'=>e=.returned (.bool (fV s c))/\w=w':=by
 unfold maxLen at hs;go_in;go_wp2_with fail
 go_loop [5] (fun i=>∃k:Nat,k<=s.size/\i=.int .i64 k/\Hid (nA s c k=false)) (fun i=>s.size-(intOf i).toNat)
 ·exact⟨0,Nat.zero_le _,rfl,by simp[Hid,nA]⟩
 obtain⟨k,hk,rfl,HF⟩:=hrel;by_cases aq:k<s.size
 ·have hn:=Yi s c k aq;have hy:=Yo s c k aq;have HN:=hid hn;have HY:=hid hy;clear hn hy;by_cases e:s[k].toNat=c
  ·have e1:((s[k].toNat:Int) == (c:Int))=true:=(by simp[e]);have HE:=hid e;clear e;go_wp2;go_ret;exact⟨by rw[HY.out HE.out];rfl,rfl⟩
  have e1:((s[k].toNat:Int) == (c:Int))=false:=by simp;omega
  have HE:=hid e;clear e;go_wp2_with fail;go_round
  ·exact⟨k+1,by omega,by go_num,by show nA s c (k+1)=false;rw[HN.out,HF.out];simp[HE.out]⟩
  simp[intOf];omega
 obtain rfl:k=s.size:=by omega
 have HR:=hid (ziC s c);go_wp2;go_ret;exact⟨by rw[<-HR.out,HF.out];rfl,rfl⟩
open Go.Maps
theorem qt(w:World)(o:Obj):Below w.heap.size w (w.alloc o):=(Below.refl _ _).alloc (Nat.le_refl _) _
theorem Ji(b j:Nat):(⟨b,0,none⟩:Addr).add j=⟨b,j,none⟩:=by unfold Addr.add;split <;> simp_all
theorem Eh{w:World}{g n c:Nat}{l:List Pc}(h:w.ownsRow B 91 5 (.slice (some ⟨g,0,none⟩) n c) n (eJ l)):∀(j:Nat) (u:Value),(eJ l)[j]?=some u->w.cell? ((⟨g,0,none⟩:Addr).add j)=some u:=fun j u hu=>by
 have hj:j<(eJ l).length:=(List.getElem?_eq_some_iff.1 hu).1
 have:=h.cellAt j (by rw[<-h.1];exact hj)
 rw[<-hu,Ji]
 exact this
theorem znU(l:List Pc):∀u∈eJ l,u.oneCell'=true:=by
 intro u hu;simp only[eJ,List.mem_flatMap] at hu;obtain⟨x,_,hx⟩:=hu;simp[dd] at hx;rcases hx with rfl|rfl|rfl|rfl|rfl <;> rfl
theorem wi{ops:Array Oper}{rest:List Oper}{o:Oper}{a:Act}{Q:Exit->Act->World->Prop}(w:World)(oE:o.guard=none)(s x:Operand)
  (ho:o.op=.call { callee:=.builtin .append,args:=#[s,x],argTypes:=#[42,42] })
  (B:Nat) (v:Value) (n:Nat) (l:List Pc) (hs:a.eval s=v) (az:w.ownsRow B 91 5 v n (eJ l))
  (ad:Addr) (m c:Nat) (l2:List Pc) (hx:a.eval x=.slice (some ad) m c) (hm:l2.length=m) (nw:∀(j:Nat) (u:Value),(eJ l2)[j]?=some u->w.cell? (ad.add j)=some u) (hb:n+m<=100000) (hp:0<m) (hB:B<=w.heap.size)
  (h:∀(g c':Nat) (w':World),w'.ownsRow B 91 5 (.slice (some ⟨g,0,none⟩) (n+m) c') (n+m) (eJ (l++l2))->Below B w w'->wpList prog ops Q rest (a.put o.dst (.slice (some ⟨g,0,none⟩) (n+m) c')) w'):wpList prog ops Q (o :: rest) a w:=by
 obtain⟨i0,hi,dv,cP,cG⟩:=info_parts nN;refine wpList_append_own w oE s x 42 ho B 91 i0 (.agg #[.int .i64 0,.int .u64 0,.int .u64 0,.int .u64 0,.int .u64 0]) 5 40 underlying42 hi dv cP cG rfl (by decide) v n (eJ l) hs az ad m c (eJ l2) hx ?_ nw (znU l2) ?_ ?_ hB ?_
 ·rw[Gg,hm]
 ·unfold maxLen;omega
 ·omega
 intro v' w' h1 h2 _;obtain⟨a',c',rfl⟩:=bP h1;obtain⟨g,rfl,_⟩:=eC h1 (by omega);exact h g c' w' (by rw[ER];exact h1) (EK h2 az hB)
theorem Kv(W:World)(h:B<=W.heap.size):(W.alloc (.cells #[] 91)).ownsRow B 91 5 (.slice (some ⟨W.heap.size,0,none⟩) 0 0) 0 (eJ []):=by
 refine⟨rfl,Or.inr ⟨W.heap.size,0,#[],rfl,h,St.new W _ _,?_⟩⟩
 first|exact⟨rfl,rfl⟩|simp[eJ]
theorem IJ(W:World)(k:Int):∀(j:Nat) (u:Value),(eJ [⟨k,aJ⟩])[j]?=some u->(W.alloc (.cells #[.int .i64 k,.int .u64 0,.int .u64 0,.int .u64 0,.int .u64 0] 91)).cell? ((⟨W.heap.size,0,none⟩:Addr).add j)=some u:=by
 have e:eJ [⟨k,aJ⟩]=[.int .i64 k,.int .u64 0,.int .u64 0,.int .u64 0,.int .u64 0]:=by
  simp only[eJ,dd,List.flatMap_cons,List.flatMap_nil,List.append_nil];have:∀j,wd aJ j=0:=fun j=>wQ j
  simp[this]
 rw[e];intro j u hu;rw[Ji,cell_of_row _ _ j _ _ _ (St.new W 91 #[.int .i64 k,.int .u64 0,.int .u64 0,.int .u64 0,.int .u64 0])];simpa using hu
theorem V8(W:World)(a:Option Addr)(n c:Nat):(binOp .eql 42 (.slice a n c) (.slice none 0 0)).run prog W=.ok (.bool a.isNone) W:=by
 have:=Lib.run_eql_slice_nil W 42 91 a n c 0 0 underlying42;cases a <;> simpa using this
theorem NG(W:World):(binOp .eql 42 (.slice none 0 0) (.slice none 0 0)).run prog W=.ok (.bool true) W:=V8 W none 0 0
theorem MJ(W:World)(b n c:Nat):(binOp .eql 42 (.slice (some ⟨b,0,none⟩) n c) (.slice none 0 0)).run prog W=.ok (.bool false) W:=V8 W _ n c
theorem Mu(W:World)(h:B<=W.heap.size)(x:Pc):(W.alloc (.cells (dd x).toArray 91)).ownsRow B 91 5 (.slice (some ⟨W.heap.size,0,none⟩) 1 1) 1 (eJ [x]):=by
 have e:eJ [x]=dd x:=by simp[eJ]
 have e5:(dd x).length=5:=by simp[dd]
 rw[e];refine⟨by rw[e5],Or.inr ⟨W.heap.size,1,_,rfl,h,St.new W _ _,Nat.le_refl _,by unfold maxLen;omega,by simp[e5],?_⟩⟩;rw[List.toList_toArray];exact List.take_of_length_le (by omega)
def yr(g:List Nat->Option (List Pc × List Nat))(s:ByteArray)(k:Nat)(w:World)(e:Ending)(w':World):Prop:=
 ∃(a:Option Addr) (n c:Nat) (p:Int),e=.returned (.tuple #[.slice a n c,.int .i64 p])/\Below w.heap.size w w'/\
  (
   (g ((aa s).drop k)=none/\a=none/\n=0/\c=0)\/
   ∃(l:List Pc) (r:List Nat) (q b:Nat),g ((aa s).drop k)=some (l,r)/\q<=s.size/\p=(q:Int)/\r=(aa s).drop q/\l.length=n/\0<n/\a=some ⟨b,0,none⟩/\w'.ownsRow w.heap.size 91 5 (.slice a n c) n (eJ l))
def nL(f:FuncId)(g:List Nat->Option (List Pc × List Nat))(D:Nat):Prop:=
 ∀(s:ByteArray) (k:Nat) (w:World),s.size<=1600->k<=s.size->Calls prog f #[.string s,.int .i64 (k:Int),.int .i64 (D:Int)] w (yr g s k w)
