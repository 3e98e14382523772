import Derived.Test.YtbacgnhkapancaaGreatZPParse
import Derived.Deep.Cut
set_option linter.all false
open Go.Lib (hid)
namespace Go.Proofs.YtbacgnhkapancaaGreat
open Go.RowKit Go.Proofs.Tryz
open Option (map_some)
variable {atom:bc->Option bc}
def iE(g:bc->Option bc):Prop:=∀(acc l:List Pc) (r:List Nat),g (acc++l,r)=(g (l,r)).map fun x=>(acc++x.1,x.2)
theorem zh0(s:List Nat)(acc l:List Pc):bp s (acc++l)=(acc++(bp s l).1,(bp s l).2):=by
 induction s generalizing l with
 | nil=>rfl
 | cons c r ih=>
  unfold bp;rcases ey c with _|k
  ·rfl
  simp only;rw[List.append_assoc,ih]
theorem RT(h:iE atom):iE (ca atom):=fun acc l r=>by
 unfold ca
 rw[h acc l r]
 rcases atom (l,r) with _|x
 ·rfl
 ·simp only[map_some]
  rw[zh0]
theorem Yc{atom:bc->Option bc}(h:iE atom):∀(f:Nat) (acc l:List Pc) (r:List Nat),aX atom f (acc++l,r)=(aX atom f (l,r)).map fun x=>(acc++x.1,x.2)
 | 0,_,_,_=>rfl
 | f+1,acc,l,r=>by
  unfold aX
  rw[RT h acc l r]
  simp only
  split
  ·rfl
  ·rcases ca atom (l,r) with _|x
   ·rfl
   ·simp only[map_some]
    rw[List.append_assoc]
    exact Yc h f acc _ _
theorem SG(h:iE atom):iE (cb atom):=fun acc l r=>by
 unfold cb
 rw[RT h acc l r]
 rcases ca atom (l,r) with _|x
 ·rfl
 ·simp only[map_some]
  exact Yc h _ acc _ _
theorem Yy{atom:bc->Option bc}(h:iE atom):∀(f:Nat) (acc l:List Pc) (r:List Nat),aW atom f (acc++l,r)=(aW atom f (l,r)).map fun x=>(acc++x.1,x.2)
 | 0,_,_,_=>rfl
 | f+1,acc,l,r=>by
  unfold aW
  simp only
  rcases aw 124 r with _|r1
  ·rfl
  ·simp only
   rw[SG h acc l r1]
   rcases cb atom (l,r1) with _|x
   ·rfl
   ·simp only[map_some]
    rw[List.append_assoc]
    exact Yy h f acc _ _
theorem zlV(h:iE atom):iE (bf atom):=fun acc l r=>by
 unfold bf
 rw[SG h acc l r]
 rcases cb atom (l,r) with _|x
 ·rfl
 ·simp only[map_some]
  exact Yy h _ acc _ _
theorem zh1(h:iE atom):iE (ea atom):=fun acc l r=>by
 unfold ea
 rw[zlV h acc l r]
 rcases bf atom (l,r) with _|x
 ·rfl
 ·simp only[map_some]
  rcases aw 41 x.2 with _|r1 <;> rfl
theorem Wz{group:bc->Option bc}(h:iE group):iE (aU group):=fun acc l r=>by
 unfold aU
 simp only
 rcases aw 46 r with _|r1
 ·rcases aw 126 r with _|r1
  ·rcases aw 40 r with _|r1
   ·rcases aw 91 r with _|r1
    ·rcases aI mU r with _|⟨c,r1⟩
     ·rfl
     ·simp
    ·simp only
     rcases dW r1 with _|⟨q,r2⟩
     ·rfl
     ·simp
   ·exact h acc l r1
  ·simp
 ·simp
theorem RZ:∀D,iE (dw D)
 | 0=>Wz fun _ _ _=>rfl
 | D+1=>Wz (zh1 (RZ D))
def sub(g:bc->Option bc)(r:List Nat):Option (List Pc × List Nat):=g ([],r)
theorem iE.at_{g:bc->Option bc}(h:iE g)(l:List Pc)(r:List Nat):g (l,r)=(sub g r).map fun x=>(l++x.1,x.2):=by
 have:=h l [] r;rw[List.append_nil] at this;exact this
theorem vq(s:ByteArray):(aa s).length=s.size:=by
 show (s.data.toList.map UInt8.toNat).length=_;rw[List.length_map];exact Array.length_toList
theorem xD(s:ByteArray)(k:Nat)(h:k<s.size):(aa s).drop k=(s[k]'h).toNat :: (aa s).drop (k+1):=by
 rw[List.drop_eq_getElem_cons (by rw[vq];exact h)];congr 1;simp[aa];rfl
theorem xn(s:ByteArray)(k:Nat)(h:s.size<=k):(aa s).drop k=[]:=List.drop_of_length_le (by rw[vq];exact h)
theorem GY(s:ByteArray)(c:Nat)(w:World)(hs:s.size<=maxLen):
  Calls prog 101 #[.string s,.int .u8 c] w fun e w'=>e=.returned (.bool (fE s c))/\w=w':=by
 unfold maxLen at hs;go_enter func101,ntmps101;go_wp2_with fail
 go_loop [5] (fun i=>∃k:Nat,k<=s.size/\i=.int .i64 k/\Hid (mX s c k=false)) (fun i=>s.size-(intOf i).toNat)
 ·exact⟨0,Nat.zero_le _,rfl,by simp[Hid,mX]⟩
 obtain⟨k,hk,rfl,HF⟩:=hrel;by_cases an:k<s.size
 ·have hn:=Zh s c k an;have hy:=Yu s c k an;have HN:=hid hn;have HY:=hid hy;clear hn hy;by_cases e:s[k].toNat=c
  ·have e1:((s[k].toNat:Int) == (c:Int))=true:=(by simp[e]);have HE:=hid e;clear e;go_wp2;go_ret;exact⟨by rw[HY.out HE.out];rfl,rfl⟩
  have e1:((s[k].toNat:Int) == (c:Int))=false:=by simp;omega
  have HE:=hid e;clear e;go_wp2_with fail;go_round
  ·exact⟨k+1,by omega,by go_num,by show mX s c (k+1)=false;rw[HN.out,HF.out];simp[HE.out]⟩
  simp[intOf];omega
 obtain rfl:k=s.size:=by omega
 have HR:=hid (U3 s c);go_wp2;go_ret;exact⟨by rw[<-HR.out,HF.out];rfl,rfl⟩
open Go.Maps Go.WideElems Go.ChangeMaps Go.MapKept
theorem qg(w:World)(o:Obj):Below w.heap.size w (w.alloc o):=(Below.refl _ _).alloc (Nat.le_refl _) _
theorem I9(b j:Nat):(⟨b,0,none⟩:Addr).add j=⟨b,j,none⟩:=by unfold Addr.add;split <;> simp_all
theorem CX{w:World}{B g n c:Nat}{l:List Pc}(h:w.ownsRow B 104 5 (.slice (some ⟨g,0,none⟩) n c) n (eC l)):∀(j:Nat) (u:Value),(eC l)[j]?=some u->w.cell? ((⟨g,0,none⟩:Addr).add j)=some u:=fun j u hu=>by
 have hj:j<(eC l).length:=(List.getElem?_eq_some_iff.1 hu).1
 have:=h.cellAt j (by rw[<-h.1];exact hj)
 rw[<-hu,I9]
 exact this
theorem znE(l:List Pc):∀u∈eC l,u.oneCell'=true:=by
 intro u hu;simp only[eC,List.mem_flatMap] at hu;obtain⟨x,_,hx⟩:=hu;simp[da] at hx;rcases hx with rfl|rfl|rfl|rfl|rfl <;> rfl
theorem vV{ops:Array Oper}{rest:List Oper}{o:Oper}{a:Act}{Q:Exit->Act->World->Prop}(w:World)(oG:o.guard=none)(s x:Operand)
  (ho:o.op=.call { callee:=.builtin .append,args:=#[s,x],argTypes:=#[47,47] })
  (B:Nat) (v:Value) (n:Nat) (l:List Pc) (hs:a.eval s=v) (ay:w.ownsRow B 104 5 v n (eC l))
  (ad:Addr) (m c:Nat) (l2:List Pc) (hx:a.eval x=.slice (some ad) m c) (hm:l2.length=m) (mT:∀(j:Nat) (u:Value),(eC l2)[j]?=some u->w.cell? (ad.add j)=some u) (hb:n+m<=100000) (hp:0<m) (hB:B<=w.heap.size)
  (h:∀(g c':Nat) (w':World),w'.ownsRow B 104 5 (.slice (some ⟨g,0,none⟩) (n+m) c') (n+m) (eC (l++l2))->Below B w w'->wpList prog ops Q rest (a.put o.dst (.slice (some ⟨g,0,none⟩) (n+m) c')) w'):wpList prog ops Q (o :: rest) a w:=by
 obtain⟨i0,hi,du,cH,ct⟩:=info_parts ni;refine wpList_append_own w oG s x 47 ho B 104 i0 (.agg #[.int .i64 0,.int .u64 0,.int .u64 0,.int .u64 0,.int .u64 0]) 5 40 underlying47 hi du cH ct rfl (by decide) v n (eC l) hs ay ad m c (eC l2) hx ?_ mT (znE l2) ?_ ?_ hB ?_
 ·rw[Fb,hm]
 ·unfold maxLen;omega
 ·omega
 intro v' w' h1 h2 _;obtain⟨a',c',rfl⟩:=bJ h1;obtain⟨g,rfl,_⟩:=ep h1 (by omega);exact h g c' w' (by rw[Fu];exact h1) (Cu h2 ay hB)
theorem IF(W:World){B:Nat}(h:B<=W.heap.size):(W.alloc (.cells #[] 104)).ownsRow B 104 5 (.slice (some ⟨W.heap.size,0,none⟩) 0 0) 0 (eC []):=by
 refine⟨rfl,Or.inr ⟨W.heap.size,0,#[],rfl,h,St.new W _ _,?_⟩⟩
 first|exact⟨rfl,rfl⟩|simp[eC]
theorem G8(W:World)(k:Int):∀(j:Nat) (u:Value),(eC [⟨k,aJ⟩])[j]?=some u->(W.alloc (.cells #[.int .i64 k,.int .u64 0,.int .u64 0,.int .u64 0,.int .u64 0] 104)).cell? ((⟨W.heap.size,0,none⟩:Addr).add j)=some u:=by
 have e:eC [⟨k,aJ⟩]=[.int .i64 k,.int .u64 0,.int .u64 0,.int .u64 0,.int .u64 0]:=by
  simp only[eC,da,List.flatMap_cons,List.flatMap_nil,List.append_nil];have:∀j,wd aJ j=0:=fun j=>vb j
  simp[this]
 rw[e];intro j u hu;rw[I9,cell_of_row _ _ j _ _ _ (St.new W 104 #[.int .i64 k,.int .u64 0,.int .u64 0,.int .u64 0,.int .u64 0])];simpa using hu
theorem Tr(W:World)(a:Option Addr)(n c:Nat):(binOp .eql 47 (.slice a n c) (.slice none 0 0)).run prog W=.ok (.bool a.isNone) W:=by
 have:=Lib.run_eql_slice_nil W 47 104 a n c 0 0 underlying47;cases a <;> simpa using this
theorem Mh(W:World):(binOp .eql 47 (.slice none 0 0) (.slice none 0 0)).run prog W=.ok (.bool true) W:=Tr W none 0 0
theorem M3(W:World)(b n c:Nat):(binOp .eql 47 (.slice (some ⟨b,0,none⟩) n c) (.slice none 0 0)).run prog W=.ok (.bool false) W:=Tr W _ n c
theorem LI(W:World){B:Nat}(h:B<=W.heap.size)(x:Pc):(W.alloc (.cells (da x).toArray 104)).ownsRow B 104 5 (.slice (some ⟨W.heap.size,0,none⟩) 1 1) 1 (eC [x]):=by
 have e:eC [x]=da x:=by simp[eC]
 have e5:(da x).length=5:=by simp[da]
 rw[e];refine⟨by rw[e5],Or.inr ⟨W.heap.size,1,_,rfl,h,St.new W _ _,Nat.le_refl _,by unfold maxLen;omega,by simp[e5],?_⟩⟩;rw[List.toList_toArray];exact List.take_of_length_le (by omega)
def xB(g:List Nat->Option (List Pc × List Nat))(s:ByteArray)(k:Nat)(w:World)(e:Ending)(w':World):Prop:=
 ∃(a:Option Addr) (n c:Nat) (p:Int),e=.returned (.tuple #[.slice a n c,.int .i64 p])/\Below w.heap.size w w'/\
  (
   (g ((aa s).drop k)=none/\a=none/\n=0/\c=0)\/
   ∃(l:List Pc) (r:List Nat) (q b:Nat),g ((aa s).drop k)=some (l,r)/\q<=s.size/\p=(q:Int)/\r=(aa s).drop q/\l.length=n/\0<n/\a=some ⟨b,0,none⟩/\w'.ownsRow w.heap.size 104 5 (.slice a n c) n (eC l))
def mW(f:FuncId)(g:List Nat->Option (List Pc × List Nat))(D:Nat):Prop:=
 ∀(s:ByteArray) (k:Nat) (w:World),s.size<=1600->k<=s.size->Calls prog f #[.string s,.int .i64 (k:Int),.int .i64 (D:Int)] w (xB g s k w)
end Go.Proofs.YtbacgnhkapancaaGreat
