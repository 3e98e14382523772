import Derived.Test.YtiijebameffenaaGreatZPParse
import Derived.Deep.Cut
set_option linter.all false
open Go.Lib (hid)
namespace Go.Proofs.YtiijebameffenaaGreat
open Go.RowKit Go.Proofs.Tryz
open Option (map_some)
variable {B:Nat}{atom:bf->Option bf}
def ja(g:bf->Option bf):Prop:=∀(acc l:List Pc) (r:List Nat),g (acc++l,r)=(g (l,r)).map fun x=>(acc++x.1,x.2)
theorem zh0(s:List Nat)(acc l:List Pc):bB s (acc++l)=(acc++(bB s l).1,(bB s l).2):=by
 induction s generalizing l with
 | nil=>rfl
 | cons c r ih=>
  unfold bB;rcases eZ c with _|k
  ·rfl
  simp only;rw[List.append_assoc,ih]
theorem T7(h:ja atom):ja (ct atom):=fun acc l r=>by
 unfold ct
 rw[h acc l r]
 rcases atom (l,r) with _|x
 ·rfl
 ·simp only[map_some]
  rw[zh0]
theorem WY{atom:bf->Option bf}(h:ja atom):∀(f:Nat) (acc l:List Pc) (r:List Nat),aX atom f (acc++l,r)=(aX atom f (l,r)).map fun x=>(acc++x.1,x.2)
 | 0,_,_,_=>rfl
 | f+1,acc,l,r=>by
  unfold aX
  rw[T7 h acc l r]
  simp only
  split
  ·rfl
  ·rcases ct atom (l,r) with _|x
   ·rfl
   ·simp only[map_some]
    rw[List.append_assoc]
    exact WY h f acc _ _
theorem PH(h:ja atom):ja (cm atom):=fun acc l r=>by
 unfold cm
 rw[T7 h acc l r]
 rcases ct atom (l,r) with _|x
 ·rfl
 ·simp only[map_some]
  exact WY h _ acc _ _
theorem zeo{atom:bf->Option bf}(h:ja atom):∀(f:Nat) (acc l:List Pc) (r:List Nat),aY atom f (acc++l,r)=(aY atom f (l,r)).map fun x=>(acc++x.1,x.2)
 | 0,_,_,_=>rfl
 | f+1,acc,l,r=>by
  unfold aY
  simp only
  rcases aw 124 r with _|r1
  ·rfl
  ·simp only
   rw[PH h acc l r1]
   rcases cm atom (l,r1) with _|x
   ·rfl
   ·simp only[map_some]
    rw[List.append_assoc]
    exact zeo h f acc _ _
theorem zmo(h:ja atom):ja (bx atom):=fun acc l r=>by
 unfold bx
 rw[PH h acc l r]
 rcases cm atom (l,r) with _|x
 ·rfl
 ·simp only[map_some]
  exact zeo h _ acc _ _
theorem zh1(h:ja atom):ja (eu atom):=fun acc l r=>by
 unfold eu
 rw[zmo h acc l r]
 rcases bx atom (l,r) with _|x
 ·rfl
 ·simp only[map_some]
  rcases aw 41 x.2 with _|r1 <;> rfl
theorem ze5{group:bf->Option bf}(h:ja group):ja (aW group):=fun acc l r=>by
 unfold aW
 simp only
 rcases aw 46 r with _|r1
 ·rcases aw 126 r with _|r1
  ·rcases aw 40 r with _|r1
   ·rcases aw 91 r with _|r1
    ·rcases aI oy r with _|⟨c,r1⟩
     ·rfl
     ·simp
    ·simp only
     rcases ek r1 with _|⟨q,r2⟩
     ·rfl
     ·simp
   ·exact h acc l r1
  ·simp
 ·simp
theorem Qg:∀D,ja (dB D)
 | 0=>ze5 fun _ _ _=>rfl
 | D+1=>ze5 (zh1 (Qg D))
def sub(g:bf->Option bf)(r:List Nat):Option (List Pc × List Nat):=g ([],r)
theorem ja.at_{g:bf->Option bf}(h:ja g)(l:List Pc)(r:List Nat):g (l,r)=(sub g r).map fun x=>(l++x.1,x.2):=by
 have:=h l [] r;rw[List.append_nil] at this;exact this
theorem bq(s:ByteArray):(aa s).length=s.size:=by
 show (s.data.toList.map UInt8.toNat).length=_;rw[List.length_map];exact Array.length_toList
theorem yt(s:ByteArray)(k:Nat)(h:k<s.size):(aa s).drop k=(s[k]'h).toNat :: (aa s).drop (k+1):=by
 rw[List.drop_eq_getElem_cons (by rw[bq];exact h)];congr 1;simp[aa];rfl
theorem zb(s:ByteArray)(k:Nat)(h:s.size<=k):(aa s).drop k=[]:=List.drop_of_length_le (by rw[bq];exact h)
theorem LW(s:ByteArray)(c:Nat)(w:World)(hs:s.size<=maxLen):
  Calls prog 135 #[.string s,.int .u8 c] w fun e w'=>e=.returned (.bool (fZ s c))/\w=w':=by
 unfold maxLen at hs;go_in;go_wp2_with fail
 go_loop [5] (fun i=>∃k:Nat,k<=s.size/\i=.int .i64 k/\Hid (oC s c k=false)) (fun i=>s.size-(intOf i).toNat)
 ·exact⟨0,Nat.zero_le _,rfl,by simp[Hid,oC]⟩
 obtain⟨k,hk,rfl,HF⟩:=hrel;by_cases aq:k<s.size
 ·have hn:=zgi s c k aq;have hy:=zk2 s c k aq;have HN:=hid hn;have HY:=hid hy;clear hn hy;by_cases e:s[k].toNat=c
  ·have e1:((s[k].toNat:Int) == (c:Int))=true:=(by simp[e]);have HE:=hid e;clear e;go_wp2;go_ret;exact⟨by rw[HY.o HE.o];rfl,rfl⟩
  have e1:((s[k].toNat:Int) == (c:Int))=false:=by simp;omega
  have HE:=hid e;clear e;go_wp2_with fail;go_round
  ·exact⟨k+1,by omega,by go_num,by show oC s c (k+1)=false;rw[HN.o,HF.o];simp[HE.o]⟩
  simp[intOf];omega
 obtain rfl:k=s.size:=by omega
 have HR:=hid (ZW s c);go_wp2;go_ret;exact⟨by rw[<-HR.o,HF.o];rfl,rfl⟩
open Go.Maps
theorem rh(w:World)(o:Obj):ϐ w (w.alloc o):=(Below.refl _ _).alloc (Nat.le_refl _) _
theorem L6(b j:Nat):(⟨b,0,none⟩:Addr).add j=⟨b,j,none⟩:=by unfold Addr.add;split <;> simp_all
theorem FC{w:World}{g n c:Nat}{l:List Pc}(h:w.ownsRow B 148 5 (.slice (some ⟨g,0,none⟩) n c) n (fe l)):∀(j:Nat) (u:Value),(fe l)[j]?=some u->w.cell? ((⟨g,0,none⟩:Addr).add j)=some u:=fun j u hu=>by
 have hj:j<(fe l).length:=(List.getElem?_eq_some_iff.1 hu).1
 have:=h.cellAt j (by rw[<-h.1];exact hj)
 rw[<-hu,L6]
 exact this
theorem zoq(l:List Pc):∀u∈fe l,u.oneCell'=true:=by
 intro u hu;simp only[fe,List.mem_flatMap] at hu;obtain⟨x,_,hx⟩:=hu;simp[de] at hx;rcases hx with rfl|rfl|rfl|rfl|rfl <;> rfl
theorem xI{ops:Array Oper}{rest:List Oper}{o:Oper}{a:Act}{Q:Exit->Act->World->Prop}(w:World)(qC:o.guard=none)(s x:Operand)
  (ho:o.op=.call { callee:=.builtin .append,args:=#[s,x],argTypes:=#[110,110] })
  (B:Nat) (v:Value) (n:Nat) (l:List Pc) (hs:a.eval s=v) (az:w.ownsRow B 148 5 v n (fe l))
  (ad:Addr) (m c:Nat) (l2:List Pc) (hx:a.eval x=.slice (some ad) m c) (hm:l2.length=m) (oQ:∀(j:Nat) (u:Value),(fe l2)[j]?=some u->w.cell? (ad.add j)=some u) (hb:n+m<=100000) (hp:0<m) (hB:B<=w.heap.size)
  (h:∀(g c':Nat) (w':World),w'.ownsRow B 148 5 (.slice (some ⟨g,0,none⟩) (n+m) c') (n+m) (fe (l++l2))->Below B w w'->wpList prog ops Q rest (a.put o.dst (.slice (some ⟨g,0,none⟩) (n+m) c')) w'):wpList prog ops Q (o :: rest) a w:=by
 obtain⟨i0,hi,dP,dc,db⟩:=info_parts oW;refine wpList_append_own w qC s x 110 ho B 148 i0 (.agg #[.int .i64 0,.int .u64 0,.int .u64 0,.int .u64 0,.int .u64 0]) 5 40 underlying110 hi dP dc db rfl (by decide) v n (fe l) hs az ad m c (fe l2) hx ?_ oQ (zoq l2) ?_ ?_ hB ?_
 ·rw[Gp,hm]
 ·unfold maxLen;omega
 ·omega
 intro v' w' h1 h2 _;obtain⟨a',c',rfl⟩:=cy h1;obtain⟨g,rfl,_⟩:=fG h1 (by omega);exact h g c' w' (by rw[Ic];exact h1) (EE h2 az hB)
theorem KI(W:World)(h:B<=W.heap.size):(W.alloc (.cells #[] 148)).ownsRow B 148 5 (.slice (some ⟨W.heap.size,0,none⟩) 0 0) 0 (fe []):=by
 refine⟨rfl,Or.inr ⟨W.heap.size,0,#[],rfl,h,St.new W _ _,?_⟩⟩
 first|exact⟨rfl,rfl⟩|simp[fe]
theorem Kz(W:World)(k:Int):∀(j:Nat) (u:Value),(fe [⟨k,aO⟩])[j]?=some u->(W.alloc (.cells #[.int .i64 k,.int .u64 0,.int .u64 0,.int .u64 0,.int .u64 0] 148)).cell? ((⟨W.heap.size,0,none⟩:Addr).add j)=some u:=by
 have e:fe [⟨k,aO⟩]=[.int .i64 k,.int .u64 0,.int .u64 0,.int .u64 0,.int .u64 0]:=by
  simp only[fe,de,List.flatMap_cons,List.flatMap_nil,List.append_nil];have:∀j,wd aO j=0:=fun j=>xD j
  simp[this]
 rw[e];intro j u hu;rw[L6,cell_of_row _ _ j _ _ _ (St.new W 148 #[.int .i64 k,.int .u64 0,.int .u64 0,.int .u64 0,.int .u64 0])];simpa using hu
theorem ZV(W:World)(a:Option Addr)(n c:Nat):(binOp .eql 110 (.slice a n c) (.slice none 0 0)).run prog W=.ok (.bool a.isNone) W:=by
 have:=Lib.run_eql_slice_nil W 110 148 a n c 0 0 underlying110;cases a <;> simpa using this
theorem OE(W:World):(binOp .eql 110 (.slice none 0 0) (.slice none 0 0)).run prog W=.ok (.bool true) W:=ZV W none 0 0
theorem MW(W:World)(b n c:Nat):(binOp .eql 110 (.slice (some ⟨b,0,none⟩) n c) (.slice none 0 0)).run prog W=.ok (.bool false) W:=ZV W _ n c
theorem N9(W:World)(h:B<=W.heap.size)(x:Pc):(W.alloc (.cells (de x).toArray 148)).ownsRow B 148 5 (.slice (some ⟨W.heap.size,0,none⟩) 1 1) 1 (fe [x]):=by
 have e:fe [x]=de x:=by simp[fe]
 have e5:(de x).length=5:=by simp[de]
 rw[e];refine⟨by rw[e5],Or.inr ⟨W.heap.size,1,_,rfl,h,St.new W _ _,Nat.le_refl _,by unfold maxLen;omega,by simp[e5],?_⟩⟩;rw[List.toList_toArray];exact List.take_of_length_le (by omega)
def zf(g:List Nat->Option (List Pc × List Nat))(s:ByteArray)(k:Nat)(w:World)(e:Ending)(w':World):Prop:=
 ∃(a:Option Addr) (n c:Nat) (p:Int),e=.returned (.tuple #[.slice a n c,.int .i64 p])/\ϐ w w'/\
  (
   (g ((aa s).drop k)=none/\a=none/\n=0/\c=0)\/
   ∃(l:List Pc) (r:List Nat) (q b:Nat),g ((aa s).drop k)=some (l,r)/\q<=s.size/\p=(q:Int)/\r=(aa s).drop q/\l.length=n/\0<n/\a=some ⟨b,0,none⟩/\w'.ownsRow w.heap.size 148 5 (.slice a n c) n (fe l))
def ov(f:FuncId)(g:List Nat->Option (List Pc × List Nat))(D:Nat):Prop:=
 ∀(s:ByteArray) (k:Nat) (w:World),s.size<=1600->k<=s.size->Calls prog f #[.string s,.int .i64 (k:Int),.int .i64 (D:Int)] w (zf g s k w)
