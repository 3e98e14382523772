import Derived.Test.YtkkhakmdjinenaaGreatZPut3
import Derived.Test.YtkkhakmdjinenaaGreatZRPBrkM
import Derived.BigFrame
set_option linter.all false
set_option maxHeartbeats 4000000
set_option maxRecDepth 100000
open Go.Lib (hid)
namespace Go.Proofs.YtkkhakmdjinenaaGreat
open Go.RowKit Go.Maps Go.WideElems Go.ChangeMaps Go.MapKept Go.Proofs.Tryz
open _root_.Array (replicate)
open Or (inl inr)
open Nat (le_refl sub_self)
open IntWalk (i64_in)
variable {a c q:Nat}{r r1 t:List Nat}
theorem U7(w:World):(Instr.makeSlice 64 (.int .i64 256) (.int .i64 256)).run prog w=.ok (.slice (some ⟨w.heap.size,0,none⟩) 256 256) (w.alloc (.cells (replicate 256 (.bool false)) 4)):=by kernel_rfl
theorem zfb(w:World):Flags (w.alloc (.cells (replicate 256 (.bool false)) 4)) w.heap.size aJ:=
 ⟨_,St.new w _ _,by simp,fun j hj=>by simp[hj,aJ]⟩
def ox(r:List Nat):Option (List Pc × List Nat):=(dW r).map fun x=>([⟨1,x.1⟩],x.2)
def pB(s:ByteArray)(q:Nat)(p:Nat->Bool):Option ((Nat->Bool) × List Nat):=aD (((aa s).drop q).length+1) p ((aa s).drop q)
theorem zpP{s:ByteArray}(p:Nat->Bool)(h:s.size<=q):pB s q p=none:=by
 unfold pB;rw[x8 s q h];rfl
theorem znE{s:ByteArray}(p:Nat->Bool)(h:(aa s).drop q=93 :: t):pB s q p=some (p,t):=by
 unfold pB;rw[h];rfl
theorem PA{s:ByteArray}{q2 bt:Nat}(p:Nat->Bool)(h:(aa s).drop q=bt :: t)(hb:bt≠93)(hs:cH ((aa s).drop q)=some (a,c,(aa s).drop q2)):pB s q p=pB s q2 (fun x=>p x || ar a (c+1-a) x):=by
 have hl:=(LN hs).1;have h1:aw 93 ((aa s).drop q)=none:=by
  rw[h];show (if bt=93 then _ else none)=none;rw[if_neg hb]
 conv=>lhs;unfold pB aD
 simp only[h1,hs];unfold pB;exact zgK _ _ _ _ hl (by omega)
theorem EN{s:ByteArray}{bt:Nat}(p:Nat->Bool)(h:(aa s).drop q=bt :: t)(hb:bt≠93)(hs:cH ((aa s).drop q)=none):pB s q p=none:=by
 have h1:aw 93 ((aa s).drop q)=none:=by
  rw[h];show (if bt=93 then _ else none)=none;rw[if_neg hb]
 unfold pB aD;simp only[h1,hs]
theorem XG{s:List Nat}(h:aI du s=none):cH s=none:=by unfold cH;rw[h]
theorem WU{s:List Nat}(h:aI du s=some (a,r))(h2:aw 45 r=none):cH s=some (a,a,r):=by unfold cH;rw[h];simp only;rw[h2]
theorem znF{s r2:List Nat}(h:aI du s=some (a,r))(h2:aw 45 r=some r1)(h3:aI du r1=some (c,r2))(h4:a<=c):cH s=some (a,c,r2):=by
 unfold cH;rw[h];simp only;rw[h2];simp only;rw[h3];simp only;rw[if_pos h4]
theorem MT{s:List Nat}(h:aI du s=some (a,r))(h2:aw 45 r=some r1)(h3:∀c r2,aI du r1=some (c,r2)->¬a<=c):cH s=none:=by
 unfold cH;rw[h];simp only;rw[h2];simp only;rcases h5:aI du r1 with _|⟨c,r2⟩
 ·rfl
 simp only;rw[if_neg (h3 c r2 h5)]
theorem PN(s:ByteArray)(q n:Nat):((aa s).drop q).drop n=(aa s).drop (q+n):=by rw[List.drop_drop]
theorem zpQ(s:ByteArray)(k:Nat)(w:World)(hs:s.size<=1600)(hk:k<=s.size):Calls prog 147 #[.string s,.int .i64 (k:Int)] w (xP ox s k w):=by
 obtain⟨m,hm⟩:∃m,s.size=m:=⟨_,rfl⟩
 have HM:=hid hm;have eR:=U7;rw[hm] at hs hk;go_in;go_upto_region 2 with fail;have JJ:=zfb w;have ay:=qt w (.cells (replicate 256 (.bool false)) 4);obtain⟨g,hg⟩:∃g,w.heap.size=g:=⟨_,rfl⟩
 have HG:Hid (w.heap.size<=g):=by show _<=_;omega
 have yS:Hid (Flags (w.alloc (.cells (replicate 256 (.bool false)) 4)) g aJ/\Below w.heap.size w (w.alloc (.cells (replicate 256 (.bool false)) 4))):=⟨hg ▸ JJ,ay⟩
 rw[hg];clear JJ ay;generalize w.alloc (.cells (replicate 256 (.bool false)) 4)=W0 at yS⊢;clear eR;obtain⟨nt,Dg⟩:∃nt,(aw 94 ((aa s).drop k)).isSome=nt:=⟨_,rfl⟩
 obtain⟨k1,j9⟩:∃k1,(if nt=true then k+1 else k)=k1:=⟨_,rfl⟩
 have mT:=hid Dg;have mw:=hid j9;have HX:Hid (k1<=m/\ox ((aa s).drop k)=match pB s k1 aJ with|none=>none|some (q,r1)=>if ep (if nt=true then fun x=>!q x else q)=true then none else some ([⟨1,if nt=true then fun x=>!q x else q⟩],r1)):=by
  by_cases aq:k<s.size
  ·have bU:=yq s k aq;by_cases hb:(s[k]'aq).toNat=94
   ·have h1:aw 94 ((aa s).drop k)=some ((aa s).drop (k+1)):=by
     rw[bU];show (if _ then some _ else none)=_;rw[if_pos hb]
    have h2:nt=true:=(by rw[<-Dg,h1];rfl);subst h2;rw[if_pos rfl] at j9;subst j9;refine⟨by omega,?_⟩;unfold ox dW pB;simp only[h1];rcases aD (((aa s).drop (k+1)).length+1) aJ ((aa s).drop (k+1)) with _|⟨q,r1⟩
    ·rfl
    simp;split <;> rfl
   have h1:aw 94 ((aa s).drop k)=none:=by
    rw[bU];show (if _ then some _ else none)=_;rw[if_neg hb]
   have h2:nt=false:=(by rw[<-Dg,h1];rfl);subst h2;rw[if_neg (by decide)] at j9;subst j9;refine⟨hk,?_⟩;unfold ox dW pB;simp only[h1];rcases aD (((aa s).drop k).length+1) aJ ((aa s).drop k) with _|⟨q,r1⟩
   ·rfl
   simp;split <;> rfl
  have h1:aw 94 ((aa s).drop k)=none:=by rw[x8 s k (by omega)];rfl
  have h2:nt=false:=by rw[<-Dg,h1];rfl
  subst h2;rw[if_neg (by decide)] at j9;subst j9;refine⟨hk,?_⟩;unfold ox dW pB;simp only[h1];rcases aD (((aa s).drop k).length+1) aJ ((aa s).drop k) with _|⟨q,r1⟩
  ·rfl
  simp;split <;> rfl
 go_cut [7] (fun v wx=>v=.bool nt/\wx=W0)
 case first=>
  by_cases aq:k<m
  ·have i1:(k:Int)<m:=(by omega);have qh:k<s.size:=(by rw[HM.out];exact aq);have bU:=yq s k qh;obtain⟨bt,kc⟩:∃bt,(s[k]'qh).toNat=bt:=(⟨_,rfl⟩);rw[kc] at bU;have hv:((bt:Int) == 94)=nt:=by
    rw[<-mT.out,bU];show _=(if bt=94 then some _ else none).isSome;by_cases e:bt=94
    ·subst e;rfl
    rw[if_neg e];simp;omega
   clear bU Dg j9;go_wp2_with fail
   go_meet
   exact⟨by first|rfl|(rw[hv]),rfl⟩
  have i1:¬((k:Int)<m):=by omega
  have hv:nt=false:=by rw[<-mT.out,x8 s k (by rw[HM.out];omega)];rfl
  clear Dg j9;go_wp2_with fail
  go_meet
  exact⟨by rw[hv],rfl⟩
 case rest=>
 obtain⟨rfl,rfl⟩:=hcut;obtain⟨W1,pU⟩:∃W1,W1=wc:=⟨_,rfl⟩
 rw[<-pU] at yS⊢;clear pU Dg j9
 go_upto_if 25 with (fail)
 go_cut [1] (fun v wx=>v=.int .i64 (k1:Int)/\wx=W1)
 case first=>
  rcases rh:nt with _|_
  ·have vq:k1=k:=(by rw[<-mw.out,rh];rfl);subst rh;go_wp2_with fail
   go_meet
   exact⟨by rw[vq],rfl⟩
  have vq:k1=k+1:=by rw[<-mw.out,rh];rfl
  subst rh;go_wp2_with fail
  go_meet
  exact⟨by rw[vq];rfl,rfl⟩
 case rest=>
 obtain⟨rfl,rfl⟩:=hcut;obtain⟨W2,ke⟩:∃W2,W2=wc:=⟨_,rfl⟩
 rw[<-ke] at yS⊢;clear ke;obtain⟨X,hX⟩:∃X,pB s k1 aJ=X:=⟨_,rfl⟩
 have we:Hid (pB s k1 aJ=X/\Flags W2 g aJ/\Below w.heap.size w W2):=⟨hX,yS.out⟩
 have Ae:=hid HX.out.2;have Qm:=HX.out.1;rw[hX] at Ae;clear hX HX;go_wp2;go_loopw [1] (fun v1 wr=>∃(q:Nat) (p:Nat->Bool),q<=m/\v1=.int .i64 (q:Int)/\Hid (pB s q p=X)/\Hid (Flags wr g p/\Below w.heap.size w wr)) (fun v _=>m-(intOf v).toNat)
 ·exact⟨k1,aJ,Qm,rfl,we.out.1,we.out.2⟩
 clear we;obtain⟨q,p,hq,rfl,HK,HF⟩:=hrel;have zF:Hid (Calls prog 149 #[.slice (some ⟨g,0,none⟩) 256 256] wr fun e w'=>e=.returned (.agg #[.int .u64 ((wd p 0:Nat):Int),.int .u64 ((wd p 1:Nat):Int),.int .u64 ((wd p 2:Nat):Int),.int .u64 ((wd p 3:Nat):Int)])/\Below wr.heap.size wr w'):=Ps p g 0 256 wr HF.out.1.lt (fun j hj=>by rw[Nat.zero_add];exact (HF.out.1.cell j hj).1);by_cases aq:q<m
 ·have i1:(q:Int)<m:=by omega
  have hqs:q<s.size:=by rw[HM.out];exact aq
  have bU:=yq s q hqs;obtain⟨bt,kc⟩:∃bt,(s[q]'hqs).toNat=bt:=⟨_,rfl⟩
  rw[kc] at bU;have ee:=hid bU;clear bU;by_cases JS:bt=93
  ·have Rh:Hid (X=some (p,(aa s).drop (q+1))):=by
    show _=_;rw[<-HK.out];exact znE p (by rw[ee.out,JS])
   have i2:((bt:Int) != 93)=false:=(by simp[JS]);go_wp2_with (go_at_call 149;refine zF.out.mono ?_;rintro e w3 ⟨rfl,kb⟩;refine Hid.out ?_);refine hid ?_;have H3:=hid (HF.out.2.trans (kb.mono HF.out.2.size));clear kb
   go_upto_if 114 with (fail)
   have fe:=St.new w3 89 #[.int .u64 ((wd p 0:Nat):Int),.int .u64 ((wd p 1:Nat):Int),.int .u64 ((wd p 2:Nat):Int),.int .u64 ((wd p 3:Nat):Int)];have sd:=qt w3 (.cells #[.int .u64 ((wd p 0:Nat):Int),.int .u64 ((wd p 1:Nat):Int),.int .u64 ((wd p 2:Nat):Int),.int .u64 ((wd p 3:Nat):Int)] 89);obtain⟨b4,fj⟩:∃b4,w3.heap.size=b4:=(⟨_,rfl⟩);have H4:Hid (St (w3.alloc (.cells #[.int .u64 ((wd p 0:Nat):Int),.int .u64 ((wd p 1:Nat):Int),.int .u64 ((wd p 2:Nat):Int),.int .u64 ((wd p 3:Nat):Int)] 89)) 89 b4 #[.int .u64 ((wd p 0:Nat):Int),.int .u64 ((wd p 1:Nat):Int),.int .u64 ((wd p 2:Nat):Int),.int .u64 ((wd p 3:Nat):Int)]/\Below w.heap.size w (w3.alloc (.cells #[.int .u64 ((wd p 0:Nat):Int),.int .u64 ((wd p 1:Nat):Int),.int .u64 ((wd p 2:Nat):Int),.int .u64 ((wd p 3:Nat):Int)] 89))/\w.heap.size<=b4):=(⟨fj ▸ fe,H3.out.trans (sd.mono H3.out.size),by have:=H3.out.size;omega⟩);rw[fj];clear fe sd fj;generalize w3.alloc (.cells #[.int .u64 ((wd p 0:Nat):Int),.int .u64 ((wd p 1:Nat):Int),.int .u64 ((wd p 2:Nat):Int),.int .u64 ((wd p 3:Nat):Int)] 89)=W4 at H4⊢;obtain⟨qf,JA⟩:∃qf,(if nt=true then fun x=>!p x else p)=qf:=(⟨_,rfl⟩);have FX:=hid JA;clear JA
   go_cut [] (fun wx=>Hid (St wx 89 b4 #[.int .u64 ((wd qf 0:Nat):Int),.int .u64 ((wd qf 1:Nat):Int),.int .u64 ((wd qf 2:Nat):Int),.int .u64 ((wd qf 3:Nat):Int)]/\Below w.heap.size w wx))
   case first=>
    rcases rh:nt with _|_
    ·have qq:p=qf:=(by rw[<-FX.out,rh];rfl);subst rh;go_wp2_with fail
     go_meet
     exact⟨qq ▸ H4.out.1,H4.out.2.1⟩
    have qq:(fun x=>!p x)=qf:=(by rw[<-FX.out,rh];rfl);subst rh;obtain⟨r0,r1,r2,r3,r4,r5,r6,r7⟩:=bS H4.out.1;have wU:Hid (Calls prog 146 #[.int .i64 3,(.agg #[.int .u64 ((wd p 0:Nat):Int),.int .u64 ((wd p 1:Nat):Int),.int .u64 ((wd p 2:Nat):Int),.int .u64 ((wd p 3:Nat):Int)]),(.agg #[.int .u64 ((wd p 0:Nat):Int),.int .u64 ((wd p 1:Nat):Int),.int .u64 ((wd p 2:Nat):Int),.int .u64 ((wd p 3:Nat):Int)])] W4 fun e w'=>e=.returned (.agg #[.int .u64 ((wd qf 0:Nat):Int),.int .u64 ((wd qf 1:Nat):Int),.int .u64 ((wd qf 2:Nat):Int),.int .u64 ((wd qf 3:Nat):Int)])/\Below W4.heap.size W4 w'):=by
     rw[<-qq];exact Eb p p W4
    go_wp2_with (go_at_call 146;refine wU.out.mono ?_;rintro e w5 ⟨rfl,kb⟩;refine Hid.out ?_);refine hid ?_;have H5:Hid (St w5 89 b4 #[.int .u64 ((wd p 0:Nat):Int),.int .u64 ((wd p 1:Nat):Int),.int .u64 ((wd p 2:Nat):Int),.int .u64 ((wd p 3:Nat):Int)]/\Below w.heap.size w w5):=(⟨H4.out.1.ab kb,H4.out.2.1.trans (kb.mono H4.out.2.1.size)⟩);clear kb r0 r1 r2 r3 r4 r5 r6 r7;obtain⟨r0,r1,r2,r3,r4,r5,r6,r7⟩:=bS H5.out.1;go_wp2_with fail
    go_meet
    exact⟨H5.out.1.mo _ _ _ _,qy H5.out.2 H4.out.2.2 _ _ _ _⟩
   case rest=>
    obtain⟨W6,sU⟩:∃W6,W6=wc:=(⟨_,rfl⟩);rw[<-sU] at hcut⊢;clear sU;obtain⟨r0,r1,r2,r3,r4,r5,r6,r7⟩:=bS hcut.out.1;have heq:=XK;have oj:=Xb qf;obtain⟨z,hz⟩:∃z,ep qf=z:=(⟨_,rfl⟩);rw[show decide ((dd qf 256).length=0)=z from hz] at oj;have HZ:=hid hz;have Jl:¬((m:Int)<=q):=(by omega);have fa:Hid (ox ((aa s).drop k)=if z=true then none else some ([⟨1,qf⟩],(aa s).drop (q+1))):=by
     show _=_;rw[Ae.out,Rh.out];simp only[FX.out,HZ.out]
    clear hz;cases z
    ·have H7:=hid (ND W6 (B:=w.heap.size) hcut.out.2.size ⟨1,qf⟩);have VO:=qt W6 (.cells (de ⟨1,qf⟩).toArray 91);have H8:=hid (hcut.out.2.trans (VO.mono hcut.out.2.size));clear VO;go_wp2;go_ret2;exact⟨_,1,1,((q:Int)+1),rfl,H8.out,inr ⟨[⟨1,qf⟩],_,q+1,_,fa.out,by rw[HM.out];omega,by omega,rfl,rfl,by omega,rfl,H7.out⟩⟩
    go_wp2;go_ret2;exact⟨none,0,0,_,rfl,hcut.out.2,inl ⟨fa.out,rfl,rfl,rfl⟩⟩
  have i2:((bt:Int) != 93)=true:=by simp;omega
  obtain⟨⟨c1,n1,BV⟩,oH⟩:∃x,rd ((aa s).drop q)=x:=⟨_,rfl⟩
  have jv:=Fc ((aa s).drop q) (fun x hx=>BH s x (List.mem_of_mem_drop hx));rw[oH] at jv;simp only[List.length_drop,wi,HM.out] at jv;have ma:Hid (Calls prog 148 #[.string (s.extract q m)] wr fun e w'=>e=.returned (.tuple #[.int .u8 (c1:Int),.int .i64 (n1:Int),.bool BV])/\Below wr.heap.size wr w'):=by
   have h1:=R8 (s.extract q s.size) (by rw[ByteArray.size_extract];unfold maxLen;omega) wr;rw[EU,oH,A8,HM.out] at h1;exact h1
  obtain⟨y1,yc⟩:∃y,fW ⟨#[94,45,47,34]⟩ bt=y:=⟨_,rfl⟩
  have nL:Hid (∀W,Calls prog 89 #[.string ⟨#[94,45,47,34]⟩,.int .u8 (bt:Int)] W fun e w'=>e=.returned (.bool y1)/\W=w'):=fun W=>by
   have:=Jt ⟨#[94,45,47,34]⟩ bt W (by decide);rw[yc] at this;exact this
  have uq:Hid (aI du ((aa s).drop q)=if BV=true/\y1=false then some (c1,(aa s).drop (q+n1)) else none):=by
   show _=_;have h1:=zki bt ((aa s).drop (q+1)) JS;rw[<-ee.out,oH,yc,PN] at h1;exact h1
  have zQ:=hid JS;have gE:=jv.1;have da:=jv.2;clear oH yc jv JS zF;go_wp2_with (go_at_call 148;refine ma.out.mono ?_;rintro e w3 ⟨rfl,kb⟩;refine Hid.out ?_);refine hid ?_;have wD:Hid (Flags w3 g p/\Below w.heap.size w w3):=⟨HF.out.1.ab kb,HF.out.2.trans (kb.mono HF.out.2.size)⟩
  clear kb ma;cases BV
  ·have uW:Hid (X=none):=by
    show _=_;rw[<-HK.out];exact EN p ee.out zQ.out (XG (by rw[uq.out];rfl))
   go_wp2;go_ret2;exact⟨none,0,0,_,rfl,wD.out.2,inl ⟨by rw[Ae.out,uW.out],rfl,rfl,rfl⟩⟩
  obtain⟨Rm,Oc⟩:=da rfl;go_wp2_with (go_at_call 89;refine (nL.out _).mono ?_;rintro e W9 ⟨rfl,rfl⟩;refine Hid.out ?_);refine hid ?_;clear nL;cases y1
  ·obtain⟨q1,AM⟩:∃q1,q+n1=q1:=(⟨_,rfl⟩);have hq1i:(q:Int)+(n1:Int)=q1:=(by omega);have eV:Hid (aI du ((aa s).drop q)=some (c1,(aa s).drop q1)):=by
    show _=_;rw[uq.out,<-AM];rfl
   have hq1m:q1<=m:=(by omega);have hqq1:q<q1:=(by omega);clear uq AM da;by_cases Sh:q1<m
   ·have d1:(q1:Int)<m:=(by omega);have Ha:q1<s.size:=(by rw[HM.out];exact Sh);have Cs:=yq s q1 Ha;obtain⟨GH,Q7⟩:∃bt,(s[q1]'Ha).toNat=bt:=(⟨_,rfl⟩);rw[Q7] at Cs;have Ic:=hid Cs;clear Cs;by_cases N6:GH=45
    ·have d2:(GH:Int)=45:=(by omega);have wI:Hid (aw 45 ((aa s).drop q1)=some ((aa s).drop (q1+1))):=by
      show _=_;rw[Ic.out];show (if GH=45 then some _ else none)=_;rw[if_pos N6]
     subst N6;by_cases hd3:q1+1<m
     ·have d3:¬((m:Int)<=q1+1):=(by omega);have d4:(q1:Int)+1<(m:Int):=(by omega);have GX:q1+1<s.size:=(by rw[HM.out];exact hd3);have lb:=yq s (q1+1) GX;obtain⟨CR,B5⟩:∃bt,(s[q1+1]'GX).toNat=bt:=(⟨_,rfl⟩);rw[B5] at lb;have fV:=hid lb;clear lb;obtain⟨⟨c2,n2,OS⟩,oH⟩:∃x,rd ((aa s).drop (q1+1))=x:=(⟨_,rfl⟩);have gy:=Fc ((aa s).drop (q1+1)) (fun x hx=>BH s x (List.mem_of_mem_drop hx));rw[oH] at gy;simp only[List.length_drop,wi,HM.out] at gy;have ma:Hid (∀W,Calls prog 148 #[.string (s.extract (q1+1) m)] W fun e w'=>e=.returned (.tuple #[.int .u8 (c2:Int),.int .i64 (n2:Int),.bool OS])/\Below W.heap.size W w'):=fun W=>by
       have h1:=R8 (s.extract (q1+1) s.size) (by rw[ByteArray.size_extract];unfold maxLen;omega) W;rw[EU,oH,A8,HM.out] at h1;exact h1
      obtain⟨y2,mQ⟩:∃y,fW ⟨#[93,94,45,47,34]⟩ CR=y:=(⟨_,rfl⟩);have nL:Hid (∀W,Calls prog 89 #[.string ⟨#[93,94,45,47,34]⟩,.int .u8 (CR:Int)] W fun e w'=>e=.returned (.bool y2)/\W=w'):=fun W=>by
       have:=Jt ⟨#[93,94,45,47,34]⟩ CR W (by decide);rw[mQ] at this;exact this
      have uq:Hid (aI du ((aa s).drop (q1+1))=if OS=true/\y2=false then some (c2,(aa s).drop (q1+1+n2)) else none):=by
       show _=_;have h1:=zkj CR ((aa s).drop (q1+1+1));rw[<-fV.out,oH,mQ,PN] at h1;exact h1
      have fp:=gy.1;have cU:=gy.2;clear oH mQ gy;go_wp2_with (go_at_call 89;refine (nL.out _).mono ?_;rintro e W9 ⟨rfl,rfl⟩;refine Hid.out ?_);refine hid ?_;clear nL;cases y2
      ·go_wp2_with (go_at_call 148;refine (ma.out _).mono ?_;rintro e w4 ⟨rfl,kb⟩;refine Hid.out ?_);refine hid ?_;have OM:Hid (Flags w4 g p/\Below w.heap.size w w4):=(⟨wD.out.1.ab kb,wD.out.2.trans (kb.mono wD.out.2.size)⟩);clear kb ma;cases OS
       ·have uW:Hid (X=none):=by
         show _=_;rw[<-HK.out];exact EN p ee.out zQ.out (MT eV.out wI.out (fun c r h=>by rw[uq.out] at h;simp at h))
        go_wp2;go_ret2;exact⟨none,0,0,_,rfl,OM.out.2,inl ⟨by rw[Ae.out,uW.out],rfl,rfl,rfl⟩⟩
       obtain⟨hn2a,hn2b⟩:=cU rfl;by_cases tp:c2<c1
       ·have d5:(c2:Int)<c1:=(by omega);have uW:Hid (X=none):=by
         show _=_;rw[<-HK.out];refine EN p ee.out zQ.out (MT eV.out wI.out (fun c r h=>?_));rw[uq.out] at h;simp at h;omega
        go_wp2;go_ret2;exact⟨none,0,0,_,rfl,OM.out.2,inl ⟨by rw[Ae.out,uW.out],rfl,rfl,rfl⟩⟩
       have d5:¬((c2:Int)<c1):=(by omega);obtain⟨q3,hq3⟩:∃q3,q1+1+n2=q3:=(⟨_,rfl⟩);have hq3i:(q1:Int)+1+(n2:Int)=q3:=(by omega);have qT:Hid (pB s q3 (fun x=>p x || ar c1 (c2+1-c1) x)=X):=by
        show _=_;rw[<-HK.out];exact (PA p ee.out zQ.out (znF eV.out wI.out (by rw[uq.out,<-hq3];rfl) (by omega))).symm
       clear uq cU eV wI tp;have qY:(fun x=>p x || ar c1 (c1-c1) x)=p:=by
        funext x;rw[sub_self,G2];exact Bool.or_false _
       have mS:Hid (Flags w4 g (fun x=>p x || ar c1 (c1-c1) x)/\Below w.heap.size w w4):=(by rw[qY];exact OM.out);have Gk:Hid (c1<=c2+1):=(by show _<=_;omega);have i8:IntKind.i64.wrap (c1:Int)=c1:=i64_in _ (by omega);have i9:IntKind.i64.wrap (c2:Int)=c2:=i64_in _ (by omega);clear qY;go_wp2;go_loopw [12] (fun v12 wq=>∃b:Nat,v12=.int .i64 (b:Int)/\c1<=b/\b<=c2+1/\Hid (Flags wq g (fun x=>p x || ar c1 (b-c1) x)/\Below w.heap.size w wq)) (fun v _=>c2+1-(intOf v).toNat)
       ·exact⟨c1,rfl,le_refl _,by have:=Gk.out;omega,mS.out⟩
       clear mS;obtain⟨b,rfl,Dk,Z6,gH⟩:=hrel;by_cases hb:b<=c2
       ·have j1:(b:Int)<=c2:=(by omega);have j2:(b:Int)<256:=(by omega);obtain⟨y0,y1⟩:=gH.out.1.cell b (by omega);have tU:Hid (Flags (wr.setCell ⟨g,b,none⟩ (.bool true)) g (fun x=>p x || ar c1 (b+1-c1) x)/\Below w.heap.size w (wr.setCell ⟨g,b,none⟩ (.bool true))):=(⟨by rw[SV p c1 b Dk];exact gH.out.1.set b (by omega),gH.out.2.setCell (p:=⟨g,b,none⟩) HG.out _⟩);go_wp2;go_roundw
        ·exact⟨b+1,by go_num,by omega,by omega,tU.out⟩
        simp[intOf];omega
       obtain rfl:b=c2+1:=(by omega);have j1:¬(((c2+1:Nat):Int)<=(c2:Int)):=(by omega);have Uw:¬((c2:Int)+1<=(c2:Int)):=(by omega);go_wp2;go_roundw
       ·exact⟨q3,_,by omega,rfl,qT.out,gH.out⟩
       simp[intOf];omega
      have uW:Hid (X=none):=by
       show _=_;rw[<-HK.out];exact EN p ee.out zQ.out (MT eV.out wI.out (fun c r h=>by rw[uq.out] at h;simp at h))
      go_wp2;go_ret2;exact⟨none,0,0,_,rfl,wD.out.2,inl ⟨by rw[Ae.out,uW.out],rfl,rfl,rfl⟩⟩
     have d3:(m:Int)<=q1+1:=(by omega);have uW:Hid (X=none):=by
      show _=_;rw[<-HK.out];exact EN p ee.out zQ.out (MT eV.out wI.out (fun c r h=>by rw[x8 s (q1+1) (by rw[HM.out];omega),XF] at h;cases h))
     go_wp2;go_ret2;exact⟨none,0,0,_,rfl,wD.out.2,inl ⟨by rw[Ae.out,uW.out],rfl,rfl,rfl⟩⟩
    have d2:¬((GH:Int)=45):=(by omega);have qT:Hid (pB s q1 (fun x=>p x || ar c1 (c1+1-c1) x)=X):=by
     show _=_;rw[<-HK.out];exact (PA p ee.out zQ.out (WU eV.out (by rw[Ic.out];show (if GH=45 then some _ else none)=none;rw[if_neg N6]))).symm
    clear eV N6;have qY:(fun x=>p x || ar c1 (c1-c1) x)=p:=by
     funext x;rw[sub_self,G2];exact Bool.or_false _
    have mS:Hid (Flags w3 g (fun x=>p x || ar c1 (c1-c1) x)/\Below w.heap.size w w3):=(by rw[qY];exact wD.out);have Gk:Hid (c1<=c1+1):=(by show _<=_;omega);have i8:IntKind.i64.wrap (c1:Int)=c1:=i64_in _ (by omega);have i9:IntKind.i64.wrap (c1:Int)=c1:=i64_in _ (by omega);clear qY;go_wp2;go_loopw [12] (fun v12 wq=>∃b:Nat,v12=.int .i64 (b:Int)/\c1<=b/\b<=c1+1/\Hid (Flags wq g (fun x=>p x || ar c1 (b-c1) x)/\Below w.heap.size w wq)) (fun v _=>c1+1-(intOf v).toNat)
    ·exact⟨c1,rfl,le_refl _,by have:=Gk.out;omega,mS.out⟩
    clear mS;obtain⟨b,rfl,Dk,Z6,gH⟩:=hrel;by_cases hb:b<=c1
    ·have j1:(b:Int)<=c1:=(by omega);have j2:(b:Int)<256:=(by omega);obtain⟨y0,y1⟩:=gH.out.1.cell b (by omega);have tU:Hid (Flags (wr.setCell ⟨g,b,none⟩ (.bool true)) g (fun x=>p x || ar c1 (b+1-c1) x)/\Below w.heap.size w (wr.setCell ⟨g,b,none⟩ (.bool true))):=(⟨by rw[SV p c1 b Dk];exact gH.out.1.set b (by omega),gH.out.2.setCell (p:=⟨g,b,none⟩) HG.out _⟩);go_wp2;go_roundw
     ·exact⟨b+1,by go_num,by omega,by omega,tU.out⟩
     simp[intOf];omega
    obtain rfl:b=c1+1:=(by omega);have j1:¬(((c1+1:Nat):Int)<=(c1:Int)):=(by omega);have Uw:¬((c1:Int)+1<=(c1:Int)):=(by omega);go_wp2;go_roundw
    ·exact⟨q1,_,by omega,rfl,qT.out,gH.out⟩
    simp[intOf];omega
   have d1:¬((q1:Int)<m):=(by omega);have qT:Hid (pB s q1 (fun x=>p x || ar c1 (c1+1-c1) x)=X):=by
    show _=_;rw[<-HK.out];exact (PA p ee.out zQ.out (WU eV.out (by rw[x8 s q1 (by rw[HM.out];omega)];rfl))).symm
   clear eV;have qY:(fun x=>p x || ar c1 (c1-c1) x)=p:=by
    funext x;rw[sub_self,G2];exact Bool.or_false _
   have mS:Hid (Flags w3 g (fun x=>p x || ar c1 (c1-c1) x)/\Below w.heap.size w w3):=(by rw[qY];exact wD.out);have Gk:Hid (c1<=c1+1):=(by show _<=_;omega);have i8:IntKind.i64.wrap (c1:Int)=c1:=i64_in _ (by omega);have i9:IntKind.i64.wrap (c1:Int)=c1:=i64_in _ (by omega);clear qY;go_wp2;go_loopw [12] (fun v12 wq=>∃b:Nat,v12=.int .i64 (b:Int)/\c1<=b/\b<=c1+1/\Hid (Flags wq g (fun x=>p x || ar c1 (b-c1) x)/\Below w.heap.size w wq)) (fun v _=>c1+1-(intOf v).toNat)
   ·exact⟨c1,rfl,le_refl _,by have:=Gk.out;omega,mS.out⟩
   clear mS;obtain⟨b,rfl,Dk,Z6,gH⟩:=hrel;by_cases hb:b<=c1
   ·have j1:(b:Int)<=c1:=(by omega);have j2:(b:Int)<256:=(by omega);obtain⟨y0,y1⟩:=gH.out.1.cell b (by omega);have tU:Hid (Flags (wr.setCell ⟨g,b,none⟩ (.bool true)) g (fun x=>p x || ar c1 (b+1-c1) x)/\Below w.heap.size w (wr.setCell ⟨g,b,none⟩ (.bool true))):=(⟨by rw[SV p c1 b Dk];exact gH.out.1.set b (by omega),gH.out.2.setCell (p:=⟨g,b,none⟩) HG.out _⟩);go_wp2;go_roundw
    ·exact⟨b+1,by go_num,by omega,by omega,tU.out⟩
    simp[intOf];omega
   obtain rfl:b=c1+1:=(by omega);have j1:¬(((c1+1:Nat):Int)<=(c1:Int)):=(by omega);have Uw:¬((c1:Int)+1<=(c1:Int)):=(by omega);go_wp2;go_roundw
   ·exact⟨q1,_,by omega,rfl,qT.out,gH.out⟩
   simp[intOf];omega
  have uW:Hid (X=none):=by
   show _=_;rw[<-HK.out];exact EN p ee.out zQ.out (XG (by rw[uq.out];rfl))
  go_wp2;go_ret2;exact⟨none,0,0,_,rfl,wD.out.2,inl ⟨by rw[Ae.out,uW.out],rfl,rfl,rfl⟩⟩
 have i1:¬((q:Int)<m):=by omega
 have Rh:Hid (X=none):=by
  show _=_;rw[<-HK.out];exact zpP p (by rw[HM.out];omega)
 go_wp2_with (go_at_call 149;refine zF.out.mono ?_;rintro e w3 ⟨rfl,kb⟩;refine Hid.out ?_);refine hid ?_;have H3:=hid (HF.out.2.trans (kb.mono HF.out.2.size));clear kb
 go_upto_if 114 with (fail)
 have fe:=St.new w3 89 #[.int .u64 ((wd p 0:Nat):Int),.int .u64 ((wd p 1:Nat):Int),.int .u64 ((wd p 2:Nat):Int),.int .u64 ((wd p 3:Nat):Int)];have sd:=qt w3 (.cells #[.int .u64 ((wd p 0:Nat):Int),.int .u64 ((wd p 1:Nat):Int),.int .u64 ((wd p 2:Nat):Int),.int .u64 ((wd p 3:Nat):Int)] 89);obtain⟨b4,fj⟩:∃b4,w3.heap.size=b4:=⟨_,rfl⟩
 have H4:Hid (St (w3.alloc (.cells #[.int .u64 ((wd p 0:Nat):Int),.int .u64 ((wd p 1:Nat):Int),.int .u64 ((wd p 2:Nat):Int),.int .u64 ((wd p 3:Nat):Int)] 89)) 89 b4 #[.int .u64 ((wd p 0:Nat):Int),.int .u64 ((wd p 1:Nat):Int),.int .u64 ((wd p 2:Nat):Int),.int .u64 ((wd p 3:Nat):Int)]/\Below w.heap.size w (w3.alloc (.cells #[.int .u64 ((wd p 0:Nat):Int),.int .u64 ((wd p 1:Nat):Int),.int .u64 ((wd p 2:Nat):Int),.int .u64 ((wd p 3:Nat):Int)] 89))/\w.heap.size<=b4):=⟨fj ▸ fe,H3.out.trans (sd.mono H3.out.size),by have:=H3.out.size;omega⟩
 rw[fj];clear fe sd fj;generalize w3.alloc (.cells #[.int .u64 ((wd p 0:Nat):Int),.int .u64 ((wd p 1:Nat):Int),.int .u64 ((wd p 2:Nat):Int),.int .u64 ((wd p 3:Nat):Int)] 89)=W4 at H4⊢;obtain⟨qf,JA⟩:∃qf,(if nt=true then fun x=>!p x else p)=qf:=⟨_,rfl⟩
 have FX:=hid JA;clear JA
 go_cut [] (fun wx=>Hid (St wx 89 b4 #[.int .u64 ((wd qf 0:Nat):Int),.int .u64 ((wd qf 1:Nat):Int),.int .u64 ((wd qf 2:Nat):Int),.int .u64 ((wd qf 3:Nat):Int)]/\Below w.heap.size w wx))
 case first=>
  rcases rh:nt with _|_
  ·have qq:p=qf:=(by rw[<-FX.out,rh];rfl);subst rh;go_wp2_with fail
   go_meet
   exact⟨qq ▸ H4.out.1,H4.out.2.1⟩
  have qq:(fun x=>!p x)=qf:=by rw[<-FX.out,rh];rfl
  subst rh;obtain⟨r0,r1,r2,r3,r4,r5,r6,r7⟩:=bS H4.out.1;have wU:Hid (Calls prog 146 #[.int .i64 3,(.agg #[.int .u64 ((wd p 0:Nat):Int),.int .u64 ((wd p 1:Nat):Int),.int .u64 ((wd p 2:Nat):Int),.int .u64 ((wd p 3:Nat):Int)]),(.agg #[.int .u64 ((wd p 0:Nat):Int),.int .u64 ((wd p 1:Nat):Int),.int .u64 ((wd p 2:Nat):Int),.int .u64 ((wd p 3:Nat):Int)])] W4 fun e w'=>e=.returned (.agg #[.int .u64 ((wd qf 0:Nat):Int),.int .u64 ((wd qf 1:Nat):Int),.int .u64 ((wd qf 2:Nat):Int),.int .u64 ((wd qf 3:Nat):Int)])/\Below W4.heap.size W4 w'):=by
   rw[<-qq];exact Eb p p W4
  go_wp2_with (go_at_call 146;refine wU.out.mono ?_;rintro e w5 ⟨rfl,kb⟩;refine Hid.out ?_);refine hid ?_;have H5:Hid (St w5 89 b4 #[.int .u64 ((wd p 0:Nat):Int),.int .u64 ((wd p 1:Nat):Int),.int .u64 ((wd p 2:Nat):Int),.int .u64 ((wd p 3:Nat):Int)]/\Below w.heap.size w w5):=⟨H4.out.1.ab kb,H4.out.2.1.trans (kb.mono H4.out.2.1.size)⟩
  clear kb r0 r1 r2 r3 r4 r5 r6 r7;obtain⟨r0,r1,r2,r3,r4,r5,r6,r7⟩:=bS H5.out.1;go_wp2_with fail
  go_meet
  exact⟨H5.out.1.mo _ _ _ _,qy H5.out.2 H4.out.2.2 _ _ _ _⟩
 case rest=>
  obtain⟨W6,sU⟩:∃W6,W6=wc:=⟨_,rfl⟩
  rw[<-sU] at hcut⊢;clear sU;obtain⟨r0,r1,r2,r3,r4,r5,r6,r7⟩:=bS hcut.out.1;have Jl:(m:Int)<=q:=by omega
  have fa:Hid (ox ((aa s).drop k)=none):=by
   show _=_;rw[Ae.out,Rh.out]
  go_wp2;go_ret2;exact⟨none,0,0,_,rfl,hcut.out.2,inl ⟨fa.out,rfl,rfl,rfl⟩⟩
theorem zqH(k:Int):(de ⟨k,aJ⟩).toArray=#[.int .i64 k,.int .u64 0,.int .u64 0,.int .u64 0,.int .u64 0]:=by
 have:∀j,wd aJ j=0:=fun j=>vJ j
 simp[de,this]
theorem XL(bt:Nat):fW ⟨#[124,41,42,43,63,93,47,34]⟩ bt=true↔(bt=124\/bt=41\/bt=42\/bt=43\/bt=63\/bt=93\/bt=47\/bt=34):=by
 unfold fW;simp;omega
theorem Y8(bt:Nat):fW nC bt=true↔(bt=47\/bt=40\/bt=41\/bt=91\/bt=93\/bt=124\/bt=42\/bt=43\/bt=63\/bt=46\/bt=34\/bt=126):=by
 unfold fW nC;simp;omega
theorem gD{bt:Nat}(t:List Nat)(h:bt≠c):aw c (bt :: t)=none:=by show (if _ then _ else none)=none;rw[if_neg h]
theorem re(c:Nat)(t:List Nat):aw c (c :: t)=some t:=by show (if _ then some _ else none)=_;rw[if_pos rfl]
theorem znG(jI:bc->Option bc):sub (aW jI) []=none:=by
 unfold sub aW;simp only[aw];rw[XF]
theorem znH(jI:bc->Option bc)(bt:Nat)(t:List Nat)(h:fW ⟨#[124,41,42,43,63,93,47,34]⟩ bt=true):sub (aW jI) (bt :: t)=none:=by
 have hc:=(XL bt).1 h;unfold sub aW;simp only;rw[gD t (show bt≠46 by omega),gD t (show bt≠126 by omega),gD t (show bt≠40 by omega),gD t (show bt≠91 by omega)];simp only;rw[KZ,if_neg];rintro⟨_,h1|h1⟩
 ·omega
 rw[(Y8 bt).2 (by omega)] at h1;cases h1
theorem znI(jI:bc->Option bc)(t:List Nat):sub (aW jI) (46 :: t)=some ([⟨1,fun _=>true⟩],t):=by
 unfold sub aW;simp only;rw[re];rfl
theorem znJ(jI:bc->Option bc)(t:List Nat):sub (aW jI) (126 :: t)=some ([⟨0,aJ⟩],t):=by
 unfold sub aW;simp only;rw[gD t (by decide),re];rfl
theorem zjc(jI:bc->Option bc)(t:List Nat):sub (aW jI) (40 :: t)=jI ([],t):=by
 unfold sub aW;simp only;rw[gD t (by decide),gD t (by decide),re]
theorem znK(jI:bc->Option bc)(t:List Nat):sub (aW jI) (91 :: t)=ox t:=by
 unfold sub aW ox;simp only;rw[gD t (by decide),gD t (by decide),gD t (by decide),re];simp only;rcases dW t with _|⟨q,r⟩ <;> rfl
theorem znL(jI:bc->Option bc)(bt:Nat)(t:List Nat)(h0:fW ⟨#[124,41,42,43,63,93,47,34]⟩ bt=false)(h1:bt≠46)(h2:bt≠126)(h3:bt≠91)(h4:bt≠40):
  sub (aW jI) (bt :: t)=if (rd (bt :: t)).2.2=true then some ([⟨1,eH (fun _=>(rd (bt :: t)).1) 1⟩],(bt :: t).drop (rd (bt :: t)).2.1) else none:=by
 have hn:¬(bt=124\/bt=41\/bt=42\/bt=43\/bt=63\/bt=93\/bt=47\/bt=34):=fun h=>by rw[(XL bt).2 h] at h0;cases h0
 have ho:fW nC bt=false:=by
  rcases h:fW nC bt with _|_
  ·rfl
  have:=(Y8 bt).1 h;omega
 unfold sub aW;simp only;rw[gD t h1,gD t h2,gD t h4,gD t h3];simp only;rw[KZ];rcases hk:(rd (bt :: t)).2.2 with _|_
 ·rw[if_neg (by simp),if_neg (by simp)]
 rw[if_pos ⟨rfl,inr ho⟩,if_pos rfl];rfl
theorem XB(D:Nat)(hD:D<=99)(jI:bc->Option bc)(Px:D=99->jI=fun _=>none)(hg:D<99->∃uI,jI=dZ uI/\np 32 (sub (bh uI)) (D+1)):np 128 (sub (aW jI)) D:=by
 intro s k w hs hk;obtain⟨m,hm⟩:∃m,s.size=m:=⟨_,rfl⟩
 have HM:=hid hm;have HG:=hid (Zz Px hg);rw[hm] at hs hk;clear Px hg;go_in;by_cases aq:k<m
 ·have i1:¬((m:Int)<=k):=by omega
  have i1':(k:Int)<m:=by omega
  have qh:k<s.size:=by rw[HM.out];exact aq
  have bU:=yq s k qh;obtain⟨bt,kc⟩:∃bt,(s[k]'qh).toNat=bt:=⟨_,rfl⟩
  rw[kc] at bU;have ee:=hid bU;clear bU;obtain⟨y,hy⟩:∃y,fW ⟨#[124,41,42,43,63,93,47,34]⟩ bt=y:=⟨_,rfl⟩
  have nL:Hid (∀W,Calls prog 89 #[.string ⟨#[124,41,42,43,63,93,47,34]⟩,.int .u8 (bt:Int)] W fun e w'=>e=.returned (.bool y)/\W=w'):=fun W=>by
   have:=Jt ⟨#[124,41,42,43,63,93,47,34]⟩ bt W (by decide);rw[hy] at this;exact this
  have Hy:=hid hy;clear hy;go_wp2_with (go_at_call 89;refine (nL.out _).mono ?_;rintro e W9 ⟨rfl,rfl⟩;refine Hid.out ?_);refine hid ?_;clear nL;cases y
  ·by_cases Ub:bt=46
   ·subst Ub;have wU:Hid (∀W,Calls prog 146 #[.int .i64 3,.agg #[.int .u64 0,.int .u64 0,.int .u64 0,.int .u64 0],.agg #[.int .u64 0,.int .u64 0,.int .u64 0,.int .u64 0]] W fun e w'=>e=.returned (.agg #[.int .u64 ((wd ((fun _=>true)) 0:Nat):Int),.int .u64 ((wd ((fun _=>true)) 1:Nat):Int),.int .u64 ((wd ((fun _=>true)) 2:Nat):Int),.int .u64 ((wd ((fun _=>true)) 3:Nat):Int)])/\Below W.heap.size W w'):=fun W=>by
     have:=Eb (fun _=>false) (fun _=>false) W;simp only[vJ] at this;exact this
    have fa:Hid (sub (aW jI) ((aa s).drop k)=some ([⟨1,fun _=>true⟩],(aa s).drop (k+1))):=(by show _=_;rw[ee.out,znI]);go_wp2_with (go_at_call 146;refine (wU.out _).mono ?_;rintro e w3 ⟨rfl,kb⟩;refine Hid.out ?_);refine hid ?_;have H7:=hid (ND w3 (B:=w.heap.size) kb.size ⟨1,fun _=>true⟩);have H8:=hid (kb.trans ((qt w3 (.cells (de ⟨1,fun _=>true⟩).toArray 91)).mono kb.size));clear kb;go_wp2;go_ret2;exact⟨_,1,1,((k:Int)+1),rfl,H8.out,inr ⟨_,_,k+1,_,fa.out,by rw[HM.out];omega,by omega,rfl,rfl,by omega,rfl,H7.out⟩⟩
   have e46:¬((bt:Int)=46):=(by omega);by_cases GJ:bt=126
   ·subst GJ;have fa:Hid (sub (aW jI) ((aa s).drop k)=some ([⟨0,aJ⟩],(aa s).drop (k+1))):=(by show _=_;rw[ee.out,znJ]);have H7:=hid (ND w (B:=w.heap.size) (le_refl _) ⟨0,aJ⟩);have H8:=hid (qt w (.cells (de ⟨0,aJ⟩).toArray 91));rw[zqH] at H7 H8;go_wp2;go_ret2;exact⟨_,1,1,((k:Int)+1),rfl,H8.out,inr ⟨_,_,k+1,_,fa.out,by rw[HM.out];omega,by omega,rfl,rfl,by omega,rfl,H7.out⟩⟩
   have e126:¬((bt:Int)=126):=(by omega);by_cases h91:bt=91
   ·subst h91;have HB:=hid (zpQ s (k+1) w (by rw[HM.out];omega) (by rw[HM.out];omega));have fa:Hid (∀e w',xP ox s (k+1) w e w'->xP (sub (aW jI)) s k w e w'):=fun e w' h=>by
     obtain⟨a,n,c,p,h1,h2,h3⟩:=h;refine⟨a,n,c,p,h1,h2,?_⟩;rw[ee.out,znK];exact h3
    go_wp2_with (go_at_call 147;refine HB.out.mono ?_;rintro e w3 hR;obtain⟨a,n,c,p,rfl,kb,hP⟩:=hR;refine Hid.out ?_);refine hid ?_;have HR:=hid (fa.out _ w3 ⟨a,n,c,p,rfl,kb,hP⟩);clear kb hP;go_wp2;go_ret2;exact HR.out
   have Lx:¬((bt:Int)=91):=(by omega);by_cases II:bt=40
   ·subst II;by_cases h99:D<99
    ·obtain⟨uI,oh,GY⟩:=HG.out.2 h99;have d0:¬((99:Int)<=D):=(by omega);have HC:=hid (GY s (k+1) w (by rw[HM.out];omega) (by rw[HM.out];omega));have HA:Hid (sub (aW jI) ((aa s).drop k)=match sub (bh uI) ((aa s).drop (k+1)) with|none=>none|some x=>match aw 41 x.2 with|none=>none|some r=>some (x.1,r)):=by
      show _=_;rw[ee.out,zjc,oh];unfold dZ sub;rcases bh uI ([],(aa s).drop (k+1)) with _|x
      ·rfl
      simp only;rcases aw 41 x.2 with _|r <;> rfl
     clear GY oh HG;go_wp2_with (go_at_call 32;refine HC.out.mono ?_;rintro e w3 ⟨a,n,c,p,rfl,kb,hP⟩;refine Hid.out ?_);refine hid ?_;have HB:=hid kb;clear kb HC;rcases hP with ⟨hz,rfl,rfl,rfl⟩|⟨l,r,q,b,hz,hq,rfl,rfl,lx,kH,rfl,az⟩
     ·have fa:Hid (sub (aW jI) ((aa s).drop k)=none):=(by show _=_;rw[HA.out,hz]);have hN:=MK w3;clear hz;go_wp2;go_ret2;exact⟨none,0,0,_,rfl,HB.out,inl ⟨fa.out,rfl,rfl,rfl⟩⟩
     rw[HM.out] at hq;have hN:=NQ w3 b n c;have HZ:=hid hz;have HO:=hid (Zz az lx);clear hz az lx;by_cases qq:q<m
     ·have j1:¬((m:Int)<=q):=(by omega);have j2:(q:Int)<m:=(by omega);have hqs:q<s.size:=(by rw[HM.out];exact qq);have lb:=yq s q hqs;obtain⟨CR,B5⟩:∃bt,(s[q]'hqs).toNat=bt:=(⟨_,rfl⟩);rw[B5] at lb;have fV:=hid lb;clear lb;by_cases Oo:CR=41
      ·have fa:Hid (sub (aW jI) ((aa s).drop k)=some (l,(aa s).drop (q+1))):=by
        show _=_;rw[HA.out,HZ.out];simp only[fV.out,Oo];rw[re]
       subst Oo;go_wp2;go_ret2;exact⟨_,n,c,((q:Int)+1),rfl,HB.out,inr ⟨l,_,q+1,b,fa.out,by rw[HM.out];omega,by omega,rfl,HO.out.2,kH,rfl,HO.out.1⟩⟩
      have j3:((CR:Int) != 41)=true:=(by simp;omega);have fa:Hid (sub (aW jI) ((aa s).drop k)=none):=by
       show _=_;rw[HA.out,HZ.out];simp only[fV.out];rw[gD _ Oo]
      go_wp2;go_ret2;exact⟨none,0,0,_,rfl,HB.out,inl ⟨fa.out,rfl,rfl,rfl⟩⟩
     have j1:(m:Int)<=q:=(by omega);have fa:Hid (sub (aW jI) ((aa s).drop k)=none):=by
      show _=_;rw[HA.out,HZ.out];simp only;rw[x8 s q (by rw[HM.out];omega)];rfl
     go_wp2;go_ret2;exact⟨none,0,0,_,rfl,HB.out,inl ⟨fa.out,rfl,rfl,rfl⟩⟩
    have d0:(99:Int)<=D:=(by omega);have fa:Hid (sub (aW jI) ((aa s).drop k)=none):=(by show _=_;rw[ee.out,zjc,HG.out.1 (by omega)]);go_wp2;go_ret2;exact⟨none,0,0,_,rfl,Below.refl _ _,inl ⟨fa.out,rfl,rfl,rfl⟩⟩
   have e40:¬((bt:Int)=40):=(by omega);obtain⟨⟨c1,n1,BV⟩,oH⟩:∃x,rd ((aa s).drop k)=x:=(⟨_,rfl⟩);have jv:=Fc ((aa s).drop k) (fun x hx=>BH s x (List.mem_of_mem_drop hx));rw[oH] at jv;simp only[List.length_drop,wi,HM.out] at jv;have ma:Hid (Calls prog 148 #[.string (s.extract k m)] w fun e w'=>e=.returned (.tuple #[.int .u8 (c1:Int),.int .i64 (n1:Int),.bool BV])/\Below w.heap.size w w'):=by
    have h1:=R8 (s.extract k s.size) (by rw[ByteArray.size_extract];unfold maxLen;omega) w;rw[EU,oH,A8,HM.out] at h1;exact h1
   have HA:Hid (sub (aW jI) ((aa s).drop k)=if BV=true then some ([⟨1,eH (fun _=>c1) 1⟩],(aa s).drop (k+n1)) else none):=by
    show _=_;have h1:=znL jI bt ((aa s).drop (k+1)) Hy.out Ub GJ h91 II;rw[<-ee.out,oH,PN] at h1;exact h1
   have gE:=jv.1;have da:=jv.2;have eR:=U7;clear oH jv;go_wp2_with (go_at_call 148;refine ma.out.mono ?_;rintro e w3 ⟨rfl,kb⟩;refine Hid.out ?_);refine hid ?_;have HB:=hid kb;clear kb ma;cases BV
   ·have fa:Hid (sub (aW jI) ((aa s).drop k)=none):=(by show _=_;rw[HA.out];rfl);go_wp2;go_ret2;exact⟨none,0,0,_,rfl,HB.out,inl ⟨fa.out,rfl,rfl,rfl⟩⟩
   obtain⟨Rm,Oc⟩:=da rfl;have fa:Hid (sub (aW jI) ((aa s).drop k)=some ([⟨1,eH (fun _=>c1) 1⟩],(aa s).drop (k+n1))):=(by show _=_;rw[HA.out];rfl);go_upto_region 20 with fail;have JJ:=zfb w3;have ay:=qt w3 (.cells (replicate 256 (.bool false)) 4);obtain⟨g,hg⟩:∃g,w3.heap.size=g:=(⟨_,rfl⟩);have yS:Hid (Flags (w3.alloc (.cells (replicate 256 (.bool false)) 4)) g aJ/\Below w.heap.size w (w3.alloc (.cells (replicate 256 (.bool false)) 4))/\w.heap.size<=g):=(⟨hg ▸ JJ,HB.out.trans (ay.mono HB.out.size),by have:=HB.out.size;omega⟩);rw[hg];clear JJ ay hg;generalize w3.alloc (.cells (replicate 256 (.bool false)) 4)=W4 at yS⊢;obtain⟨y0,y1⟩:=yS.out.1.cell c1 gE;have j2:(c1:Int)<256:=(by omega);have Ep:Hid (Flags (W4.setCell ⟨g,c1,none⟩ (.bool true)) g (eH (fun _=>c1) 1)/\Below w.heap.size w (W4.setCell ⟨g,c1,none⟩ (.bool true))):=(⟨yS.out.1.set c1 gE,yS.out.2.1.setCell (p:=⟨g,c1,none⟩) yS.out.2.2 _⟩);go_upto_region 21 with fail;generalize W4.setCell ⟨g,c1,none⟩ (.bool true)=W5 at Ep⊢;have zF:Hid (Calls prog 149 #[.slice (some ⟨g,0,none⟩) 256 256] W5 fun e w'=>e=.returned (.agg #[.int .u64 ((wd ((eH (fun _=>c1) 1)) 0:Nat):Int),.int .u64 ((wd ((eH (fun _=>c1) 1)) 1:Nat):Int),.int .u64 ((wd ((eH (fun _=>c1) 1)) 2:Nat):Int),.int .u64 ((wd ((eH (fun _=>c1) 1)) 3:Nat):Int)])/\Below W5.heap.size W5 w'):=Ps (eH (fun _=>c1) 1) g 0 256 W5 Ep.out.1.lt (fun j hj=>by rw[Nat.zero_add];exact (Ep.out.1.cell j hj).1);clear y0 y1;go_wp2_with (go_at_call 149;refine zF.out.mono ?_;rintro e w6 ⟨rfl,kb⟩;refine Hid.out ?_);refine hid ?_;have zo:=hid (Ep.out.2.trans (kb.mono Ep.out.2.size));clear kb;have H7:=hid (ND w6 (B:=w.heap.size) zo.out.size ⟨1,eH (fun _=>c1) 1⟩);have H8:=hid (zo.out.trans ((qt w6 (.cells (de ⟨1,eH (fun _=>c1) 1⟩).toArray 91)).mono zo.out.size));go_wp2;go_ret2;exact⟨_,1,1,((k:Int)+(n1:Int)),rfl,H8.out,inr ⟨_,_,k+n1,_,fa.out,by rw[HM.out];omega,by omega,rfl,rfl,by omega,rfl,H7.out⟩⟩
  have fa:Hid (sub (aW jI) ((aa s).drop k)=none):=by show _=_;rw[ee.out];exact znH jI bt _ Hy.out
  go_wp2;go_ret2;exact⟨none,0,0,_,rfl,Below.refl _ _,inl ⟨fa.out,rfl,rfl,rfl⟩⟩
 have i1:(m:Int)<=k:=by omega
 have fa:Hid (sub (aW jI) ((aa s).drop k)=none):=by show _=_;rw[x8 s k (by rw[HM.out];omega)];exact znG jI
 go_wp2;go_ret2;exact⟨none,0,0,_,rfl,Below.refl _ _,inl ⟨fa.out,rfl,rfl,rfl⟩⟩
theorem zpR(c:Nat):fW ⟨#[42,43,63]⟩ c=(eC c).isSome:=by
 unfold fW eC;by_cases h1:c=42
 ·subst h1;rfl
 by_cases h2:c=43
 ·subst h2;rfl
 by_cases h3:c=63
 ·subst h3;rfl
 rw[if_neg h1,if_neg h2,if_neg h3];simp;omega
theorem zpS(atom:bc->Option bc)(hd:ml atom)(D:Nat)(hD:D<=99)(h1:np 128 (sub atom) D):np 88 (sub (cq atom)) D:=by
 intro s k w hs hk;have HO:=hid (h1 s k w hs hk);obtain⟨m,hm⟩:∃m,s.size=m:=⟨_,rfl⟩
 have HM:=hid hm;have yo:=hid hd;rw[hm] at hs hk;clear h1 hd;go_in;go_wp2_with (go_at_call 128;refine HO.out.mono ?_;rintro e w1 ⟨a,n,c,p,rfl,kb,hP⟩;refine Hid.out ?_);refine hid ?_;have HB:=hid kb;clear kb HO;rcases hP with ⟨h0,rfl,rfl,rfl⟩|⟨l,r,q,b,h0,hq,rfl,rfl,lx,kH,rfl,az⟩
 ·have H0:Hid (sub (cq atom) ((aa s).drop k)=none):=by
   show cq atom ([],(aa s).drop k)=none;unfold cq;rw[show atom ([],(aa s).drop k)=none from h0]
  clear h0;go_wp2;go_loopw [1,8] (fun v1 v8 wr=>v1=.int .i64 p/\v8=.slice none 0 0/\Hid (wr=w1)) (fun _ _ _=>0)
  ·exact⟨rfl,rfl,(rfl:w1=w1)⟩
  obtain⟨rfl,rfl,HW⟩:=hrel;go_wp2;go_ret2;exact⟨none,0,0,p,rfl,by rw[HW.out];exact HB.out,inl ⟨H0.out,rfl,rfl,rfl⟩⟩
 have jx:=yo.out _ _ h0;have H0:Hid (sub (cq atom) ((aa s).drop k)=some (bx ((aa s).drop q) l)):=by
  show cq atom ([],(aa s).drop k)=_;unfold cq;rw[show atom ([],(aa s).drop k)=some (l,(aa s).drop q) from h0]
 rw[hm] at hq;have qW:n+2*(m-q)<=3200:=by
  have:=jx.2;simp[wi,hm] at this;omega
 have HX0:Hid (bx ((aa s).drop q) l=bx ((aa s).drop q) l/\l.length=n/\w1.ownsRow w.heap.size 91 5 (.slice (some ⟨b,0,none⟩) n c) n (eK l)/\Below w.heap.size w w1):=⟨rfl,lx,az,HB.out⟩
 obtain⟨X,hX⟩:∃X,bx ((aa s).drop q) l=X:=⟨_,rfl⟩
 have we:Hid (bx ((aa s).drop q) l=X/\l.length=n/\w1.ownsRow w.heap.size 91 5 (.slice (some ⟨b,0,none⟩) n c) n (eK l)/\Below w.heap.size w w1):=⟨hX,HX0.out.2⟩
 rw[hX] at H0;clear h0 jx lx az HX0 hX;go_wp2;go_loopw [1,8,9] (fun v1 v8 _ wr=>∃(q n c b:Nat) (l:List Pc),q<=m/\0<n/\n+2*(m-q)<=3200/\v1=.int .i64 (q:Int)/\v8=.slice (some ⟨b,0,none⟩) n c/\Hid (bx ((aa s).drop q) l=X/\l.length=n/\wr.ownsRow w.heap.size 91 5 (.slice (some ⟨b,0,none⟩) n c) n (eK l)/\Below w.heap.size w wr)) (fun v _ _ _=>m-(intOf v).toNat)
 ·exact⟨q,n,c,b,l,hq,kH,qW,rfl,rfl,we⟩
 clear we qW kH hq;obtain⟨q,n,c,b,l,hq,kH,qW,rfl,rfl,HX⟩:=hrel;by_cases aq:q<m
 ·have i1:(q:Int)<m:=by omega
  have hqs:q<s.size:=by rw[HM.out];exact aq
  have bU:=yq s q hqs;obtain⟨bt,kc⟩:∃bt,(s[q]'hqs).toNat=bt:=⟨_,rfl⟩
  rw[kc] at bU;have FB:Hid (bx ((aa s).drop q) l=match eC bt with|some k=>bx ((aa s).drop (q+1)) (l++[⟨k,aJ⟩])|none=>(l,bt :: (aa s).drop (q+1))):=by
   show _=_;rw[bU];rfl
  have ee:=hid bU;clear bU;have nL:Hid (Calls prog 89 #[.string ⟨#[42,43,63]⟩,.int .u8 (bt:Int)] wr fun e w'=>e=.returned (.bool (eC bt).isSome)/\wr=w'):=by
   have:=Jt ⟨#[42,43,63]⟩ bt wr (by decide);rw[zpR] at this;exact this
  rcases vq:eC bt with _|kk
  ·rw[vq] at FB nL;have HR:Hid (X=(l,(aa s).drop q)):=by
    show _=_;rw[<-HX.out.1,FB.out,ee.out]
   clear vq FB;go_wp2_with (go_at_call 89;refine nL.out.mono ?_;rintro e W9 ⟨rfl,rfl⟩;refine Hid.out ?_);refine hid ?_;clear nL;go_wp2;go_ret2;exact⟨_,n,c,q,rfl,HX.out.2.2.2,inr ⟨l,_,q,b,by rw[H0.out,HR.out],by rw[HM.out];exact hq,rfl,rfl,HX.out.2.1,kH,rfl,HX.out.2.2.1⟩⟩
  rw[vq] at FB nL;have BW:(bt=42/\kk=4)\/(bt=43/\kk=5)\/(bt=63/\kk=6):=by
   unfold eC at vq
   repeat' split at vq
   all_goals simp_all
  have O4:=hid (FB.out);clear vq FB;go_wp2_with (go_at_call 89;refine nL.out.mono ?_;rintro e W9 ⟨rfl,rfl⟩;refine Hid.out ?_);refine hid ?_;clear nL;rcases BW with ⟨rfl,rfl⟩|⟨rfl,rfl⟩|⟨rfl,rfl⟩
  ·have hO:=HX.out.2.2.1;have BP:=HX.out.2.2.2.size;go_wp2_with (at_builtin;refine wv _ rfl _ _ rfl wr.heap.size _ 0 [] rfl (GD wr (le_refl _)) ⟨b,0,none⟩ n c l rfl HX.out.2.1 (Dp (hO.alloc _)) ?_ ?_ ?_ ?_)
   ·omega
   ·exact kH
   ·simp
   intro g2 c2 w2 eW cr;have H2:=hid (Zz (ga eW BP) (HX.out.2.2.2.trans (((qt wr _).trans (cr.mono (by simp))).mono BP)));have wN:=H2.out.2.size;clear eW cr hO;go_wp2_with (at_builtin;refine wv _ rfl _ _ rfl w.heap.size _ n l rfl (H2.out.1.alloc _) ⟨w2.heap.size,0,none⟩ 1 1 [⟨4,aJ⟩] rfl rfl (Ia w2 4) ?_ ?_ ?_ ?_)
   ·omega
   ·omega
   ·simp;omega
   intro g3 c3 w3 eh dJ;have mH:Hid (w3.ownsRow w.heap.size 91 5 (.slice (some ⟨g3,0,none⟩) (n+1) c3) (n+1) (eK (l++[⟨4,aJ⟩]))/\Below w.heap.size w w3):=(⟨eh,(H2.out.2.trans ((qt w2 _).mono wN)).trans dJ⟩);clear eh dJ;go_wp2;go_roundw
   ·exact⟨q+1,n+1,c3,g3,_,by omega,by omega,by omega,by go_num,rfl,by rw[<-HX.out.1,O4.out],by simp[HX.out.2.1],mH.out.1,mH.out.2⟩
   simp[intOf];omega
  ·have hO:=HX.out.2.2.1;have BP:=HX.out.2.2.2.size;go_wp2_with (at_builtin;refine wv _ rfl _ _ rfl wr.heap.size _ 0 [] rfl (GD wr (le_refl _)) ⟨b,0,none⟩ n c l rfl HX.out.2.1 (Dp (hO.alloc _)) ?_ ?_ ?_ ?_)
   ·omega
   ·exact kH
   ·simp
   intro g2 c2 w2 eW cr;have H2:=hid (Zz (ga eW BP) (HX.out.2.2.2.trans (((qt wr _).trans (cr.mono (by simp))).mono BP)));have wN:=H2.out.2.size;clear eW cr hO;go_wp2_with (at_builtin;refine wv _ rfl _ _ rfl w.heap.size _ n l rfl (H2.out.1.alloc _) ⟨w2.heap.size,0,none⟩ 1 1 [⟨5,aJ⟩] rfl rfl (Ia w2 5) ?_ ?_ ?_ ?_)
   ·omega
   ·omega
   ·simp;omega
   intro g3 c3 w3 eh dJ;have mH:Hid (w3.ownsRow w.heap.size 91 5 (.slice (some ⟨g3,0,none⟩) (n+1) c3) (n+1) (eK (l++[⟨5,aJ⟩]))/\Below w.heap.size w w3):=(⟨eh,(H2.out.2.trans ((qt w2 _).mono wN)).trans dJ⟩);clear eh dJ;go_wp2;go_roundw
   ·exact⟨q+1,n+1,c3,g3,_,by omega,by omega,by omega,by go_num,rfl,by rw[<-HX.out.1,O4.out],by simp[HX.out.2.1],mH.out.1,mH.out.2⟩
   simp[intOf];omega
  have hO:=HX.out.2.2.1;have BP:=HX.out.2.2.2.size;go_wp2_with (at_builtin;refine wv _ rfl _ _ rfl wr.heap.size _ 0 [] rfl (GD wr (le_refl _)) ⟨b,0,none⟩ n c l rfl HX.out.2.1 (Dp (hO.alloc _)) ?_ ?_ ?_ ?_)
  ·omega
  ·exact kH
  ·simp
  intro g2 c2 w2 eW cr;have H2:=hid (Zz (ga eW BP) (HX.out.2.2.2.trans (((qt wr _).trans (cr.mono (by simp))).mono BP)));have wN:=H2.out.2.size;clear eW cr hO;go_wp2_with (at_builtin;refine wv _ rfl _ _ rfl w.heap.size _ n l rfl (H2.out.1.alloc _) ⟨w2.heap.size,0,none⟩ 1 1 [⟨6,aJ⟩] rfl rfl (Ia w2 6) ?_ ?_ ?_ ?_)
  ·omega
  ·omega
  ·simp;omega
  intro g3 c3 w3 eh dJ;have mH:Hid (w3.ownsRow w.heap.size 91 5 (.slice (some ⟨g3,0,none⟩) (n+1) c3) (n+1) (eK (l++[⟨6,aJ⟩]))/\Below w.heap.size w w3):=⟨eh,(H2.out.2.trans ((qt w2 _).mono wN)).trans dJ⟩
  clear eh dJ;go_wp2;go_roundw
  ·exact⟨q+1,n+1,c3,g3,_,by omega,by omega,by omega,by go_num,rfl,by rw[<-HX.out.1,O4.out],by simp[HX.out.2.1],mH.out.1,mH.out.2⟩
  simp[intOf];omega
 have i1:¬((q:Int)<m):=by omega
 have HR:Hid (X=(l,(aa s).drop q)):=by
  show _=_;rw[<-HX.out.1,x8 s q (by rw[HM.out];omega)];rfl
 go_wp2;go_ret2;exact⟨_,n,c,q,rfl,HX.out.2.2.2,inr ⟨l,_,q,b,by rw[H0.out,HR.out],by rw[HM.out];exact hq,rfl,rfl,HX.out.2.1,kH,rfl,HX.out.2.2.1⟩⟩
theorem zqI(c:Nat):fW ⟨#[124,41]⟩ c=(c == 124 || c == 41):=by
 unfold fW;by_cases h1:c=124
 ·subst h1;rfl
 by_cases h2:c=41
 ·subst h2;rfl
 have e1:(c == 124)=false:=by simp[h1]
 have e2:(c == 41)=false:=by simp[h2]
 rw[e1,e2];simp;omega
theorem zpT(atom:bc->Option bc)(hd:ml atom)(wW:iL atom)(D:Nat)(hD:D<=99)(h1:np 88 (sub (cq atom)) D):np 50 (sub (cm atom)) D:=by
 intro s k w hs hk;have HO:=hid (h1 s k w hs hk);have PO:=hid h1;obtain⟨m,hm⟩:∃m,s.size=m:=⟨_,rfl⟩
 have HM:=hid hm;have yo:=hid (Zz hd wW);rw[hm] at hs hk;clear h1 hd wW;go_in;go_wp2_with (go_at_call 88;refine HO.out.mono ?_;rintro e w1 ⟨a,n,c,p,rfl,kb,hP⟩;refine Hid.out ?_);refine hid ?_;have HB:=hid kb;clear kb HO;rcases hP with ⟨h0,rfl,rfl,rfl⟩|⟨l,r,q,b,h0,hq,rfl,rfl,lx,kH,rfl,az⟩
 ·have H0:Hid (sub (cm atom) ((aa s).drop k)=none):=by
   show cm atom ([],(aa s).drop k)=none;unfold cm;rw[show cq atom ([],(aa s).drop k)=none from h0]
  clear h0;go_wp2;go_loopw [1,8] (fun v1 v8 wr=>v1=.int .i64 p/\v8=.slice none 0 0/\Hid (wr=w1)) (fun _ _ _=>0)
  ·exact⟨rfl,rfl,(rfl:w1=w1)⟩
  obtain⟨rfl,rfl,HW⟩:=hrel;go_wp2;go_ret2;exact⟨none,0,0,p,rfl,by rw[HW.out];exact HB.out,inl ⟨H0.out,rfl,rfl,rfl⟩⟩
 have jx:=CN yo.out.1 _ _ h0;obtain⟨X,hX⟩:∃X,aY atom (((aa s).drop q).length+1) (l,(aa s).drop q)=X:=⟨_,rfl⟩
 have H0:Hid (sub (cm atom) ((aa s).drop k)=X):=by
  show cm atom ([],(aa s).drop k)=_;unfold cm;rw[show cq atom ([],(aa s).drop k)=some (l,(aa s).drop q) from h0];exact hX
 rw[hm] at hq;have qW:n+2*(m-q)<=3200:=by
  have:=jx.2;simp[wi,hm] at this;omega
 have we:Hid (aY atom (((aa s).drop q).length+1) (l,(aa s).drop q)=X/\l.length=n/\w1.ownsRow w.heap.size 91 5 (.slice (some ⟨b,0,none⟩) n c) n (eK l)/\Below w.heap.size w w1):=⟨hX,lx,az,HB.out⟩
 clear h0 jx lx az hX;go_wp2;go_loopw [1,8,9] (fun v1 v8 _ wr=>∃(q n c b:Nat) (l:List Pc),q<=m/\0<n/\n+2*(m-q)<=3200/\v1=.int .i64 (q:Int)/\v8=.slice (some ⟨b,0,none⟩) n c/\Hid (aY atom (((aa s).drop q).length+1) (l,(aa s).drop q)=X/\l.length=n/\wr.ownsRow w.heap.size 91 5 (.slice (some ⟨b,0,none⟩) n c) n (eK l)/\Below w.heap.size w wr)) (fun v _ _ _=>m-(intOf v).toNat)
 ·exact⟨q,n,c,b,l,hq,kH,qW,rfl,rfl,we⟩
 clear we qW kH hq;obtain⟨q,n,c,b,l,hq,kH,qW,rfl,rfl,HX⟩:=hrel;have kE:Hid ((m<=q\/∃r:Unit,gm ((aa s).drop q)=true)->aY atom (((aa s).drop q).length+1) (l,(aa s).drop q)=some (l,(aa s).drop q)):=fun h=>by
  unfold aY;rcases h with h|⟨r,h⟩
  ·rw[x8 s q (by rw[HM.out];omega)];rfl
  simp only;rw[if_pos h]
 by_cases aq:q<m
 ·have i1:(q:Int)<m:=by omega
  have hqs:q<s.size:=by rw[HM.out];exact aq
  have bU:=yq s q hqs;obtain⟨bt,kc⟩:∃bt,(s[q]'hqs).toNat=bt:=⟨_,rfl⟩
  rw[kc] at bU;have ee:=hid bU;clear bU;have nL:Hid (Calls prog 89 #[.string ⟨#[124,41]⟩,.int .u8 (bt:Int)] wr fun e w'=>e=.returned (.bool (bt == 124 || bt == 41))/\wr=w'):=by
   have:=Jt ⟨#[124,41]⟩ bt wr (by decide);rw[zqI] at this;exact this
  by_cases he:(bt == 124 || bt == 41)=true
  ·have HR:Hid (X=some (l,(aa s).drop q)):=by
    show _=_;rw[<-HX.out.1];exact kE.out (inr ⟨(),by rw[ee.out];exact he⟩)
   rw[he] at nL;clear kE he;go_wp2_with (go_at_call 89;refine nL.out.mono ?_;rintro e W9 ⟨rfl,rfl⟩;refine Hid.out ?_);refine hid ?_;clear nL;go_wp2;go_ret2;exact⟨_,n,c,q,rfl,HX.out.2.2.2,inr ⟨l,_,q,b,by rw[H0.out,HR.out],by rw[HM.out];exact hq,rfl,rfl,HX.out.2.1,kH,rfl,HX.out.2.2.1⟩⟩
  have HE:=hid he;rw[show (bt == 124 || bt == 41)=false by simpa using he] at nL;clear kE he;go_wp2_with (go_at_call 89;refine nL.out.mono ?_;rintro e W9 ⟨rfl,rfl⟩;refine Hid.out ?_);refine hid ?_;clear nL;have HN:=hid (PO.out s q wr (by rw[HM.out];omega) (by rw[HM.out];omega));have rH:Hid (X=match cq atom (l,(aa s).drop q) with|none=>none|some x=>aY atom ((aa s).drop q).length (x.1++[⟨2,aJ⟩],x.2)):=by
   show _=_;rw[<-HX.out.1]
   conv=>lhs;unfold aY
   simp only;rw[if_neg (by rw[ee.out];exact HE.out)];rcases cq atom (l,(aa s).drop q) with _|x <;> rfl
  have xA:=hid (iL.at_ (PH yo.out.2) l ((aa s).drop q));go_wp2_with (go_at_call 88;refine HN.out.mono ?_;rintro e w2 ⟨a2,n2,c2,p2,rfl,kb,hP⟩;refine Hid.out ?_);refine hid ?_;have Du:=hid kb;clear kb HN;rcases hP with ⟨h0,rfl,rfl,rfl⟩|⟨l2,r2,q2,b2,h0,hq2,rfl,rfl,xk,cU,rfl,eW⟩
  ·have HR:Hid (X=none):=by
    show _=_;rw[rH.out,xA.out,h0];rfl
   clear h0;have hN:=MK w2;go_wp2;go_ret2;exact⟨none,0,0,p2,rfl,HX.out.2.2.2.trans (Du.out.mono HX.out.2.2.2.size),inl ⟨by rw[H0.out,HR.out],rfl,rfl,rfl⟩⟩
  have jx:=CN yo.out.1 _ _ h0;rw[HM.out] at hq2;have OC:n2+2*(m-q2)+2<=2*(m-q)+1/\q<q2:=by
   have h1:=jx.2;have h2:=jx.1;simp[wi,HM.out] at h1 h2;omega
  have HR:Hid (aY atom (((aa s).drop q2).length+1) ((l++l2)++[⟨2,aJ⟩],(aa s).drop q2)=X):=by
   show _=_;rw[rH.out,xA.out,h0];refine zgL yo.out.1 _ _ _ ?_ ?_
   ·simp
   simp[wi,HM.out];omega
  have lG:Hid (w2.ownsRow w.heap.size 91 5 (.slice (some ⟨b,0,none⟩) n c) n (eK l)/\w2.ownsRow w.heap.size 91 5 (.slice (some ⟨b2,0,none⟩) n2 c2) n2 (eK l2)/\Below w.heap.size w w2):=⟨cY HX.out.2.2.1 Du.out,ga eW HX.out.2.2.2.size,HX.out.2.2.2.trans (Du.out.mono HX.out.2.2.2.size)⟩
  have Ij:=hid xk;have wN:=lG.out.2.2.size;clear h0 jx eW xk;have hN:=NQ w2 b2 n2 c2;go_wp2_with (at_builtin;refine wv _ rfl _ _ rfl w2.heap.size _ 0 [] rfl (GD w2 (le_refl _)) ⟨b,0,none⟩ n c l rfl HX.out.2.1 (Dp (lG.out.1.alloc _)) ?_ ?_ ?_ ?_)
  ·omega
  ·exact kH
  ·simp
  intro g3 c3 w3 eh dJ;have sG:=(qt w2 _).trans (dJ.mono (by simp));have H3:=hid (Zz (ga eh wN) (Zz (cY lG.out.2.1 sG) (lG.out.2.2.trans (sG.mono wN))));have Rv:=H3.out.2.2.size;clear eh dJ sG;go_wp2_with (at_builtin;refine wv _ rfl _ _ rfl w.heap.size _ n l rfl H3.out.1 ⟨b2,0,none⟩ n2 c2 l2 rfl Ij.out (Dp H3.out.2.1) ?_ ?_ ?_ ?_)
  ·omega
  ·exact cU
  ·exact Rv
  intro g4 c4 w4 nj fj;have H4:=hid (Zz nj (H3.out.2.2.trans fj));have Oh:=H4.out.2.size;clear nj fj;go_wp2_with (at_builtin;refine wv _ rfl _ _ rfl w.heap.size _ (n+n2) (l++l2) rfl (H4.out.1.alloc _) ⟨w4.heap.size,0,none⟩ 1 1 [⟨2,aJ⟩] rfl rfl (Ia w4 2) ?_ ?_ ?_ ?_)
  ·omega
  ·omega
  ·simp;omega
  intro g5 c5 w5 ah kt;have H5:=hid (Zz ah ((H4.out.2.trans ((qt w4 _).mono Oh)).trans kt));clear ah kt;go_wp2;go_roundw
  ·exact⟨q2,n+n2+1,c5,g5,_,by omega,by omega,by omega,rfl,rfl,HR.out,by simp[HX.out.2.1,Ij.out];try omega,by first|exact H5.out.1|(rw[List.append_assoc];exact H5.out.1),H5.out.2⟩
  simp[intOf];omega
 have i1:¬((q:Int)<m):=by omega
 have HR:Hid (X=some (l,(aa s).drop q)):=by
  show _=_;rw[<-HX.out.1];exact kE.out (inl (by omega))
 clear kE;go_wp2;go_ret2;exact⟨_,n,c,q,rfl,HX.out.2.2.2,inr ⟨l,_,q,b,by rw[H0.out,HR.out],by rw[HM.out];exact hq,rfl,rfl,HX.out.2.1,kH,rfl,HX.out.2.2.1⟩⟩
theorem zpU(atom:bc->Option bc)(hd:ml atom)(wW:iL atom)(D:Nat)(hD:D<=99)(h1:np 50 (sub (cm atom)) D):np 32 (sub (bh atom)) D:=by
 intro s k w hs hk;have HO:=hid (h1 s k w hs hk);have PO:=hid h1;obtain⟨m,hm⟩:∃m,s.size=m:=⟨_,rfl⟩
 have HM:=hid hm;have yo:=hid (Zz hd wW);rw[hm] at hs hk;clear h1 hd wW;go_in;go_wp2_with (go_at_call 50;refine HO.out.mono ?_;rintro e w1 ⟨a,n,c,p,rfl,kb,hP⟩;refine Hid.out ?_);refine hid ?_;have HB:=hid kb;clear kb HO;rcases hP with ⟨h0,rfl,rfl,rfl⟩|⟨l,r,q,b,h0,hq,rfl,rfl,lx,kH,rfl,az⟩
 ·have H0:Hid (sub (bh atom) ((aa s).drop k)=none):=by
   show bh atom ([],(aa s).drop k)=none;unfold bh;rw[show cm atom ([],(aa s).drop k)=none from h0]
  clear h0;go_wp2;go_loopw [1,8] (fun v1 v8 wr=>v1=.int .i64 p/\v8=.slice none 0 0/\Hid (wr=w1)) (fun _ _ _=>0)
  ·exact⟨rfl,rfl,(rfl:w1=w1)⟩
  obtain⟨rfl,rfl,HW⟩:=hrel;go_wp2;go_ret2;exact⟨none,0,0,p,rfl,by rw[HW.out];exact HB.out,inl ⟨H0.out,rfl,rfl,rfl⟩⟩
 have jx:=D5 yo.out.1 _ _ h0;obtain⟨X,hX⟩:∃X,aX atom (((aa s).drop q).length+1) (l,(aa s).drop q)=X:=⟨_,rfl⟩
 have H0:Hid (sub (bh atom) ((aa s).drop k)=X):=by
  show bh atom ([],(aa s).drop k)=_;unfold bh;rw[show cm atom ([],(aa s).drop k)=some (l,(aa s).drop q) from h0];exact hX
 rw[hm] at hq;have qW:n+2*(m-q)<=3200:=by
  have:=jx.2;simp[wi,hm] at this;omega
 have we:Hid (aX atom (((aa s).drop q).length+1) (l,(aa s).drop q)=X/\l.length=n/\w1.ownsRow w.heap.size 91 5 (.slice (some ⟨b,0,none⟩) n c) n (eK l)/\Below w.heap.size w w1):=⟨hX,lx,az,HB.out⟩
 clear h0 jx lx az hX;go_wp2;go_loopw [1,8,9] (fun v1 v8 _ wr=>∃(q n c b:Nat) (l:List Pc),q<=m/\0<n/\n+2*(m-q)<=3200/\v1=.int .i64 (q:Int)/\v8=.slice (some ⟨b,0,none⟩) n c/\Hid (aX atom (((aa s).drop q).length+1) (l,(aa s).drop q)=X/\l.length=n/\wr.ownsRow w.heap.size 91 5 (.slice (some ⟨b,0,none⟩) n c) n (eK l)/\Below w.heap.size w wr)) (fun v _ _ _=>m-(intOf v).toNat)
 ·exact⟨q,n,c,b,l,hq,kH,qW,rfl,rfl,we⟩
 clear we qW kH hq;obtain⟨q,n,c,b,l,hq,kH,qW,rfl,rfl,HX⟩:=hrel;have kE:Hid ((m<=q\/∃r:Unit,aw 124 ((aa s).drop q)=none)->aX atom (((aa s).drop q).length+1) (l,(aa s).drop q)=some (l,(aa s).drop q)):=fun h=>by
  unfold aX;rcases h with h|⟨r,h⟩
  ·rw[x8 s q (by rw[HM.out];omega)];rfl
  simp only;rw[h]
 by_cases aq:q<m
 ·have i1:(q:Int)<m:=by omega
  have hqs:q<s.size:=by rw[HM.out];exact aq
  have bU:=yq s q hqs;obtain⟨bt,kc⟩:∃bt,(s[q]'hqs).toNat=bt:=⟨_,rfl⟩
  rw[kc] at bU;have ee:=hid bU;clear bU;by_cases he:¬bt=124
  ·have HR:Hid (X=some (l,(aa s).drop q)):=by
    show _=_;rw[<-HX.out.1];exact kE.out (inr ⟨(),by rw[ee.out];show (if bt=124 then some _ else none)=none;rw[if_neg he]⟩)
   have i2:¬((bt:Int)=124):=(by omega);clear kE he;go_wp2;go_ret2;exact⟨_,n,c,q,rfl,HX.out.2.2.2,inr ⟨l,_,q,b,by rw[H0.out,HR.out],by rw[HM.out];exact hq,rfl,rfl,HX.out.2.1,kH,rfl,HX.out.2.2.1⟩⟩
  have HE:=hid he;have i2:(bt:Int)=124:=by omega
  clear kE he;have HN:=hid (PO.out s (q+1) wr (by rw[HM.out];omega) (by rw[HM.out];omega));have rH:Hid (X=match cm atom (l,(aa s).drop (q+1)) with|none=>none|some x=>aX atom ((aa s).drop q).length (x.1++[⟨3,aJ⟩],x.2)):=by
   show _=_;rw[<-HX.out.1]
   conv=>lhs;unfold aX
   have MX:aw 124 ((aa s).drop q)=some ((aa s).drop (q+1)):=by
    rw[ee.out];show (if bt=124 then some _ else none)=_;rw[if_pos (Decidable.not_not.1 HE.out)]
   simp only[MX];generalize cm atom (l,(aa s).drop (q+1))=z;cases z <;> rfl
  have xA:=hid (iL.at_ (QF yo.out.2) l ((aa s).drop (q+1)));go_wp2_with (go_at_call 50;refine HN.out.mono ?_;rintro e w2 ⟨a2,n2,c2,p2,rfl,kb,hP⟩;refine Hid.out ?_);refine hid ?_;have Du:=hid kb;clear kb HN;rcases hP with ⟨h0,rfl,rfl,rfl⟩|⟨l2,r2,q2,b2,h0,hq2,rfl,rfl,xk,cU,rfl,eW⟩
  ·have HR:Hid (X=none):=by
    show _=_;rw[rH.out,xA.out,h0];rfl
   clear h0;have hN:=MK w2;go_wp2;go_ret2;exact⟨none,0,0,p2,rfl,HX.out.2.2.2.trans (Du.out.mono HX.out.2.2.2.size),inl ⟨by rw[H0.out,HR.out],rfl,rfl,rfl⟩⟩
  have jx:=D5 yo.out.1 _ _ h0;rw[HM.out] at hq2;have OC:n2+2*(m-q2)+2<=2*(m-q)+1/\q<q2:=by
   have h1:=jx.2;have h2:=jx.1;simp[wi,HM.out] at h1 h2;omega
  have HR:Hid (aX atom (((aa s).drop q2).length+1) ((l++l2)++[⟨3,aJ⟩],(aa s).drop q2)=X):=by
   show _=_;rw[rH.out,xA.out,h0];refine zgM yo.out.1 _ _ _ ?_ ?_
   ·simp
   simp[wi,HM.out];omega
  have lG:Hid (w2.ownsRow w.heap.size 91 5 (.slice (some ⟨b,0,none⟩) n c) n (eK l)/\w2.ownsRow w.heap.size 91 5 (.slice (some ⟨b2,0,none⟩) n2 c2) n2 (eK l2)/\Below w.heap.size w w2):=⟨cY HX.out.2.2.1 Du.out,ga eW HX.out.2.2.2.size,HX.out.2.2.2.trans (Du.out.mono HX.out.2.2.2.size)⟩
  have Ij:=hid xk;have wN:=lG.out.2.2.size;clear h0 jx eW xk;have hN:=NQ w2 b2 n2 c2;go_wp2_with (at_builtin;refine wv _ rfl _ _ rfl w2.heap.size _ 0 [] rfl (GD w2 (le_refl _)) ⟨b,0,none⟩ n c l rfl HX.out.2.1 (Dp (lG.out.1.alloc _)) ?_ ?_ ?_ ?_)
  ·omega
  ·exact kH
  ·simp
  intro g3 c3 w3 eh dJ;have sG:=(qt w2 _).trans (dJ.mono (by simp));have H3:=hid (Zz (ga eh wN) (Zz (cY lG.out.2.1 sG) (lG.out.2.2.trans (sG.mono wN))));have Rv:=H3.out.2.2.size;clear eh dJ sG;go_wp2_with (at_builtin;refine wv _ rfl _ _ rfl w.heap.size _ n l rfl H3.out.1 ⟨b2,0,none⟩ n2 c2 l2 rfl Ij.out (Dp H3.out.2.1) ?_ ?_ ?_ ?_)
  ·omega
  ·exact cU
  ·exact Rv
  intro g4 c4 w4 nj fj;have H4:=hid (Zz nj (H3.out.2.2.trans fj));have Oh:=H4.out.2.size;clear nj fj;go_wp2_with (at_builtin;refine wv _ rfl _ _ rfl w.heap.size _ (n+n2) (l++l2) rfl (H4.out.1.alloc _) ⟨w4.heap.size,0,none⟩ 1 1 [⟨3,aJ⟩] rfl rfl (Ia w4 3) ?_ ?_ ?_ ?_)
  ·omega
  ·omega
  ·simp;omega
  intro g5 c5 w5 ah kt;have H5:=hid (Zz ah ((H4.out.2.trans ((qt w4 _).mono Oh)).trans kt));clear ah kt;go_wp2;go_roundw
  ·exact⟨q2,n+n2+1,c5,g5,_,by omega,by omega,by omega,rfl,rfl,HR.out,by simp[HX.out.2.1,Ij.out];try omega,by first|exact H5.out.1|(rw[List.append_assoc];exact H5.out.1),H5.out.2⟩
  simp[intOf];omega
 have i1:¬((q:Int)<m):=by omega
 have HR:Hid (X=some (l,(aa s).drop q)):=by
  show _=_;rw[<-HX.out.1];exact kE.out (inl (by omega))
 clear kE;go_wp2;go_ret2;exact⟨_,n,c,q,rfl,HX.out.2.2.2,inr ⟨l,_,q,b,by rw[H0.out,HR.out],by rw[HM.out];exact hq,rfl,rfl,HX.out.2.1,kH,rfl,HX.out.2.2.1⟩⟩
theorem XA(D:Nat)(hD:D<=99)(uI:bc->Option bc)(hd:ml uI)(hl:iL uI)(h1:np 128 (sub uI) D):np 32 (sub (bh uI)) D:=
 zpU uI hd hl D hD (zpT uI hd hl D hD (zpS uI hd D hD h1))
theorem BB:∀n,n<=99->np 32 (sub (bh (dB n))) (99-n)
 | 0,_=>XA 99 (le_refl _) _ (yN 0) (Ss 0) (XB 99 (le_refl _) _ (fun _=>rfl) (fun h=>by omega))
 | n+1,h=>by
  refine XA (99-(n+1)) (by omega) _ (yN (n+1)) (Ss (n+1)) (XB (99-(n+1)) (by omega) _ (fun h=>by omega) (fun _=>⟨dB n,rfl,?_⟩))
  have:=BB n (by omega)
  rw[show 99-(n+1)+1=99-n by omega]
  exact this
def zqJ(s:ByteArray)(w:World)(e:Ending)(w':World):Prop:=
 ∃(a:Option Addr) (n c:Nat) (k:Int),e=.returned (.tuple #[.slice a n c,.int .i64 k])/\Below w.heap.size w w'/\
  (
   (a=none/\n=0/\c=0/\((1600<s.size/\k=6)\/(s.size<=1600/\eQ (aa s)=none/\k=5)\/(s.size<=1600/\k=6/\∃l,eQ (aa s)=some l/\400<l.length)))\/
   (s.size<=1600/\k=0/\∃(l:List Pc) (b:Nat),eQ (aa s)=some l/\l.length<=400/\l.length=n/\0<n/\a=some ⟨b,0,none⟩/\w'.ownsRow w.heap.size 91 5 (.slice a n c) n (eK l)))
theorem zkk(s:ByteArray)(hs9:s.size<=9223372036854775807)(w:World):Calls prog 17 #[.string s] w (zqJ s w):=by
 obtain⟨m,hm⟩:∃m,s.size=m:=⟨_,rfl⟩
 have HM:=hid hm;by_cases lI:1600<m
 ·have i0:(1600:Int)<m:=by omega
  go_in;go_wp2;go_ret2;exact⟨none,0,0,6,rfl,Below.refl _ _,inl ⟨rfl,rfl,rfl,inl ⟨by rw[HM.out];exact lI,rfl⟩⟩⟩
 have i0:¬((1600:Int)<m):=by omega
 have HC:Hid (Calls prog 32 #[.string s,.int .i64 0,.int .i64 0] w (xP (sub (bh (dB 99))) s 0 w)):=BB 99 (le_refl _) s 0 w (by omega) (by omega);have HT:Hid (eQ (aa s)=match sub (bh (dB 99)) ((aa s).drop 0) with|some (l,[])=>some l|_=>none):=by
  show _=_;unfold eQ sub;rw[List.drop_zero];rcases bh (dB 99) ([],aa s) with _|⟨l,r⟩
  ·rfl
  cases r <;> rfl
 go_in;go_wp2_with (go_at_call 32;refine HC.out.mono ?_;rintro e w3 ⟨a,n,c,p,rfl,kb,hP⟩;refine Hid.out ?_);refine hid ?_;have HB:=hid kb;clear kb HC;rcases hP with ⟨hz,rfl,rfl,rfl⟩|⟨l,r,q,b,hz,hq,rfl,rfl,lx,kH,rfl,az⟩
 ·have hN:=MK w3;have HZ:Hid (eQ (aa s)=none):=by show _=_;rw[HT.out,hz]
  clear hz;go_wp2;go_ret2;exact⟨none,0,0,5,rfl,HB.out,inl ⟨rfl,rfl,rfl,inr (inl ⟨by rw[HM.out];omega,HZ.out,rfl⟩)⟩⟩
 rw[HM.out] at hq;have hN:=NQ w3 b n c;have HO:=hid (Zz az lx);by_cases qq:q<m
 ·have j1:(q:Int)<m:=by omega
  have HZ:Hid (eQ (aa s)=none):=by
   show _=_;rw[HT.out,hz];have bU:=yq s q (by rw[HM.out];exact qq);rw[bU]
  clear hz az lx;go_wp2;go_ret2;exact⟨none,0,0,5,rfl,HB.out,inl ⟨rfl,rfl,rfl,inr (inl ⟨by rw[HM.out];omega,HZ.out,rfl⟩)⟩⟩
 have j1:¬((q:Int)<m):=by omega
 have HZ:Hid (eQ (aa s)=some l):=by
  show _=_;rw[HT.out,hz,x8 s q (by rw[HM.out];omega)]
 clear hz az lx;by_cases pM:400<n
 ·have j2:(400:Int)<n:=by omega
  go_wp2;go_ret2;exact⟨none,0,0,6,rfl,HB.out,inl ⟨rfl,rfl,rfl,inr (inr ⟨by rw[HM.out];omega,rfl,l,HZ.out,by rw[HO.out.2];exact pM⟩)⟩⟩
 have j2:¬((400:Int)<n):=by omega
 go_wp2;go_ret2;exact⟨_,n,c,0,rfl,HB.out,inr ⟨by rw[HM.out];omega,rfl,l,b,HZ.out,by rw[HO.out.2];omega,HO.out.2,kH,rfl,HO.out.1⟩⟩
