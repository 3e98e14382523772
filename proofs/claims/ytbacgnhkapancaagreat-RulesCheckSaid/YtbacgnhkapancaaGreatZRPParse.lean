import Derived.Test.YtbacgnhkapancaaGreatZPut3
import Derived.Test.YtbacgnhkapancaaGreatZRPBrkM
import Derived.BigFrame
set_option linter.all false
set_option maxHeartbeats 4000000
set_option maxRecDepth 100000
open Go.Lib (hid)
namespace Go.Proofs.YtbacgnhkapancaaGreat
open Go.RowKit Go.Maps Go.WideElems Go.ChangeMaps Go.MapKept Go.Proofs.Tryz
open IntWalk (i64_in)
open Nat (le_refl sub_self)
open Or (inl inr)
open _root_.Array (replicate)
theorem YN(w:World):(Instr.makeSlice 75 (.int .i64 256) (.int .i64 256)).run prog w=.ok (.slice (some ⟨w.heap.size,0,none⟩) 256 256) (w.alloc (.cells (replicate 256 (.bool false)) 4)):=by kernel_rfl
theorem X2(w:World):Flags (w.alloc (.cells (replicate 256 (.bool false)) 4)) w.heap.size aJ:=
 ⟨_,St.new w _ _,by simp,fun j hj=>by simp[hj,aJ]⟩
def og(r:List Nat):Option (List Pc × List Nat):=(dW r).map fun x=>([⟨1,x.1⟩],x.2)
def pt(s:ByteArray)(q:Nat)(p:Nat->Bool):Option ((Nat->Bool) × List Nat):=aG (((aa s).drop q).length+1) p ((aa s).drop q)
theorem zpO{s:ByteArray}{q:Nat}(p:Nat->Bool)(h:s.size<=q):pt s q p=none:=by
 unfold pt;rw[xn s q h];rfl
theorem znH{s:ByteArray}{q:Nat}(p:Nat->Bool){t:List Nat}(h:(aa s).drop q=93 :: t):pt s q p=some (p,t):=by
 unfold pt;rw[h];rfl
theorem Sg{s:ByteArray}{q q2 a c bt:Nat}(p:Nat->Bool){t:List Nat}(h:(aa s).drop q=bt :: t)(hb:bt≠93)(hs:cy ((aa s).drop q)=some (a,c,(aa s).drop q2)):pt s q p=pt s q2 (fun x=>p x || aq a (c+1-a) x):=by
 have hl:=(MN hs).1;have h1:aw 93 ((aa s).drop q)=none:=by
  rw[h];show (if bt=93 then _ else none)=none;rw[if_neg hb]
 conv=>lhs;unfold pt aG
 simp only[h1,hs];unfold pt;exact zgK _ _ _ _ hl (by omega)
theorem EF{s:ByteArray}{q bt:Nat}(p:Nat->Bool){t:List Nat}(h:(aa s).drop q=bt :: t)(hb:bt≠93)(hs:cy ((aa s).drop q)=none):pt s q p=none:=by
 have h1:aw 93 ((aa s).drop q)=none:=by
  rw[h];show (if bt=93 then _ else none)=none;rw[if_neg hb]
 unfold pt aG;simp only[h1,hs]
theorem WW{s:List Nat}(h:aI dq s=none):cy s=none:=by unfold cy;rw[h]
theorem Zg{s r:List Nat}{a:Nat}(h:aI dq s=some (a,r))(h2:aw 45 r=none):cy s=some (a,a,r):=by unfold cy;rw[h];simp only;rw[h2]
theorem znI{s r r1 r2:List Nat}{a c:Nat}(h:aI dq s=some (a,r))(h2:aw 45 r=some r1)(h3:aI dq r1=some (c,r2))(h4:a<=c):cy s=some (a,c,r2):=by
 unfold cy;rw[h];simp only;rw[h2];simp only;rw[h3];simp only;rw[if_pos h4]
theorem Md{s r r1:List Nat}{a:Nat}(h:aI dq s=some (a,r))(h2:aw 45 r=some r1)(h3:∀c r2,aI dq r1=some (c,r2)->¬a<=c):cy s=none:=by
 unfold cy;rw[h];simp only;rw[h2];simp only;rcases h5:aI dq r1 with _|⟨c,r2⟩
 ·rfl
 simp only;rw[if_neg (h3 c r2 h5)]
theorem PW(s:ByteArray)(q n:Nat):((aa s).drop q).drop n=(aa s).drop (q+n):=by rw[List.drop_drop]
theorem zpP(s:ByteArray)(k:Nat)(w:World)(hs:s.size<=1600)(hk:k<=s.size):Calls prog 156 #[.string s,.int .i64 (k:Int)] w (xB og s k w):=by
 obtain⟨m,hm⟩:∃m,s.size=m:=⟨_,rfl⟩
 have HM:=hid hm;have fu:=YN;rw[hm] at hs hk;go_enter func156,ntmps156;go_upto_region 2 with fail;have FO:=X2 w;have aD:=qg w (.cells (replicate 256 (.bool false)) 4);obtain⟨g,hg⟩:∃g,w.heap.size=g:=⟨_,rfl⟩
 have HG:Hid (w.heap.size<=g):=by show _<=_;omega
 have yx:Hid (Flags (w.alloc (.cells (replicate 256 (.bool false)) 4)) g aJ/\Below w.heap.size w (w.alloc (.cells (replicate 256 (.bool false)) 4))):=⟨hg ▸ FO,aD⟩
 rw[hg];clear FO aD;generalize w.alloc (.cells (replicate 256 (.bool false)) 4)=W0 at yx⊢;clear fu;obtain⟨nt,DB⟩:∃nt,(aw 94 ((aa s).drop k)).isSome=nt:=⟨_,rfl⟩
 obtain⟨k1,jU⟩:∃k1,(if nt=true then k+1 else k)=k1:=⟨_,rfl⟩
 have mN:=hid DB;have mj:=hid jU;have HX:Hid (k1<=m/\og ((aa s).drop k)=match pt s k1 aJ with|none=>none|some (q,r1)=>if eh (if nt=true then fun x=>!q x else q)=true then none else some ([⟨1,if nt=true then fun x=>!q x else q⟩],r1)):=by
  by_cases an:k<s.size
  ·have bQ:=xD s k an;by_cases hb:(s[k]'an).toNat=94
   ·have h1:aw 94 ((aa s).drop k)=some ((aa s).drop (k+1)):=by
     rw[bQ];show (if _ then some _ else none)=_;rw[if_pos hb]
    have h2:nt=true:=(by rw[<-DB,h1];rfl);subst h2;rw[if_pos rfl] at jU;subst jU;refine⟨by omega,?_⟩;unfold og dW pt;simp only[h1];rcases aG (((aa s).drop (k+1)).length+1) aJ ((aa s).drop (k+1)) with _|⟨q,r1⟩
    ·rfl
    simp;split <;> rfl
   have h1:aw 94 ((aa s).drop k)=none:=by
    rw[bQ];show (if _ then some _ else none)=_;rw[if_neg hb]
   have h2:nt=false:=(by rw[<-DB,h1];rfl);subst h2;rw[if_neg (by decide)] at jU;subst jU;refine⟨hk,?_⟩;unfold og dW pt;simp only[h1];rcases aG (((aa s).drop k).length+1) aJ ((aa s).drop k) with _|⟨q,r1⟩
   ·rfl
   simp;split <;> rfl
  have h1:aw 94 ((aa s).drop k)=none:=by rw[xn s k (by omega)];rfl
  have h2:nt=false:=by rw[<-DB,h1];rfl
  subst h2;rw[if_neg (by decide)] at jU;subst jU;refine⟨hk,?_⟩;unfold og dW pt;simp only[h1];rcases aG (((aa s).drop k).length+1) aJ ((aa s).drop k) with _|⟨q,r1⟩
  ·rfl
  simp;split <;> rfl
 go_cut [7] (fun v wx=>v=.bool nt/\wx=W0)
 case first=>
  by_cases an:k<m
  ·have i1:(k:Int)<m:=(by omega);have qn:k<s.size:=(by rw[HM.out];exact an);have bQ:=xD s k qn;obtain⟨bt,ky⟩:∃bt,(s[k]'qn).toNat=bt:=(⟨_,rfl⟩);rw[ky] at bQ;have hv:((bt:Int) == 94)=nt:=by
    rw[<-mN.out,bQ];show _=(if bt=94 then some _ else none).isSome;by_cases e:bt=94
    ·subst e;rfl
    rw[if_neg e];simp;omega
   clear bQ DB jU;go_wp2_with fail
   go_meet
   exact⟨by first|rfl|(rw[hv]),rfl⟩
  have i1:¬((k:Int)<m):=by omega
  have hv:nt=false:=by rw[<-mN.out,xn s k (by rw[HM.out];omega)];rfl
  clear DB jU;go_wp2_with fail
  go_meet
  exact⟨by rw[hv],rfl⟩
 case rest=>
 obtain⟨rfl,rfl⟩:=hcut;obtain⟨W1,sf⟩:∃W1,W1=wc:=⟨_,rfl⟩
 rw[<-sf] at yx⊢;clear sf DB jU
 go_upto_if 25 with (fail)
 go_cut [1] (fun v wx=>v=.int .i64 (k1:Int)/\wx=W1)
 case first=>
  rcases tC:nt with _|_
  ·have vh:k1=k:=(by rw[<-mj.out,tC];rfl);subst tC;go_wp2_with fail
   go_meet
   exact⟨by rw[vh],rfl⟩
  have vh:k1=k+1:=by rw[<-mj.out,tC];rfl
  subst tC;go_wp2_with fail
  go_meet
  exact⟨by rw[vh];rfl,rfl⟩
 case rest=>
 obtain⟨rfl,rfl⟩:=hcut;obtain⟨W2,jY⟩:∃W2,W2=wc:=⟨_,rfl⟩
 rw[<-jY] at yx⊢;clear jY;obtain⟨X,hX⟩:∃X,pt s k1 aJ=X:=⟨_,rfl⟩
 have vG:Hid (pt s k1 aJ=X/\Flags W2 g aJ/\Below w.heap.size w W2):=⟨hX,yx.out⟩
 have y8:=hid HX.out.2;have RS:=HX.out.1;rw[hX] at y8;clear hX HX;go_wp2_with fail;go_loopw [1] (fun v1 wr=>∃(q:Nat) (p:Nat->Bool),q<=m/\v1=.int .i64 (q:Int)/\Hid (pt s q p=X)/\Hid (Flags wr g p/\Below w.heap.size w wr)) (fun v _=>m-(intOf v).toNat)
 ·exact⟨k1,aJ,RS,rfl,vG.out.1,vG.out.2⟩
 clear vG;obtain⟨q,p,hq,rfl,HK,HF⟩:=hrel;have Ad:Hid (Calls prog 158 #[.slice (some ⟨g,0,none⟩) 256 256] wr fun e w'=>e=.returned (.agg #[.int .u64 ((wd p 0:Nat):Int),.int .u64 ((wd p 1:Nat):Int),.int .u64 ((wd p 2:Nat):Int),.int .u64 ((wd p 3:Nat):Int)])/\Below wr.heap.size wr w'):=Sy p g 0 256 wr HF.out.1.lt (fun j hj=>by rw[Nat.zero_add];exact (HF.out.1.cell j hj).1);by_cases an:q<m
 ·have i1:(q:Int)<m:=by omega
  have hqs:q<s.size:=by rw[HM.out];exact an
  have bQ:=xD s q hqs;obtain⟨bt,ky⟩:∃bt,(s[q]'hqs).toNat=bt:=⟨_,rfl⟩
  rw[ky] at bQ;have eB:=hid bQ;clear bQ;by_cases JX:bt=93
  ·have PK:Hid (X=some (p,(aa s).drop (q+1))):=by
    show _=_;rw[<-HK.out];exact znH p (by rw[eB.out,JX])
   have i2:((bt:Int) != 93)=false:=(by simp[JX]);go_wp2_with (go_at_call 158;refine Ad.out.mono ?_;rintro e w3 ⟨rfl,kb⟩;refine Hid.out ?_);refine hid ?_;have H3:=hid (HF.out.2.trans (kb.mono HF.out.2.size));clear kb
   go_upto_if 114 with (fail)
   have eY:=St.new w3 57 #[.int .u64 ((wd p 0:Nat):Int),.int .u64 ((wd p 1:Nat):Int),.int .u64 ((wd p 2:Nat):Int),.int .u64 ((wd p 3:Nat):Int)];have rU:=qg w3 (.cells #[.int .u64 ((wd p 0:Nat):Int),.int .u64 ((wd p 1:Nat):Int),.int .u64 ((wd p 2:Nat):Int),.int .u64 ((wd p 3:Nat):Int)] 57);obtain⟨b4,eV⟩:∃b4,w3.heap.size=b4:=(⟨_,rfl⟩);have H4:Hid (St (w3.alloc (.cells #[.int .u64 ((wd p 0:Nat):Int),.int .u64 ((wd p 1:Nat):Int),.int .u64 ((wd p 2:Nat):Int),.int .u64 ((wd p 3:Nat):Int)] 57)) 57 b4 #[.int .u64 ((wd p 0:Nat):Int),.int .u64 ((wd p 1:Nat):Int),.int .u64 ((wd p 2:Nat):Int),.int .u64 ((wd p 3:Nat):Int)]/\Below w.heap.size w (w3.alloc (.cells #[.int .u64 ((wd p 0:Nat):Int),.int .u64 ((wd p 1:Nat):Int),.int .u64 ((wd p 2:Nat):Int),.int .u64 ((wd p 3:Nat):Int)] 57))/\w.heap.size<=b4):=(⟨eV ▸ eY,H3.out.trans (rU.mono H3.out.size),by have:=H3.out.size;omega⟩);rw[eV];clear eY rU eV;generalize w3.alloc (.cells #[.int .u64 ((wd p 0:Nat):Int),.int .u64 ((wd p 1:Nat):Int),.int .u64 ((wd p 2:Nat):Int),.int .u64 ((wd p 3:Nat):Int)] 57)=W4 at H4⊢;obtain⟨qf,GF⟩:∃qf,(if nt=true then fun x=>!p x else p)=qf:=(⟨_,rfl⟩);have EL:=hid GF;clear GF
   go_cut [] (fun wx=>Hid (St wx 57 b4 #[.int .u64 ((wd qf 0:Nat):Int),.int .u64 ((wd qf 1:Nat):Int),.int .u64 ((wd qf 2:Nat):Int),.int .u64 ((wd qf 3:Nat):Int)]/\Below w.heap.size w wx))
   case first=>
    rcases tC:nt with _|_
    ·have qi:p=qf:=(by rw[<-EL.out,tC];rfl);subst tC;go_wp2_with fail
     go_meet
     exact⟨qi ▸ H4.out.1,H4.out.2.1⟩
    have qi:(fun x=>!p x)=qf:=(by rw[<-EL.out,tC];rfl);subst tC;obtain⟨r0,r1,r2,r3,r4,r5,r6,r7⟩:=bK H4.out.1;have xU:Hid (Calls prog 155 #[.int .i64 3,(.agg #[.int .u64 ((wd p 0:Nat):Int),.int .u64 ((wd p 1:Nat):Int),.int .u64 ((wd p 2:Nat):Int),.int .u64 ((wd p 3:Nat):Int)]),(.agg #[.int .u64 ((wd p 0:Nat):Int),.int .u64 ((wd p 1:Nat):Int),.int .u64 ((wd p 2:Nat):Int),.int .u64 ((wd p 3:Nat):Int)])] W4 fun e w'=>e=.returned (.agg #[.int .u64 ((wd qf 0:Nat):Int),.int .u64 ((wd qf 1:Nat):Int),.int .u64 ((wd qf 2:Nat):Int),.int .u64 ((wd qf 3:Nat):Int)])/\Below W4.heap.size W4 w'):=by
     rw[<-qi];exact BM p p W4
    go_wp2_with (go_at_call 155;refine xU.out.mono ?_;rintro e w5 ⟨rfl,kb⟩;refine Hid.out ?_);refine hid ?_;have H5:Hid (St w5 57 b4 #[.int .u64 ((wd p 0:Nat):Int),.int .u64 ((wd p 1:Nat):Int),.int .u64 ((wd p 2:Nat):Int),.int .u64 ((wd p 3:Nat):Int)]/\Below w.heap.size w w5):=(⟨H4.out.1.ab kb,H4.out.2.1.trans (kb.mono H4.out.2.1.size)⟩);clear kb r0 r1 r2 r3 r4 r5 r6 r7;obtain⟨r0,r1,r2,r3,r4,r5,r6,r7⟩:=bK H5.out.1;go_wp2_with fail
    go_meet
    exact⟨H5.out.1.ma _ _ _ _,p5 H5.out.2 H4.out.2.2 _ _ _ _⟩
   case rest=>
    obtain⟨W6,sN⟩:∃W6,W6=wc:=(⟨_,rfl⟩);rw[<-sN] at hcut⊢;clear sN;obtain⟨r0,r1,r2,r3,r4,r5,r6,r7⟩:=bK hcut.out.1;have heq:=U5;have nW:=Vl qf;obtain⟨z,hz⟩:∃z,eh qf=z:=(⟨_,rfl⟩);rw[show decide ((cY qf 256).length=0)=z from hz] at nW;have HZ:=hid hz;have G7:¬((m:Int)<=q):=(by omega);have eU:Hid (og ((aa s).drop k)=if z=true then none else some ([⟨1,qf⟩],(aa s).drop (q+1))):=by
     show _=_;rw[y8.out,PK.out];simp only[EL.out,HZ.out]
    clear hz;cases z
    ·have H7:=hid (LI W6 (B:=w.heap.size) hcut.out.2.size ⟨1,qf⟩);have Z2:=qg W6 (.cells (da ⟨1,qf⟩).toArray 104);have H8:=hid (hcut.out.2.trans (Z2.mono hcut.out.2.size));clear Z2;go_wp2;go_ret2;exact⟨_,1,1,((q:Int)+1),rfl,H8.out,inr ⟨[⟨1,qf⟩],_,q+1,_,eU.out,by rw[HM.out];omega,by omega,rfl,rfl,by omega,rfl,H7.out⟩⟩
    go_wp2;go_ret2;exact⟨none,0,0,_,rfl,hcut.out.2,inl ⟨eU.out,rfl,rfl,rfl⟩⟩
  have i2:((bt:Int) != 93)=true:=by simp;omega
  obtain⟨⟨c1,n1,B5⟩,oC⟩:∃x,rd ((aa s).drop q)=x:=⟨_,rfl⟩
  have jo:=EI ((aa s).drop q) (fun x hx=>Bk s x (List.mem_of_mem_drop hx));rw[oC] at jo;simp only[List.length_drop,vq,HM.out] at jo;have lD:Hid (Calls prog 157 #[.string (s.extract q m)] wr fun e w'=>e=.returned (.tuple #[.int .u8 (c1:Int),.int .i64 (n1:Int),.bool B5])/\Below wr.heap.size wr w'):=by
   have h1:=SE (s.extract q s.size) (by rw[ByteArray.size_extract];unfold maxLen;omega) wr;rw[Eh,oC,AR,HM.out] at h1;exact h1
  obtain⟨y1,xh⟩:∃y,fE ⟨#[94,45,47,34]⟩ bt=y:=⟨_,rfl⟩
  have nO:Hid (∀W,Calls prog 101 #[.string ⟨#[94,45,47,34]⟩,.int .u8 (bt:Int)] W fun e w'=>e=.returned (.bool y1)/\W=w'):=fun W=>by
   have:=GY ⟨#[94,45,47,34]⟩ bt W (by decide);rw[xh] at this;exact this
  have uu:Hid (aI dq ((aa s).drop q)=if B5=true/\y1=false then some (c1,(aa s).drop (q+n1)) else none):=by
   show _=_;have h1:=zke bt ((aa s).drop (q+1)) JX;rw[<-eB.out,oC,xh,PW] at h1;exact h1
  have Ao:=hid JX;have gz:=jo.1;have cZ:=jo.2;clear oC xh jo JX Ad;go_wp2_with (go_at_call 157;refine lD.out.mono ?_;rintro e w3 ⟨rfl,kb⟩;refine Hid.out ?_);refine hid ?_;have vl:Hid (Flags w3 g p/\Below w.heap.size w w3):=⟨HF.out.1.ab kb,HF.out.2.trans (kb.mono HF.out.2.size)⟩
  clear kb lD;cases B5
  ·have ux:Hid (X=none):=by
    show _=_;rw[<-HK.out];exact EF p eB.out Ao.out (WW (by rw[uu.out];rfl))
   go_wp2;go_ret2;exact⟨none,0,0,_,rfl,vl.out.2,inl ⟨by rw[y8.out,ux.out],rfl,rfl,rfl⟩⟩
  obtain⟨Qn,Ri⟩:=cZ rfl;go_wp2_with (go_at_call 101;refine (nO.out _).mono ?_;rintro e W9 ⟨rfl,rfl⟩;refine Hid.out ?_);refine hid ?_;clear nO;cases y1
  ·obtain⟨q1,AM⟩:∃q1,q+n1=q1:=(⟨_,rfl⟩);have hq1i:(q:Int)+(n1:Int)=q1:=(by omega);have fo:Hid (aI dq ((aa s).drop q)=some (c1,(aa s).drop q1)):=by
    show _=_;rw[uu.out,<-AM];rfl
   have hq1m:q1<=m:=(by omega);have hqq1:q<q1:=(by omega);clear uu AM cZ;by_cases OW:q1<m
   ·have d1:(q1:Int)<m:=(by omega);have Iq:q1<s.size:=(by rw[HM.out];exact OW);have CQ:=xD s q1 Iq;obtain⟨It,PL⟩:∃bt,(s[q1]'Iq).toNat=bt:=(⟨_,rfl⟩);rw[PL] at CQ;have Jz:=hid CQ;clear CQ;by_cases KN:It=45
    ·have d2:(It:Int)=45:=(by omega);have vf:Hid (aw 45 ((aa s).drop q1)=some ((aa s).drop (q1+1))):=by
      show _=_;rw[Jz.out];show (if It=45 then some _ else none)=_;rw[if_pos KN]
     subst KN;by_cases hd3:q1+1<m
     ·have d3:¬((m:Int)<=q1+1):=(by omega);have d4:(q1:Int)+1<(m:Int):=(by omega);have G6:q1+1<s.size:=(by rw[HM.out];exact hd3);have kQ:=xD s (q1+1) G6;obtain⟨Cm,Ds⟩:∃bt,(s[q1+1]'G6).toNat=bt:=(⟨_,rfl⟩);rw[Ds] at kQ;have fQ:=hid kQ;clear kQ;obtain⟨⟨c2,n2,Qg⟩,oC⟩:∃x,rd ((aa s).drop (q1+1))=x:=(⟨_,rfl⟩);have fY:=EI ((aa s).drop (q1+1)) (fun x hx=>Bk s x (List.mem_of_mem_drop hx));rw[oC] at fY;simp only[List.length_drop,vq,HM.out] at fY;have lD:Hid (∀W,Calls prog 157 #[.string (s.extract (q1+1) m)] W fun e w'=>e=.returned (.tuple #[.int .u8 (c2:Int),.int .i64 (n2:Int),.bool Qg])/\Below W.heap.size W w'):=fun W=>by
       have h1:=SE (s.extract (q1+1) s.size) (by rw[ByteArray.size_extract];unfold maxLen;omega) W;rw[Eh,oC,AR,HM.out] at h1;exact h1
      obtain⟨y2,mG⟩:∃y,fE ⟨#[93,94,45,47,34]⟩ Cm=y:=(⟨_,rfl⟩);have nO:Hid (∀W,Calls prog 101 #[.string ⟨#[93,94,45,47,34]⟩,.int .u8 (Cm:Int)] W fun e w'=>e=.returned (.bool y2)/\W=w'):=fun W=>by
       have:=GY ⟨#[93,94,45,47,34]⟩ Cm W (by decide);rw[mG] at this;exact this
      have uu:Hid (aI dq ((aa s).drop (q1+1))=if Qg=true/\y2=false then some (c2,(aa s).drop (q1+1+n2)) else none):=by
       show _=_;have h1:=zkf Cm ((aa s).drop (q1+1+1));rw[<-fQ.out,oC,mG,PW] at h1;exact h1
      have fH:=fY.1;have cQ:=fY.2;clear oC mG fY;go_wp2_with (go_at_call 101;refine (nO.out _).mono ?_;rintro e W9 ⟨rfl,rfl⟩;refine Hid.out ?_);refine hid ?_;clear nO;cases y2
      ·go_wp2_with (go_at_call 157;refine (lD.out _).mono ?_;rintro e w4 ⟨rfl,kb⟩;refine Hid.out ?_);refine hid ?_;have Oh:Hid (Flags w4 g p/\Below w.heap.size w w4):=(⟨vl.out.1.ab kb,vl.out.2.trans (kb.mono vl.out.2.size)⟩);clear kb lD;cases Qg
       ·have ux:Hid (X=none):=by
         show _=_;rw[<-HK.out];exact EF p eB.out Ao.out (Md fo.out vf.out (fun c r h=>by rw[uu.out] at h;simp at h))
        go_wp2;go_ret2;exact⟨none,0,0,_,rfl,Oh.out.2,inl ⟨by rw[y8.out,ux.out],rfl,rfl,rfl⟩⟩
       obtain⟨hn2a,hn2b⟩:=cQ rfl;by_cases sL:c2<c1
       ·have d5:(c2:Int)<c1:=(by omega);have ux:Hid (X=none):=by
         show _=_;rw[<-HK.out];refine EF p eB.out Ao.out (Md fo.out vf.out (fun c r h=>?_));rw[uu.out] at h;simp at h;omega
        go_wp2;go_ret2;exact⟨none,0,0,_,rfl,Oh.out.2,inl ⟨by rw[y8.out,ux.out],rfl,rfl,rfl⟩⟩
       have d5:¬((c2:Int)<c1):=(by omega);obtain⟨q3,hq3⟩:∃q3,q1+1+n2=q3:=(⟨_,rfl⟩);have hq3i:(q1:Int)+1+(n2:Int)=q3:=(by omega);have qQ:Hid (pt s q3 (fun x=>p x || aq c1 (c2+1-c1) x)=X):=by
        show _=_;rw[<-HK.out];exact (Sg p eB.out Ao.out (znI fo.out vf.out (by rw[uu.out,<-hq3];rfl) (by omega))).symm
       clear uu cQ fo vf sL;have rq:(fun x=>p x || aq c1 (c1-c1) x)=p:=by
        funext x;rw[sub_self,GP];exact Bool.or_false _
       have mH:Hid (Flags w4 g (fun x=>p x || aq c1 (c1-c1) x)/\Below w.heap.size w w4):=(by rw[rq];exact Oh.out);have Kh:Hid (c1<=c2+1):=(by show _<=_;omega);have i8:IntKind.i64.wrap (c1:Int)=c1:=i64_in _ (by omega);have i9:IntKind.i64.wrap (c2:Int)=c2:=i64_in _ (by omega);clear rq;go_wp2_with fail;go_loopw [12] (fun v12 wq=>∃b:Nat,v12=.int .i64 (b:Int)/\c1<=b/\b<=c2+1/\Hid (Flags wq g (fun x=>p x || aq c1 (b-c1) x)/\Below w.heap.size w wq)) (fun v _=>c2+1-(intOf v).toNat)
       ·exact⟨c1,rfl,le_refl _,by have:=Kh.out;omega,mH.out⟩
       clear mH;obtain⟨b,rfl,CO,YY,gv⟩:=hrel;by_cases hb:b<=c2
       ·have j1:(b:Int)<=c2:=(by omega);have j2:(b:Int)<256:=(by omega);obtain⟨y0,y1⟩:=gv.out.1.cell b (by omega);have tp:Hid (Flags (wr.setCell ⟨g,b,none⟩ (.bool true)) g (fun x=>p x || aq c1 (b+1-c1) x)/\Below w.heap.size w (wr.setCell ⟨g,b,none⟩ (.bool true))):=(⟨by rw[OA p c1 b CO];exact gv.out.1.set b (by omega),gv.out.2.setCell (p:=⟨g,b,none⟩) HG.out _⟩);go_wp2;go_roundw
        ·exact⟨b+1,by go_num,by omega,by omega,tp.out⟩
        simp[intOf];omega
       obtain rfl:b=c2+1:=(by omega);have j1:¬(((c2+1:Nat):Int)<=(c2:Int)):=(by omega);have Zx:¬((c2:Int)+1<=(c2:Int)):=(by omega);go_wp2;go_roundw
       ·exact⟨q3,_,by omega,rfl,qQ.out,gv.out⟩
       simp[intOf];omega
      have ux:Hid (X=none):=by
       show _=_;rw[<-HK.out];exact EF p eB.out Ao.out (Md fo.out vf.out (fun c r h=>by rw[uu.out] at h;simp at h))
      go_wp2;go_ret2;exact⟨none,0,0,_,rfl,vl.out.2,inl ⟨by rw[y8.out,ux.out],rfl,rfl,rfl⟩⟩
     have d3:(m:Int)<=q1+1:=(by omega);have ux:Hid (X=none):=by
      show _=_;rw[<-HK.out];exact EF p eB.out Ao.out (Md fo.out vf.out (fun c r h=>by rw[xn s (q1+1) (by rw[HM.out];omega),Tz] at h;cases h))
     go_wp2;go_ret2;exact⟨none,0,0,_,rfl,vl.out.2,inl ⟨by rw[y8.out,ux.out],rfl,rfl,rfl⟩⟩
    have d2:¬((It:Int)=45):=(by omega);have qQ:Hid (pt s q1 (fun x=>p x || aq c1 (c1+1-c1) x)=X):=by
     show _=_;rw[<-HK.out];exact (Sg p eB.out Ao.out (Zg fo.out (by rw[Jz.out];show (if It=45 then some _ else none)=none;rw[if_neg KN]))).symm
    clear fo KN;have rq:(fun x=>p x || aq c1 (c1-c1) x)=p:=by
     funext x;rw[sub_self,GP];exact Bool.or_false _
    have mH:Hid (Flags w3 g (fun x=>p x || aq c1 (c1-c1) x)/\Below w.heap.size w w3):=(by rw[rq];exact vl.out);have Kh:Hid (c1<=c1+1):=(by show _<=_;omega);have i8:IntKind.i64.wrap (c1:Int)=c1:=i64_in _ (by omega);have i9:IntKind.i64.wrap (c1:Int)=c1:=i64_in _ (by omega);clear rq;go_wp2_with fail;go_loopw [12] (fun v12 wq=>∃b:Nat,v12=.int .i64 (b:Int)/\c1<=b/\b<=c1+1/\Hid (Flags wq g (fun x=>p x || aq c1 (b-c1) x)/\Below w.heap.size w wq)) (fun v _=>c1+1-(intOf v).toNat)
    ·exact⟨c1,rfl,le_refl _,by have:=Kh.out;omega,mH.out⟩
    clear mH;obtain⟨b,rfl,CO,YY,gv⟩:=hrel;by_cases hb:b<=c1
    ·have j1:(b:Int)<=c1:=(by omega);have j2:(b:Int)<256:=(by omega);obtain⟨y0,y1⟩:=gv.out.1.cell b (by omega);have tp:Hid (Flags (wr.setCell ⟨g,b,none⟩ (.bool true)) g (fun x=>p x || aq c1 (b+1-c1) x)/\Below w.heap.size w (wr.setCell ⟨g,b,none⟩ (.bool true))):=(⟨by rw[OA p c1 b CO];exact gv.out.1.set b (by omega),gv.out.2.setCell (p:=⟨g,b,none⟩) HG.out _⟩);go_wp2;go_roundw
     ·exact⟨b+1,by go_num,by omega,by omega,tp.out⟩
     simp[intOf];omega
    obtain rfl:b=c1+1:=(by omega);have j1:¬(((c1+1:Nat):Int)<=(c1:Int)):=(by omega);have Zx:¬((c1:Int)+1<=(c1:Int)):=(by omega);go_wp2;go_roundw
    ·exact⟨q1,_,by omega,rfl,qQ.out,gv.out⟩
    simp[intOf];omega
   have d1:¬((q1:Int)<m):=(by omega);have qQ:Hid (pt s q1 (fun x=>p x || aq c1 (c1+1-c1) x)=X):=by
    show _=_;rw[<-HK.out];exact (Sg p eB.out Ao.out (Zg fo.out (by rw[xn s q1 (by rw[HM.out];omega)];rfl))).symm
   clear fo;have rq:(fun x=>p x || aq c1 (c1-c1) x)=p:=by
    funext x;rw[sub_self,GP];exact Bool.or_false _
   have mH:Hid (Flags w3 g (fun x=>p x || aq c1 (c1-c1) x)/\Below w.heap.size w w3):=(by rw[rq];exact vl.out);have Kh:Hid (c1<=c1+1):=(by show _<=_;omega);have i8:IntKind.i64.wrap (c1:Int)=c1:=i64_in _ (by omega);have i9:IntKind.i64.wrap (c1:Int)=c1:=i64_in _ (by omega);clear rq;go_wp2_with fail;go_loopw [12] (fun v12 wq=>∃b:Nat,v12=.int .i64 (b:Int)/\c1<=b/\b<=c1+1/\Hid (Flags wq g (fun x=>p x || aq c1 (b-c1) x)/\Below w.heap.size w wq)) (fun v _=>c1+1-(intOf v).toNat)
   ·exact⟨c1,rfl,le_refl _,by have:=Kh.out;omega,mH.out⟩
   clear mH;obtain⟨b,rfl,CO,YY,gv⟩:=hrel;by_cases hb:b<=c1
   ·have j1:(b:Int)<=c1:=(by omega);have j2:(b:Int)<256:=(by omega);obtain⟨y0,y1⟩:=gv.out.1.cell b (by omega);have tp:Hid (Flags (wr.setCell ⟨g,b,none⟩ (.bool true)) g (fun x=>p x || aq c1 (b+1-c1) x)/\Below w.heap.size w (wr.setCell ⟨g,b,none⟩ (.bool true))):=(⟨by rw[OA p c1 b CO];exact gv.out.1.set b (by omega),gv.out.2.setCell (p:=⟨g,b,none⟩) HG.out _⟩);go_wp2;go_roundw
    ·exact⟨b+1,by go_num,by omega,by omega,tp.out⟩
    simp[intOf];omega
   obtain rfl:b=c1+1:=(by omega);have j1:¬(((c1+1:Nat):Int)<=(c1:Int)):=(by omega);have Zx:¬((c1:Int)+1<=(c1:Int)):=(by omega);go_wp2;go_roundw
   ·exact⟨q1,_,by omega,rfl,qQ.out,gv.out⟩
   simp[intOf];omega
  have ux:Hid (X=none):=by
   show _=_;rw[<-HK.out];exact EF p eB.out Ao.out (WW (by rw[uu.out];rfl))
  go_wp2;go_ret2;exact⟨none,0,0,_,rfl,vl.out.2,inl ⟨by rw[y8.out,ux.out],rfl,rfl,rfl⟩⟩
 have i1:¬((q:Int)<m):=by omega
 have PK:Hid (X=none):=by
  show _=_;rw[<-HK.out];exact zpO p (by rw[HM.out];omega)
 go_wp2_with (go_at_call 158;refine Ad.out.mono ?_;rintro e w3 ⟨rfl,kb⟩;refine Hid.out ?_);refine hid ?_;have H3:=hid (HF.out.2.trans (kb.mono HF.out.2.size));clear kb
 go_upto_if 114 with (fail)
 have eY:=St.new w3 57 #[.int .u64 ((wd p 0:Nat):Int),.int .u64 ((wd p 1:Nat):Int),.int .u64 ((wd p 2:Nat):Int),.int .u64 ((wd p 3:Nat):Int)];have rU:=qg w3 (.cells #[.int .u64 ((wd p 0:Nat):Int),.int .u64 ((wd p 1:Nat):Int),.int .u64 ((wd p 2:Nat):Int),.int .u64 ((wd p 3:Nat):Int)] 57);obtain⟨b4,eV⟩:∃b4,w3.heap.size=b4:=⟨_,rfl⟩
 have H4:Hid (St (w3.alloc (.cells #[.int .u64 ((wd p 0:Nat):Int),.int .u64 ((wd p 1:Nat):Int),.int .u64 ((wd p 2:Nat):Int),.int .u64 ((wd p 3:Nat):Int)] 57)) 57 b4 #[.int .u64 ((wd p 0:Nat):Int),.int .u64 ((wd p 1:Nat):Int),.int .u64 ((wd p 2:Nat):Int),.int .u64 ((wd p 3:Nat):Int)]/\Below w.heap.size w (w3.alloc (.cells #[.int .u64 ((wd p 0:Nat):Int),.int .u64 ((wd p 1:Nat):Int),.int .u64 ((wd p 2:Nat):Int),.int .u64 ((wd p 3:Nat):Int)] 57))/\w.heap.size<=b4):=⟨eV ▸ eY,H3.out.trans (rU.mono H3.out.size),by have:=H3.out.size;omega⟩
 rw[eV];clear eY rU eV;generalize w3.alloc (.cells #[.int .u64 ((wd p 0:Nat):Int),.int .u64 ((wd p 1:Nat):Int),.int .u64 ((wd p 2:Nat):Int),.int .u64 ((wd p 3:Nat):Int)] 57)=W4 at H4⊢;obtain⟨qf,GF⟩:∃qf,(if nt=true then fun x=>!p x else p)=qf:=⟨_,rfl⟩
 have EL:=hid GF;clear GF
 go_cut [] (fun wx=>Hid (St wx 57 b4 #[.int .u64 ((wd qf 0:Nat):Int),.int .u64 ((wd qf 1:Nat):Int),.int .u64 ((wd qf 2:Nat):Int),.int .u64 ((wd qf 3:Nat):Int)]/\Below w.heap.size w wx))
 case first=>
  rcases tC:nt with _|_
  ·have qi:p=qf:=(by rw[<-EL.out,tC];rfl);subst tC;go_wp2_with fail
   go_meet
   exact⟨qi ▸ H4.out.1,H4.out.2.1⟩
  have qi:(fun x=>!p x)=qf:=by rw[<-EL.out,tC];rfl
  subst tC;obtain⟨r0,r1,r2,r3,r4,r5,r6,r7⟩:=bK H4.out.1;have xU:Hid (Calls prog 155 #[.int .i64 3,(.agg #[.int .u64 ((wd p 0:Nat):Int),.int .u64 ((wd p 1:Nat):Int),.int .u64 ((wd p 2:Nat):Int),.int .u64 ((wd p 3:Nat):Int)]),(.agg #[.int .u64 ((wd p 0:Nat):Int),.int .u64 ((wd p 1:Nat):Int),.int .u64 ((wd p 2:Nat):Int),.int .u64 ((wd p 3:Nat):Int)])] W4 fun e w'=>e=.returned (.agg #[.int .u64 ((wd qf 0:Nat):Int),.int .u64 ((wd qf 1:Nat):Int),.int .u64 ((wd qf 2:Nat):Int),.int .u64 ((wd qf 3:Nat):Int)])/\Below W4.heap.size W4 w'):=by
   rw[<-qi];exact BM p p W4
  go_wp2_with (go_at_call 155;refine xU.out.mono ?_;rintro e w5 ⟨rfl,kb⟩;refine Hid.out ?_);refine hid ?_;have H5:Hid (St w5 57 b4 #[.int .u64 ((wd p 0:Nat):Int),.int .u64 ((wd p 1:Nat):Int),.int .u64 ((wd p 2:Nat):Int),.int .u64 ((wd p 3:Nat):Int)]/\Below w.heap.size w w5):=⟨H4.out.1.ab kb,H4.out.2.1.trans (kb.mono H4.out.2.1.size)⟩
  clear kb r0 r1 r2 r3 r4 r5 r6 r7;obtain⟨r0,r1,r2,r3,r4,r5,r6,r7⟩:=bK H5.out.1;go_wp2_with fail
  go_meet
  exact⟨H5.out.1.ma _ _ _ _,p5 H5.out.2 H4.out.2.2 _ _ _ _⟩
 case rest=>
  obtain⟨W6,sN⟩:∃W6,W6=wc:=⟨_,rfl⟩
  rw[<-sN] at hcut⊢;clear sN;obtain⟨r0,r1,r2,r3,r4,r5,r6,r7⟩:=bK hcut.out.1;have G7:(m:Int)<=q:=by omega
  have eU:Hid (og ((aa s).drop k)=none):=by
   show _=_;rw[y8.out,PK.out]
  go_wp2;go_ret2;exact⟨none,0,0,_,rfl,hcut.out.2,inl ⟨eU.out,rfl,rfl,rfl⟩⟩
theorem zqF(k:Int):(da ⟨k,aJ⟩).toArray=#[.int .i64 k,.int .u64 0,.int .u64 0,.int .u64 0,.int .u64 0]:=by
 have:∀j,wd aJ j=0:=fun j=>vb j
 simp[da,this]
theorem U4(bt:Nat):fE ⟨#[124,41,42,43,63,93,47,34]⟩ bt=true↔(bt=124\/bt=41\/bt=42\/bt=43\/bt=63\/bt=93\/bt=47\/bt=34):=by
 unfold fE;simp;omega
theorem Zw(bt:Nat):fE mU bt=true↔(bt=47\/bt=40\/bt=41\/bt=91\/bt=93\/bt=124\/bt=42\/bt=43\/bt=63\/bt=46\/bt=34\/bt=126):=by
 unfold fE mU;simp;omega
theorem fX{c bt:Nat}(t:List Nat)(h:bt≠c):aw c (bt :: t)=none:=by show (if _ then _ else none)=none;rw[if_neg h]
theorem qt(c:Nat)(t:List Nat):aw c (c :: t)=some t:=by show (if _ then some _ else none)=_;rw[if_pos rfl]
theorem znJ(jK:bc->Option bc):sub (aU jK) []=none:=by
 unfold sub aU;simp only[aw];rw[Tz]
theorem znK(jK:bc->Option bc)(bt:Nat)(t:List Nat)(h:fE ⟨#[124,41,42,43,63,93,47,34]⟩ bt=true):sub (aU jK) (bt :: t)=none:=by
 have hc:=(U4 bt).1 h;unfold sub aU;simp only;rw[fX t (show bt≠46 by omega),fX t (show bt≠126 by omega),fX t (show bt≠40 by omega),fX t (show bt≠91 by omega)];simp only;rw[KH,if_neg];rintro⟨_,h1|h1⟩
 ·omega
 rw[(Zw bt).2 (by omega)] at h1;cases h1
theorem znL(jK:bc->Option bc)(t:List Nat):sub (aU jK) (46 :: t)=some ([⟨1,fun _=>true⟩],t):=by
 unfold sub aU;simp only;rw[qt];rfl
theorem znM(jK:bc->Option bc)(t:List Nat):sub (aU jK) (126 :: t)=some ([⟨0,aJ⟩],t):=by
 unfold sub aU;simp only;rw[fX t (by decide),qt];rfl
theorem zi8(jK:bc->Option bc)(t:List Nat):sub (aU jK) (40 :: t)=jK ([],t):=by
 unfold sub aU;simp only;rw[fX t (by decide),fX t (by decide),qt]
theorem znN(jK:bc->Option bc)(t:List Nat):sub (aU jK) (91 :: t)=og t:=by
 unfold sub aU og;simp only;rw[fX t (by decide),fX t (by decide),fX t (by decide),qt];simp only;rcases dW t with _|⟨q,r⟩ <;> rfl
theorem znO(jK:bc->Option bc)(bt:Nat)(t:List Nat)(h0:fE ⟨#[124,41,42,43,63,93,47,34]⟩ bt=false)(h1:bt≠46)(h2:bt≠126)(h3:bt≠91)(h4:bt≠40):
  sub (aU jK) (bt :: t)=if (rd (bt :: t)).2.2=true then some ([⟨1,eE (fun _=>(rd (bt :: t)).1) 1⟩],(bt :: t).drop (rd (bt :: t)).2.1) else none:=by
 have hn:¬(bt=124\/bt=41\/bt=42\/bt=43\/bt=63\/bt=93\/bt=47\/bt=34):=fun h=>by rw[(U4 bt).2 h] at h0;cases h0
 have ho:fE mU bt=false:=by
  rcases h:fE mU bt with _|_
  ·rfl
  have:=(Zw bt).1 h;omega
 unfold sub aU;simp only;rw[fX t h1,fX t h2,fX t h4,fX t h3];simp only;rw[KH];rcases hk:(rd (bt :: t)).2.2 with _|_
 ·rw[if_neg (by simp),if_neg (by simp)]
 rw[if_pos ⟨rfl,inr ho⟩,if_pos rfl];rfl
theorem XJ(D:Nat)(hD:D<=99)(jK:bc->Option bc)(RC:D=99->jK=fun _=>none)(hg:D<99->∃ud,jK=ea ud/\mW 41 (sub (bf ud)) (D+1)):mW 138 (sub (aU jK)) D:=by
 intro s k w hs hk;obtain⟨m,hm⟩:∃m,s.size=m:=⟨_,rfl⟩
 have HM:=hid hm;have HG:=hid (Zz RC hg);rw[hm] at hs hk;clear RC hg;go_enter func138,ntmps138;by_cases an:k<m
 ·have i1:¬((m:Int)<=k):=by omega
  have i1':(k:Int)<m:=by omega
  have qn:k<s.size:=by rw[HM.out];exact an
  have bQ:=xD s k qn;obtain⟨bt,ky⟩:∃bt,(s[k]'qn).toNat=bt:=⟨_,rfl⟩
  rw[ky] at bQ;have eB:=hid bQ;clear bQ;obtain⟨y,hy⟩:∃y,fE ⟨#[124,41,42,43,63,93,47,34]⟩ bt=y:=⟨_,rfl⟩
  have nO:Hid (∀W,Calls prog 101 #[.string ⟨#[124,41,42,43,63,93,47,34]⟩,.int .u8 (bt:Int)] W fun e w'=>e=.returned (.bool y)/\W=w'):=fun W=>by
   have:=GY ⟨#[124,41,42,43,63,93,47,34]⟩ bt W (by decide);rw[hy] at this;exact this
  have Hy:=hid hy;clear hy;go_wp2_with (go_at_call 101;refine (nO.out _).mono ?_;rintro e W9 ⟨rfl,rfl⟩;refine Hid.out ?_);refine hid ?_;clear nO;cases y
  ·by_cases Yp:bt=46
   ·subst Yp;have xU:Hid (∀W,Calls prog 155 #[.int .i64 3,.agg #[.int .u64 0,.int .u64 0,.int .u64 0,.int .u64 0],.agg #[.int .u64 0,.int .u64 0,.int .u64 0,.int .u64 0]] W fun e w'=>e=.returned (.agg #[.int .u64 ((wd ((fun _=>true)) 0:Nat):Int),.int .u64 ((wd ((fun _=>true)) 1:Nat):Int),.int .u64 ((wd ((fun _=>true)) 2:Nat):Int),.int .u64 ((wd ((fun _=>true)) 3:Nat):Int)])/\Below W.heap.size W w'):=fun W=>by
     have:=BM (fun _=>false) (fun _=>false) W;simp only[vb] at this;exact this
    have eU:Hid (sub (aU jK) ((aa s).drop k)=some ([⟨1,fun _=>true⟩],(aa s).drop (k+1))):=(by show _=_;rw[eB.out,znL]);go_wp2_with (go_at_call 155;refine (xU.out _).mono ?_;rintro e w3 ⟨rfl,kb⟩;refine Hid.out ?_);refine hid ?_;have H7:=hid (LI w3 (B:=w.heap.size) kb.size ⟨1,fun _=>true⟩);have H8:=hid (kb.trans ((qg w3 (.cells (da ⟨1,fun _=>true⟩).toArray 104)).mono kb.size));clear kb;go_wp2;go_ret2;exact⟨_,1,1,((k:Int)+1),rfl,H8.out,inr ⟨_,_,k+1,_,eU.out,by rw[HM.out];omega,by omega,rfl,rfl,by omega,rfl,H7.out⟩⟩
   have e46:¬((bt:Int)=46):=(by omega);by_cases Ih:bt=126
   ·subst Ih;have eU:Hid (sub (aU jK) ((aa s).drop k)=some ([⟨0,aJ⟩],(aa s).drop (k+1))):=(by show _=_;rw[eB.out,znM]);have H7:=hid (LI w (B:=w.heap.size) (le_refl _) ⟨0,aJ⟩);have H8:=hid (qg w (.cells (da ⟨0,aJ⟩).toArray 104));rw[zqF] at H7 H8;go_wp2;go_ret2;exact⟨_,1,1,((k:Int)+1),rfl,H8.out,inr ⟨_,_,k+1,_,eU.out,by rw[HM.out];omega,by omega,rfl,rfl,by omega,rfl,H7.out⟩⟩
   have e126:¬((bt:Int)=126):=(by omega);by_cases Ug:bt=91
   ·subst Ug;have HB:=hid (zpP s (k+1) w (by rw[HM.out];omega) (by rw[HM.out];omega));have eU:Hid (∀e w',xB og s (k+1) w e w'->xB (sub (aU jK)) s k w e w'):=fun e w' h=>by
     obtain⟨a,n,c,p,h1,h2,h3⟩:=h;refine⟨a,n,c,p,h1,h2,?_⟩;rw[eB.out,znN];exact h3
    go_wp2_with (go_at_call 156;refine HB.out.mono ?_;rintro e w3 hR;obtain⟨a,n,c,p,rfl,kb,hP⟩:=hR;refine Hid.out ?_);refine hid ?_;have HR:=hid (eU.out _ w3 ⟨a,n,c,p,rfl,kb,hP⟩);clear kb hP;go_wp2;go_ret2;exact HR.out
   have MZ:¬((bt:Int)=91):=(by omega);by_cases Rh:bt=40
   ·subst Rh;by_cases h99:D<99
    ·obtain⟨ud,nQ,Ii⟩:=HG.out.2 h99;have d0:¬((99:Int)<=D):=(by omega);have HC:=hid (Ii s (k+1) w (by rw[HM.out];omega) (by rw[HM.out];omega));have HA:Hid (sub (aU jK) ((aa s).drop k)=match sub (bf ud) ((aa s).drop (k+1)) with|none=>none|some x=>match aw 41 x.2 with|none=>none|some r=>some (x.1,r)):=by
      show _=_;rw[eB.out,zi8,nQ];unfold ea sub;rcases bf ud ([],(aa s).drop (k+1)) with _|x
      ·rfl
      simp only;rcases aw 41 x.2 with _|r <;> rfl
     clear Ii nQ HG;go_wp2_with (go_at_call 41;refine HC.out.mono ?_;rintro e w3 ⟨a,n,c,p,rfl,kb,hP⟩;refine Hid.out ?_);refine hid ?_;have HB:=hid kb;clear kb HC;rcases hP with ⟨hz,rfl,rfl,rfl⟩|⟨l,r,q,b,hz,hq,rfl,rfl,k8,kH,rfl,ay⟩
     ·have eU:Hid (sub (aU jK) ((aa s).drop k)=none):=(by show _=_;rw[HA.out,hz]);have hN:=Mh w3;clear hz;go_wp2;go_ret2;exact⟨none,0,0,_,rfl,HB.out,inl ⟨eU.out,rfl,rfl,rfl⟩⟩
     rw[HM.out] at hq;have hN:=M3 w3 b n c;have HZ:=hid hz;have HO:=hid (Zz ay k8);clear hz ay k8;by_cases qi:q<m
     ·have j1:¬((m:Int)<=q):=(by omega);have j2:(q:Int)<m:=(by omega);have hqs:q<s.size:=(by rw[HM.out];exact qi);have kQ:=xD s q hqs;obtain⟨Cm,Ds⟩:∃bt,(s[q]'hqs).toNat=bt:=(⟨_,rfl⟩);rw[Ds] at kQ;have fQ:=hid kQ;clear kQ;by_cases PU:Cm=41
      ·have eU:Hid (sub (aU jK) ((aa s).drop k)=some (l,(aa s).drop (q+1))):=by
        show _=_;rw[HA.out,HZ.out];simp only[fQ.out,PU];rw[qt]
       subst PU;go_wp2;go_ret2;exact⟨_,n,c,((q:Int)+1),rfl,HB.out,inr ⟨l,_,q+1,b,eU.out,by rw[HM.out];omega,by omega,rfl,HO.out.2,kH,rfl,HO.out.1⟩⟩
      have j3:((Cm:Int) != 41)=true:=(by simp;omega);have eU:Hid (sub (aU jK) ((aa s).drop k)=none):=by
       show _=_;rw[HA.out,HZ.out];simp only[fQ.out];rw[fX _ PU]
      go_wp2;go_ret2;exact⟨none,0,0,_,rfl,HB.out,inl ⟨eU.out,rfl,rfl,rfl⟩⟩
     have j1:(m:Int)<=q:=(by omega);have eU:Hid (sub (aU jK) ((aa s).drop k)=none):=by
      show _=_;rw[HA.out,HZ.out];simp only;rw[xn s q (by rw[HM.out];omega)];rfl
     go_wp2;go_ret2;exact⟨none,0,0,_,rfl,HB.out,inl ⟨eU.out,rfl,rfl,rfl⟩⟩
    have d0:(99:Int)<=D:=(by omega);have eU:Hid (sub (aU jK) ((aa s).drop k)=none):=(by show _=_;rw[eB.out,zi8,HG.out.1 (by omega)]);go_wp2;go_ret2;exact⟨none,0,0,_,rfl,Below.refl _ _,inl ⟨eU.out,rfl,rfl,rfl⟩⟩
   have e40:¬((bt:Int)=40):=(by omega);obtain⟨⟨c1,n1,B5⟩,oC⟩:∃x,rd ((aa s).drop k)=x:=(⟨_,rfl⟩);have jo:=EI ((aa s).drop k) (fun x hx=>Bk s x (List.mem_of_mem_drop hx));rw[oC] at jo;simp only[List.length_drop,vq,HM.out] at jo;have lD:Hid (Calls prog 157 #[.string (s.extract k m)] w fun e w'=>e=.returned (.tuple #[.int .u8 (c1:Int),.int .i64 (n1:Int),.bool B5])/\Below w.heap.size w w'):=by
    have h1:=SE (s.extract k s.size) (by rw[ByteArray.size_extract];unfold maxLen;omega) w;rw[Eh,oC,AR,HM.out] at h1;exact h1
   have HA:Hid (sub (aU jK) ((aa s).drop k)=if B5=true then some ([⟨1,eE (fun _=>c1) 1⟩],(aa s).drop (k+n1)) else none):=by
    show _=_;have h1:=znO jK bt ((aa s).drop (k+1)) Hy.out Yp Ih Ug Rh;rw[<-eB.out,oC,PW] at h1;exact h1
   have gz:=jo.1;have cZ:=jo.2;have fu:=YN;clear oC jo;go_wp2_with (go_at_call 157;refine lD.out.mono ?_;rintro e w3 ⟨rfl,kb⟩;refine Hid.out ?_);refine hid ?_;have HB:=hid kb;clear kb lD;cases B5
   ·have eU:Hid (sub (aU jK) ((aa s).drop k)=none):=(by show _=_;rw[HA.out];rfl);go_wp2;go_ret2;exact⟨none,0,0,_,rfl,HB.out,inl ⟨eU.out,rfl,rfl,rfl⟩⟩
   obtain⟨Qn,Ri⟩:=cZ rfl;have eU:Hid (sub (aU jK) ((aa s).drop k)=some ([⟨1,eE (fun _=>c1) 1⟩],(aa s).drop (k+n1))):=(by show _=_;rw[HA.out];rfl);go_upto_region 20 with fail;have FO:=X2 w3;have aD:=qg w3 (.cells (replicate 256 (.bool false)) 4);obtain⟨g,hg⟩:∃g,w3.heap.size=g:=(⟨_,rfl⟩);have yx:Hid (Flags (w3.alloc (.cells (replicate 256 (.bool false)) 4)) g aJ/\Below w.heap.size w (w3.alloc (.cells (replicate 256 (.bool false)) 4))/\w.heap.size<=g):=(⟨hg ▸ FO,HB.out.trans (aD.mono HB.out.size),by have:=HB.out.size;omega⟩);rw[hg];clear FO aD hg;generalize w3.alloc (.cells (replicate 256 (.bool false)) 4)=W4 at yx⊢;obtain⟨y0,y1⟩:=yx.out.1.cell c1 gz;have j2:(c1:Int)<256:=(by omega);have Ie:Hid (Flags (W4.setCell ⟨g,c1,none⟩ (.bool true)) g (eE (fun _=>c1) 1)/\Below w.heap.size w (W4.setCell ⟨g,c1,none⟩ (.bool true))):=(⟨yx.out.1.set c1 gz,yx.out.2.1.setCell (p:=⟨g,c1,none⟩) yx.out.2.2 _⟩);go_upto_region 21 with fail;generalize W4.setCell ⟨g,c1,none⟩ (.bool true)=W5 at Ie⊢;have Ad:Hid (Calls prog 158 #[.slice (some ⟨g,0,none⟩) 256 256] W5 fun e w'=>e=.returned (.agg #[.int .u64 ((wd ((eE (fun _=>c1) 1)) 0:Nat):Int),.int .u64 ((wd ((eE (fun _=>c1) 1)) 1:Nat):Int),.int .u64 ((wd ((eE (fun _=>c1) 1)) 2:Nat):Int),.int .u64 ((wd ((eE (fun _=>c1) 1)) 3:Nat):Int)])/\Below W5.heap.size W5 w'):=Sy (eE (fun _=>c1) 1) g 0 256 W5 Ie.out.1.lt (fun j hj=>by rw[Nat.zero_add];exact (Ie.out.1.cell j hj).1);clear y0 y1;go_wp2_with (go_at_call 158;refine Ad.out.mono ?_;rintro e w6 ⟨rfl,kb⟩;refine Hid.out ?_);refine hid ?_;have yU:=hid (Ie.out.2.trans (kb.mono Ie.out.2.size));clear kb;have H7:=hid (LI w6 (B:=w.heap.size) yU.out.size ⟨1,eE (fun _=>c1) 1⟩);have H8:=hid (yU.out.trans ((qg w6 (.cells (da ⟨1,eE (fun _=>c1) 1⟩).toArray 104)).mono yU.out.size));go_wp2;go_ret2;exact⟨_,1,1,((k:Int)+(n1:Int)),rfl,H8.out,inr ⟨_,_,k+n1,_,eU.out,by rw[HM.out];omega,by omega,rfl,rfl,by omega,rfl,H7.out⟩⟩
  have eU:Hid (sub (aU jK) ((aa s).drop k)=none):=by show _=_;rw[eB.out];exact znK jK bt _ Hy.out
  go_wp2;go_ret2;exact⟨none,0,0,_,rfl,Below.refl _ _,inl ⟨eU.out,rfl,rfl,rfl⟩⟩
 have i1:(m:Int)<=k:=by omega
 have eU:Hid (sub (aU jK) ((aa s).drop k)=none):=by show _=_;rw[xn s k (by rw[HM.out];omega)];exact znJ jK
 go_wp2;go_ret2;exact⟨none,0,0,_,rfl,Below.refl _ _,inl ⟨eU.out,rfl,rfl,rfl⟩⟩
theorem zpQ(c:Nat):fE ⟨#[42,43,63]⟩ c=(ey c).isSome:=by
 unfold fE ey;by_cases h1:c=42
 ·subst h1;rfl
 by_cases h2:c=43
 ·subst h2;rfl
 by_cases h3:c=63
 ·subst h3;rfl
 rw[if_neg h1,if_neg h2,if_neg h3];simp;omega
theorem zpR(atom:bc->Option bc)(hd:mh atom)(D:Nat)(hD:D<=99)(h1:mW 138 (sub atom) D):mW 100 (sub (ca atom)) D:=by
 intro s k w hs hk;have HO:=hid (h1 s k w hs hk);obtain⟨m,hm⟩:∃m,s.size=m:=⟨_,rfl⟩
 have HM:=hid hm;have xT:=hid hd;rw[hm] at hs hk;clear h1 hd;go_enter func100,ntmps100;go_wp2_with (go_at_call 138;refine HO.out.mono ?_;rintro e w1 ⟨a,n,c,p,rfl,kb,hP⟩;refine Hid.out ?_);refine hid ?_;have HB:=hid kb;clear kb HO;rcases hP with ⟨h0,rfl,rfl,rfl⟩|⟨l,r,q,b,h0,hq,rfl,rfl,k8,kH,rfl,ay⟩
 ·have H0:Hid (sub (ca atom) ((aa s).drop k)=none):=by
   show ca atom ([],(aa s).drop k)=none;unfold ca;rw[show atom ([],(aa s).drop k)=none from h0]
  clear h0;go_wp2_with fail;go_loopw [1,8] (fun v1 v8 wr=>v1=.int .i64 p/\v8=.slice none 0 0/\Hid (wr=w1)) (fun _ _ _=>0)
  ·exact⟨rfl,rfl,(rfl:w1=w1)⟩
  obtain⟨rfl,rfl,HW⟩:=hrel;go_wp2;go_ret2;exact⟨none,0,0,p,rfl,by rw[HW.out];exact HB.out,inl ⟨H0.out,rfl,rfl,rfl⟩⟩
 have ju:=xT.out _ _ h0;have H0:Hid (sub (ca atom) ((aa s).drop k)=some (bp ((aa s).drop q) l)):=by
  show ca atom ([],(aa s).drop k)=_;unfold ca;rw[show atom ([],(aa s).drop k)=some (l,(aa s).drop q) from h0]
 rw[hm] at hq;have qT:n+2*(m-q)<=3200:=by
  have:=ju.2;simp[vq,hm] at this;omega
 have Ux:Hid (bp ((aa s).drop q) l=bp ((aa s).drop q) l/\l.length=n/\w1.ownsRow w.heap.size 104 5 (.slice (some ⟨b,0,none⟩) n c) n (eC l)/\Below w.heap.size w w1):=⟨rfl,k8,ay,HB.out⟩
 obtain⟨X,hX⟩:∃X,bp ((aa s).drop q) l=X:=⟨_,rfl⟩
 have vG:Hid (bp ((aa s).drop q) l=X/\l.length=n/\w1.ownsRow w.heap.size 104 5 (.slice (some ⟨b,0,none⟩) n c) n (eC l)/\Below w.heap.size w w1):=⟨hX,Ux.out.2⟩
 rw[hX] at H0;clear h0 ju k8 ay Ux hX;go_wp2_with fail;go_loopw [1,8,9] (fun v1 v8 _ wr=>∃(q n c b:Nat) (l:List Pc),q<=m/\0<n/\n+2*(m-q)<=3200/\v1=.int .i64 (q:Int)/\v8=.slice (some ⟨b,0,none⟩) n c/\Hid (bp ((aa s).drop q) l=X/\l.length=n/\wr.ownsRow w.heap.size 104 5 (.slice (some ⟨b,0,none⟩) n c) n (eC l)/\Below w.heap.size w wr)) (fun v _ _ _=>m-(intOf v).toNat)
 ·exact⟨q,n,c,b,l,hq,kH,qT,rfl,rfl,vG⟩
 clear vG qT kH hq;obtain⟨q,n,c,b,l,hq,kH,qT,rfl,rfl,HX⟩:=hrel;by_cases an:q<m
 ·have i1:(q:Int)<m:=by omega
  have hqs:q<s.size:=by rw[HM.out];exact an
  have bQ:=xD s q hqs;obtain⟨bt,ky⟩:∃bt,(s[q]'hqs).toNat=bt:=⟨_,rfl⟩
  rw[ky] at bQ;have E6:Hid (bp ((aa s).drop q) l=match ey bt with|some k=>bp ((aa s).drop (q+1)) (l++[⟨k,aJ⟩])|none=>(l,bt :: (aa s).drop (q+1))):=by
   show _=_;rw[bQ];rfl
  have eB:=hid bQ;clear bQ;have nO:Hid (Calls prog 101 #[.string ⟨#[42,43,63]⟩,.int .u8 (bt:Int)] wr fun e w'=>e=.returned (.bool (ey bt).isSome)/\wr=w'):=by
   have:=GY ⟨#[42,43,63]⟩ bt wr (by decide);rw[zpQ] at this;exact this
  rcases vh:ey bt with _|kk
  ·rw[vh] at E6 nO;have HR:Hid (X=(l,(aa s).drop q)):=by
    show _=_;rw[<-HX.out.1,E6.out,eB.out]
   clear vh E6;go_wp2_with (go_at_call 101;refine nO.out.mono ?_;rintro e W9 ⟨rfl,rfl⟩;refine Hid.out ?_);refine hid ?_;clear nO;go_wp2;go_ret2;exact⟨_,n,c,q,rfl,HX.out.2.2.2,inr ⟨l,_,q,b,by rw[H0.out,HR.out],by rw[HM.out];exact hq,rfl,rfl,HX.out.2.1,kH,rfl,HX.out.2.2.1⟩⟩
  rw[vh] at E6 nO;have DK:(bt=42/\kk=4)\/(bt=43/\kk=5)\/(bt=63/\kk=6):=by
   unfold ey at vh
   repeat' split at vh
   all_goals simp_all
  have RA:=hid (E6.out);clear vh E6;go_wp2_with (go_at_call 101;refine nO.out.mono ?_;rintro e W9 ⟨rfl,rfl⟩;refine Hid.out ?_);refine hid ?_;clear nO;rcases DK with ⟨rfl,rfl⟩|⟨rfl,rfl⟩|⟨rfl,rfl⟩
  ·have hO:=HX.out.2.2.1;have A2:=HX.out.2.2.2.size;go_wp2_with (at_builtin;refine vV _ rfl _ _ rfl wr.heap.size _ 0 [] rfl (IF wr (le_refl _)) ⟨b,0,none⟩ n c l rfl HX.out.2.1 (CX (hO.alloc _)) ?_ ?_ ?_ ?_)
   ·omega
   ·exact kH
   ·simp
   intro g2 c2 w2 eK cr;have H2:=hid (Zz (gE eK A2) (HX.out.2.2.2.trans (((qg wr _).trans (cr.mono (by simp))).mono A2)));have xC:=H2.out.2.size;clear eK cr hO;go_wp2_with (at_builtin;refine vV _ rfl _ _ rfl w.heap.size _ n l rfl (H2.out.1.alloc _) ⟨w2.heap.size,0,none⟩ 1 1 [⟨4,aJ⟩] rfl rfl (G8 w2 4) ?_ ?_ ?_ ?_)
   ·omega
   ·omega
   ·simp;omega
   intro g3 c3 w3 ek dH;have mR:Hid (w3.ownsRow w.heap.size 104 5 (.slice (some ⟨g3,0,none⟩) (n+1) c3) (n+1) (eC (l++[⟨4,aJ⟩]))/\Below w.heap.size w w3):=(⟨ek,(H2.out.2.trans ((qg w2 _).mono xC)).trans dH⟩);clear ek dH;go_wp2;go_roundw
   ·exact⟨q+1,n+1,c3,g3,_,by omega,by omega,by omega,by go_num,rfl,by rw[<-HX.out.1,RA.out],by simp[HX.out.2.1],mR.out.1,mR.out.2⟩
   simp[intOf];omega
  ·have hO:=HX.out.2.2.1;have A2:=HX.out.2.2.2.size;go_wp2_with (at_builtin;refine vV _ rfl _ _ rfl wr.heap.size _ 0 [] rfl (IF wr (le_refl _)) ⟨b,0,none⟩ n c l rfl HX.out.2.1 (CX (hO.alloc _)) ?_ ?_ ?_ ?_)
   ·omega
   ·exact kH
   ·simp
   intro g2 c2 w2 eK cr;have H2:=hid (Zz (gE eK A2) (HX.out.2.2.2.trans (((qg wr _).trans (cr.mono (by simp))).mono A2)));have xC:=H2.out.2.size;clear eK cr hO;go_wp2_with (at_builtin;refine vV _ rfl _ _ rfl w.heap.size _ n l rfl (H2.out.1.alloc _) ⟨w2.heap.size,0,none⟩ 1 1 [⟨5,aJ⟩] rfl rfl (G8 w2 5) ?_ ?_ ?_ ?_)
   ·omega
   ·omega
   ·simp;omega
   intro g3 c3 w3 ek dH;have mR:Hid (w3.ownsRow w.heap.size 104 5 (.slice (some ⟨g3,0,none⟩) (n+1) c3) (n+1) (eC (l++[⟨5,aJ⟩]))/\Below w.heap.size w w3):=(⟨ek,(H2.out.2.trans ((qg w2 _).mono xC)).trans dH⟩);clear ek dH;go_wp2;go_roundw
   ·exact⟨q+1,n+1,c3,g3,_,by omega,by omega,by omega,by go_num,rfl,by rw[<-HX.out.1,RA.out],by simp[HX.out.2.1],mR.out.1,mR.out.2⟩
   simp[intOf];omega
  have hO:=HX.out.2.2.1;have A2:=HX.out.2.2.2.size;go_wp2_with (at_builtin;refine vV _ rfl _ _ rfl wr.heap.size _ 0 [] rfl (IF wr (le_refl _)) ⟨b,0,none⟩ n c l rfl HX.out.2.1 (CX (hO.alloc _)) ?_ ?_ ?_ ?_)
  ·omega
  ·exact kH
  ·simp
  intro g2 c2 w2 eK cr;have H2:=hid (Zz (gE eK A2) (HX.out.2.2.2.trans (((qg wr _).trans (cr.mono (by simp))).mono A2)));have xC:=H2.out.2.size;clear eK cr hO;go_wp2_with (at_builtin;refine vV _ rfl _ _ rfl w.heap.size _ n l rfl (H2.out.1.alloc _) ⟨w2.heap.size,0,none⟩ 1 1 [⟨6,aJ⟩] rfl rfl (G8 w2 6) ?_ ?_ ?_ ?_)
  ·omega
  ·omega
  ·simp;omega
  intro g3 c3 w3 ek dH;have mR:Hid (w3.ownsRow w.heap.size 104 5 (.slice (some ⟨g3,0,none⟩) (n+1) c3) (n+1) (eC (l++[⟨6,aJ⟩]))/\Below w.heap.size w w3):=⟨ek,(H2.out.2.trans ((qg w2 _).mono xC)).trans dH⟩
  clear ek dH;go_wp2;go_roundw
  ·exact⟨q+1,n+1,c3,g3,_,by omega,by omega,by omega,by go_num,rfl,by rw[<-HX.out.1,RA.out],by simp[HX.out.2.1],mR.out.1,mR.out.2⟩
  simp[intOf];omega
 have i1:¬((q:Int)<m):=by omega
 have HR:Hid (X=(l,(aa s).drop q)):=by
  show _=_;rw[<-HX.out.1,xn s q (by rw[HM.out];omega)];rfl
 go_wp2;go_ret2;exact⟨_,n,c,q,rfl,HX.out.2.2.2,inr ⟨l,_,q,b,by rw[H0.out,HR.out],by rw[HM.out];exact hq,rfl,rfl,HX.out.2.1,kH,rfl,HX.out.2.2.1⟩⟩
theorem zqG(c:Nat):fE ⟨#[124,41]⟩ c=(c == 124 || c == 41):=by
 unfold fE;by_cases h1:c=124
 ·subst h1;rfl
 by_cases h2:c=41
 ·subst h2;rfl
 have e1:(c == 124)=false:=by simp[h1]
 have e2:(c == 41)=false:=by simp[h2]
 rw[e1,e2];simp;omega
theorem zpS(atom:bc->Option bc)(hd:mh atom)(xP:iE atom)(D:Nat)(hD:D<=99)(h1:mW 100 (sub (ca atom)) D):mW 63 (sub (cb atom)) D:=by
 intro s k w hs hk;have HO:=hid (h1 s k w hs hk);have Ro:=hid h1;obtain⟨m,hm⟩:∃m,s.size=m:=⟨_,rfl⟩
 have HM:=hid hm;have xT:=hid (Zz hd xP);rw[hm] at hs hk;clear h1 hd xP;go_enter func63,ntmps63;go_wp2_with (go_at_call 100;refine HO.out.mono ?_;rintro e w1 ⟨a,n,c,p,rfl,kb,hP⟩;refine Hid.out ?_);refine hid ?_;have HB:=hid kb;clear kb HO;rcases hP with ⟨h0,rfl,rfl,rfl⟩|⟨l,r,q,b,h0,hq,rfl,rfl,k8,kH,rfl,ay⟩
 ·have H0:Hid (sub (cb atom) ((aa s).drop k)=none):=by
   show cb atom ([],(aa s).drop k)=none;unfold cb;rw[show ca atom ([],(aa s).drop k)=none from h0]
  clear h0;go_wp2_with fail;go_loopw [1,8] (fun v1 v8 wr=>v1=.int .i64 p/\v8=.slice none 0 0/\Hid (wr=w1)) (fun _ _ _=>0)
  ·exact⟨rfl,rfl,(rfl:w1=w1)⟩
  obtain⟨rfl,rfl,HW⟩:=hrel;go_wp2;go_ret2;exact⟨none,0,0,p,rfl,by rw[HW.out];exact HB.out,inl ⟨H0.out,rfl,rfl,rfl⟩⟩
 have ju:=Du xT.out.1 _ _ h0;obtain⟨X,hX⟩:∃X,aX atom (((aa s).drop q).length+1) (l,(aa s).drop q)=X:=⟨_,rfl⟩
 have H0:Hid (sub (cb atom) ((aa s).drop k)=X):=by
  show cb atom ([],(aa s).drop k)=_;unfold cb;rw[show ca atom ([],(aa s).drop k)=some (l,(aa s).drop q) from h0];exact hX
 rw[hm] at hq;have qT:n+2*(m-q)<=3200:=by
  have:=ju.2;simp[vq,hm] at this;omega
 have vG:Hid (aX atom (((aa s).drop q).length+1) (l,(aa s).drop q)=X/\l.length=n/\w1.ownsRow w.heap.size 104 5 (.slice (some ⟨b,0,none⟩) n c) n (eC l)/\Below w.heap.size w w1):=⟨hX,k8,ay,HB.out⟩
 clear h0 ju k8 ay hX;go_wp2_with fail;go_loopw [1,8,9] (fun v1 v8 _ wr=>∃(q n c b:Nat) (l:List Pc),q<=m/\0<n/\n+2*(m-q)<=3200/\v1=.int .i64 (q:Int)/\v8=.slice (some ⟨b,0,none⟩) n c/\Hid (aX atom (((aa s).drop q).length+1) (l,(aa s).drop q)=X/\l.length=n/\wr.ownsRow w.heap.size 104 5 (.slice (some ⟨b,0,none⟩) n c) n (eC l)/\Below w.heap.size w wr)) (fun v _ _ _=>m-(intOf v).toNat)
 ·exact⟨q,n,c,b,l,hq,kH,qT,rfl,rfl,vG⟩
 clear vG qT kH hq;obtain⟨q,n,c,b,l,hq,kH,qT,rfl,rfl,HX⟩:=hrel;have kC:Hid ((m<=q\/∃r:Unit,fZ ((aa s).drop q)=true)->aX atom (((aa s).drop q).length+1) (l,(aa s).drop q)=some (l,(aa s).drop q)):=fun h=>by
  unfold aX;rcases h with h|⟨r,h⟩
  ·rw[xn s q (by rw[HM.out];omega)];rfl
  simp only;rw[if_pos h]
 by_cases an:q<m
 ·have i1:(q:Int)<m:=by omega
  have hqs:q<s.size:=by rw[HM.out];exact an
  have bQ:=xD s q hqs;obtain⟨bt,ky⟩:∃bt,(s[q]'hqs).toNat=bt:=⟨_,rfl⟩
  rw[ky] at bQ;have eB:=hid bQ;clear bQ;have nO:Hid (Calls prog 101 #[.string ⟨#[124,41]⟩,.int .u8 (bt:Int)] wr fun e w'=>e=.returned (.bool (bt == 124 || bt == 41))/\wr=w'):=by
   have:=GY ⟨#[124,41]⟩ bt wr (by decide);rw[zqG] at this;exact this
  by_cases he:(bt == 124 || bt == 41)=true
  ·have HR:Hid (X=some (l,(aa s).drop q)):=by
    show _=_;rw[<-HX.out.1];exact kC.out (inr ⟨(),by rw[eB.out];exact he⟩)
   rw[he] at nO;clear kC he;go_wp2_with (go_at_call 101;refine nO.out.mono ?_;rintro e W9 ⟨rfl,rfl⟩;refine Hid.out ?_);refine hid ?_;clear nO;go_wp2;go_ret2;exact⟨_,n,c,q,rfl,HX.out.2.2.2,inr ⟨l,_,q,b,by rw[H0.out,HR.out],by rw[HM.out];exact hq,rfl,rfl,HX.out.2.1,kH,rfl,HX.out.2.2.1⟩⟩
  have HE:=hid he;rw[show (bt == 124 || bt == 41)=false by simpa using he] at nO;clear kC he;go_wp2_with (go_at_call 101;refine nO.out.mono ?_;rintro e W9 ⟨rfl,rfl⟩;refine Hid.out ?_);refine hid ?_;clear nO;have HN:=hid (Ro.out s q wr (by rw[HM.out];omega) (by rw[HM.out];omega));have qA:Hid (X=match ca atom (l,(aa s).drop q) with|none=>none|some x=>aX atom ((aa s).drop q).length (x.1++[⟨2,aJ⟩],x.2)):=by
   show _=_;rw[<-HX.out.1]
   conv=>lhs;unfold aX
   simp only;rw[if_neg (by rw[eB.out];exact HE.out)];rcases ca atom (l,(aa s).drop q) with _|x <;> rfl
  have xd:=hid (iE.at_ (RT xT.out.2) l ((aa s).drop q));go_wp2_with (go_at_call 100;refine HN.out.mono ?_;rintro e w2 ⟨a2,n2,c2,p2,rfl,kb,hP⟩;refine Hid.out ?_);refine hid ?_;have CN:=hid kb;clear kb HN;rcases hP with ⟨h0,rfl,rfl,rfl⟩|⟨l2,r2,q2,b2,h0,hq2,rfl,rfl,xq,cQ,rfl,eK⟩
  ·have HR:Hid (X=none):=by
    show _=_;rw[qA.out,xd.out,h0];rfl
   clear h0;have hN:=Mh w2;go_wp2;go_ret2;exact⟨none,0,0,p2,rfl,HX.out.2.2.2.trans (CN.out.mono HX.out.2.2.2.size),inl ⟨by rw[H0.out,HR.out],rfl,rfl,rfl⟩⟩
  have ju:=Du xT.out.1 _ _ h0;rw[HM.out] at hq2;have Qs:n2+2*(m-q2)+2<=2*(m-q)+1/\q<q2:=by
   have h1:=ju.2;have h2:=ju.1;simp[vq,HM.out] at h1 h2;omega
  have HR:Hid (aX atom (((aa s).drop q2).length+1) ((l++l2)++[⟨2,aJ⟩],(aa s).drop q2)=X):=by
   show _=_;rw[qA.out,xd.out,h0];refine zgL xT.out.1 _ _ _ ?_ ?_
   ·simp
   simp[vq,HM.out];omega
  have oY:Hid (w2.ownsRow w.heap.size 104 5 (.slice (some ⟨b,0,none⟩) n c) n (eC l)/\w2.ownsRow w.heap.size 104 5 (.slice (some ⟨b2,0,none⟩) n2 c2) n2 (eC l2)/\Below w.heap.size w w2):=⟨cW HX.out.2.2.1 CN.out,gE eK HX.out.2.2.2.size,HX.out.2.2.2.trans (CN.out.mono HX.out.2.2.2.size)⟩
  have Gy:=hid xq;have xC:=oY.out.2.2.size;clear h0 ju eK xq;have hN:=M3 w2 b2 n2 c2;go_wp2_with (at_builtin;refine vV _ rfl _ _ rfl w2.heap.size _ 0 [] rfl (IF w2 (le_refl _)) ⟨b,0,none⟩ n c l rfl HX.out.2.1 (CX (oY.out.1.alloc _)) ?_ ?_ ?_ ?_)
  ·omega
  ·exact kH
  ·simp
  intro g3 c3 w3 ek dH;have sj:=(qg w2 _).trans (dH.mono (by simp));have H3:=hid (Zz (gE ek xC) (Zz (cW oY.out.2.1 sj) (oY.out.2.2.trans (sj.mono xC))));have Oy:=H3.out.2.2.size;clear ek dH sj;go_wp2_with (at_builtin;refine vV _ rfl _ _ rfl w.heap.size _ n l rfl H3.out.1 ⟨b2,0,none⟩ n2 c2 l2 rfl Gy.out (CX H3.out.2.1) ?_ ?_ ?_ ?_)
  ·omega
  ·exact cQ
  ·exact Oy
  intro g4 c4 w4 nu eV;have H4:=hid (Zz nu (H3.out.2.2.trans eV));have QR:=H4.out.2.size;clear nu eV;go_wp2_with (at_builtin;refine vV _ rfl _ _ rfl w.heap.size _ (n+n2) (l++l2) rfl (H4.out.1.alloc _) ⟨w4.heap.size,0,none⟩ 1 1 [⟨2,aJ⟩] rfl rfl (G8 w4 2) ?_ ?_ ?_ ?_)
  ·omega
  ·omega
  ·simp;omega
  intro g5 c5 w5 ah mC;have H5:=hid (Zz ah ((H4.out.2.trans ((qg w4 _).mono QR)).trans mC));clear ah mC;go_wp2;go_roundw
  ·exact⟨q2,n+n2+1,c5,g5,_,by omega,by omega,by omega,rfl,rfl,HR.out,by simp[HX.out.2.1,Gy.out];try omega,by first|exact H5.out.1|(rw[List.append_assoc];exact H5.out.1),H5.out.2⟩
  simp[intOf];omega
 have i1:¬((q:Int)<m):=by omega
 have HR:Hid (X=some (l,(aa s).drop q)):=by
  show _=_;rw[<-HX.out.1];exact kC.out (inl (by omega))
 clear kC;go_wp2;go_ret2;exact⟨_,n,c,q,rfl,HX.out.2.2.2,inr ⟨l,_,q,b,by rw[H0.out,HR.out],by rw[HM.out];exact hq,rfl,rfl,HX.out.2.1,kH,rfl,HX.out.2.2.1⟩⟩
theorem zpT(atom:bc->Option bc)(hd:mh atom)(xP:iE atom)(D:Nat)(hD:D<=99)(h1:mW 63 (sub (cb atom)) D):mW 41 (sub (bf atom)) D:=by
 intro s k w hs hk;have HO:=hid (h1 s k w hs hk);have Ro:=hid h1;obtain⟨m,hm⟩:∃m,s.size=m:=⟨_,rfl⟩
 have HM:=hid hm;have xT:=hid (Zz hd xP);rw[hm] at hs hk;clear h1 hd xP;go_enter func41,ntmps41;go_wp2_with (go_at_call 63;refine HO.out.mono ?_;rintro e w1 ⟨a,n,c,p,rfl,kb,hP⟩;refine Hid.out ?_);refine hid ?_;have HB:=hid kb;clear kb HO;rcases hP with ⟨h0,rfl,rfl,rfl⟩|⟨l,r,q,b,h0,hq,rfl,rfl,k8,kH,rfl,ay⟩
 ·have H0:Hid (sub (bf atom) ((aa s).drop k)=none):=by
   show bf atom ([],(aa s).drop k)=none;unfold bf;rw[show cb atom ([],(aa s).drop k)=none from h0]
  clear h0;go_wp2_with fail;go_loopw [1,8] (fun v1 v8 wr=>v1=.int .i64 p/\v8=.slice none 0 0/\Hid (wr=w1)) (fun _ _ _=>0)
  ·exact⟨rfl,rfl,(rfl:w1=w1)⟩
  obtain⟨rfl,rfl,HW⟩:=hrel;go_wp2;go_ret2;exact⟨none,0,0,p,rfl,by rw[HW.out];exact HB.out,inl ⟨H0.out,rfl,rfl,rfl⟩⟩
 have ju:=Ch xT.out.1 _ _ h0;obtain⟨X,hX⟩:∃X,aW atom (((aa s).drop q).length+1) (l,(aa s).drop q)=X:=⟨_,rfl⟩
 have H0:Hid (sub (bf atom) ((aa s).drop k)=X):=by
  show bf atom ([],(aa s).drop k)=_;unfold bf;rw[show cb atom ([],(aa s).drop k)=some (l,(aa s).drop q) from h0];exact hX
 rw[hm] at hq;have qT:n+2*(m-q)<=3200:=by
  have:=ju.2;simp[vq,hm] at this;omega
 have vG:Hid (aW atom (((aa s).drop q).length+1) (l,(aa s).drop q)=X/\l.length=n/\w1.ownsRow w.heap.size 104 5 (.slice (some ⟨b,0,none⟩) n c) n (eC l)/\Below w.heap.size w w1):=⟨hX,k8,ay,HB.out⟩
 clear h0 ju k8 ay hX;go_wp2_with fail;go_loopw [1,8,9] (fun v1 v8 _ wr=>∃(q n c b:Nat) (l:List Pc),q<=m/\0<n/\n+2*(m-q)<=3200/\v1=.int .i64 (q:Int)/\v8=.slice (some ⟨b,0,none⟩) n c/\Hid (aW atom (((aa s).drop q).length+1) (l,(aa s).drop q)=X/\l.length=n/\wr.ownsRow w.heap.size 104 5 (.slice (some ⟨b,0,none⟩) n c) n (eC l)/\Below w.heap.size w wr)) (fun v _ _ _=>m-(intOf v).toNat)
 ·exact⟨q,n,c,b,l,hq,kH,qT,rfl,rfl,vG⟩
 clear vG qT kH hq;obtain⟨q,n,c,b,l,hq,kH,qT,rfl,rfl,HX⟩:=hrel;have kC:Hid ((m<=q\/∃r:Unit,aw 124 ((aa s).drop q)=none)->aW atom (((aa s).drop q).length+1) (l,(aa s).drop q)=some (l,(aa s).drop q)):=fun h=>by
  unfold aW;rcases h with h|⟨r,h⟩
  ·rw[xn s q (by rw[HM.out];omega)];rfl
  simp only;rw[h]
 by_cases an:q<m
 ·have i1:(q:Int)<m:=by omega
  have hqs:q<s.size:=by rw[HM.out];exact an
  have bQ:=xD s q hqs;obtain⟨bt,ky⟩:∃bt,(s[q]'hqs).toNat=bt:=⟨_,rfl⟩
  rw[ky] at bQ;have eB:=hid bQ;clear bQ;by_cases he:¬bt=124
  ·have HR:Hid (X=some (l,(aa s).drop q)):=by
    show _=_;rw[<-HX.out.1];exact kC.out (inr ⟨(),by rw[eB.out];show (if bt=124 then some _ else none)=none;rw[if_neg he]⟩)
   have i2:¬((bt:Int)=124):=(by omega);clear kC he;go_wp2;go_ret2;exact⟨_,n,c,q,rfl,HX.out.2.2.2,inr ⟨l,_,q,b,by rw[H0.out,HR.out],by rw[HM.out];exact hq,rfl,rfl,HX.out.2.1,kH,rfl,HX.out.2.2.1⟩⟩
  have HE:=hid he;have i2:(bt:Int)=124:=by omega
  clear kC he;have HN:=hid (Ro.out s (q+1) wr (by rw[HM.out];omega) (by rw[HM.out];omega));have qA:Hid (X=match cb atom (l,(aa s).drop (q+1)) with|none=>none|some x=>aW atom ((aa s).drop q).length (x.1++[⟨3,aJ⟩],x.2)):=by
   show _=_;rw[<-HX.out.1]
   conv=>lhs;unfold aW
   have Lt:aw 124 ((aa s).drop q)=some ((aa s).drop (q+1)):=by
    rw[eB.out];show (if bt=124 then some _ else none)=_;rw[if_pos (Decidable.not_not.1 HE.out)]
   simp only[Lt];generalize cb atom (l,(aa s).drop (q+1))=z;cases z <;> rfl
  have xd:=hid (iE.at_ (SG xT.out.2) l ((aa s).drop (q+1)));go_wp2_with (go_at_call 63;refine HN.out.mono ?_;rintro e w2 ⟨a2,n2,c2,p2,rfl,kb,hP⟩;refine Hid.out ?_);refine hid ?_;have CN:=hid kb;clear kb HN;rcases hP with ⟨h0,rfl,rfl,rfl⟩|⟨l2,r2,q2,b2,h0,hq2,rfl,rfl,xq,cQ,rfl,eK⟩
  ·have HR:Hid (X=none):=by
    show _=_;rw[qA.out,xd.out,h0];rfl
   clear h0;have hN:=Mh w2;go_wp2;go_ret2;exact⟨none,0,0,p2,rfl,HX.out.2.2.2.trans (CN.out.mono HX.out.2.2.2.size),inl ⟨by rw[H0.out,HR.out],rfl,rfl,rfl⟩⟩
  have ju:=Ch xT.out.1 _ _ h0;rw[HM.out] at hq2;have Qs:n2+2*(m-q2)+2<=2*(m-q)+1/\q<q2:=by
   have h1:=ju.2;have h2:=ju.1;simp[vq,HM.out] at h1 h2;omega
  have HR:Hid (aW atom (((aa s).drop q2).length+1) ((l++l2)++[⟨3,aJ⟩],(aa s).drop q2)=X):=by
   show _=_;rw[qA.out,xd.out,h0];refine zgM xT.out.1 _ _ _ ?_ ?_
   ·simp
   simp[vq,HM.out];omega
  have oY:Hid (w2.ownsRow w.heap.size 104 5 (.slice (some ⟨b,0,none⟩) n c) n (eC l)/\w2.ownsRow w.heap.size 104 5 (.slice (some ⟨b2,0,none⟩) n2 c2) n2 (eC l2)/\Below w.heap.size w w2):=⟨cW HX.out.2.2.1 CN.out,gE eK HX.out.2.2.2.size,HX.out.2.2.2.trans (CN.out.mono HX.out.2.2.2.size)⟩
  have Gy:=hid xq;have xC:=oY.out.2.2.size;clear h0 ju eK xq;have hN:=M3 w2 b2 n2 c2;go_wp2_with (at_builtin;refine vV _ rfl _ _ rfl w2.heap.size _ 0 [] rfl (IF w2 (le_refl _)) ⟨b,0,none⟩ n c l rfl HX.out.2.1 (CX (oY.out.1.alloc _)) ?_ ?_ ?_ ?_)
  ·omega
  ·exact kH
  ·simp
  intro g3 c3 w3 ek dH;have sj:=(qg w2 _).trans (dH.mono (by simp));have H3:=hid (Zz (gE ek xC) (Zz (cW oY.out.2.1 sj) (oY.out.2.2.trans (sj.mono xC))));have Oy:=H3.out.2.2.size;clear ek dH sj;go_wp2_with (at_builtin;refine vV _ rfl _ _ rfl w.heap.size _ n l rfl H3.out.1 ⟨b2,0,none⟩ n2 c2 l2 rfl Gy.out (CX H3.out.2.1) ?_ ?_ ?_ ?_)
  ·omega
  ·exact cQ
  ·exact Oy
  intro g4 c4 w4 nu eV;have H4:=hid (Zz nu (H3.out.2.2.trans eV));have QR:=H4.out.2.size;clear nu eV;go_wp2_with (at_builtin;refine vV _ rfl _ _ rfl w.heap.size _ (n+n2) (l++l2) rfl (H4.out.1.alloc _) ⟨w4.heap.size,0,none⟩ 1 1 [⟨3,aJ⟩] rfl rfl (G8 w4 3) ?_ ?_ ?_ ?_)
  ·omega
  ·omega
  ·simp;omega
  intro g5 c5 w5 ah mC;have H5:=hid (Zz ah ((H4.out.2.trans ((qg w4 _).mono QR)).trans mC));clear ah mC;go_wp2;go_roundw
  ·exact⟨q2,n+n2+1,c5,g5,_,by omega,by omega,by omega,rfl,rfl,HR.out,by simp[HX.out.2.1,Gy.out];try omega,by first|exact H5.out.1|(rw[List.append_assoc];exact H5.out.1),H5.out.2⟩
  simp[intOf];omega
 have i1:¬((q:Int)<m):=by omega
 have HR:Hid (X=some (l,(aa s).drop q)):=by
  show _=_;rw[<-HX.out.1];exact kC.out (inl (by omega))
 clear kC;go_wp2;go_ret2;exact⟨_,n,c,q,rfl,HX.out.2.2.2,inr ⟨l,_,q,b,by rw[H0.out,HR.out],by rw[HM.out];exact hq,rfl,rfl,HX.out.2.1,kH,rfl,HX.out.2.2.1⟩⟩
theorem V2(D:Nat)(hD:D<=99)(ud:bc->Option bc)(hd:mh ud)(hl:iE ud)(h1:mW 138 (sub ud) D):mW 41 (sub (bf ud)) D:=
 zpT ud hd hl D hD (zpS ud hd hl D hD (zpR ud hd D hD h1))
theorem Aw:∀n,n<=99->mW 41 (sub (bf (dw n))) (99-n)
 | 0,_=>V2 99 (le_refl _) _ (yH 0) (RZ 0) (XJ 99 (le_refl _) _ (fun _=>rfl) (fun h=>by omega))
 | n+1,h=>by
  refine V2 (99-(n+1)) (by omega) _ (yH (n+1)) (RZ (n+1)) (XJ (99-(n+1)) (by omega) _ (fun h=>by omega) (fun _=>⟨dw n,rfl,?_⟩))
  have:=Aw n (by omega)
  rw[show 99-(n+1)+1=99-n by omega]
  exact this
def zqH(s:ByteArray)(w:World)(e:Ending)(w':World):Prop:=
 ∃(a:Option Addr) (n c:Nat) (k:Int),e=.returned (.tuple #[.slice a n c,.int .i64 k])/\Below w.heap.size w w'/\
  (
   (a=none/\n=0/\c=0/\((1600<s.size/\k=6)\/(s.size<=1600/\eO (aa s)=none/\k=5)\/(s.size<=1600/\k=6/\∃l,eO (aa s)=some l/\400<l.length)))\/
   (s.size<=1600/\k=0/\∃(l:List Pc) (b:Nat),eO (aa s)=some l/\l.length<=400/\l.length=n/\0<n/\a=some ⟨b,0,none⟩/\w'.ownsRow w.heap.size 104 5 (.slice a n c) n (eC l)))
theorem zkg(s:ByteArray)(hs9:s.size<=9223372036854775807)(w:World):Calls prog 22 #[.string s] w (zqH s w):=by
 obtain⟨m,hm⟩:∃m,s.size=m:=⟨_,rfl⟩
 have HM:=hid hm;by_cases kO:1600<m
 ·have i0:(1600:Int)<m:=by omega
  go_enter func22,ntmps22;go_wp2;go_ret2;exact⟨none,0,0,6,rfl,Below.refl _ _,inl ⟨rfl,rfl,rfl,inl ⟨by rw[HM.out];exact kO,rfl⟩⟩⟩
 have i0:¬((1600:Int)<m):=by omega
 have HC:Hid (Calls prog 41 #[.string s,.int .i64 0,.int .i64 0] w (xB (sub (bf (dw 99))) s 0 w)):=Aw 99 (le_refl _) s 0 w (by omega) (by omega);have HT:Hid (eO (aa s)=match sub (bf (dw 99)) ((aa s).drop 0) with|some (l,[])=>some l|_=>none):=by
  show _=_;unfold eO sub;rw[List.drop_zero];rcases bf (dw 99) ([],aa s) with _|⟨l,r⟩
  ·rfl
  cases r <;> rfl
 go_enter func22,ntmps22;go_wp2_with (go_at_call 41;refine HC.out.mono ?_;rintro e w3 ⟨a,n,c,p,rfl,kb,hP⟩;refine Hid.out ?_);refine hid ?_;have HB:=hid kb;clear kb HC;rcases hP with ⟨hz,rfl,rfl,rfl⟩|⟨l,r,q,b,hz,hq,rfl,rfl,k8,kH,rfl,ay⟩
 ·have hN:=Mh w3;have HZ:Hid (eO (aa s)=none):=by show _=_;rw[HT.out,hz]
  clear hz;go_wp2;go_ret2;exact⟨none,0,0,5,rfl,HB.out,inl ⟨rfl,rfl,rfl,inr (inl ⟨by rw[HM.out];omega,HZ.out,rfl⟩)⟩⟩
 rw[HM.out] at hq;have hN:=M3 w3 b n c;have HO:=hid (Zz ay k8);by_cases qi:q<m
 ·have j1:(q:Int)<m:=by omega
  have HZ:Hid (eO (aa s)=none):=by
   show _=_;rw[HT.out,hz];have bQ:=xD s q (by rw[HM.out];exact qi);rw[bQ]
  clear hz ay k8;go_wp2;go_ret2;exact⟨none,0,0,5,rfl,HB.out,inl ⟨rfl,rfl,rfl,inr (inl ⟨by rw[HM.out];omega,HZ.out,rfl⟩)⟩⟩
 have j1:¬((q:Int)<m):=by omega
 have HZ:Hid (eO (aa s)=some l):=by
  show _=_;rw[HT.out,hz,xn s q (by rw[HM.out];omega)]
 clear hz ay k8;by_cases ve:400<n
 ·have j2:(400:Int)<n:=by omega
  go_wp2;go_ret2;exact⟨none,0,0,6,rfl,HB.out,inl ⟨rfl,rfl,rfl,inr (inr ⟨by rw[HM.out];omega,rfl,l,HZ.out,by rw[HO.out.2];exact ve⟩)⟩⟩
 have j2:¬((400:Int)<n):=by omega
 go_wp2;go_ret2;exact⟨_,n,c,0,rfl,HB.out,inr ⟨by rw[HM.out];omega,rfl,l,b,HZ.out,by rw[HO.out.2];omega,HO.out.2,kH,rfl,HO.out.1⟩⟩
end Go.Proofs.YtbacgnhkapancaaGreat
