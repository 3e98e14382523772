import Derived.Test.YtiijebameffenaaGreatZPut3
import Derived.Test.YtiijebameffenaaGreatZRPBrkM
import Derived.BigFrame
set_option linter.all false
set_option maxHeartbeats 4000000
set_option maxRecDepth 100000
open Go.Lib (hid)
namespace Go.Proofs.YtiijebameffenaaGreat
open Go.RowKit Go.Maps Go.WideElems Go.ChangeMaps Go.Proofs.Tryz
open _root_.Array (replicate)
open Or (inl inr)
open Nat (le_refl sub_self)
open IntWalk (i64_in)
variable {a c q:Nat}{r r1 t:List Nat}
theorem zeu(w:World):(Instr.makeSlice 129 (.int .i64 256) (.int .i64 256)).run prog w=.ok (.slice (some ⟨w.heap.size,0,none⟩) 256 256) (w.alloc (.cells (replicate 256 (.bool false)) 4)):=by kernel_rfl
theorem ze7(w:World):Flags (w.alloc (.cells (replicate 256 (.bool false)) 4)) w.heap.size aO:=
 ⟨_,St.new w _ _,by simp,fun j hj=>by simp[hj,aO]⟩
def pE(r:List Nat):Option (List Pc × List Nat):=(ek r).map fun x=>([⟨1,x.1⟩],x.2)
def qz(s:ByteArray)(q:Nat)(p:Nat->Bool):Option ((Nat->Bool) × List Nat):=aD (((aa s).drop q).length+1) p ((aa s).drop q)
theorem zqI{s:ByteArray}(p:Nat->Bool)(h:s.size<=q):qz s q p=none:=by
 unfold qz;rw[zb s q h];rfl
theorem zot{s:ByteArray}(p:Nat->Bool)(h:(aa s).drop q=93 :: t):qz s q p=some (p,t):=by
 unfold qz;rw[h];rfl
theorem TN{s:ByteArray}{q2 bt:Nat}(p:Nat->Bool)(h:(aa s).drop q=bt :: t)(hb:bt≠93)(hs:cO ((aa s).drop q)=some (a,c,(aa s).drop q2)):qz s q p=qz s q2 (fun x=>p x || av a (c+1-a) x):=by
 have hl:=(Pg hs).1;have h1:aw 93 ((aa s).drop q)=none:=by
  rw[h];show (if bt=93 then _ else none)=none;rw[if_neg hb]
 conv=>lhs;unfold qz aD
 simp only[h1,hs];unfold qz;exact zgL _ _ _ _ hl (by omega)
theorem F5{s:ByteArray}{bt:Nat}(p:Nat->Bool)(h:(aa s).drop q=bt :: t)(hb:bt≠93)(hs:cO ((aa s).drop q)=none):qz s q p=none:=by
 have h1:aw 93 ((aa s).drop q)=none:=by
  rw[h];show (if bt=93 then _ else none)=none;rw[if_neg hb]
 unfold qz aD;simp only[h1,hs]
theorem Wz{s:List Nat}(h:aI du s=none):cO s=none:=by unfold cO;rw[h]
theorem WW{s:List Nat}(h:aI du s=some (a,r))(h2:aw 45 r=none):cO s=some (a,a,r):=by unfold cO;rw[h];simp only;rw[h2]
theorem zou{s r2:List Nat}(h:aI du s=some (a,r))(h2:aw 45 r=some r1)(h3:aI du r1=some (c,r2))(h4:a<=c):cO s=some (a,c,r2):=by
 unfold cO;rw[h];simp only;rw[h2];simp only;rw[h3];simp only;rw[if_pos h4]
theorem NM{s:List Nat}(h:aI du s=some (a,r))(h2:aw 45 r=some r1)(h3:∀c r2,aI du r1=some (c,r2)->¬a<=c):cO s=none:=by
 unfold cO;rw[h];simp only;rw[h2];simp only;rcases h5:aI du r1 with _|⟨c,r2⟩
 ·rfl
 simp only;rw[if_neg (h3 c r2 h5)]
theorem QN(s:ByteArray)(q n:Nat):((aa s).drop q).drop n=(aa s).drop (q+n):=by rw[List.drop_drop]
theorem zqJ(s:ByteArray)(k:Nat)(w:World)(hs:s.size<=1600)(hk:k<=s.size):Calls prog 184 #[.string s,.int .i64 (k:Int)] w (zf pE s k w):=by
 obtain⟨m,hm⟩:=Ξ s.size
 have HM:=hid hm;have gP:=zeu;rw[hm] at hs hk;go_in;go_upto_region 2 with fail;have KM:=ze7 w;have bz:=rh w (.cells (replicate 256 (.bool false)) 4);obtain⟨g,hg⟩:=Ξ w.heap.size
 have HG:Hid (w.heap.size<=g):=by show _<=_;omega
 have Ae:Hid (Flags (w.alloc (.cells (replicate 256 (.bool false)) 4)) g aO/\ϐ w (w.alloc (.cells (replicate 256 (.bool false)) 4))):=⟨hg ▸ KM,bz⟩
 rw[hg];clear KM bz;generalize w.alloc (.cells (replicate 256 (.bool false)) 4)=W0 at Ae⊢;clear gP;obtain⟨nt,DW⟩:=Ξ ((aw 94 ((aa s).drop k)).isSome)
 obtain⟨k1,ll⟩:=Ξ (if nt=true then k+1 else k)
 have nR:=hid DW;have ni:=hid ll;have HX:Hid (k1<=m/\pE ((aa s).drop k)=match qz s k1 aO with|none=>none|some (q,r1)=>if eD (if nt=true then fun x=>!q x else q)=true then none else some ([⟨1,if nt=true then fun x=>!q x else q⟩],r1)):=by
  by_cases aq:k<s.size
  ·have cU:=yt s k aq;by_cases hb:(s[k]'aq).toNat=94
   ·have h1:aw 94 ((aa s).drop k)=some ((aa s).drop (k+1)):=by
     rw[cU];show (if _ then some _ else none)=_;rw[if_pos hb]
    have h2:nt=true:=(by rw[<-DW,h1];rfl);subst h2;rw[if_pos rfl] at ll;subst ll;refine⟨by omega,?_⟩;unfold pE ek qz;simp only[h1];rcases aD (((aa s).drop (k+1)).length+1) aO ((aa s).drop (k+1)) with _|⟨q,r1⟩
    ·rfl
    simp;split <;> rfl
   have h1:aw 94 ((aa s).drop k)=none:=by
    rw[cU];show (if _ then some _ else none)=_;rw[if_neg hb]
   have h2:nt=false:=(by rw[<-DW,h1];rfl);subst h2;rw[if_neg (by decide)] at ll;subst ll;refine⟨hk,?_⟩;unfold pE ek qz;simp only[h1];rcases aD (((aa s).drop k).length+1) aO ((aa s).drop k) with _|⟨q,r1⟩
   ·rfl
   simp;split <;> rfl
  have h1:aw 94 ((aa s).drop k)=none:=by rw[zb s k (by omega)];rfl
  have h2:nt=false:=by rw[<-DW,h1];rfl
  subst h2;rw[if_neg (by decide)] at ll;subst ll;refine⟨hk,?_⟩;unfold pE ek qz;simp only[h1];rcases aD (((aa s).drop k).length+1) aO ((aa s).drop k) with _|⟨q,r1⟩
  ·rfl
  simp;split <;> rfl
 go_cut [7] (fun v wx=>v=.bool nt/\wx=W0)
 case first=>
  by_cases aq:k<m
  ·have i1:(k:Int)<m:=(by omega);have tN:k<s.size:=(by rw[HM.o];exact aq);have cU:=yt s k tN;obtain⟨bt,mW⟩:=Ξ ((s[k]'tN).toNat);rw[mW] at cU;have hv:((bt:Int) == 94)=nt:=by
    rw[<-nR.o,cU];show _=(if bt=94 then some _ else none).isSome;by_cases e:bt=94
    ·subst e;rfl
    rw[if_neg e];simp;omega
   clear cU DW ll;go_wp2_with fail
   go_meet
   exact⟨by first|rfl|(rw[hv]),rfl⟩
  have i1:¬((k:Int)<m):=by omega
  have hv:nt=false:=by rw[<-nR.o,zb s k (by rw[HM.o];omega)];rfl
  clear DW ll;go_wp2_with fail
  go_meet
  exact⟨by rw[hv],rfl⟩
 case rest=>
 obtain⟨rfl,rfl⟩:=hcut;obtain⟨W1,qa⟩:∃W1,W1=wc:=⟨_,rfl⟩
 rw[<-qa] at Ae⊢;clear qa DW ll
 go_upto_if 25 with (fail)
 go_cut [1] (fun v wx=>v=.int .i64 (k1:Int)/\wx=W1)
 case first=>
  rcases nU:nt with _|_
  ·have xR:k1=k:=(by rw[<-ni.o,nU];rfl);subst nU;go_wp2_with fail
   go_meet
   exact⟨by rw[xR],rfl⟩
  have xR:k1=k+1:=by rw[<-ni.o,nU];rfl
  subst nU;go_wp2_with fail
  go_meet
  exact⟨by rw[xR];rfl,rfl⟩
 case rest=>
 obtain⟨rfl,rfl⟩:=hcut;obtain⟨W2,lQ⟩:∃W2,W2=wc:=⟨_,rfl⟩
 rw[<-lQ] at Ae⊢;clear lQ;obtain⟨X,hX⟩:=Ξ (qz s k1 aO)
 have xS:Hid (qz s k1 aO=X/\Flags W2 g aO/\ϐ w W2):=⟨hX,Ae.o⟩
 have Bj:=hid HX.o.2;have QV:=HX.o.1;rw[hX] at Bj;clear hX HX;go_wp2;go_loopw [1] (fun v1 wr=>∃(q:Nat) (p:Nat->Bool),q<=m/\v1=.int .i64 (q:Int)/\Hid (qz s q p=X)/\Hid (Flags wr g p/\ϐ w wr)) (fun v _=>m-(intOf v).toNat)
 ·exact⟨k1,aO,QV,rfl,xS.o.1,xS.o.2⟩
 clear xS;obtain⟨q,p,hq,rfl,HK,HF⟩:=hrel;have FK:Hid (Calls prog 186 #[.slice (some ⟨g,0,none⟩) 256 256] wr fun e w'=>e=.returned (.agg #[.int .u64 (wd p 0),.int .u64 (wd p 1),.int .u64 (wd p 2),.int .u64 (wd p 3)])/\ϐ wr w'):=Se p g 0 256 wr HF.o.1.lt (fun j hj=>by rw[Nat.zero_add];exact (HF.o.1.cell j hj).1);by_cases aq:q<m
 ·have i1:(q:Int)<m:=by omega
  have hqs:q<s.size:=by rw[HM.o];exact aq
  have cU:=yt s q hqs;obtain⟨bt,mW⟩:=Ξ ((s[q]'hqs).toNat)
  rw[mW] at cU;have fC:=hid cU;clear cU;by_cases Jj:bt=93
  ·have S5:Hid (X=some (p,(aa s).drop (q+1))):=by
    show _=_;rw[<-HK.o];exact zot p (by rw[fC.o,Jj])
   have i2:((bt:Int) != 93)=false:=(by simp[Jj]);go_wp2_with (go_at_call 186;refine FK.o.mono ?_;rintro e w3 ⟨rfl,kb⟩;refine Hid.o ?_);refine hid ?_;have H3:=hid (HF.o.2.trans (kb.mono HF.o.2.size));clear kb
   go_upto_if 114 with (fail)
   have l6:=St.new w3 146 #[.int .u64 (wd p 0),.int .u64 (wd p 1),.int .u64 (wd p 2),.int .u64 (wd p 3)];have s6:=rh w3 (.cells #[.int .u64 (wd p 0),.int .u64 (wd p 1),.int .u64 (wd p 2),.int .u64 (wd p 3)] 146);obtain⟨b4,fV⟩:=Ξ w3.heap.size;have H4:Hid (St (w3.alloc (.cells #[.int .u64 (wd p 0),.int .u64 (wd p 1),.int .u64 (wd p 2),.int .u64 (wd p 3)] 146)) 146 b4 #[.int .u64 (wd p 0),.int .u64 (wd p 1),.int .u64 (wd p 2),.int .u64 (wd p 3)]/\ϐ w (w3.alloc (.cells #[.int .u64 (wd p 0),.int .u64 (wd p 1),.int .u64 (wd p 2),.int .u64 (wd p 3)] 146))/\w.heap.size<=b4):=(⟨fV ▸ l6,H3.o.trans (s6.mono H3.o.size),by have:=H3.o.size;omega⟩);rw[fV];clear l6 s6 fV;generalize w3.alloc (.cells #[.int .u64 (wd p 0),.int .u64 (wd p 1),.int .u64 (wd p 2),.int .u64 (wd p 3)] 146)=W4 at H4⊢;obtain⟨qf,LM⟩:=Ξ (if nt=true then fun x=>!p x else p);have Hv:=hid LM;clear LM
   go_cut [] (fun wx=>Hid (St wx 146 b4 #[.int .u64 (wd qf 0),.int .u64 (wd qf 1),.int .u64 (wd qf 2),.int .u64 (wd qf 3)]/\ϐ w wx))
   case first=>
    rcases nU:nt with _|_
    ·have ry:p=qf:=(by rw[<-Hv.o,nU];rfl);subst nU;go_wp2_with fail
     go_meet
     exact⟨ry ▸ H4.o.1,H4.o.2.1⟩
    have ry:(fun x=>!p x)=qf:=(by rw[<-Hv.o,nU];rfl);subst nU;obtain⟨r0,r1,r2,r3,r4,r5,r6,r7⟩:=bZ H4.o.1;have yS:Hid (Calls prog 183 #[.int .i64 3,(.agg #[.int .u64 (wd p 0),.int .u64 (wd p 1),.int .u64 (wd p 2),.int .u64 (wd p 3)]),(.agg #[.int .u64 (wd p 0),.int .u64 (wd p 1),.int .u64 (wd p 2),.int .u64 (wd p 3)])] W4 fun e w'=>e=.returned (.agg #[.int .u64 (wd qf 0),.int .u64 (wd qf 1),.int .u64 (wd qf 2),.int .u64 (wd qf 3)])/\ϐ W4 w'):=by
     rw[<-ry];exact DJ p p W4
    go_wp2_with (go_at_call 183;refine yS.o.mono ?_;rintro e w5 ⟨rfl,kb⟩;refine Hid.o ?_);refine hid ?_;have H5:Hid (St w5 146 b4 #[.int .u64 (wd p 0),.int .u64 (wd p 1),.int .u64 (wd p 2),.int .u64 (wd p 3)]/\ϐ w w5):=(⟨H4.o.1.ae kb,H4.o.2.1.trans (kb.mono H4.o.2.1.size)⟩);clear kb r0 r1 r2 r3 r4 r5 r6 r7;obtain⟨r0,r1,r2,r3,r4,r5,r6,r7⟩:=bZ H5.o.1;go_wp2_with fail
    go_meet
    exact⟨H5.o.1.pQ _ _ _ _,td H5.o.2 H4.o.2.2 _ _ _ _⟩
   case rest=>
    obtain⟨W6,tW⟩:∃W6,W6=wc:=(⟨_,rfl⟩);rw[<-tW] at hcut⊢;clear tW;obtain⟨r0,r1,r2,r3,r4,r5,r6,r7⟩:=bZ hcut.o.1;have heq:=zeT;have qJ:=Wl qf;obtain⟨z,hz⟩:=Ξ (eD qf);rw[show decide ((dg qf 256).length=0)=z from hz] at qJ;have HZ:=hid hz;have Kg:¬((m:Int)<=q):=(by omega);have fF:Hid (pE ((aa s).drop k)=if z=true then none else some ([⟨1,qf⟩],(aa s).drop (q+1))):=by
     show _=_;rw[Bj.o,S5.o];simp only[Hv.o,HZ.o]
    clear hz;cases z
    ·have H7:=hid (N9 W6 (B:=w.heap.size) hcut.o.2.size ⟨1,qf⟩);have hk7:=rh W6 (.cells (de ⟨1,qf⟩).toArray 148);have H8:=hid (hcut.o.2.trans (hk7.mono hcut.o.2.size));clear hk7;go_wp2;go_ret2;exact⟨_,1,1,((q:Int)+1),rfl,H8.o,inr ⟨[⟨1,qf⟩],_,q+1,_,fF.o,by rw[HM.o];omega,by omega,rfl,rfl,by omega,rfl,H7.o⟩⟩
    go_wp2;go_ret2;exact⟨none,0,0,_,rfl,hcut.o.2,inl ⟨fF.o,rfl,rfl,rfl⟩⟩
  have i2:((bt:Int) != 93)=true:=by simp;omega
  obtain⟨⟨c1,n1,Bd⟩,pS⟩:∃x,rd ((aa s).drop q)=x:=⟨_,rfl⟩
  have lb:=Gg ((aa s).drop q) (fun x hx=>Al s x (List.mem_of_mem_drop hx));rw[pS] at lb;simp only[List.length_drop,bq,HM.o] at lb;have mA:Hid (Calls prog 185 #[.string (s.extract q m)] wr fun e w'=>e=.returned (.tuple #[.int .u8 (c1:Int),.int .i64 (n1:Int),.bool Bd])/\ϐ wr w'):=by
   have h1:=RQ (s.extract q s.size) (by rw[ByteArray.size_extract];unfold maxLen;omega) wr;rw[GS,pS,Co,HM.o] at h1;exact h1
  obtain⟨y1,Fo⟩:∃y,fZ ⟨#[94,45,47,34]⟩ bt=y:=⟨_,rfl⟩
  have mO:Hid (∀W,Calls prog 135 #[.string ⟨#[94,45,47,34]⟩,.int .u8 (bt:Int)] W fun e w'=>e=.returned (.bool y1)/\W=w'):=fun W=>by
   have:=LW ⟨#[94,45,47,34]⟩ bt W (by decide);rw[Fo] at this;exact this
  have ra:Hid (aI du ((aa s).drop q)=if Bd=true/\y1=false then some (c1,(aa s).drop (q+n1)) else none):=by
   show _=_;have h1:=zku bt ((aa s).drop (q+1)) Jj;rw[<-fC.o,pS,Fo,QN] at h1;exact h1
  have Bh:=hid Jj;have ie:=lb.1;have dr:=lb.2;clear pS Fo lb Jj FK;go_wp2_with (go_at_call 185;refine mA.o.mono ?_;rintro e w3 ⟨rfl,kb⟩;refine Hid.o ?_);refine hid ?_;have re:Hid (Flags w3 g p/\ϐ w w3):=⟨HF.o.1.ae kb,HF.o.2.trans (kb.mono HF.o.2.size)⟩
  clear kb mA;cases Bd
  ·have xk:Hid (X=none):=by
    show _=_;rw[<-HK.o];exact F5 p fC.o Bh.o (Wz (by rw[ra.o];rfl))
   go_wp2;go_ret2;exact⟨none,0,0,_,rfl,re.o.2,inl ⟨by rw[Bj.o,xk.o],rfl,rfl,rfl⟩⟩
  obtain⟨PA,RE⟩:=dr rfl;go_wp2_with (go_at_call 135;refine (mO.o _).mono ?_;rintro e W9 ⟨rfl,rfl⟩;refine Hid.o ?_);refine hid ?_;clear mO;cases y1
  ·obtain⟨q1,mz⟩:=Ξ (q+n1);have hq1i:(q:Int)+(n1:Int)=q1:=(by omega);have fP:Hid (aI du ((aa s).drop q)=some (c1,(aa s).drop q1)):=by
    show _=_;rw[ra.o,<-mz];rfl
   have hq1m:q1<=m:=(by omega);have hqq1:q<q1:=(by omega);clear ra mz dr;by_cases Ur:q1<m
   ·have d1:(q1:Int)<m:=(by omega);have KV:q1<s.size:=(by rw[HM.o];exact Ur);have Ex:=yt s q1 KV;obtain⟨IT,Ub⟩:∃bt,(s[q1]'KV).toNat=bt:=(⟨_,rfl⟩);rw[Ub] at Ex;have KW:=hid Ex;clear Ex;by_cases OW:IT=45
    ·have d2:(IT:Int)=45:=(by omega);have yc:Hid (aw 45 ((aa s).drop q1)=some ((aa s).drop (q1+1))):=by
      show _=_;rw[KW.o];show (if IT=45 then some _ else none)=_;rw[if_pos OW]
     subst OW;by_cases hd3:q1+1<m
     ·have d3:¬((m:Int)<=q1+1):=(by omega);have d4:(q1:Int)+1<(m:Int):=(by omega);have IZ:q1+1<s.size:=(by rw[HM.o];exact hd3);have nG:=yt s (q1+1) IZ;obtain⟨E8,Dr⟩:∃bt,(s[q1+1]'IZ).toNat=bt:=(⟨_,rfl⟩);rw[Dr] at nG;have gq:=hid nG;clear nG;obtain⟨⟨c2,n2,Te⟩,pS⟩:∃x,rd ((aa s).drop (q1+1))=x:=(⟨_,rfl⟩);have iu:=Gg ((aa s).drop (q1+1)) (fun x hx=>Al s x (List.mem_of_mem_drop hx));rw[pS] at iu;simp only[List.length_drop,bq,HM.o] at iu;have mA:Hid (∀W,Calls prog 185 #[.string (s.extract (q1+1) m)] W fun e w'=>e=.returned (.tuple #[.int .u8 (c2:Int),.int .i64 (n2:Int),.bool Te])/\ϐ W w'):=fun W=>by
       have h1:=RQ (s.extract (q1+1) s.size) (by rw[ByteArray.size_extract];unfold maxLen;omega) W;rw[GS,pS,Co,HM.o] at h1;exact h1
      obtain⟨y2,qw⟩:∃y,fZ ⟨#[93,94,45,47,34]⟩ E8=y:=(⟨_,rfl⟩);have mO:Hid (∀W,Calls prog 135 #[.string ⟨#[93,94,45,47,34]⟩,.int .u8 (E8:Int)] W fun e w'=>e=.returned (.bool y2)/\W=w'):=fun W=>by
       have:=LW ⟨#[93,94,45,47,34]⟩ E8 W (by decide);rw[qw] at this;exact this
      have ra:Hid (aI du ((aa s).drop (q1+1))=if Te=true/\y2=false then some (c2,(aa s).drop (q1+1+n2)) else none):=by
       show _=_;have h1:=zkv E8 ((aa s).drop (q1+1+1));rw[<-gq.o,pS,qw,QN] at h1;exact h1
      have gj:=iu.1;have dd:=iu.2;clear pS qw iu;go_wp2_with (go_at_call 135;refine (mO.o _).mono ?_;rintro e W9 ⟨rfl,rfl⟩;refine Hid.o ?_);refine hid ?_;clear mO;cases y2
      ·go_wp2_with (go_at_call 185;refine (mA.o _).mono ?_;rintro e w4 ⟨rfl,kb⟩;refine Hid.o ?_);refine hid ?_;have Hc:Hid (Flags w4 g p/\ϐ w w4):=(⟨re.o.1.ae kb,re.o.2.trans (kb.mono re.o.2.size)⟩);clear kb mA;cases Te
       ·have xk:Hid (X=none):=by
         show _=_;rw[<-HK.o];exact F5 p fC.o Bh.o (NM fP.o yc.o (fun c r h=>by rw[ra.o] at h;simp at h))
        go_wp2;go_ret2;exact⟨none,0,0,_,rfl,Hc.o.2,inl ⟨by rw[Bj.o,xk.o],rfl,rfl,rfl⟩⟩
       obtain⟨hn2a,hn2b⟩:=dd rfl;by_cases tZ:c2<c1
       ·have d5:(c2:Int)<c1:=(by omega);have xk:Hid (X=none):=by
         show _=_;rw[<-HK.o];refine F5 p fC.o Bh.o (NM fP.o yc.o (fun c r h=>?_));rw[ra.o] at h;simp at h;omega
        go_wp2;go_ret2;exact⟨none,0,0,_,rfl,Hc.o.2,inl ⟨by rw[Bj.o,xk.o],rfl,rfl,rfl⟩⟩
       have d5:¬((c2:Int)<c1):=(by omega);obtain⟨q3,NY⟩:=Ξ (q1+1+n2);have hq3i:(q1:Int)+1+(n2:Int)=q3:=(by omega);have rT:Hid (qz s q3 (fun x=>p x || av c1 (c2+1-c1) x)=X):=by
        show _=_;rw[<-HK.o];exact (TN p fC.o Bh.o (zou fP.o yc.o (by rw[ra.o,<-NY];rfl) (by omega))).symm
       clear ra dd fP yc tZ;have sI:(fun x=>p x || av c1 (c1-c1) x)=p:=by
        funext x;rw[sub_self,Jq];exact Bool.or_false _
       have ml:Hid (Flags w4 g (fun x=>p x || av c1 (c1-c1) x)/\ϐ w w4):=(by rw[sI];exact Hc.o);have KX:Hid (c1<=c2+1):=(by show _<=_;omega);have i8:IntKind.i64.wrap (c1:Int)=c1:=i64_in _ (by omega);have i9:IntKind.i64.wrap (c2:Int)=c2:=i64_in _ (by omega);clear sI;go_wp2;go_loopw [12] (fun v12 wq=>∃b:Nat,v12=.int .i64 (b:Int)/\c1<=b/\b<=c2+1/\Hid (Flags wq g (fun x=>p x || av c1 (b-c1) x)/\ϐ w wq)) (fun v _=>c2+1-(intOf v).toNat)
       ·exact⟨c1,rfl,le_refl _,by have:=KX.o;omega,ml.o⟩
       clear ml;obtain⟨b,rfl,K6,hbc,ic⟩:=hrel;by_cases hb:b<=c2
       ·have j1:(b:Int)<=c2:=(by omega);have j2:(b:Int)<256:=(by omega);obtain⟨y0,y1⟩:=ic.o.1.cell b (by omega);have pA:Hid (Flags (wr.setCell ⟨g,b,none⟩ (.bool true)) g (fun x=>p x || av c1 (b+1-c1) x)/\ϐ w (wr.setCell ⟨g,b,none⟩ (.bool true))):=(⟨by rw[SI p c1 b K6];exact ic.o.1.set b (by omega),ic.o.2.setCell (p:=⟨g,b,none⟩) HG.o _⟩);go_wp2;go_roundw
        ·exact⟨b+1,by go_num,by omega,by omega,pA.o⟩
        simp[intOf];omega
       obtain rfl:b=c2+1:=(by omega);have j1:¬(((c2+1:Nat):Int)<=(c2:Int)):=(by omega);have Zq:¬((c2:Int)+1<=(c2:Int)):=(by omega);go_wp2;go_roundw
       ·exact⟨q3,_,by omega,rfl,rT.o,ic.o⟩
       simp[intOf];omega
      have xk:Hid (X=none):=by
       show _=_;rw[<-HK.o];exact F5 p fC.o Bh.o (NM fP.o yc.o (fun c r h=>by rw[ra.o] at h;simp at h))
      go_wp2;go_ret2;exact⟨none,0,0,_,rfl,re.o.2,inl ⟨by rw[Bj.o,xk.o],rfl,rfl,rfl⟩⟩
     have d3:(m:Int)<=q1+1:=(by omega);have xk:Hid (X=none):=by
      show _=_;rw[<-HK.o];exact F5 p fC.o Bh.o (NM fP.o yc.o (fun c r h=>by rw[zb s (q1+1) (by rw[HM.o];omega),Zo] at h;cases h))
     go_wp2;go_ret2;exact⟨none,0,0,_,rfl,re.o.2,inl ⟨by rw[Bj.o,xk.o],rfl,rfl,rfl⟩⟩
    have d2:¬((IT:Int)=45):=(by omega);have rT:Hid (qz s q1 (fun x=>p x || av c1 (c1+1-c1) x)=X):=by
     show _=_;rw[<-HK.o];exact (TN p fC.o Bh.o (WW fP.o (by rw[KW.o];show (if IT=45 then some _ else none)=none;rw[if_neg OW]))).symm
    clear fP OW;have sI:(fun x=>p x || av c1 (c1-c1) x)=p:=by
     funext x;rw[sub_self,Jq];exact Bool.or_false _
    have ml:Hid (Flags w3 g (fun x=>p x || av c1 (c1-c1) x)/\ϐ w w3):=(by rw[sI];exact re.o);have KX:Hid (c1<=c1+1):=(by show _<=_;omega);have i8:IntKind.i64.wrap (c1:Int)=c1:=i64_in _ (by omega);have i9:IntKind.i64.wrap (c1:Int)=c1:=i64_in _ (by omega);clear sI;go_wp2;go_loopw [12] (fun v12 wq=>∃b:Nat,v12=.int .i64 (b:Int)/\c1<=b/\b<=c1+1/\Hid (Flags wq g (fun x=>p x || av c1 (b-c1) x)/\ϐ w wq)) (fun v _=>c1+1-(intOf v).toNat)
    ·exact⟨c1,rfl,le_refl _,by have:=KX.o;omega,ml.o⟩
    clear ml;obtain⟨b,rfl,K6,hbc,ic⟩:=hrel;by_cases hb:b<=c1
    ·have j1:(b:Int)<=c1:=(by omega);have j2:(b:Int)<256:=(by omega);obtain⟨y0,y1⟩:=ic.o.1.cell b (by omega);have pA:Hid (Flags (wr.setCell ⟨g,b,none⟩ (.bool true)) g (fun x=>p x || av c1 (b+1-c1) x)/\ϐ w (wr.setCell ⟨g,b,none⟩ (.bool true))):=(⟨by rw[SI p c1 b K6];exact ic.o.1.set b (by omega),ic.o.2.setCell (p:=⟨g,b,none⟩) HG.o _⟩);go_wp2;go_roundw
     ·exact⟨b+1,by go_num,by omega,by omega,pA.o⟩
     simp[intOf];omega
    obtain rfl:b=c1+1:=(by omega);have j1:¬(((c1+1:Nat):Int)<=(c1:Int)):=(by omega);have Zq:¬((c1:Int)+1<=(c1:Int)):=(by omega);go_wp2;go_roundw
    ·exact⟨q1,_,by omega,rfl,rT.o,ic.o⟩
    simp[intOf];omega
   have d1:¬((q1:Int)<m):=(by omega);have rT:Hid (qz s q1 (fun x=>p x || av c1 (c1+1-c1) x)=X):=by
    show _=_;rw[<-HK.o];exact (TN p fC.o Bh.o (WW fP.o (by rw[zb s q1 (by rw[HM.o];omega)];rfl))).symm
   clear fP;have sI:(fun x=>p x || av c1 (c1-c1) x)=p:=by
    funext x;rw[sub_self,Jq];exact Bool.or_false _
   have ml:Hid (Flags w3 g (fun x=>p x || av c1 (c1-c1) x)/\ϐ w w3):=(by rw[sI];exact re.o);have KX:Hid (c1<=c1+1):=(by show _<=_;omega);have i8:IntKind.i64.wrap (c1:Int)=c1:=i64_in _ (by omega);have i9:IntKind.i64.wrap (c1:Int)=c1:=i64_in _ (by omega);clear sI;go_wp2;go_loopw [12] (fun v12 wq=>∃b:Nat,v12=.int .i64 (b:Int)/\c1<=b/\b<=c1+1/\Hid (Flags wq g (fun x=>p x || av c1 (b-c1) x)/\ϐ w wq)) (fun v _=>c1+1-(intOf v).toNat)
   ·exact⟨c1,rfl,le_refl _,by have:=KX.o;omega,ml.o⟩
   clear ml;obtain⟨b,rfl,K6,hbc,ic⟩:=hrel;by_cases hb:b<=c1
   ·have j1:(b:Int)<=c1:=(by omega);have j2:(b:Int)<256:=(by omega);obtain⟨y0,y1⟩:=ic.o.1.cell b (by omega);have pA:Hid (Flags (wr.setCell ⟨g,b,none⟩ (.bool true)) g (fun x=>p x || av c1 (b+1-c1) x)/\ϐ w (wr.setCell ⟨g,b,none⟩ (.bool true))):=(⟨by rw[SI p c1 b K6];exact ic.o.1.set b (by omega),ic.o.2.setCell (p:=⟨g,b,none⟩) HG.o _⟩);go_wp2;go_roundw
    ·exact⟨b+1,by go_num,by omega,by omega,pA.o⟩
    simp[intOf];omega
   obtain rfl:b=c1+1:=(by omega);have j1:¬(((c1+1:Nat):Int)<=(c1:Int)):=(by omega);have Zq:¬((c1:Int)+1<=(c1:Int)):=(by omega);go_wp2;go_roundw
   ·exact⟨q1,_,by omega,rfl,rT.o,ic.o⟩
   simp[intOf];omega
  have xk:Hid (X=none):=by
   show _=_;rw[<-HK.o];exact F5 p fC.o Bh.o (Wz (by rw[ra.o];rfl))
  go_wp2;go_ret2;exact⟨none,0,0,_,rfl,re.o.2,inl ⟨by rw[Bj.o,xk.o],rfl,rfl,rfl⟩⟩
 have i1:¬((q:Int)<m):=by omega
 have S5:Hid (X=none):=by
  show _=_;rw[<-HK.o];exact zqI p (by rw[HM.o];omega)
 go_wp2_with (go_at_call 186;refine FK.o.mono ?_;rintro e w3 ⟨rfl,kb⟩;refine Hid.o ?_);refine hid ?_;have H3:=hid (HF.o.2.trans (kb.mono HF.o.2.size));clear kb
 go_upto_if 114 with (fail)
 have l6:=St.new w3 146 #[.int .u64 (wd p 0),.int .u64 (wd p 1),.int .u64 (wd p 2),.int .u64 (wd p 3)];have s6:=rh w3 (.cells #[.int .u64 (wd p 0),.int .u64 (wd p 1),.int .u64 (wd p 2),.int .u64 (wd p 3)] 146);obtain⟨b4,fV⟩:=Ξ w3.heap.size
 have H4:Hid (St (w3.alloc (.cells #[.int .u64 (wd p 0),.int .u64 (wd p 1),.int .u64 (wd p 2),.int .u64 (wd p 3)] 146)) 146 b4 #[.int .u64 (wd p 0),.int .u64 (wd p 1),.int .u64 (wd p 2),.int .u64 (wd p 3)]/\ϐ w (w3.alloc (.cells #[.int .u64 (wd p 0),.int .u64 (wd p 1),.int .u64 (wd p 2),.int .u64 (wd p 3)] 146))/\w.heap.size<=b4):=⟨fV ▸ l6,H3.o.trans (s6.mono H3.o.size),by have:=H3.o.size;omega⟩
 rw[fV];clear l6 s6 fV;generalize w3.alloc (.cells #[.int .u64 (wd p 0),.int .u64 (wd p 1),.int .u64 (wd p 2),.int .u64 (wd p 3)] 146)=W4 at H4⊢;obtain⟨qf,LM⟩:=Ξ (if nt=true then fun x=>!p x else p)
 have Hv:=hid LM;clear LM
 go_cut [] (fun wx=>Hid (St wx 146 b4 #[.int .u64 (wd qf 0),.int .u64 (wd qf 1),.int .u64 (wd qf 2),.int .u64 (wd qf 3)]/\ϐ w wx))
 case first=>
  rcases nU:nt with _|_
  ·have ry:p=qf:=(by rw[<-Hv.o,nU];rfl);subst nU;go_wp2_with fail
   go_meet
   exact⟨ry ▸ H4.o.1,H4.o.2.1⟩
  have ry:(fun x=>!p x)=qf:=by rw[<-Hv.o,nU];rfl
  subst nU;obtain⟨r0,r1,r2,r3,r4,r5,r6,r7⟩:=bZ H4.o.1;have yS:Hid (Calls prog 183 #[.int .i64 3,(.agg #[.int .u64 (wd p 0),.int .u64 (wd p 1),.int .u64 (wd p 2),.int .u64 (wd p 3)]),(.agg #[.int .u64 (wd p 0),.int .u64 (wd p 1),.int .u64 (wd p 2),.int .u64 (wd p 3)])] W4 fun e w'=>e=.returned (.agg #[.int .u64 (wd qf 0),.int .u64 (wd qf 1),.int .u64 (wd qf 2),.int .u64 (wd qf 3)])/\ϐ W4 w'):=by
   rw[<-ry];exact DJ p p W4
  go_wp2_with (go_at_call 183;refine yS.o.mono ?_;rintro e w5 ⟨rfl,kb⟩;refine Hid.o ?_);refine hid ?_;have H5:Hid (St w5 146 b4 #[.int .u64 (wd p 0),.int .u64 (wd p 1),.int .u64 (wd p 2),.int .u64 (wd p 3)]/\ϐ w w5):=⟨H4.o.1.ae kb,H4.o.2.1.trans (kb.mono H4.o.2.1.size)⟩
  clear kb r0 r1 r2 r3 r4 r5 r6 r7;obtain⟨r0,r1,r2,r3,r4,r5,r6,r7⟩:=bZ H5.o.1;go_wp2_with fail
  go_meet
  exact⟨H5.o.1.pQ _ _ _ _,td H5.o.2 H4.o.2.2 _ _ _ _⟩
 case rest=>
  obtain⟨W6,tW⟩:∃W6,W6=wc:=⟨_,rfl⟩
  rw[<-tW] at hcut⊢;clear tW;obtain⟨r0,r1,r2,r3,r4,r5,r6,r7⟩:=bZ hcut.o.1;have Kg:(m:Int)<=q:=by omega
  have fF:Hid (pE ((aa s).drop k)=none):=by
   show _=_;rw[Bj.o,S5.o]
  go_wp2;go_ret2;exact⟨none,0,0,_,rfl,hcut.o.2,inl ⟨fF.o,rfl,rfl,rfl⟩⟩
theorem zrK(k:Int):(de ⟨k,aO⟩).toArray=#[.int .i64 k,.int .u64 0,.int .u64 0,.int .u64 0,.int .u64 0]:=by
 have:∀j,wd aO j=0:=fun j=>xD j
 simp[de,this]
theorem zg1(bt:Nat):fZ ⟨#[124,41,42,43,63,93,47,34]⟩ bt=true↔(bt=124\/bt=41\/bt=42\/bt=43\/bt=63\/bt=93\/bt=47\/bt=34):=by
 unfold fZ;simp;omega
theorem YL(bt:Nat):fZ oy bt=true↔(bt=47\/bt=40\/bt=41\/bt=91\/bt=93\/bt=124\/bt=42\/bt=43\/bt=63\/bt=46\/bt=34\/bt=126):=by
 unfold fZ oy;simp;omega
theorem ia{bt:Nat}(t:List Nat)(h:bt≠c):aw c (bt :: t)=none:=by show (if _ then _ else none)=none;rw[if_neg h]
theorem sQ(c:Nat)(t:List Nat):aw c (c :: t)=some t:=by show (if _ then some _ else none)=_;rw[if_pos rfl]
theorem zov(kh:bf->Option bf):sub (aW kh) []=none:=by
 unfold sub aW;simp only[aw];rw[Zo]
theorem zow(kh:bf->Option bf)(bt:Nat)(t:List Nat)(h:fZ ⟨#[124,41,42,43,63,93,47,34]⟩ bt=true):sub (aW kh) (bt :: t)=none:=by
 have hc:=(zg1 bt).1 h;unfold sub aW;simp only;rw[ia t (show bt≠46 by omega),ia t (show bt≠126 by omega),ia t (show bt≠40 by omega),ia t (show bt≠91 by omega)];simp only;rw[NS,if_neg];rintro⟨_,h1|h1⟩
 ·omega
 rw[(YL bt).2 (by omega)] at h1;cases h1
theorem zox(kh:bf->Option bf)(t:List Nat):sub (aW kh) (46 :: t)=some ([⟨1,fun _=>true⟩],t):=by
 unfold sub aW;simp only;rw[sQ];rfl
theorem zoy(kh:bf->Option bf)(t:List Nat):sub (aW kh) (126 :: t)=some ([⟨0,aO⟩],t):=by
 unfold sub aW;simp only;rw[ia t (by decide),sQ];rfl
theorem zjc(kh:bf->Option bf)(t:List Nat):sub (aW kh) (40 :: t)=kh ([],t):=by
 unfold sub aW;simp only;rw[ia t (by decide),ia t (by decide),sQ]
theorem zoz(kh:bf->Option bf)(t:List Nat):sub (aW kh) (91 :: t)=pE t:=by
 unfold sub aW pE;simp only;rw[ia t (by decide),ia t (by decide),ia t (by decide),sQ];simp only;rcases ek t with _|⟨q,r⟩ <;> rfl
theorem zoA(kh:bf->Option bf)(bt:Nat)(t:List Nat)(h0:fZ ⟨#[124,41,42,43,63,93,47,34]⟩ bt=false)(h1:bt≠46)(h2:bt≠126)(h3:bt≠91)(h4:bt≠40):
  sub (aW kh) (bt :: t)=if (rd (bt :: t)).2.2=true then some ([⟨1,fu (fun _=>(rd (bt :: t)).1) 1⟩],(bt :: t).drop (rd (bt :: t)).2.1) else none:=by
 have hn:¬(bt=124\/bt=41\/bt=42\/bt=43\/bt=63\/bt=93\/bt=47\/bt=34):=fun h=>by rw[(zg1 bt).2 h] at h0;cases h0
 have ho:fZ oy bt=false:=by
  rcases h:fZ oy bt with _|_
  ·rfl
  have:=(YL bt).1 h;omega
 unfold sub aW;simp only;rw[ia t h1,ia t h2,ia t h4,ia t h3];simp only;rw[NS];rcases hk:(rd (bt :: t)).2.2 with _|_
 ·rw[if_neg (by simp),if_neg (by simp)]
 rw[if_pos ⟨rfl,inr ho⟩,if_pos rfl];rfl
theorem zmr(D:Nat)(hD:D<=99)(kh:bf->Option bf)(UG:D=99->kh=fun _=>none)(hg:D<99->∃wH,kh=eu wH/\ov 89 (sub (bx wH)) (D+1)):ov 165 (sub (aW kh)) D:=by
 intro s k w hs hk;obtain⟨m,hm⟩:=Ξ s.size
 have HM:=hid hm;have HG:=ζ UG hg;rw[hm] at hs hk;clear UG hg;go_in;by_cases aq:k<m
 ·have i1:¬((m:Int)<=k):=by omega
  have i1':(k:Int)<m:=by omega
  have tN:k<s.size:=by rw[HM.o];exact aq
  have cU:=yt s k tN;obtain⟨bt,mW⟩:=Ξ ((s[k]'tN).toNat)
  rw[mW] at cU;have fC:=hid cU;clear cU;obtain⟨y,hy⟩:=Ξ (fZ ⟨#[124,41,42,43,63,93,47,34]⟩ bt)
  have mO:Hid (∀W,Calls prog 135 #[.string ⟨#[124,41,42,43,63,93,47,34]⟩,.int .u8 (bt:Int)] W fun e w'=>e=.returned (.bool y)/\W=w'):=fun W=>by
   have:=LW ⟨#[124,41,42,43,63,93,47,34]⟩ bt W (by decide);rw[hy] at this;exact this
  have Hy:=hid hy;clear hy;go_wp2_with (go_at_call 135;refine (mO.o _).mono ?_;rintro e W9 ⟨rfl,rfl⟩;refine Hid.o ?_);refine hid ?_;clear mO;cases y
  ·by_cases Vs:bt=46
   ·subst Vs;have yS:Hid (∀W,Calls prog 183 #[.int .i64 3,.agg #[.int .u64 0,.int .u64 0,.int .u64 0,.int .u64 0],.agg #[.int .u64 0,.int .u64 0,.int .u64 0,.int .u64 0]] W fun e w'=>e=.returned (.agg #[.int .u64 ((wd ((fun _=>true)) 0:Nat):Int),.int .u64 ((wd ((fun _=>true)) 1:Nat):Int),.int .u64 ((wd ((fun _=>true)) 2:Nat):Int),.int .u64 ((wd ((fun _=>true)) 3:Nat):Int)])/\ϐ W w'):=fun W=>by
     have:=DJ (fun _=>false) (fun _=>false) W;simp only[xD] at this;exact this
    have fF:Hid (sub (aW kh) ((aa s).drop k)=some ([⟨1,fun _=>true⟩],(aa s).drop (k+1))):=(by show _=_;rw[fC.o,zox]);go_wp2_with (go_at_call 183;refine (yS.o _).mono ?_;rintro e w3 ⟨rfl,kb⟩;refine Hid.o ?_);refine hid ?_;have H7:=hid (N9 w3 (B:=w.heap.size) kb.size ⟨1,fun _=>true⟩);have H8:=hid (kb.trans ((rh w3 (.cells (de ⟨1,fun _=>true⟩).toArray 148)).mono kb.size));clear kb;go_wp2;go_ret2;exact⟨_,1,1,((k:Int)+1),rfl,H8.o,inr ⟨_,_,k+1,_,fF.o,by rw[HM.o];omega,by omega,rfl,rfl,by omega,rfl,H7.o⟩⟩
   have e46:¬((bt:Int)=46):=(by omega);by_cases Kq:bt=126
   ·subst Kq;have fF:Hid (sub (aW kh) ((aa s).drop k)=some ([⟨0,aO⟩],(aa s).drop (k+1))):=(by show _=_;rw[fC.o,zoy]);have H7:=hid (N9 w (B:=w.heap.size) (le_refl _) ⟨0,aO⟩);have H8:=hid (rh w (.cells (de ⟨0,aO⟩).toArray 148));rw[zrK] at H7 H8;go_wp2;go_ret2;exact⟨_,1,1,((k:Int)+1),rfl,H8.o,inr ⟨_,_,k+1,_,fF.o,by rw[HM.o];omega,by omega,rfl,rfl,by omega,rfl,H7.o⟩⟩
   have e126:¬((bt:Int)=126):=(by omega);by_cases V8:bt=91
   ·subst V8;have HB:=hid (zqJ s (k+1) w (by rw[HM.o];omega) (by rw[HM.o];omega));have fF:Hid (∀e w',zf pE s (k+1) w e w'->zf (sub (aW kh)) s k w e w'):=fun e w' h=>by
     obtain⟨a,n,c,p,h1,h2,h3⟩:=h;refine⟨a,n,c,p,h1,h2,?_⟩;rw[fC.o,zoz];exact h3
    go_wp2_with (go_at_call 184;refine HB.o.mono ?_;rintro e w3 hR;obtain⟨a,n,c,p,rfl,kb,hP⟩:=hR;refine Hid.o ?_);refine hid ?_;have HR:=hid (fF.o _ w3 ⟨a,n,c,p,rfl,kb,hP⟩);clear kb hP;go_wp2;go_ret2;exact HR.o
   have MJ:¬((bt:Int)=91):=(by omega);by_cases UZ:bt=40
   ·subst UZ;by_cases h99:D<99
    ·obtain⟨wH,ph,KL⟩:=HG.o.2 h99;have d0:¬((99:Int)<=D):=(by omega);have HC:=hid (KL s (k+1) w (by rw[HM.o];omega) (by rw[HM.o];omega));have HA:Hid (sub (aW kh) ((aa s).drop k)=match sub (bx wH) ((aa s).drop (k+1)) with|none=>none|some x=>match aw 41 x.2 with|none=>none|some r=>some (x.1,r)):=by
      show _=_;rw[fC.o,zjc,ph];unfold eu sub;rcases bx wH ([],(aa s).drop (k+1)) with _|x
      ·rfl
      simp only;rcases aw 41 x.2 with _|r <;> rfl
     clear KL ph HG;go_wp2_with (go_at_call 89;refine HC.o.mono ?_;rintro e w3 ⟨a,n,c,p,rfl,kb,hP⟩;refine Hid.o ?_);refine hid ?_;have HB:=hid kb;clear kb HC;rcases hP with ⟨hz,rfl,rfl,rfl⟩|⟨l,r,q,b,hz,hq,rfl,rfl,qH,mU,rfl,az⟩
     ·have fF:Hid (sub (aW kh) ((aa s).drop k)=none):=(by show _=_;rw[HA.o,hz]);have hN:=OE w3;clear hz;go_wp2;go_ret2;exact⟨none,0,0,_,rfl,HB.o,inl ⟨fF.o,rfl,rfl,rfl⟩⟩
     rw[HM.o] at hq;have hN:=MW w3 b n c;have HZ:=hid hz;have HO:=ζ az qH;clear hz az qH;by_cases ry:q<m
     ·have j1:¬((m:Int)<=q):=(by omega);have j2:(q:Int)<m:=(by omega);have hqs:q<s.size:=(by rw[HM.o];exact ry);have nG:=yt s q hqs;obtain⟨E8,Dr⟩:∃bt,(s[q]'hqs).toNat=bt:=(⟨_,rfl⟩);rw[Dr] at nG;have gq:=hid nG;clear nG;by_cases SM:E8=41
      ·have fF:Hid (sub (aW kh) ((aa s).drop k)=some (l,(aa s).drop (q+1))):=by
        show _=_;rw[HA.o,HZ.o];simp only[gq.o,SM];rw[sQ]
       subst SM;go_wp2;go_ret2;exact⟨_,n,c,((q:Int)+1),rfl,HB.o,inr ⟨l,_,q+1,b,fF.o,by rw[HM.o];omega,by omega,rfl,HO.o.2,mU,rfl,HO.o.1⟩⟩
      have j3:((E8:Int) != 41)=true:=(by simp;omega);have fF:Hid (sub (aW kh) ((aa s).drop k)=none):=by
       show _=_;rw[HA.o,HZ.o];simp only[gq.o];rw[ia _ SM]
      go_wp2;go_ret2;exact⟨none,0,0,_,rfl,HB.o,inl ⟨fF.o,rfl,rfl,rfl⟩⟩
     have j1:(m:Int)<=q:=(by omega);have fF:Hid (sub (aW kh) ((aa s).drop k)=none):=by
      show _=_;rw[HA.o,HZ.o];simp only;rw[zb s q (by rw[HM.o];omega)];rfl
     go_wp2;go_ret2;exact⟨none,0,0,_,rfl,HB.o,inl ⟨fF.o,rfl,rfl,rfl⟩⟩
    have d0:(99:Int)<=D:=(by omega);have fF:Hid (sub (aW kh) ((aa s).drop k)=none):=(by show _=_;rw[fC.o,zjc,HG.o.1 (by omega)]);go_wp2;go_ret2;exact⟨none,0,0,_,rfl,Below.refl _ _,inl ⟨fF.o,rfl,rfl,rfl⟩⟩
   have e40:¬((bt:Int)=40):=(by omega);obtain⟨⟨c1,n1,Bd⟩,pS⟩:∃x,rd ((aa s).drop k)=x:=(⟨_,rfl⟩);have lb:=Gg ((aa s).drop k) (fun x hx=>Al s x (List.mem_of_mem_drop hx));rw[pS] at lb;simp only[List.length_drop,bq,HM.o] at lb;have mA:Hid (Calls prog 185 #[.string (s.extract k m)] w fun e w'=>e=.returned (.tuple #[.int .u8 (c1:Int),.int .i64 (n1:Int),.bool Bd])/\ϐ w w'):=by
    have h1:=RQ (s.extract k s.size) (by rw[ByteArray.size_extract];unfold maxLen;omega) w;rw[GS,pS,Co,HM.o] at h1;exact h1
   have HA:Hid (sub (aW kh) ((aa s).drop k)=if Bd=true then some ([⟨1,fu (fun _=>c1) 1⟩],(aa s).drop (k+n1)) else none):=by
    show _=_;have h1:=zoA kh bt ((aa s).drop (k+1)) Hy.o Vs Kq V8 UZ;rw[<-fC.o,pS,QN] at h1;exact h1
   have ie:=lb.1;have dr:=lb.2;have gP:=zeu;clear pS lb;go_wp2_with (go_at_call 185;refine mA.o.mono ?_;rintro e w3 ⟨rfl,kb⟩;refine Hid.o ?_);refine hid ?_;have HB:=hid kb;clear kb mA;cases Bd
   ·have fF:Hid (sub (aW kh) ((aa s).drop k)=none):=(by show _=_;rw[HA.o];rfl);go_wp2;go_ret2;exact⟨none,0,0,_,rfl,HB.o,inl ⟨fF.o,rfl,rfl,rfl⟩⟩
   obtain⟨PA,RE⟩:=dr rfl;have fF:Hid (sub (aW kh) ((aa s).drop k)=some ([⟨1,fu (fun _=>c1) 1⟩],(aa s).drop (k+n1))):=(by show _=_;rw[HA.o];rfl);go_upto_region 20 with fail;have KM:=ze7 w3;have bz:=rh w3 (.cells (replicate 256 (.bool false)) 4);obtain⟨g,hg⟩:=Ξ w3.heap.size;have Ae:Hid (Flags (w3.alloc (.cells (replicate 256 (.bool false)) 4)) g aO/\ϐ w (w3.alloc (.cells (replicate 256 (.bool false)) 4))/\w.heap.size<=g):=(⟨hg ▸ KM,HB.o.trans (bz.mono HB.o.size),by have:=HB.o.size;omega⟩);rw[hg];clear KM bz hg;generalize w3.alloc (.cells (replicate 256 (.bool false)) 4)=W4 at Ae⊢;obtain⟨y0,y1⟩:=Ae.o.1.cell c1 ie;have j2:(c1:Int)<256:=(by omega);have JE:Hid (Flags (W4.setCell ⟨g,c1,none⟩ (.bool true)) g (fu (fun _=>c1) 1)/\ϐ w (W4.setCell ⟨g,c1,none⟩ (.bool true))):=(⟨Ae.o.1.set c1 ie,Ae.o.2.1.setCell (p:=⟨g,c1,none⟩) Ae.o.2.2 _⟩);go_upto_region 21 with fail;generalize W4.setCell ⟨g,c1,none⟩ (.bool true)=W5 at JE⊢;have FK:Hid (Calls prog 186 #[.slice (some ⟨g,0,none⟩) 256 256] W5 fun e w'=>e=.returned (.agg #[.int .u64 ((wd ((fu (fun _=>c1) 1)) 0:Nat):Int),.int .u64 ((wd ((fu (fun _=>c1) 1)) 1:Nat):Int),.int .u64 ((wd ((fu (fun _=>c1) 1)) 2:Nat):Int),.int .u64 ((wd ((fu (fun _=>c1) 1)) 3:Nat):Int)])/\ϐ W5 w'):=Se (fu (fun _=>c1) 1) g 0 256 W5 JE.o.1.lt (fun j hj=>by rw[Nat.zero_add];exact (JE.o.1.cell j hj).1);clear y0 y1;go_wp2_with (go_at_call 186;refine FK.o.mono ?_;rintro e w6 ⟨rfl,kb⟩;refine Hid.o ?_);refine hid ?_;have p8:=hid (JE.o.2.trans (kb.mono JE.o.2.size));clear kb;have H7:=hid (N9 w6 (B:=w.heap.size) p8.o.size ⟨1,fu (fun _=>c1) 1⟩);have H8:=hid (p8.o.trans ((rh w6 (.cells (de ⟨1,fu (fun _=>c1) 1⟩).toArray 148)).mono p8.o.size));go_wp2;go_ret2;exact⟨_,1,1,((k:Int)+(n1:Int)),rfl,H8.o,inr ⟨_,_,k+n1,_,fF.o,by rw[HM.o];omega,by omega,rfl,rfl,by omega,rfl,H7.o⟩⟩
  have fF:Hid (sub (aW kh) ((aa s).drop k)=none):=by show _=_;rw[fC.o];exact zow kh bt _ Hy.o
  go_wp2;go_ret2;exact⟨none,0,0,_,rfl,Below.refl _ _,inl ⟨fF.o,rfl,rfl,rfl⟩⟩
 have i1:(m:Int)<=k:=by omega
 have fF:Hid (sub (aW kh) ((aa s).drop k)=none):=by show _=_;rw[zb s k (by rw[HM.o];omega)];exact zov kh
 go_wp2;go_ret2;exact⟨none,0,0,_,rfl,Below.refl _ _,inl ⟨fF.o,rfl,rfl,rfl⟩⟩
theorem zqK(c:Nat):fZ ⟨#[42,43,63]⟩ c=(eZ c).isSome:=by
 unfold fZ eZ;by_cases h1:c=42
 ·subst h1;rfl
 by_cases h2:c=43
 ·subst h2;rfl
 by_cases h3:c=63
 ·subst h3;rfl
 rw[if_neg h1,if_neg h2,if_neg h3];simp;omega
theorem zqL(atom:bf->Option bf)(hd:nj atom)(D:Nat)(hD:D<=99)(h1:ov 165 (sub atom) D):ov 134 (sub (ct atom)) D:=by
 intro s k w hs hk;have HO:=hid (h1 s k w hs hk);obtain⟨m,hm⟩:=Ξ s.size
 have HM:=hid hm;have zw:=hid hd;rw[hm] at hs hk;clear h1 hd;go_in;go_wp2_with (go_at_call 165;refine HO.o.mono ?_;rintro e w1 ⟨a,n,c,p,rfl,kb,hP⟩;refine Hid.o ?_);refine hid ?_;have HB:=hid kb;clear kb HO;rcases hP with ⟨h0,rfl,rfl,rfl⟩|⟨l,r,q,b,h0,hq,rfl,rfl,qH,mU,rfl,az⟩
 ·have H0:Hid (sub (ct atom) ((aa s).drop k)=none):=by
   show ct atom ([],(aa s).drop k)=none;unfold ct;rw[show atom ([],(aa s).drop k)=none from h0]
  clear h0;go_wp2;go_loopw [1,8] (fun v1 v8 wr=>v1=.int .i64 p/\v8=.slice none 0 0/\Hid (wr=w1)) (fun _ _ _=>0)
  ·exact⟨rfl,rfl,(rfl:w1=w1)⟩
  obtain⟨rfl,rfl,HW⟩:=hrel;go_wp2;go_ret2;exact⟨none,0,0,p,rfl,by rw[HW.o];exact HB.o,inl ⟨H0.o,rfl,rfl,rfl⟩⟩
 have jK:=zw.o _ _ h0;have H0:Hid (sub (ct atom) ((aa s).drop k)=some (bB ((aa s).drop q) l)):=by
  show ct atom ([],(aa s).drop k)=_;unfold ct;rw[show atom ([],(aa s).drop k)=some (l,(aa s).drop q) from h0]
 rw[hm] at hq;have sG:n+2*(m-q)<=3200:=by
  have:=jK.2;simp[bq,hm] at this;omega
 have su:Hid (bB ((aa s).drop q) l=bB ((aa s).drop q) l/\l.length=n/\w1.ownsRow w.heap.size 148 5 (.slice (some ⟨b,0,none⟩) n c) n (fe l)/\ϐ w w1):=⟨rfl,qH,az,HB.o⟩
 obtain⟨X,hX⟩:=Ξ (bB ((aa s).drop q) l)
 have xS:Hid (bB ((aa s).drop q) l=X/\l.length=n/\w1.ownsRow w.heap.size 148 5 (.slice (some ⟨b,0,none⟩) n c) n (fe l)/\ϐ w w1):=⟨hX,su.o.2⟩
 rw[hX] at H0;clear h0 jK qH az su hX;go_wp2;go_loopw [1,8,9] (fun v1 v8 _ wr=>∃(q n c b:Nat) (l:List Pc),q<=m/\0<n/\n+2*(m-q)<=3200/\v1=.int .i64 (q:Int)/\v8=.slice (some ⟨b,0,none⟩) n c/\Hid (bB ((aa s).drop q) l=X/\l.length=n/\wr.ownsRow w.heap.size 148 5 (.slice (some ⟨b,0,none⟩) n c) n (fe l)/\ϐ w wr)) (fun v _ _ _=>m-(intOf v).toNat)
 ·exact⟨q,n,c,b,l,hq,mU,sG,rfl,rfl,xS⟩
 clear xS sG mU hq;obtain⟨q,n,c,b,l,hq,mU,sG,rfl,rfl,HX⟩:=hrel;by_cases aq:q<m
 ·have i1:(q:Int)<m:=by omega
  have hqs:q<s.size:=by rw[HM.o];exact aq
  have cU:=yt s q hqs;obtain⟨bt,mW⟩:=Ξ ((s[q]'hqs).toNat)
  rw[mW] at cU;have Hu:Hid (bB ((aa s).drop q) l=match eZ bt with|some k=>bB ((aa s).drop (q+1)) (l++[⟨k,aO⟩])|none=>(l,bt :: (aa s).drop (q+1))):=by
   show _=_;rw[cU];rfl
  have fC:=hid cU;clear cU;have mO:Hid (Calls prog 135 #[.string ⟨#[42,43,63]⟩,.int .u8 (bt:Int)] wr fun e w'=>e=.returned (.bool (eZ bt).isSome)/\wr=w'):=by
   have:=LW ⟨#[42,43,63]⟩ bt wr (by decide);rw[zqK] at this;exact this
  rcases xR:eZ bt with _|kk
  ·rw[xR] at Hu mO;have HR:Hid (X=(l,(aa s).drop q)):=by
    show _=_;rw[<-HX.o.1,Hu.o,fC.o]
   clear xR Hu;go_wp2_with (go_at_call 135;refine mO.o.mono ?_;rintro e W9 ⟨rfl,rfl⟩;refine Hid.o ?_);refine hid ?_;clear mO;go_wp2;go_ret2;exact⟨_,n,c,q,rfl,HX.o.2.2.2,inr ⟨l,_,q,b,by rw[H0.o,HR.o],by rw[HM.o];exact hq,rfl,rfl,HX.o.2.1,mU,rfl,HX.o.2.2.1⟩⟩
  rw[xR] at Hu mO;have MR:(bt=42/\kk=4)\/(bt=43/\kk=5)\/(bt=63/\kk=6):=by
   unfold eZ at xR
   repeat' split at xR
   all_goals simp_all
  have Tj:=hid (Hu.o);clear xR Hu;go_wp2_with (go_at_call 135;refine mO.o.mono ?_;rintro e W9 ⟨rfl,rfl⟩;refine Hid.o ?_);refine hid ?_;clear mO;rcases MR with ⟨rfl,rfl⟩|⟨rfl,rfl⟩|⟨rfl,rfl⟩
  ·have hO:=HX.o.2.2.1;have Cv:=HX.o.2.2.2.size;go_wp2_with (at_builtin;refine xI _ rfl _ _ rfl wr.heap.size _ 0 [] rfl (KI wr (le_refl _)) ⟨b,0,none⟩ n c l rfl HX.o.2.1 (FC (hO.alloc _)) ?_ ?_ ?_ ?_)
   ·omega
   ·exact mU
   ·simp
   intro g2 c2 w2 fx cH;have H2:=ζ (jH fx Cv) (HX.o.2.2.2.trans (((rh wr _).trans (cH.mono (by simp))).mono Cv));have yK:=H2.o.2.size;clear fx cH hO;go_wp2_with (at_builtin;refine xI _ rfl _ _ rfl w.heap.size _ n l rfl (H2.o.1.alloc _) ⟨w2.heap.size,0,none⟩ 1 1 [⟨4,aO⟩] rfl rfl (Kz w2 4) ?_ ?_ ?_ ?_)
   ·omega
   ·omega
   ·simp;omega
   intro g3 c3 w3 eG dY;have ew:Hid (w3.ownsRow w.heap.size 148 5 (.slice (some ⟨g3,0,none⟩) (n+1) c3) (n+1) (fe (l++[⟨4,aO⟩]))/\ϐ w w3):=(⟨eG,(H2.o.2.trans ((rh w2 _).mono yK)).trans dY⟩);clear eG dY;go_wp2;go_roundw
   ·exact⟨q+1,n+1,c3,g3,_,by omega,by omega,by omega,by go_num,rfl,by rw[<-HX.o.1,Tj.o],by simp[HX.o.2.1],ew.o.1,ew.o.2⟩
   simp[intOf];omega
  ·have hO:=HX.o.2.2.1;have Cv:=HX.o.2.2.2.size;go_wp2_with (at_builtin;refine xI _ rfl _ _ rfl wr.heap.size _ 0 [] rfl (KI wr (le_refl _)) ⟨b,0,none⟩ n c l rfl HX.o.2.1 (FC (hO.alloc _)) ?_ ?_ ?_ ?_)
   ·omega
   ·exact mU
   ·simp
   intro g2 c2 w2 fx cH;have H2:=ζ (jH fx Cv) (HX.o.2.2.2.trans (((rh wr _).trans (cH.mono (by simp))).mono Cv));have yK:=H2.o.2.size;clear fx cH hO;go_wp2_with (at_builtin;refine xI _ rfl _ _ rfl w.heap.size _ n l rfl (H2.o.1.alloc _) ⟨w2.heap.size,0,none⟩ 1 1 [⟨5,aO⟩] rfl rfl (Kz w2 5) ?_ ?_ ?_ ?_)
   ·omega
   ·omega
   ·simp;omega
   intro g3 c3 w3 eG dY;have ew:Hid (w3.ownsRow w.heap.size 148 5 (.slice (some ⟨g3,0,none⟩) (n+1) c3) (n+1) (fe (l++[⟨5,aO⟩]))/\ϐ w w3):=(⟨eG,(H2.o.2.trans ((rh w2 _).mono yK)).trans dY⟩);clear eG dY;go_wp2;go_roundw
   ·exact⟨q+1,n+1,c3,g3,_,by omega,by omega,by omega,by go_num,rfl,by rw[<-HX.o.1,Tj.o],by simp[HX.o.2.1],ew.o.1,ew.o.2⟩
   simp[intOf];omega
  have hO:=HX.o.2.2.1;have Cv:=HX.o.2.2.2.size;go_wp2_with (at_builtin;refine xI _ rfl _ _ rfl wr.heap.size _ 0 [] rfl (KI wr (le_refl _)) ⟨b,0,none⟩ n c l rfl HX.o.2.1 (FC (hO.alloc _)) ?_ ?_ ?_ ?_)
  ·omega
  ·exact mU
  ·simp
  intro g2 c2 w2 fx cH;have H2:=ζ (jH fx Cv) (HX.o.2.2.2.trans (((rh wr _).trans (cH.mono (by simp))).mono Cv));have yK:=H2.o.2.size;clear fx cH hO;go_wp2_with (at_builtin;refine xI _ rfl _ _ rfl w.heap.size _ n l rfl (H2.o.1.alloc _) ⟨w2.heap.size,0,none⟩ 1 1 [⟨6,aO⟩] rfl rfl (Kz w2 6) ?_ ?_ ?_ ?_)
  ·omega
  ·omega
  ·simp;omega
  intro g3 c3 w3 eG dY;have ew:Hid (w3.ownsRow w.heap.size 148 5 (.slice (some ⟨g3,0,none⟩) (n+1) c3) (n+1) (fe (l++[⟨6,aO⟩]))/\ϐ w w3):=⟨eG,(H2.o.2.trans ((rh w2 _).mono yK)).trans dY⟩
  clear eG dY;go_wp2;go_roundw
  ·exact⟨q+1,n+1,c3,g3,_,by omega,by omega,by omega,by go_num,rfl,by rw[<-HX.o.1,Tj.o],by simp[HX.o.2.1],ew.o.1,ew.o.2⟩
  simp[intOf];omega
 have i1:¬((q:Int)<m):=by omega
 have HR:Hid (X=(l,(aa s).drop q)):=by
  show _=_;rw[<-HX.o.1,zb s q (by rw[HM.o];omega)];rfl
 go_wp2;go_ret2;exact⟨_,n,c,q,rfl,HX.o.2.2.2,inr ⟨l,_,q,b,by rw[H0.o,HR.o],by rw[HM.o];exact hq,rfl,rfl,HX.o.2.1,mU,rfl,HX.o.2.2.1⟩⟩
theorem zrL(c:Nat):fZ ⟨#[124,41]⟩ c=(c == 124 || c == 41):=by
 unfold fZ;by_cases h1:c=124
 ·subst h1;rfl
 by_cases h2:c=41
 ·subst h2;rfl
 have e1:(c == 124)=false:=by simp[h1]
 have e2:(c == 41)=false:=by simp[h2]
 rw[e1,e2];simp;omega
theorem zqM(atom:bf->Option bf)(hd:nj atom)(yW:ja atom)(D:Nat)(hD:D<=99)(h1:ov 134 (sub (ct atom)) D):ov 106 (sub (cm atom)) D:=by
 intro s k w hs hk;have HO:=hid (h1 s k w hs hk);have Qm:=hid h1;obtain⟨m,hm⟩:=Ξ s.size
 have HM:=hid hm;have zw:=ζ hd yW;rw[hm] at hs hk;clear h1 hd yW;go_in;go_wp2_with (go_at_call 134;refine HO.o.mono ?_;rintro e w1 ⟨a,n,c,p,rfl,kb,hP⟩;refine Hid.o ?_);refine hid ?_;have HB:=hid kb;clear kb HO;rcases hP with ⟨h0,rfl,rfl,rfl⟩|⟨l,r,q,b,h0,hq,rfl,rfl,qH,mU,rfl,az⟩
 ·have H0:Hid (sub (cm atom) ((aa s).drop k)=none):=by
   show cm atom ([],(aa s).drop k)=none;unfold cm;rw[show ct atom ([],(aa s).drop k)=none from h0]
  clear h0;go_wp2;go_loopw [1,8] (fun v1 v8 wr=>v1=.int .i64 p/\v8=.slice none 0 0/\Hid (wr=w1)) (fun _ _ _=>0)
  ·exact⟨rfl,rfl,(rfl:w1=w1)⟩
  obtain⟨rfl,rfl,HW⟩:=hrel;go_wp2;go_ret2;exact⟨none,0,0,p,rfl,by rw[HW.o];exact HB.o,inl ⟨H0.o,rfl,rfl,rfl⟩⟩
 have jK:=Dh zw.o.1 _ _ h0;obtain⟨X,hX⟩:=Ξ (aX atom (((aa s).drop q).length+1) (l,(aa s).drop q))
 have H0:Hid (sub (cm atom) ((aa s).drop k)=X):=by
  show cm atom ([],(aa s).drop k)=_;unfold cm;rw[show ct atom ([],(aa s).drop k)=some (l,(aa s).drop q) from h0];exact hX
 rw[hm] at hq;have sG:n+2*(m-q)<=3200:=by
  have:=jK.2;simp[bq,hm] at this;omega
 have xS:Hid (aX atom (((aa s).drop q).length+1) (l,(aa s).drop q)=X/\l.length=n/\w1.ownsRow w.heap.size 148 5 (.slice (some ⟨b,0,none⟩) n c) n (fe l)/\ϐ w w1):=⟨hX,qH,az,HB.o⟩
 clear h0 jK qH az hX;go_wp2;go_loopw [1,8,9] (fun v1 v8 _ wr=>∃(q n c b:Nat) (l:List Pc),q<=m/\0<n/\n+2*(m-q)<=3200/\v1=.int .i64 (q:Int)/\v8=.slice (some ⟨b,0,none⟩) n c/\Hid (aX atom (((aa s).drop q).length+1) (l,(aa s).drop q)=X/\l.length=n/\wr.ownsRow w.heap.size 148 5 (.slice (some ⟨b,0,none⟩) n c) n (fe l)/\ϐ w wr)) (fun v _ _ _=>m-(intOf v).toNat)
 ·exact⟨q,n,c,b,l,hq,mU,sG,rfl,rfl,xS⟩
 clear xS sG mU hq;obtain⟨q,n,c,b,l,hq,mU,sG,rfl,rfl,HX⟩:=hrel;have kY:Hid ((m<=q\/∃r:Unit,gK ((aa s).drop q)=true)->aX atom (((aa s).drop q).length+1) (l,(aa s).drop q)=some (l,(aa s).drop q)):=fun h=>by
  unfold aX;rcases h with h|⟨r,h⟩
  ·rw[zb s q (by rw[HM.o];omega)];rfl
  simp only;rw[if_pos h]
 by_cases aq:q<m
 ·have i1:(q:Int)<m:=by omega
  have hqs:q<s.size:=by rw[HM.o];exact aq
  have cU:=yt s q hqs;obtain⟨bt,mW⟩:=Ξ ((s[q]'hqs).toNat)
  rw[mW] at cU;have fC:=hid cU;clear cU;have mO:Hid (Calls prog 135 #[.string ⟨#[124,41]⟩,.int .u8 (bt:Int)] wr fun e w'=>e=.returned (.bool (bt == 124 || bt == 41))/\wr=w'):=by
   have:=LW ⟨#[124,41]⟩ bt wr (by decide);rw[zrL] at this;exact this
  by_cases he:(bt == 124 || bt == 41)=true
  ·have HR:Hid (X=some (l,(aa s).drop q)):=by
    show _=_;rw[<-HX.o.1];exact kY.o (inr ⟨(),by rw[fC.o];exact he⟩)
   rw[he] at mO;clear kY he;go_wp2_with (go_at_call 135;refine mO.o.mono ?_;rintro e W9 ⟨rfl,rfl⟩;refine Hid.o ?_);refine hid ?_;clear mO;go_wp2;go_ret2;exact⟨_,n,c,q,rfl,HX.o.2.2.2,inr ⟨l,_,q,b,by rw[H0.o,HR.o],by rw[HM.o];exact hq,rfl,rfl,HX.o.2.1,mU,rfl,HX.o.2.2.1⟩⟩
  have HE:=hid he;rw[show (bt == 124 || bt == 41)=false by simpa using he] at mO;clear kY he;go_wp2_with (go_at_call 135;refine mO.o.mono ?_;rintro e W9 ⟨rfl,rfl⟩;refine Hid.o ?_);refine hid ?_;clear mO;have HN:=hid (Qm.o s q wr (by rw[HM.o];omega) (by rw[HM.o];omega));have rG:Hid (X=match ct atom (l,(aa s).drop q) with|none=>none|some x=>aX atom ((aa s).drop q).length (x.1++[⟨2,aO⟩],x.2)):=by
   show _=_;rw[<-HX.o.1]
   conv=>lhs;unfold aX
   simp only;rw[if_neg (by rw[fC.o];exact HE.o)];rcases ct atom (l,(aa s).drop q) with _|x <;> rfl
  have zH:=hid (ja.at_ (T7 zw.o.2) l ((aa s).drop q));go_wp2_with (go_at_call 134;refine HN.o.mono ?_;rintro e w2 ⟨a2,n2,c2,p2,rfl,kb,hP⟩;refine Hid.o ?_);refine hid ?_;have zJ:=hid kb;clear kb HN;rcases hP with ⟨h0,rfl,rfl,rfl⟩|⟨l2,r2,q2,b2,h0,hq2,rfl,rfl,ym,dd,rfl,fx⟩
  ·have HR:Hid (X=none):=by
    show _=_;rw[rG.o,zH.o,h0];rfl
   clear h0;have hN:=OE w2;go_wp2;go_ret2;exact⟨none,0,0,p2,rfl,HX.o.2.2.2.trans (zJ.o.mono HX.o.2.2.2.size),inl ⟨by rw[H0.o,HR.o],rfl,rfl,rfl⟩⟩
  have jK:=Dh zw.o.1 _ _ h0;rw[HM.o] at hq2;have T6:n2+2*(m-q2)+2<=2*(m-q)+1/\q<q2:=by
   have h1:=jK.2;have h2:=jK.1;simp[bq,HM.o] at h1 h2;omega
  have HR:Hid (aX atom (((aa s).drop q2).length+1) ((l++l2)++[⟨2,aO⟩],(aa s).drop q2)=X):=by
   show _=_;rw[rG.o,zH.o,h0];refine zgM zw.o.1 _ _ _ ?_ ?_
   ·simp
   simp[bq,HM.o];omega
  have lv:Hid (w2.ownsRow w.heap.size 148 5 (.slice (some ⟨b,0,none⟩) n c) n (fe l)/\w2.ownsRow w.heap.size 148 5 (.slice (some ⟨b2,0,none⟩) n2 c2) n2 (fe l2)/\ϐ w w2):=⟨dE HX.o.2.2.1 zJ.o,jH fx HX.o.2.2.2.size,HX.o.2.2.2.trans (zJ.o.mono HX.o.2.2.2.size)⟩
  have J8:=hid ym;have yK:=lv.o.2.2.size;clear h0 jK fx ym;have hN:=MW w2 b2 n2 c2;go_wp2_with (at_builtin;refine xI _ rfl _ _ rfl w2.heap.size _ 0 [] rfl (KI w2 (le_refl _)) ⟨b,0,none⟩ n c l rfl HX.o.2.1 (FC (lv.o.1.alloc _)) ?_ ?_ ?_ ?_)
  ·omega
  ·exact mU
  ·simp
  intro g3 c3 w3 eG dY;have uq:=(rh w2 _).trans (dY.mono (by simp));have H3:=ξ (jH eG yK) (dE lv.o.2.1 uq) (lv.o.2.2.trans (uq.mono yK));have Qd:=H3.o.2.2.size;clear eG dY uq;go_wp2_with (at_builtin;refine xI _ rfl _ _ rfl w.heap.size _ n l rfl H3.o.1 ⟨b2,0,none⟩ n2 c2 l2 rfl J8.o (FC H3.o.2.1) ?_ ?_ ?_ ?_)
  ·omega
  ·exact dd
  ·exact Qd
  intro g4 c4 w4 oJ fV;have H4:=ζ oJ (H3.o.2.2.trans fV);have QP:=H4.o.2.size;clear oJ fV;go_wp2_with (at_builtin;refine xI _ rfl _ _ rfl w.heap.size _ (n+n2) (l++l2) rfl (H4.o.1.alloc _) ⟨w4.heap.size,0,none⟩ 1 1 [⟨2,aO⟩] rfl rfl (Kz w4 2) ?_ ?_ ?_ ?_)
  ·omega
  ·omega
  ·simp;omega
  intro g5 c5 w5 ak nL;have H5:=ζ ak ((H4.o.2.trans ((rh w4 _).mono QP)).trans nL);clear ak nL;go_wp2;go_roundw
  ·exact⟨q2,n+n2+1,c5,g5,_,by omega,by omega,by omega,rfl,rfl,HR.o,by simp[HX.o.2.1,J8.o];try omega,by first|exact H5.o.1|(rw[List.append_assoc];exact H5.o.1),H5.o.2⟩
  simp[intOf];omega
 have i1:¬((q:Int)<m):=by omega
 have HR:Hid (X=some (l,(aa s).drop q)):=by
  show _=_;rw[<-HX.o.1];exact kY.o (inl (by omega))
 clear kY;go_wp2;go_ret2;exact⟨_,n,c,q,rfl,HX.o.2.2.2,inr ⟨l,_,q,b,by rw[H0.o,HR.o],by rw[HM.o];exact hq,rfl,rfl,HX.o.2.1,mU,rfl,HX.o.2.2.1⟩⟩
theorem zqN(atom:bf->Option bf)(hd:nj atom)(yW:ja atom)(D:Nat)(hD:D<=99)(h1:ov 106 (sub (cm atom)) D):ov 89 (sub (bx atom)) D:=by
 intro s k w hs hk;have HO:=hid (h1 s k w hs hk);have Qm:=hid h1;obtain⟨m,hm⟩:=Ξ s.size
 have HM:=hid hm;have zw:=ζ hd yW;rw[hm] at hs hk;clear h1 hd yW;go_in;go_wp2_with (go_at_call 106;refine HO.o.mono ?_;rintro e w1 ⟨a,n,c,p,rfl,kb,hP⟩;refine Hid.o ?_);refine hid ?_;have HB:=hid kb;clear kb HO;rcases hP with ⟨h0,rfl,rfl,rfl⟩|⟨l,r,q,b,h0,hq,rfl,rfl,qH,mU,rfl,az⟩
 ·have H0:Hid (sub (bx atom) ((aa s).drop k)=none):=by
   show bx atom ([],(aa s).drop k)=none;unfold bx;rw[show cm atom ([],(aa s).drop k)=none from h0]
  clear h0;go_wp2;go_loopw [1,8] (fun v1 v8 wr=>v1=.int .i64 p/\v8=.slice none 0 0/\Hid (wr=w1)) (fun _ _ _=>0)
  ·exact⟨rfl,rfl,(rfl:w1=w1)⟩
  obtain⟨rfl,rfl,HW⟩:=hrel;go_wp2;go_ret2;exact⟨none,0,0,p,rfl,by rw[HW.o];exact HB.o,inl ⟨H0.o,rfl,rfl,rfl⟩⟩
 have jK:=DG zw.o.1 _ _ h0;obtain⟨X,hX⟩:=Ξ (aY atom (((aa s).drop q).length+1) (l,(aa s).drop q))
 have H0:Hid (sub (bx atom) ((aa s).drop k)=X):=by
  show bx atom ([],(aa s).drop k)=_;unfold bx;rw[show cm atom ([],(aa s).drop k)=some (l,(aa s).drop q) from h0];exact hX
 rw[hm] at hq;have sG:n+2*(m-q)<=3200:=by
  have:=jK.2;simp[bq,hm] at this;omega
 have xS:Hid (aY atom (((aa s).drop q).length+1) (l,(aa s).drop q)=X/\l.length=n/\w1.ownsRow w.heap.size 148 5 (.slice (some ⟨b,0,none⟩) n c) n (fe l)/\ϐ w w1):=⟨hX,qH,az,HB.o⟩
 clear h0 jK qH az hX;go_wp2;go_loopw [1,8,9] (fun v1 v8 _ wr=>∃(q n c b:Nat) (l:List Pc),q<=m/\0<n/\n+2*(m-q)<=3200/\v1=.int .i64 (q:Int)/\v8=.slice (some ⟨b,0,none⟩) n c/\Hid (aY atom (((aa s).drop q).length+1) (l,(aa s).drop q)=X/\l.length=n/\wr.ownsRow w.heap.size 148 5 (.slice (some ⟨b,0,none⟩) n c) n (fe l)/\ϐ w wr)) (fun v _ _ _=>m-(intOf v).toNat)
 ·exact⟨q,n,c,b,l,hq,mU,sG,rfl,rfl,xS⟩
 clear xS sG mU hq;obtain⟨q,n,c,b,l,hq,mU,sG,rfl,rfl,HX⟩:=hrel;have kY:Hid ((m<=q\/∃r:Unit,aw 124 ((aa s).drop q)=none)->aY atom (((aa s).drop q).length+1) (l,(aa s).drop q)=some (l,(aa s).drop q)):=fun h=>by
  unfold aY;rcases h with h|⟨r,h⟩
  ·rw[zb s q (by rw[HM.o];omega)];rfl
  simp only;rw[h]
 by_cases aq:q<m
 ·have i1:(q:Int)<m:=by omega
  have hqs:q<s.size:=by rw[HM.o];exact aq
  have cU:=yt s q hqs;obtain⟨bt,mW⟩:=Ξ ((s[q]'hqs).toNat)
  rw[mW] at cU;have fC:=hid cU;clear cU;by_cases he:¬bt=124
  ·have HR:Hid (X=some (l,(aa s).drop q)):=by
    show _=_;rw[<-HX.o.1];exact kY.o (inr ⟨(),by rw[fC.o];show (if bt=124 then some _ else none)=none;rw[if_neg he]⟩)
   have i2:¬((bt:Int)=124):=(by omega);clear kY he;go_wp2;go_ret2;exact⟨_,n,c,q,rfl,HX.o.2.2.2,inr ⟨l,_,q,b,by rw[H0.o,HR.o],by rw[HM.o];exact hq,rfl,rfl,HX.o.2.1,mU,rfl,HX.o.2.2.1⟩⟩
  have HE:=hid he;have i2:(bt:Int)=124:=by omega
  clear kY he;have HN:=hid (Qm.o s (q+1) wr (by rw[HM.o];omega) (by rw[HM.o];omega));have rG:Hid (X=match cm atom (l,(aa s).drop (q+1)) with|none=>none|some x=>aY atom ((aa s).drop q).length (x.1++[⟨3,aO⟩],x.2)):=by
   show _=_;rw[<-HX.o.1]
   conv=>lhs;unfold aY
   have OT:aw 124 ((aa s).drop q)=some ((aa s).drop (q+1)):=by
    rw[fC.o];show (if bt=124 then some _ else none)=_;rw[if_pos (Decidable.not_not.1 HE.o)]
   simp only[OT];generalize cm atom (l,(aa s).drop (q+1))=z;cases z <;> rfl
  have zH:=hid (ja.at_ (PH zw.o.2) l ((aa s).drop (q+1)));go_wp2_with (go_at_call 106;refine HN.o.mono ?_;rintro e w2 ⟨a2,n2,c2,p2,rfl,kb,hP⟩;refine Hid.o ?_);refine hid ?_;have zJ:=hid kb;clear kb HN;rcases hP with ⟨h0,rfl,rfl,rfl⟩|⟨l2,r2,q2,b2,h0,hq2,rfl,rfl,ym,dd,rfl,fx⟩
  ·have HR:Hid (X=none):=by
    show _=_;rw[rG.o,zH.o,h0];rfl
   clear h0;have hN:=OE w2;go_wp2;go_ret2;exact⟨none,0,0,p2,rfl,HX.o.2.2.2.trans (zJ.o.mono HX.o.2.2.2.size),inl ⟨by rw[H0.o,HR.o],rfl,rfl,rfl⟩⟩
  have jK:=DG zw.o.1 _ _ h0;rw[HM.o] at hq2;have T6:n2+2*(m-q2)+2<=2*(m-q)+1/\q<q2:=by
   have h1:=jK.2;have h2:=jK.1;simp[bq,HM.o] at h1 h2;omega
  have HR:Hid (aY atom (((aa s).drop q2).length+1) ((l++l2)++[⟨3,aO⟩],(aa s).drop q2)=X):=by
   show _=_;rw[rG.o,zH.o,h0];refine zgN zw.o.1 _ _ _ ?_ ?_
   ·simp
   simp[bq,HM.o];omega
  have lv:Hid (w2.ownsRow w.heap.size 148 5 (.slice (some ⟨b,0,none⟩) n c) n (fe l)/\w2.ownsRow w.heap.size 148 5 (.slice (some ⟨b2,0,none⟩) n2 c2) n2 (fe l2)/\ϐ w w2):=⟨dE HX.o.2.2.1 zJ.o,jH fx HX.o.2.2.2.size,HX.o.2.2.2.trans (zJ.o.mono HX.o.2.2.2.size)⟩
  have J8:=hid ym;have yK:=lv.o.2.2.size;clear h0 jK fx ym;have hN:=MW w2 b2 n2 c2;go_wp2_with (at_builtin;refine xI _ rfl _ _ rfl w2.heap.size _ 0 [] rfl (KI w2 (le_refl _)) ⟨b,0,none⟩ n c l rfl HX.o.2.1 (FC (lv.o.1.alloc _)) ?_ ?_ ?_ ?_)
  ·omega
  ·exact mU
  ·simp
  intro g3 c3 w3 eG dY;have uq:=(rh w2 _).trans (dY.mono (by simp));have H3:=ξ (jH eG yK) (dE lv.o.2.1 uq) (lv.o.2.2.trans (uq.mono yK));have Qd:=H3.o.2.2.size;clear eG dY uq;go_wp2_with (at_builtin;refine xI _ rfl _ _ rfl w.heap.size _ n l rfl H3.o.1 ⟨b2,0,none⟩ n2 c2 l2 rfl J8.o (FC H3.o.2.1) ?_ ?_ ?_ ?_)
  ·omega
  ·exact dd
  ·exact Qd
  intro g4 c4 w4 oJ fV;have H4:=ζ oJ (H3.o.2.2.trans fV);have QP:=H4.o.2.size;clear oJ fV;go_wp2_with (at_builtin;refine xI _ rfl _ _ rfl w.heap.size _ (n+n2) (l++l2) rfl (H4.o.1.alloc _) ⟨w4.heap.size,0,none⟩ 1 1 [⟨3,aO⟩] rfl rfl (Kz w4 3) ?_ ?_ ?_ ?_)
  ·omega
  ·omega
  ·simp;omega
  intro g5 c5 w5 ak nL;have H5:=ζ ak ((H4.o.2.trans ((rh w4 _).mono QP)).trans nL);clear ak nL;go_wp2;go_roundw
  ·exact⟨q2,n+n2+1,c5,g5,_,by omega,by omega,by omega,rfl,rfl,HR.o,by simp[HX.o.2.1,J8.o];try omega,by first|exact H5.o.1|(rw[List.append_assoc];exact H5.o.1),H5.o.2⟩
  simp[intOf];omega
 have i1:¬((q:Int)<m):=by omega
 have HR:Hid (X=some (l,(aa s).drop q)):=by
  show _=_;rw[<-HX.o.1];exact kY.o (inl (by omega))
 clear kY;go_wp2;go_ret2;exact⟨_,n,c,q,rfl,HX.o.2.2.2,inr ⟨l,_,q,b,by rw[H0.o,HR.o],by rw[HM.o];exact hq,rfl,rfl,HX.o.2.1,mU,rfl,HX.o.2.2.1⟩⟩
theorem zms(D:Nat)(hD:D<=99)(wH:bf->Option bf)(hd:nj wH)(hl:ja wH)(h1:ov 165 (sub wH) D):ov 89 (sub (bx wH)) D:=
 zqN wH hd hl D hD (zqM wH hd hl D hD (zqL wH hd D hD h1))
theorem C6:∀n,n<=99->ov 89 (sub (bx (dB n))) (99-n)
 | 0,_=>zms 99 (le_refl _) _ (AX 0) (Qg 0) (zmr 99 (le_refl _) _ (fun _=>rfl) (fun h=>by omega))
 | n+1,h=>by
  refine zms (99-(n+1)) (by omega) _ (AX (n+1)) (Qg (n+1)) (zmr (99-(n+1)) (by omega) _ (fun h=>by omega) (fun _=>⟨dB n,rfl,?_⟩))
  have:=C6 n (by omega)
  rw[show 99-(n+1)+1=99-n by omega]
  exact this
def zrM(s:ByteArray)(w:World)(e:Ending)(w':World):Prop:=
 ∃(a:Option Addr) (n c:Nat) (k:Int),e=.returned (.tuple #[.slice a n c,.int .i64 k])/\ϐ w w'/\
  (
   (a=none/\n=0/\c=0/\((1600<s.size/\k=6)\/(s.size<=1600/\fB (aa s)=none/\k=5)\/(s.size<=1600/\k=6/\∃l,fB (aa s)=some l/\400<l.length)))\/
   (s.size<=1600/\k=0/\∃(l:List Pc) (b:Nat),fB (aa s)=some l/\l.length<=400/\l.length=n/\0<n/\a=some ⟨b,0,none⟩/\w'.ownsRow w.heap.size 148 5 (.slice a n c) n (fe l)))
theorem zkw(s:ByteArray)(tk:s.size<=9223372036854775807)(w:World):Calls prog 77 #[.string s] w (zrM s w):=by
 obtain⟨m,hm⟩:=Ξ s.size
 have HM:=hid hm;by_cases iZ:1600<m
 ·have i0:(1600:Int)<m:=by omega
  go_in;go_wp2;go_ret2;exact⟨none,0,0,6,rfl,Below.refl _ _,inl ⟨rfl,rfl,rfl,inl ⟨by rw[HM.o];exact iZ,rfl⟩⟩⟩
 have i0:¬((1600:Int)<m):=by omega
 have HC:Hid (Calls prog 89 #[.string s,.int .i64 0,.int .i64 0] w (zf (sub (bx (dB 99))) s 0 w)):=C6 99 (le_refl _) s 0 w (by omega) (by omega);have HT:Hid (fB (aa s)=match sub (bx (dB 99)) ((aa s).drop 0) with|some (l,[])=>some l|_=>none):=by
  show _=_;unfold fB sub;rw[List.drop_zero];rcases bx (dB 99) ([],aa s) with _|⟨l,r⟩
  ·rfl
  cases r <;> rfl
 go_in;go_wp2_with (go_at_call 89;refine HC.o.mono ?_;rintro e w3 ⟨a,n,c,p,rfl,kb,hP⟩;refine Hid.o ?_);refine hid ?_;have HB:=hid kb;clear kb HC;rcases hP with ⟨hz,rfl,rfl,rfl⟩|⟨l,r,q,b,hz,hq,rfl,rfl,qH,mU,rfl,az⟩
 ·have hN:=OE w3;have HZ:Hid (fB (aa s)=none):=by show _=_;rw[HT.o,hz]
  clear hz;go_wp2;go_ret2;exact⟨none,0,0,5,rfl,HB.o,inl ⟨rfl,rfl,rfl,inr (inl ⟨by rw[HM.o];omega,HZ.o,rfl⟩)⟩⟩
 rw[HM.o] at hq;have hN:=MW w3 b n c;have HO:=ζ az qH;by_cases ry:q<m
 ·have j1:(q:Int)<m:=by omega
  have HZ:Hid (fB (aa s)=none):=by
   show _=_;rw[HT.o,hz];have cU:=yt s q (by rw[HM.o];exact ry);rw[cU]
  clear hz az qH;go_wp2;go_ret2;exact⟨none,0,0,5,rfl,HB.o,inl ⟨rfl,rfl,rfl,inr (inl ⟨by rw[HM.o];omega,HZ.o,rfl⟩)⟩⟩
 have j1:¬((q:Int)<m):=by omega
 have HZ:Hid (fB (aa s)=some l):=by
  show _=_;rw[HT.o,hz,zb s q (by rw[HM.o];omega)]
 clear hz az qH;by_cases xH:400<n
 ·have j2:(400:Int)<n:=by omega
  go_wp2;go_ret2;exact⟨none,0,0,6,rfl,HB.o,inl ⟨rfl,rfl,rfl,inr (inr ⟨by rw[HM.o];omega,rfl,l,HZ.o,by rw[HO.o.2];exact xH⟩)⟩⟩
 have j2:¬((400:Int)<n):=by omega
 go_wp2;go_ret2;exact⟨_,n,c,0,rfl,HB.o,inr ⟨by rw[HM.o];omega,rfl,l,b,HZ.o,by rw[HO.o.2];omega,HO.o.2,mU,rfl,HO.o.1⟩⟩
