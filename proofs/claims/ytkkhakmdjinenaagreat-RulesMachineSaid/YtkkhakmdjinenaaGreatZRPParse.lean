import Derived.Test.YtkkhakmdjinenaaGreatZPut3
import Derived.Test.YtkkhakmdjinenaaGreatZRPBrkM
import Derived.BigFrame
set_option linter.all false
set_option maxHeartbeats 4000000
set_option maxRecDepth 100000
open Go.Lib (hid)
namespace Go.Proofs.YtkkhakmdjinenaaGreat
open Go.RowKit Go.Maps Go.WideElems Go.ChangeMaps Go.Proofs.Tryz
open _root_.Array (replicate)
open Or (inl inr)
open Nat (le_refl sub_self)
open IntWalk (i64_in)
variable {a c q:Nat}{r r1 t:List Nat}
theorem VT(w:World):(Instr.makeSlice 64 (.int .i64 256) (.int .i64 256)).run prog w=.ok (.slice (some ⟨w.heap.size,0,none⟩) 256 256) (w.alloc (.cells (replicate 256 (.bool false)) 4)):=by kernel_rfl
theorem VQ(w:World):Flags (w.alloc (.cells (replicate 256 (.bool false)) 4)) w.heap.size aJ:=
 ⟨_,St.new w _ _,by simp,fun j hj=>by simp[hj,aJ]⟩
def oK(r:List Nat):Option (List Pc × List Nat):=(ec r).map fun x=>([⟨1,x.1⟩],x.2)
def pD(s:ByteArray)(q:Nat)(p:Nat->Bool):Option ((Nat->Bool) × List Nat):=aD (((aa s).drop q).length+1) p ((aa s).drop q)
theorem zp9{s:ByteArray}(p:Nat->Bool)(h:s.size<=q):pD s q p=none:=by
 unfold pD;rw[xB s q h];rfl
theorem znX{s:ByteArray}(p:Nat->Bool)(h:(aa s).drop q=93 :: t):pD s q p=some (p,t):=by
 unfold pD;rw[h];rfl
theorem Uk{s:ByteArray}{q2 bt:Nat}(p:Nat->Bool)(h:(aa s).drop q=bt :: t)(hb:bt≠93)(hs:cJ ((aa s).drop q)=some (a,c,(aa s).drop q2)):pD s q p=pD s q2 (fun x=>p x || ar a (c+1-a) x):=by
 have hl:=(LB hs).1;have h1:aw 93 ((aa s).drop q)=none:=by
  rw[h];show (if bt=93 then _ else none)=none;rw[if_neg hb]
 conv=>lhs;unfold pD aD
 simp only[h1,hs];unfold pD;exact zgS _ _ _ _ hl (by omega)
theorem FA{s:ByteArray}{bt:Nat}(p:Nat->Bool)(h:(aa s).drop q=bt :: t)(hb:bt≠93)(hs:cJ ((aa s).drop q)=none):pD s q p=none:=by
 have h1:aw 93 ((aa s).drop q)=none:=by
  rw[h];show (if bt=93 then _ else none)=none;rw[if_neg hb]
 unfold pD aD;simp only[h1,hs]
theorem zo2{s:List Nat}(h:aI du s=none):cJ s=none:=by unfold cJ;rw[h]
theorem zjn{s:List Nat}(h:aI du s=some (a,r))(h2:aw 45 r=none):cJ s=some (a,a,r):=by unfold cJ;rw[h];simp only;rw[h2]
theorem znY{s r2:List Nat}(h:aI du s=some (a,r))(h2:aw 45 r=some r1)(h3:aI du r1=some (c,r2))(h4:a<=c):cJ s=some (a,c,r2):=by
 unfold cJ;rw[h];simp only;rw[h2];simp only;rw[h3];simp only;rw[if_pos h4]
theorem MH{s:List Nat}(h:aI du s=some (a,r))(h2:aw 45 r=some r1)(h3:∀c r2,aI du r1=some (c,r2)->¬a<=c):cJ s=none:=by
 unfold cJ;rw[h];simp only;rw[h2];simp only;rcases h5:aI du r1 with _|⟨c,r2⟩
 ·rfl
 simp only;rw[if_neg (h3 c r2 h5)]
theorem Qu(s:ByteArray)(q n:Nat):((aa s).drop q).drop n=(aa s).drop (q+n):=by rw[List.drop_drop]
theorem zqa(s:ByteArray)(k:Nat)(w:World)(hs:s.size<=1600)(hk:k<=s.size):Calls prog 147 #[.string s,.int .i64 (k:Int)] w (yr oK s k w):=by
 obtain⟨m,hm⟩:∃m,s.size=m:=⟨_,rfl⟩
 have HM:=hid hm;have fJ:=VT;rw[hm] at hs hk;go_in;go_upto_region 2 with fail;have Jx:=VQ w;have ay:=qt w (.cells (replicate 256 (.bool false)) 4);obtain⟨g,hg⟩:∃g,w.heap.size=g:=⟨_,rfl⟩
 have HG:Hid (w.heap.size<=g):=by show _<=_;omega
 have yY:Hid (Flags (w.alloc (.cells (replicate 256 (.bool false)) 4)) g aJ/\Below w.heap.size w (w.alloc (.cells (replicate 256 (.bool false)) 4))):=⟨hg ▸ Jx,ay⟩
 rw[hg];clear Jx ay;generalize w.alloc (.cells (replicate 256 (.bool false)) 4)=W0 at yY⊢;clear fJ;obtain⟨nt,Dk⟩:∃nt,(aw 94 ((aa s).drop k)).isSome=nt:=⟨_,rfl⟩
 obtain⟨k1,ka⟩:∃k1,(if nt=true then k+1 else k)=k1:=⟨_,rfl⟩
 have na:=hid Dk;have mT:=hid ka;have HX:Hid (k1<=m/\oK ((aa s).drop k)=match pD s k1 aJ with|none=>none|some (q,r1)=>if ew (if nt=true then fun x=>!q x else q)=true then none else some ([⟨1,if nt=true then fun x=>!q x else q⟩],r1)):=by
  by_cases aq:k<s.size
  ·have bY:=xR s k aq;by_cases hb:(s[k]'aq).toNat=94
   ·have h1:aw 94 ((aa s).drop k)=some ((aa s).drop (k+1)):=by
     rw[bY];show (if _ then some _ else none)=_;rw[if_pos hb]
    have h2:nt=true:=(by rw[<-Dk,h1];rfl);subst h2;rw[if_pos rfl] at ka;subst ka;refine⟨by omega,?_⟩;unfold oK ec pD;simp only[h1];rcases aD (((aa s).drop (k+1)).length+1) aJ ((aa s).drop (k+1)) with _|⟨q,r1⟩
    ·rfl
    simp;split <;> rfl
   have h1:aw 94 ((aa s).drop k)=none:=by
    rw[bY];show (if _ then some _ else none)=_;rw[if_neg hb]
   have h2:nt=false:=(by rw[<-Dk,h1];rfl);subst h2;rw[if_neg (by decide)] at ka;subst ka;refine⟨hk,?_⟩;unfold oK ec pD;simp only[h1];rcases aD (((aa s).drop k).length+1) aJ ((aa s).drop k) with _|⟨q,r1⟩
   ·rfl
   simp;split <;> rfl
  have h1:aw 94 ((aa s).drop k)=none:=by rw[xB s k (by omega)];rfl
  have h2:nt=false:=by rw[<-Dk,h1];rfl
  subst h2;rw[if_neg (by decide)] at ka;subst ka;refine⟨hk,?_⟩;unfold oK ec pD;simp only[h1];rcases aD (((aa s).drop k).length+1) aJ ((aa s).drop k) with _|⟨q,r1⟩
  ·rfl
  simp;split <;> rfl
 go_cut [7] (fun v wx=>v=.bool nt/\wx=W0)
 case first=>
  by_cases aq:k<m
  ·have i1:(k:Int)<m:=(by omega);have qy:k<s.size:=(by rw[HM.out];exact aq);have bY:=xR s k qy;obtain⟨bt,km⟩:∃bt,(s[k]'qy).toNat=bt:=(⟨_,rfl⟩);rw[km] at bY;have hv:((bt:Int) == 94)=nt:=by
    rw[<-na.out,bY];show _=(if bt=94 then some _ else none).isSome;by_cases e:bt=94
    ·subst e;rfl
    rw[if_neg e];simp;omega
   clear bY Dk ka;go_wp2_with fail
   go_meet
   exact⟨by first|rfl|(rw[hv]),rfl⟩
  have i1:¬((k:Int)<m):=by omega
  have hv:nt=false:=by rw[<-na.out,xB s k (by rw[HM.out];omega)];rfl
  clear Dk ka;go_wp2_with fail
  go_meet
  exact⟨by rw[hv],rfl⟩
 case rest=>
 obtain⟨rfl,rfl⟩:=hcut;obtain⟨W1,p8⟩:∃W1,W1=wc:=⟨_,rfl⟩
 rw[<-p8] at yY⊢;clear p8 Dk ka
 go_upto_if 25 with (fail)
 go_cut [1] (fun v wx=>v=.int .i64 (k1:Int)/\wx=W1)
 case first=>
  rcases ra:nt with _|_
  ·have wm:k1=k:=(by rw[<-mT.out,ra];rfl);subst ra;go_wp2_with fail
   go_meet
   exact⟨by rw[wm],rfl⟩
  have wm:k1=k+1:=by rw[<-mT.out,ra];rfl
  subst ra;go_wp2_with fail
  go_meet
  exact⟨by rw[wm];rfl,rfl⟩
 case rest=>
 obtain⟨rfl,rfl⟩:=hcut;obtain⟨W2,kq⟩:∃W2,W2=wc:=⟨_,rfl⟩
 rw[<-kq] at yY⊢;clear kq;obtain⟨X,hX⟩:∃X,pD s k1 aJ=X:=⟨_,rfl⟩
 have wE:Hid (pD s k1 aJ=X/\Flags W2 g aJ/\Below w.heap.size w W2):=⟨hX,yY.out⟩
 have Aj:=hid HX.out.2;have Rc:=HX.out.1;rw[hX] at Aj;clear hX HX;go_wp2;go_loopw [1] (fun v1 wr=>∃(q:Nat) (p:Nat->Bool),q<=m/\v1=.int .i64 (q:Int)/\Hid (pD s q p=X)/\Hid (Flags wr g p/\Below w.heap.size w wr)) (fun v _=>m-(intOf v).toNat)
 ·exact⟨k1,aJ,Rc,rfl,wE.out.1,wE.out.2⟩
 clear wE;obtain⟨q,p,hq,rfl,HK,HF⟩:=hrel;have AG:Hid (Calls prog 149 #[.slice (some ⟨g,0,none⟩) 256 256] wr fun e w'=>e=.returned (.agg #[.int .u64 (wd p 0),.int .u64 (wd p 1),.int .u64 (wd p 2),.int .u64 (wd p 3)])/\Below wr.heap.size wr w'):=T8 p g 0 256 wr HF.out.1.lt (fun j hj=>by rw[Nat.zero_add];exact (HF.out.1.cell j hj).1);by_cases aq:q<m
 ·have i1:(q:Int)<m:=by omega
  have hqs:q<s.size:=by rw[HM.out];exact aq
  have bY:=xR s q hqs;obtain⟨bt,km⟩:∃bt,(s[q]'hqs).toNat=bt:=⟨_,rfl⟩
  rw[km] at bY;have ep:=hid bY;clear bY;by_cases IG:bt=93
  ·have Rs:Hid (X=some (p,(aa s).drop (q+1))):=by
    show _=_;rw[<-HK.out];exact znX p (by rw[ep.out,IG])
   have i2:((bt:Int) != 93)=false:=(by simp[IG]);go_wp2_with (go_at_call 149;refine AG.out.mono ?_;rintro e w3 ⟨rfl,kb⟩;refine Hid.out ?_);refine hid ?_;have H3:=hid (HF.out.2.trans (kb.mono HF.out.2.size));clear kb
   go_upto_if 114 with (fail)
   have fq:=St.new w3 89 #[.int .u64 (wd p 0),.int .u64 (wd p 1),.int .u64 (wd p 2),.int .u64 (wd p 3)];have su:=qt w3 (.cells #[.int .u64 (wd p 0),.int .u64 (wd p 1),.int .u64 (wd p 2),.int .u64 (wd p 3)] 89);obtain⟨b4,fp⟩:∃b4,w3.heap.size=b4:=(⟨_,rfl⟩);have H4:Hid (St (w3.alloc (.cells #[.int .u64 (wd p 0),.int .u64 (wd p 1),.int .u64 (wd p 2),.int .u64 (wd p 3)] 89)) 89 b4 #[.int .u64 (wd p 0),.int .u64 (wd p 1),.int .u64 (wd p 2),.int .u64 (wd p 3)]/\Below w.heap.size w (w3.alloc (.cells #[.int .u64 (wd p 0),.int .u64 (wd p 1),.int .u64 (wd p 2),.int .u64 (wd p 3)] 89))/\w.heap.size<=b4):=(⟨fp ▸ fq,H3.out.trans (su.mono H3.out.size),by have:=H3.out.size;omega⟩);rw[fp];clear fq su fp;generalize w3.alloc (.cells #[.int .u64 (wd p 0),.int .u64 (wd p 1),.int .u64 (wd p 2),.int .u64 (wd p 3)] 89)=W4 at H4⊢;obtain⟨qf,I3⟩:∃qf,(if nt=true then fun x=>!p x else p)=qf:=(⟨_,rfl⟩);have Fz:=hid I3;clear I3
   go_cut [] (fun wx=>Hid (St wx 89 b4 #[.int .u64 (wd qf 0),.int .u64 (wd qf 1),.int .u64 (wd qf 2),.int .u64 (wd qf 3)]/\Below w.heap.size w wx))
   case first=>
    rcases ra:nt with _|_
    ·have qs:p=qf:=(by rw[<-Fz.out,ra];rfl);subst ra;go_wp2_with fail
     go_meet
     exact⟨qs ▸ H4.out.1,H4.out.2.1⟩
    have qs:(fun x=>!p x)=qf:=(by rw[<-Fz.out,ra];rfl);subst ra;obtain⟨r0,r1,r2,r3,r4,r5,r6,r7⟩:=bQ H4.out.1;have xJ:Hid (Calls prog 146 #[.int .i64 3,(.agg #[.int .u64 (wd p 0),.int .u64 (wd p 1),.int .u64 (wd p 2),.int .u64 (wd p 3)]),(.agg #[.int .u64 (wd p 0),.int .u64 (wd p 1),.int .u64 (wd p 2),.int .u64 (wd p 3)])] W4 fun e w'=>e=.returned (.agg #[.int .u64 (wd qf 0),.int .u64 (wd qf 1),.int .u64 (wd qf 2),.int .u64 (wd qf 3)])/\Below W4.heap.size W4 w'):=by
     rw[<-qs];exact Dl p p W4
    go_wp2_with (go_at_call 146;refine xJ.out.mono ?_;rintro e w5 ⟨rfl,kb⟩;refine Hid.out ?_);refine hid ?_;have H5:Hid (St w5 89 b4 #[.int .u64 (wd p 0),.int .u64 (wd p 1),.int .u64 (wd p 2),.int .u64 (wd p 3)]/\Below w.heap.size w w5):=(⟨H4.out.1.ab kb,H4.out.2.1.trans (kb.mono H4.out.2.1.size)⟩);clear kb r0 r1 r2 r3 r4 r5 r6 r7;obtain⟨r0,r1,r2,r3,r4,r5,r6,r7⟩:=bQ H5.out.1;go_wp2_with fail
    go_meet
    exact⟨H5.out.1.mG _ _ _ _,qA H5.out.2 H4.out.2.2 _ _ _ _⟩
   case rest=>
    obtain⟨W6,tj⟩:∃W6,W6=wc:=(⟨_,rfl⟩);rw[<-tj] at hcut⊢;clear tj;obtain⟨r0,r1,r2,r3,r4,r5,r6,r7⟩:=bQ hcut.out.1;have heq:=VJ;have oc:=ziR qf;obtain⟨z,hz⟩:∃z,ew qf=z:=(⟨_,rfl⟩);rw[show decide ((de qf 256).length=0)=z from hz] at oc;have HZ:=hid hz;have Ks:¬((m:Int)<=q):=(by omega);have fy:Hid (oK ((aa s).drop k)=if z=true then none else some ([⟨1,qf⟩],(aa s).drop (q+1))):=by
     show _=_;rw[Aj.out,Rs.out];simp only[Fz.out,HZ.out]
    clear hz;cases z
    ·have H7:=hid (Mu W6 (B:=w.heap.size) hcut.out.2.size ⟨1,qf⟩);have hk7:=qt W6 (.cells (dd ⟨1,qf⟩).toArray 91);have H8:=hid (hcut.out.2.trans (hk7.mono hcut.out.2.size));clear hk7;go_wp2;go_ret2;exact⟨_,1,1,((q:Int)+1),rfl,H8.out,inr ⟨[⟨1,qf⟩],_,q+1,_,fy.out,by rw[HM.out];omega,by omega,rfl,rfl,by omega,rfl,H7.out⟩⟩
    go_wp2;go_ret2;exact⟨none,0,0,_,rfl,hcut.out.2,inl ⟨fy.out,rfl,rfl,rfl⟩⟩
  have i2:((bt:Int) != 93)=true:=by simp;omega
  obtain⟨⟨c1,n1,Ez⟩,o9⟩:∃x,rd ((aa s).drop q)=x:=⟨_,rfl⟩
  have jD:=Fg ((aa s).drop q) (fun x hx=>A7 s x (List.mem_of_mem_drop hx));rw[o9] at jD;simp only[List.length_drop,wh,HM.out] at jD;have l8:Hid (Calls prog 148 #[.string (s.extract q m)] wr fun e w'=>e=.returned (.tuple #[.int .u8 (c1:Int),.int .i64 (n1:Int),.bool Ez])/\Below wr.heap.size wr w'):=by
   have h1:=SL (s.extract q s.size) (by rw[ByteArray.size_extract];unfold maxLen;omega) wr;rw[Fu,o9,BU,HM.out] at h1;exact h1
  obtain⟨y1,xe⟩:∃y,fV ⟨#[94,45,47,34]⟩ bt=y:=⟨_,rfl⟩
  have ou:Hid (∀W,Calls prog 89 #[.string ⟨#[94,45,47,34]⟩,.int .u8 (bt:Int)] W fun e w'=>e=.returned (.bool y1)/\W=w'):=fun W=>by
   have:=Kd ⟨#[94,45,47,34]⟩ bt W (by decide);rw[xe] at this;exact this
  have uU:Hid (aI du ((aa s).drop q)=if Ez=true/\y1=false then some (c1,(aa s).drop (q+n1)) else none):=by
   show _=_;have h1:=zkw bt ((aa s).drop (q+1)) IG;rw[<-ep.out,o9,xe,Qu] at h1;exact h1
  have zR:=hid IG;have gZ:=jD.1;have da:=jD.2;clear o9 xe jD IG AG;go_wp2_with (go_at_call 148;refine l8.out.mono ?_;rintro e w3 ⟨rfl,kb⟩;refine Hid.out ?_);refine hid ?_;have wK:Hid (Flags w3 g p/\Below w.heap.size w w3):=⟨HF.out.1.ab kb,HF.out.2.trans (kb.mono HF.out.2.size)⟩
  clear kb l8;cases Ez
  ·have vd:Hid (X=none):=by
    show _=_;rw[<-HK.out];exact FA p ep.out zR.out (zo2 (by rw[uU.out];rfl))
   go_wp2;go_ret2;exact⟨none,0,0,_,rfl,wK.out.2,inl ⟨by rw[Aj.out,vd.out],rfl,rfl,rfl⟩⟩
  obtain⟨RY,OH⟩:=da rfl;go_wp2_with (go_at_call 89;refine (ou.out _).mono ?_;rintro e W9 ⟨rfl,rfl⟩;refine Hid.out ?_);refine hid ?_;clear ou;cases y1
  ·obtain⟨q1,BZ⟩:∃q1,q+n1=q1:=(⟨_,rfl⟩);have hq1i:(q:Int)+(n1:Int)=q1:=(by omega);have fj:Hid (aI du ((aa s).drop q)=some (c1,(aa s).drop q1)):=by
    show _=_;rw[uU.out,<-BZ];rfl
   have hq1m:q1<=m:=(by omega);have hqq1:q<q1:=(by omega);clear uU BZ da;by_cases TG:q1<m
   ·have d1:(q1:Int)<m:=(by omega);have GA:q1<s.size:=(by rw[HM.out];exact TG);have Ex:=xR s q1 GA;obtain⟨KT,Pw⟩:∃bt,(s[q1]'GA).toNat=bt:=(⟨_,rfl⟩);rw[Pw] at Ex;have GV:=hid Ex;clear Ex;by_cases Lr:KT=45
    ·have d2:(KT:Int)=45:=(by omega);have wI:Hid (aw 45 ((aa s).drop q1)=some ((aa s).drop (q1+1))):=by
      show _=_;rw[GV.out];show (if KT=45 then some _ else none)=_;rw[if_pos Lr]
     subst Lr;by_cases hd3:q1+1<m
     ·have d3:¬((m:Int)<=q1+1):=(by omega);have d4:(q1:Int)+1<(m:Int):=(by omega);have JR:q1+1<s.size:=(by rw[HM.out];exact hd3);have ll:=xR s (q1+1) JR;obtain⟨CM,C2⟩:∃bt,(s[q1+1]'JR).toNat=bt:=(⟨_,rfl⟩);rw[C2] at ll;have gd:=hid ll;clear ll;obtain⟨⟨c2,n2,Sw⟩,o9⟩:∃x,rd ((aa s).drop (q1+1))=x:=(⟨_,rfl⟩);have gy:=Fg ((aa s).drop (q1+1)) (fun x hx=>A7 s x (List.mem_of_mem_drop hx));rw[o9] at gy;simp only[List.length_drop,wh,HM.out] at gy;have l8:Hid (∀W,Calls prog 148 #[.string (s.extract (q1+1) m)] W fun e w'=>e=.returned (.tuple #[.int .u8 (c2:Int),.int .i64 (n2:Int),.bool Sw])/\Below W.heap.size W w'):=fun W=>by
       have h1:=SL (s.extract (q1+1) s.size) (by rw[ByteArray.size_extract];unfold maxLen;omega) W;rw[Fu,o9,BU,HM.out] at h1;exact h1
      obtain⟨y2,nc⟩:∃y,fV ⟨#[93,94,45,47,34]⟩ CM=y:=(⟨_,rfl⟩);have ou:Hid (∀W,Calls prog 89 #[.string ⟨#[93,94,45,47,34]⟩,.int .u8 (CM:Int)] W fun e w'=>e=.returned (.bool y2)/\W=w'):=fun W=>by
       have:=Kd ⟨#[93,94,45,47,34]⟩ CM W (by decide);rw[nc] at this;exact this
      have uU:Hid (aI du ((aa s).drop (q1+1))=if Sw=true/\y2=false then some (c2,(aa s).drop (q1+1+n2)) else none):=by
       show _=_;have h1:=zkx CM ((aa s).drop (q1+1+1));rw[<-gd.out,o9,nc,Qu] at h1;exact h1
      have fB:=gy.1;have cU:=gy.2;clear o9 nc gy;go_wp2_with (go_at_call 89;refine (ou.out _).mono ?_;rintro e W9 ⟨rfl,rfl⟩;refine Hid.out ?_);refine hid ?_;clear ou;cases y2
      ·go_wp2_with (go_at_call 148;refine (l8.out _).mono ?_;rintro e w4 ⟨rfl,kb⟩;refine Hid.out ?_);refine hid ?_;have Uf:Hid (Flags w4 g p/\Below w.heap.size w w4):=(⟨wK.out.1.ab kb,wK.out.2.trans (kb.mono wK.out.2.size)⟩);clear kb l8;cases Sw
       ·have vd:Hid (X=none):=by
         show _=_;rw[<-HK.out];exact FA p ep.out zR.out (MH fj.out wI.out (fun c r h=>by rw[uU.out] at h;simp at h))
        go_wp2;go_ret2;exact⟨none,0,0,_,rfl,Uf.out.2,inl ⟨by rw[Aj.out,vd.out],rfl,rfl,rfl⟩⟩
       obtain⟨hn2a,hn2b⟩:=cU rfl;by_cases tv:c2<c1
       ·have d5:(c2:Int)<c1:=(by omega);have vd:Hid (X=none):=by
         show _=_;rw[<-HK.out];refine FA p ep.out zR.out (MH fj.out wI.out (fun c r h=>?_));rw[uU.out] at h;simp at h;omega
        go_wp2;go_ret2;exact⟨none,0,0,_,rfl,Uf.out.2,inl ⟨by rw[Aj.out,vd.out],rfl,rfl,rfl⟩⟩
       have d5:¬((c2:Int)<c1):=(by omega);obtain⟨q3,hq3⟩:∃q3,q1+1+n2=q3:=(⟨_,rfl⟩);have hq3i:(q1:Int)+1+(n2:Int)=q3:=(by omega);have rJ:Hid (pD s q3 (fun x=>p x || ar c1 (c2+1-c1) x)=X):=by
        show _=_;rw[<-HK.out];exact (Uk p ep.out zR.out (znY fj.out wI.out (by rw[uU.out,<-hq3];rfl) (by omega))).symm
       clear uU cU fj wI tv;have ry:(fun x=>p x || ar c1 (c1-c1) x)=p:=by
        funext x;rw[sub_self,GZ];exact Bool.or_false _
       have nf:Hid (Flags w4 g (fun x=>p x || ar c1 (c1-c1) x)/\Below w.heap.size w w4):=(by rw[ry];exact Uf.out);have GF:Hid (c1<=c2+1):=(by show _<=_;omega);have i8:IntKind.i64.wrap (c1:Int)=c1:=i64_in _ (by omega);have i9:IntKind.i64.wrap (c2:Int)=c2:=i64_in _ (by omega);clear ry;go_wp2;go_loopw [12] (fun v12 wq=>∃b:Nat,v12=.int .i64 (b:Int)/\c1<=b/\b<=c2+1/\Hid (Flags wq g (fun x=>p x || ar c1 (b-c1) x)/\Below w.heap.size w wq)) (fun v _=>c2+1-(intOf v).toNat)
       ·exact⟨c1,rfl,le_refl _,by have:=GF.out;omega,nf.out⟩
       clear nf;obtain⟨b,rfl,CK,ZX,hY⟩:=hrel;by_cases hb:b<=c2
       ·have j1:(b:Int)<=c2:=(by omega);have j2:(b:Int)<256:=(by omega);obtain⟨y0,y1⟩:=hY.out.1.cell b (by omega);have ug:Hid (Flags (wr.setCell ⟨g,b,none⟩ (.bool true)) g (fun x=>p x || ar c1 (b+1-c1) x)/\Below w.heap.size w (wr.setCell ⟨g,b,none⟩ (.bool true))):=(⟨by rw[OS p c1 b CK];exact hY.out.1.set b (by omega),hY.out.2.setCell (p:=⟨g,b,none⟩) HG.out _⟩);go_wp2;go_roundw
        ·exact⟨b+1,by go_num,by omega,by omega,ug.out⟩
        simp[intOf];omega
       obtain rfl:b=c2+1:=(by omega);have j1:¬(((c2+1:Nat):Int)<=(c2:Int)):=(by omega);have Zq:¬((c2:Int)+1<=(c2:Int)):=(by omega);go_wp2;go_roundw
       ·exact⟨q3,_,by omega,rfl,rJ.out,hY.out⟩
       simp[intOf];omega
      have vd:Hid (X=none):=by
       show _=_;rw[<-HK.out];exact FA p ep.out zR.out (MH fj.out wI.out (fun c r h=>by rw[uU.out] at h;simp at h))
      go_wp2;go_ret2;exact⟨none,0,0,_,rfl,wK.out.2,inl ⟨by rw[Aj.out,vd.out],rfl,rfl,rfl⟩⟩
     have d3:(m:Int)<=q1+1:=(by omega);have vd:Hid (X=none):=by
      show _=_;rw[<-HK.out];exact FA p ep.out zR.out (MH fj.out wI.out (fun c r h=>by rw[xB s (q1+1) (by rw[HM.out];omega),Xm] at h;cases h))
     go_wp2;go_ret2;exact⟨none,0,0,_,rfl,wK.out.2,inl ⟨by rw[Aj.out,vd.out],rfl,rfl,rfl⟩⟩
    have d2:¬((KT:Int)=45):=(by omega);have rJ:Hid (pD s q1 (fun x=>p x || ar c1 (c1+1-c1) x)=X):=by
     show _=_;rw[<-HK.out];exact (Uk p ep.out zR.out (zjn fj.out (by rw[GV.out];show (if KT=45 then some _ else none)=none;rw[if_neg Lr]))).symm
    clear fj Lr;have ry:(fun x=>p x || ar c1 (c1-c1) x)=p:=by
     funext x;rw[sub_self,GZ];exact Bool.or_false _
    have nf:Hid (Flags w3 g (fun x=>p x || ar c1 (c1-c1) x)/\Below w.heap.size w w3):=(by rw[ry];exact wK.out);have GF:Hid (c1<=c1+1):=(by show _<=_;omega);have i8:IntKind.i64.wrap (c1:Int)=c1:=i64_in _ (by omega);have i9:IntKind.i64.wrap (c1:Int)=c1:=i64_in _ (by omega);clear ry;go_wp2;go_loopw [12] (fun v12 wq=>∃b:Nat,v12=.int .i64 (b:Int)/\c1<=b/\b<=c1+1/\Hid (Flags wq g (fun x=>p x || ar c1 (b-c1) x)/\Below w.heap.size w wq)) (fun v _=>c1+1-(intOf v).toNat)
    ·exact⟨c1,rfl,le_refl _,by have:=GF.out;omega,nf.out⟩
    clear nf;obtain⟨b,rfl,CK,ZX,hY⟩:=hrel;by_cases hb:b<=c1
    ·have j1:(b:Int)<=c1:=(by omega);have j2:(b:Int)<256:=(by omega);obtain⟨y0,y1⟩:=hY.out.1.cell b (by omega);have ug:Hid (Flags (wr.setCell ⟨g,b,none⟩ (.bool true)) g (fun x=>p x || ar c1 (b+1-c1) x)/\Below w.heap.size w (wr.setCell ⟨g,b,none⟩ (.bool true))):=(⟨by rw[OS p c1 b CK];exact hY.out.1.set b (by omega),hY.out.2.setCell (p:=⟨g,b,none⟩) HG.out _⟩);go_wp2;go_roundw
     ·exact⟨b+1,by go_num,by omega,by omega,ug.out⟩
     simp[intOf];omega
    obtain rfl:b=c1+1:=(by omega);have j1:¬(((c1+1:Nat):Int)<=(c1:Int)):=(by omega);have Zq:¬((c1:Int)+1<=(c1:Int)):=(by omega);go_wp2;go_roundw
    ·exact⟨q1,_,by omega,rfl,rJ.out,hY.out⟩
    simp[intOf];omega
   have d1:¬((q1:Int)<m):=(by omega);have rJ:Hid (pD s q1 (fun x=>p x || ar c1 (c1+1-c1) x)=X):=by
    show _=_;rw[<-HK.out];exact (Uk p ep.out zR.out (zjn fj.out (by rw[xB s q1 (by rw[HM.out];omega)];rfl))).symm
   clear fj;have ry:(fun x=>p x || ar c1 (c1-c1) x)=p:=by
    funext x;rw[sub_self,GZ];exact Bool.or_false _
   have nf:Hid (Flags w3 g (fun x=>p x || ar c1 (c1-c1) x)/\Below w.heap.size w w3):=(by rw[ry];exact wK.out);have GF:Hid (c1<=c1+1):=(by show _<=_;omega);have i8:IntKind.i64.wrap (c1:Int)=c1:=i64_in _ (by omega);have i9:IntKind.i64.wrap (c1:Int)=c1:=i64_in _ (by omega);clear ry;go_wp2;go_loopw [12] (fun v12 wq=>∃b:Nat,v12=.int .i64 (b:Int)/\c1<=b/\b<=c1+1/\Hid (Flags wq g (fun x=>p x || ar c1 (b-c1) x)/\Below w.heap.size w wq)) (fun v _=>c1+1-(intOf v).toNat)
   ·exact⟨c1,rfl,le_refl _,by have:=GF.out;omega,nf.out⟩
   clear nf;obtain⟨b,rfl,CK,ZX,hY⟩:=hrel;by_cases hb:b<=c1
   ·have j1:(b:Int)<=c1:=(by omega);have j2:(b:Int)<256:=(by omega);obtain⟨y0,y1⟩:=hY.out.1.cell b (by omega);have ug:Hid (Flags (wr.setCell ⟨g,b,none⟩ (.bool true)) g (fun x=>p x || ar c1 (b+1-c1) x)/\Below w.heap.size w (wr.setCell ⟨g,b,none⟩ (.bool true))):=(⟨by rw[OS p c1 b CK];exact hY.out.1.set b (by omega),hY.out.2.setCell (p:=⟨g,b,none⟩) HG.out _⟩);go_wp2;go_roundw
    ·exact⟨b+1,by go_num,by omega,by omega,ug.out⟩
    simp[intOf];omega
   obtain rfl:b=c1+1:=(by omega);have j1:¬(((c1+1:Nat):Int)<=(c1:Int)):=(by omega);have Zq:¬((c1:Int)+1<=(c1:Int)):=(by omega);go_wp2;go_roundw
   ·exact⟨q1,_,by omega,rfl,rJ.out,hY.out⟩
   simp[intOf];omega
  have vd:Hid (X=none):=by
   show _=_;rw[<-HK.out];exact FA p ep.out zR.out (zo2 (by rw[uU.out];rfl))
  go_wp2;go_ret2;exact⟨none,0,0,_,rfl,wK.out.2,inl ⟨by rw[Aj.out,vd.out],rfl,rfl,rfl⟩⟩
 have i1:¬((q:Int)<m):=by omega
 have Rs:Hid (X=none):=by
  show _=_;rw[<-HK.out];exact zp9 p (by rw[HM.out];omega)
 go_wp2_with (go_at_call 149;refine AG.out.mono ?_;rintro e w3 ⟨rfl,kb⟩;refine Hid.out ?_);refine hid ?_;have H3:=hid (HF.out.2.trans (kb.mono HF.out.2.size));clear kb
 go_upto_if 114 with (fail)
 have fq:=St.new w3 89 #[.int .u64 (wd p 0),.int .u64 (wd p 1),.int .u64 (wd p 2),.int .u64 (wd p 3)];have su:=qt w3 (.cells #[.int .u64 (wd p 0),.int .u64 (wd p 1),.int .u64 (wd p 2),.int .u64 (wd p 3)] 89);obtain⟨b4,fp⟩:∃b4,w3.heap.size=b4:=⟨_,rfl⟩
 have H4:Hid (St (w3.alloc (.cells #[.int .u64 (wd p 0),.int .u64 (wd p 1),.int .u64 (wd p 2),.int .u64 (wd p 3)] 89)) 89 b4 #[.int .u64 (wd p 0),.int .u64 (wd p 1),.int .u64 (wd p 2),.int .u64 (wd p 3)]/\Below w.heap.size w (w3.alloc (.cells #[.int .u64 (wd p 0),.int .u64 (wd p 1),.int .u64 (wd p 2),.int .u64 (wd p 3)] 89))/\w.heap.size<=b4):=⟨fp ▸ fq,H3.out.trans (su.mono H3.out.size),by have:=H3.out.size;omega⟩
 rw[fp];clear fq su fp;generalize w3.alloc (.cells #[.int .u64 (wd p 0),.int .u64 (wd p 1),.int .u64 (wd p 2),.int .u64 (wd p 3)] 89)=W4 at H4⊢;obtain⟨qf,I3⟩:∃qf,(if nt=true then fun x=>!p x else p)=qf:=⟨_,rfl⟩
 have Fz:=hid I3;clear I3
 go_cut [] (fun wx=>Hid (St wx 89 b4 #[.int .u64 (wd qf 0),.int .u64 (wd qf 1),.int .u64 (wd qf 2),.int .u64 (wd qf 3)]/\Below w.heap.size w wx))
 case first=>
  rcases ra:nt with _|_
  ·have qs:p=qf:=(by rw[<-Fz.out,ra];rfl);subst ra;go_wp2_with fail
   go_meet
   exact⟨qs ▸ H4.out.1,H4.out.2.1⟩
  have qs:(fun x=>!p x)=qf:=by rw[<-Fz.out,ra];rfl
  subst ra;obtain⟨r0,r1,r2,r3,r4,r5,r6,r7⟩:=bQ H4.out.1;have xJ:Hid (Calls prog 146 #[.int .i64 3,(.agg #[.int .u64 (wd p 0),.int .u64 (wd p 1),.int .u64 (wd p 2),.int .u64 (wd p 3)]),(.agg #[.int .u64 (wd p 0),.int .u64 (wd p 1),.int .u64 (wd p 2),.int .u64 (wd p 3)])] W4 fun e w'=>e=.returned (.agg #[.int .u64 (wd qf 0),.int .u64 (wd qf 1),.int .u64 (wd qf 2),.int .u64 (wd qf 3)])/\Below W4.heap.size W4 w'):=by
   rw[<-qs];exact Dl p p W4
  go_wp2_with (go_at_call 146;refine xJ.out.mono ?_;rintro e w5 ⟨rfl,kb⟩;refine Hid.out ?_);refine hid ?_;have H5:Hid (St w5 89 b4 #[.int .u64 (wd p 0),.int .u64 (wd p 1),.int .u64 (wd p 2),.int .u64 (wd p 3)]/\Below w.heap.size w w5):=⟨H4.out.1.ab kb,H4.out.2.1.trans (kb.mono H4.out.2.1.size)⟩
  clear kb r0 r1 r2 r3 r4 r5 r6 r7;obtain⟨r0,r1,r2,r3,r4,r5,r6,r7⟩:=bQ H5.out.1;go_wp2_with fail
  go_meet
  exact⟨H5.out.1.mG _ _ _ _,qA H5.out.2 H4.out.2.2 _ _ _ _⟩
 case rest=>
  obtain⟨W6,tj⟩:∃W6,W6=wc:=⟨_,rfl⟩
  rw[<-tj] at hcut⊢;clear tj;obtain⟨r0,r1,r2,r3,r4,r5,r6,r7⟩:=bQ hcut.out.1;have Ks:(m:Int)<=q:=by omega
  have fy:Hid (oK ((aa s).drop k)=none):=by
   show _=_;rw[Aj.out,Rs.out]
  go_wp2;go_ret2;exact⟨none,0,0,_,rfl,hcut.out.2,inl ⟨fy.out,rfl,rfl,rfl⟩⟩
theorem zq1(k:Int):(dd ⟨k,aJ⟩).toArray=#[.int .i64 k,.int .u64 0,.int .u64 0,.int .u64 0,.int .u64 0]:=by
 have:∀j,wd aJ j=0:=fun j=>wQ j
 simp[dd,this]
theorem Uz(bt:Nat):fV ⟨#[124,41,42,43,63,93,47,34]⟩ bt=true↔(bt=124\/bt=41\/bt=42\/bt=43\/bt=63\/bt=93\/bt=47\/bt=34):=by
 unfold fV;simp;omega
theorem zfh(bt:Nat):fV nC bt=true↔(bt=47\/bt=40\/bt=41\/bt=91\/bt=93\/bt=124\/bt=42\/bt=43\/bt=63\/bt=46\/bt=34\/bt=126):=by
 unfold fV nC;simp;omega
theorem gD{bt:Nat}(t:List Nat)(h:bt≠c):aw c (bt :: t)=none:=by show (if _ then _ else none)=none;rw[if_neg h]
theorem rE(c:Nat)(t:List Nat):aw c (c :: t)=some t:=by show (if _ then some _ else none)=_;rw[if_pos rfl]
theorem znZ(jN:bf->Option bf):sub (aW jN) []=none:=by
 unfold sub aW;simp only[aw];rw[Xm]
theorem zn0(jN:bf->Option bf)(bt:Nat)(t:List Nat)(h:fV ⟨#[124,41,42,43,63,93,47,34]⟩ bt=true):sub (aW jN) (bt :: t)=none:=by
 have hc:=(Uz bt).1 h;unfold sub aW;simp only;rw[gD t (show bt≠46 by omega),gD t (show bt≠126 by omega),gD t (show bt≠40 by omega),gD t (show bt≠91 by omega)];simp only;rw[Ma,if_neg];rintro⟨_,h1|h1⟩
 ·omega
 rw[(zfh bt).2 (by omega)] at h1;cases h1
theorem zn1(jN:bf->Option bf)(t:List Nat):sub (aW jN) (46 :: t)=some ([⟨1,fun _=>true⟩],t):=by
 unfold sub aW;simp only;rw[rE];rfl
theorem zn2(jN:bf->Option bf)(t:List Nat):sub (aW jN) (126 :: t)=some ([⟨0,aJ⟩],t):=by
 unfold sub aW;simp only;rw[gD t (by decide),rE];rfl
theorem Vn(jN:bf->Option bf)(t:List Nat):sub (aW jN) (40 :: t)=jN ([],t):=by
 unfold sub aW;simp only;rw[gD t (by decide),gD t (by decide),rE]
theorem zn3(jN:bf->Option bf)(t:List Nat):sub (aW jN) (91 :: t)=oK t:=by
 unfold sub aW oK;simp only;rw[gD t (by decide),gD t (by decide),gD t (by decide),rE];simp only;rcases ec t with _|⟨q,r⟩ <;> rfl
theorem zn4(jN:bf->Option bf)(bt:Nat)(t:List Nat)(h0:fV ⟨#[124,41,42,43,63,93,47,34]⟩ bt=false)(h1:bt≠46)(h2:bt≠126)(h3:bt≠91)(h4:bt≠40):
  sub (aW jN) (bt :: t)=if (rd (bt :: t)).2.2=true then some ([⟨1,eP (fun _=>(rd (bt :: t)).1) 1⟩],(bt :: t).drop (rd (bt :: t)).2.1) else none:=by
 have hn:¬(bt=124\/bt=41\/bt=42\/bt=43\/bt=63\/bt=93\/bt=47\/bt=34):=fun h=>by rw[(Uz bt).2 h] at h0;cases h0
 have ho:fV nC bt=false:=by
  rcases h:fV nC bt with _|_
  ·rfl
  have:=(zfh bt).1 h;omega
 unfold sub aW;simp only;rw[gD t h1,gD t h2,gD t h4,gD t h3];simp only;rw[Ma];rcases hk:(rd (bt :: t)).2.2 with _|_
 ·rw[if_neg (by simp),if_neg (by simp)]
 rw[if_pos ⟨rfl,inr ho⟩,if_pos rfl];rfl
theorem zmc(D:Nat)(hD:D<=99)(jN:bf->Option bf)(RT:D=99->jN=fun _=>none)(hg:D<99->∃vt,jN=eh vt/\nL 32 (sub (bh vt)) (D+1)):nL 128 (sub (aW jN)) D:=by
 intro s k w hs hk;obtain⟨m,hm⟩:∃m,s.size=m:=⟨_,rfl⟩
 have HM:=hid hm;have HG:=ζ RT hg;rw[hm] at hs hk;clear RT hg;go_in;by_cases aq:k<m
 ·have i1:¬((m:Int)<=k):=by omega
  have i1':(k:Int)<m:=by omega
  have qy:k<s.size:=by rw[HM.out];exact aq
  have bY:=xR s k qy;obtain⟨bt,km⟩:∃bt,(s[k]'qy).toNat=bt:=⟨_,rfl⟩
  rw[km] at bY;have ep:=hid bY;clear bY;obtain⟨y,hy⟩:∃y,fV ⟨#[124,41,42,43,63,93,47,34]⟩ bt=y:=⟨_,rfl⟩
  have ou:Hid (∀W,Calls prog 89 #[.string ⟨#[124,41,42,43,63,93,47,34]⟩,.int .u8 (bt:Int)] W fun e w'=>e=.returned (.bool y)/\W=w'):=fun W=>by
   have:=Kd ⟨#[124,41,42,43,63,93,47,34]⟩ bt W (by decide);rw[hy] at this;exact this
  have Hy:=hid hy;clear hy;go_wp2_with (go_at_call 89;refine (ou.out _).mono ?_;rintro e W9 ⟨rfl,rfl⟩;refine Hid.out ?_);refine hid ?_;clear ou;cases y
  ·by_cases Vf:bt=46
   ·subst Vf;have xJ:Hid (∀W,Calls prog 146 #[.int .i64 3,.agg #[.int .u64 0,.int .u64 0,.int .u64 0,.int .u64 0],.agg #[.int .u64 0,.int .u64 0,.int .u64 0,.int .u64 0]] W fun e w'=>e=.returned (.agg #[.int .u64 ((wd ((fun _=>true)) 0:Nat):Int),.int .u64 ((wd ((fun _=>true)) 1:Nat):Int),.int .u64 ((wd ((fun _=>true)) 2:Nat):Int),.int .u64 ((wd ((fun _=>true)) 3:Nat):Int)])/\Below W.heap.size W w'):=fun W=>by
     have:=Dl (fun _=>false) (fun _=>false) W;simp only[wQ] at this;exact this
    have fy:Hid (sub (aW jN) ((aa s).drop k)=some ([⟨1,fun _=>true⟩],(aa s).drop (k+1))):=(by show _=_;rw[ep.out,zn1]);go_wp2_with (go_at_call 146;refine (xJ.out _).mono ?_;rintro e w3 ⟨rfl,kb⟩;refine Hid.out ?_);refine hid ?_;have H7:=hid (Mu w3 (B:=w.heap.size) kb.size ⟨1,fun _=>true⟩);have H8:=hid (kb.trans ((qt w3 (.cells (dd ⟨1,fun _=>true⟩).toArray 91)).mono kb.size));clear kb;go_wp2;go_ret2;exact⟨_,1,1,((k:Int)+1),rfl,H8.out,inr ⟨_,_,k+1,_,fy.out,by rw[HM.out];omega,by omega,rfl,rfl,by omega,rfl,H7.out⟩⟩
   have e46:¬((bt:Int)=46):=(by omega);by_cases Gn:bt=126
   ·subst Gn;have fy:Hid (sub (aW jN) ((aa s).drop k)=some ([⟨0,aJ⟩],(aa s).drop (k+1))):=(by show _=_;rw[ep.out,zn2]);have H7:=hid (Mu w (B:=w.heap.size) (le_refl _) ⟨0,aJ⟩);have H8:=hid (qt w (.cells (dd ⟨0,aJ⟩).toArray 91));rw[zq1] at H7 H8;go_wp2;go_ret2;exact⟨_,1,1,((k:Int)+1),rfl,H8.out,inr ⟨_,_,k+1,_,fy.out,by rw[HM.out];omega,by omega,rfl,rfl,by omega,rfl,H7.out⟩⟩
   have e126:¬((bt:Int)=126):=(by omega);by_cases YG:bt=91
   ·subst YG;have HB:=hid (zqa s (k+1) w (by rw[HM.out];omega) (by rw[HM.out];omega));have fy:Hid (∀e w',yr oK s (k+1) w e w'->yr (sub (aW jN)) s k w e w'):=fun e w' h=>by
     obtain⟨a,n,c,p,h1,h2,h3⟩:=h;refine⟨a,n,c,p,h1,h2,?_⟩;rw[ep.out,zn3];exact h3
    go_wp2_with (go_at_call 147;refine HB.out.mono ?_;rintro e w3 hR;obtain⟨a,n,c,p,rfl,kb,hP⟩:=hR;refine Hid.out ?_);refine hid ?_;have HR:=hid (fy.out _ w3 ⟨a,n,c,p,rfl,kb,hP⟩);clear kb hP;go_wp2;go_ret2;exact HR.out
   have LO:¬((bt:Int)=91):=(by omega);by_cases QC:bt=40
   ·subst QC;by_cases h99:D<99
    ·obtain⟨vt,ov,Iu⟩:=HG.out.2 h99;have d0:¬((99:Int)<=D):=(by omega);have HC:=hid (Iu s (k+1) w (by rw[HM.out];omega) (by rw[HM.out];omega));have HA:Hid (sub (aW jN) ((aa s).drop k)=match sub (bh vt) ((aa s).drop (k+1)) with|none=>none|some x=>match aw 41 x.2 with|none=>none|some r=>some (x.1,r)):=by
      show _=_;rw[ep.out,Vn,ov];unfold eh sub;rcases bh vt ([],(aa s).drop (k+1)) with _|x
      ·rfl
      simp only;rcases aw 41 x.2 with _|r <;> rfl
     clear Iu ov HG;go_wp2_with (go_at_call 32;refine HC.out.mono ?_;rintro e w3 ⟨a,n,c,p,rfl,kb,hP⟩;refine Hid.out ?_);refine hid ?_;have HB:=hid kb;clear kb HC;rcases hP with ⟨hz,rfl,rfl,rfl⟩|⟨l,r,q,b,hz,hq,rfl,rfl,lC,kT,rfl,az⟩
     ·have fy:Hid (sub (aW jN) ((aa s).drop k)=none):=(by show _=_;rw[HA.out,hz]);have hN:=NG w3;clear hz;go_wp2;go_ret2;exact⟨none,0,0,_,rfl,HB.out,inl ⟨fy.out,rfl,rfl,rfl⟩⟩
     rw[HM.out] at hq;have hN:=MJ w3 b n c;have HZ:=hid hz;have HO:=ζ az lC;clear hz az lC;by_cases qs:q<m
     ·have j1:¬((m:Int)<=q):=(by omega);have j2:(q:Int)<m:=(by omega);have hqs:q<s.size:=(by rw[HM.out];exact qs);have ll:=xR s q hqs;obtain⟨CM,C2⟩:∃bt,(s[q]'hqs).toNat=bt:=(⟨_,rfl⟩);rw[C2] at ll;have gd:=hid ll;clear ll;by_cases RR:CM=41
      ·have fy:Hid (sub (aW jN) ((aa s).drop k)=some (l,(aa s).drop (q+1))):=by
        show _=_;rw[HA.out,HZ.out];simp only[gd.out,RR];rw[rE]
       subst RR;go_wp2;go_ret2;exact⟨_,n,c,((q:Int)+1),rfl,HB.out,inr ⟨l,_,q+1,b,fy.out,by rw[HM.out];omega,by omega,rfl,HO.out.2,kT,rfl,HO.out.1⟩⟩
      have j3:((CM:Int) != 41)=true:=(by simp;omega);have fy:Hid (sub (aW jN) ((aa s).drop k)=none):=by
       show _=_;rw[HA.out,HZ.out];simp only[gd.out];rw[gD _ RR]
      go_wp2;go_ret2;exact⟨none,0,0,_,rfl,HB.out,inl ⟨fy.out,rfl,rfl,rfl⟩⟩
     have j1:(m:Int)<=q:=(by omega);have fy:Hid (sub (aW jN) ((aa s).drop k)=none):=by
      show _=_;rw[HA.out,HZ.out];simp only;rw[xB s q (by rw[HM.out];omega)];rfl
     go_wp2;go_ret2;exact⟨none,0,0,_,rfl,HB.out,inl ⟨fy.out,rfl,rfl,rfl⟩⟩
    have d0:(99:Int)<=D:=(by omega);have fy:Hid (sub (aW jN) ((aa s).drop k)=none):=(by show _=_;rw[ep.out,Vn,HG.out.1 (by omega)]);go_wp2;go_ret2;exact⟨none,0,0,_,rfl,Below.refl _ _,inl ⟨fy.out,rfl,rfl,rfl⟩⟩
   have e40:¬((bt:Int)=40):=(by omega);obtain⟨⟨c1,n1,Ez⟩,o9⟩:∃x,rd ((aa s).drop k)=x:=(⟨_,rfl⟩);have jD:=Fg ((aa s).drop k) (fun x hx=>A7 s x (List.mem_of_mem_drop hx));rw[o9] at jD;simp only[List.length_drop,wh,HM.out] at jD;have l8:Hid (Calls prog 148 #[.string (s.extract k m)] w fun e w'=>e=.returned (.tuple #[.int .u8 (c1:Int),.int .i64 (n1:Int),.bool Ez])/\Below w.heap.size w w'):=by
    have h1:=SL (s.extract k s.size) (by rw[ByteArray.size_extract];unfold maxLen;omega) w;rw[Fu,o9,BU,HM.out] at h1;exact h1
   have HA:Hid (sub (aW jN) ((aa s).drop k)=if Ez=true then some ([⟨1,eP (fun _=>c1) 1⟩],(aa s).drop (k+n1)) else none):=by
    show _=_;have h1:=zn4 jN bt ((aa s).drop (k+1)) Hy.out Vf Gn YG QC;rw[<-ep.out,o9,Qu] at h1;exact h1
   have gZ:=jD.1;have da:=jD.2;have fJ:=VT;clear o9 jD;go_wp2_with (go_at_call 148;refine l8.out.mono ?_;rintro e w3 ⟨rfl,kb⟩;refine Hid.out ?_);refine hid ?_;have HB:=hid kb;clear kb l8;cases Ez
   ·have fy:Hid (sub (aW jN) ((aa s).drop k)=none):=(by show _=_;rw[HA.out];rfl);go_wp2;go_ret2;exact⟨none,0,0,_,rfl,HB.out,inl ⟨fy.out,rfl,rfl,rfl⟩⟩
   obtain⟨RY,OH⟩:=da rfl;have fy:Hid (sub (aW jN) ((aa s).drop k)=some ([⟨1,eP (fun _=>c1) 1⟩],(aa s).drop (k+n1))):=(by show _=_;rw[HA.out];rfl);go_upto_region 20 with fail;have Jx:=VQ w3;have ay:=qt w3 (.cells (replicate 256 (.bool false)) 4);obtain⟨g,hg⟩:∃g,w3.heap.size=g:=(⟨_,rfl⟩);have yY:Hid (Flags (w3.alloc (.cells (replicate 256 (.bool false)) 4)) g aJ/\Below w.heap.size w (w3.alloc (.cells (replicate 256 (.bool false)) 4))/\w.heap.size<=g):=(⟨hg ▸ Jx,HB.out.trans (ay.mono HB.out.size),by have:=HB.out.size;omega⟩);rw[hg];clear Jx ay hg;generalize w3.alloc (.cells (replicate 256 (.bool false)) 4)=W4 at yY⊢;obtain⟨y0,y1⟩:=yY.out.1.cell c1 gZ;have j2:(c1:Int)<256:=(by omega);have EN:Hid (Flags (W4.setCell ⟨g,c1,none⟩ (.bool true)) g (eP (fun _=>c1) 1)/\Below w.heap.size w (W4.setCell ⟨g,c1,none⟩ (.bool true))):=(⟨yY.out.1.set c1 gZ,yY.out.2.1.setCell (p:=⟨g,c1,none⟩) yY.out.2.2 _⟩);go_upto_region 21 with fail;generalize W4.setCell ⟨g,c1,none⟩ (.bool true)=W5 at EN⊢;have AG:Hid (Calls prog 149 #[.slice (some ⟨g,0,none⟩) 256 256] W5 fun e w'=>e=.returned (.agg #[.int .u64 ((wd ((eP (fun _=>c1) 1)) 0:Nat):Int),.int .u64 ((wd ((eP (fun _=>c1) 1)) 1:Nat):Int),.int .u64 ((wd ((eP (fun _=>c1) 1)) 2:Nat):Int),.int .u64 ((wd ((eP (fun _=>c1) 1)) 3:Nat):Int)])/\Below W5.heap.size W5 w'):=T8 (eP (fun _=>c1) 1) g 0 256 W5 EN.out.1.lt (fun j hj=>by rw[Nat.zero_add];exact (EN.out.1.cell j hj).1);clear y0 y1;go_wp2_with (go_at_call 149;refine AG.out.mono ?_;rintro e w6 ⟨rfl,kb⟩;refine Hid.out ?_);refine hid ?_;have Ay:=hid (EN.out.2.trans (kb.mono EN.out.2.size));clear kb;have H7:=hid (Mu w6 (B:=w.heap.size) Ay.out.size ⟨1,eP (fun _=>c1) 1⟩);have H8:=hid (Ay.out.trans ((qt w6 (.cells (dd ⟨1,eP (fun _=>c1) 1⟩).toArray 91)).mono Ay.out.size));go_wp2;go_ret2;exact⟨_,1,1,((k:Int)+(n1:Int)),rfl,H8.out,inr ⟨_,_,k+n1,_,fy.out,by rw[HM.out];omega,by omega,rfl,rfl,by omega,rfl,H7.out⟩⟩
  have fy:Hid (sub (aW jN) ((aa s).drop k)=none):=by show _=_;rw[ep.out];exact zn0 jN bt _ Hy.out
  go_wp2;go_ret2;exact⟨none,0,0,_,rfl,Below.refl _ _,inl ⟨fy.out,rfl,rfl,rfl⟩⟩
 have i1:(m:Int)<=k:=by omega
 have fy:Hid (sub (aW jN) ((aa s).drop k)=none):=by show _=_;rw[xB s k (by rw[HM.out];omega)];exact znZ jN
 go_wp2;go_ret2;exact⟨none,0,0,_,rfl,Below.refl _ _,inl ⟨fy.out,rfl,rfl,rfl⟩⟩
theorem zqb(c:Nat):fV ⟨#[42,43,63]⟩ c=(eH c).isSome:=by
 unfold fV eH;by_cases h1:c=42
 ·subst h1;rfl
 by_cases h2:c=43
 ·subst h2;rfl
 by_cases h3:c=63
 ·subst h3;rfl
 rw[if_neg h1,if_neg h2,if_neg h3];simp;omega
theorem zqc(atom:bf->Option bf)(hd:mK atom)(D:Nat)(hD:D<=99)(h1:nL 128 (sub atom) D):nL 88 (sub (cr atom)) D:=by
 intro s k w hs hk;have HO:=hid (h1 s k w hs hk);obtain⟨m,hm⟩:∃m,s.size=m:=⟨_,rfl⟩
 have HM:=hid hm;have xV:=hid hd;rw[hm] at hs hk;clear h1 hd;go_in;go_wp2_with (go_at_call 128;refine HO.out.mono ?_;rintro e w1 ⟨a,n,c,p,rfl,kb,hP⟩;refine Hid.out ?_);refine hid ?_;have HB:=hid kb;clear kb HO;rcases hP with ⟨h0,rfl,rfl,rfl⟩|⟨l,r,q,b,h0,hq,rfl,rfl,lC,kT,rfl,az⟩
 ·have H0:Hid (sub (cr atom) ((aa s).drop k)=none):=by
   show cr atom ([],(aa s).drop k)=none;unfold cr;rw[show atom ([],(aa s).drop k)=none from h0]
  clear h0;go_wp2;go_loopw [1,8] (fun v1 v8 wr=>v1=.int .i64 p/\v8=.slice none 0 0/\Hid (wr=w1)) (fun _ _ _=>0)
  ·exact⟨rfl,rfl,(rfl:w1=w1)⟩
  obtain⟨rfl,rfl,HW⟩:=hrel;go_wp2;go_ret2;exact⟨none,0,0,p,rfl,by rw[HW.out];exact HB.out,inl ⟨H0.out,rfl,rfl,rfl⟩⟩
 have jF:=xV.out _ _ h0;have H0:Hid (sub (cr atom) ((aa s).drop k)=some (bx ((aa s).drop q) l)):=by
  show cr atom ([],(aa s).drop k)=_;unfold cr;rw[show atom ([],(aa s).drop k)=some (l,(aa s).drop q) from h0]
 rw[hm] at hq;have rk:n+2*(m-q)<=3200:=by
  have:=jF.2;simp[wh,hm] at this;omega
 have ZW:Hid (bx ((aa s).drop q) l=bx ((aa s).drop q) l/\l.length=n/\w1.ownsRow w.heap.size 91 5 (.slice (some ⟨b,0,none⟩) n c) n (eJ l)/\Below w.heap.size w w1):=⟨rfl,lC,az,HB.out⟩
 obtain⟨X,hX⟩:∃X,bx ((aa s).drop q) l=X:=⟨_,rfl⟩
 have wE:Hid (bx ((aa s).drop q) l=X/\l.length=n/\w1.ownsRow w.heap.size 91 5 (.slice (some ⟨b,0,none⟩) n c) n (eJ l)/\Below w.heap.size w w1):=⟨hX,ZW.out.2⟩
 rw[hX] at H0;clear h0 jF lC az ZW hX;go_wp2;go_loopw [1,8,9] (fun v1 v8 _ wr=>∃(q n c b:Nat) (l:List Pc),q<=m/\0<n/\n+2*(m-q)<=3200/\v1=.int .i64 (q:Int)/\v8=.slice (some ⟨b,0,none⟩) n c/\Hid (bx ((aa s).drop q) l=X/\l.length=n/\wr.ownsRow w.heap.size 91 5 (.slice (some ⟨b,0,none⟩) n c) n (eJ l)/\Below w.heap.size w wr)) (fun v _ _ _=>m-(intOf v).toNat)
 ·exact⟨q,n,c,b,l,hq,kT,rk,rfl,rfl,wE⟩
 clear wE rk kT hq;obtain⟨q,n,c,b,l,hq,kT,rk,rfl,rfl,HX⟩:=hrel;by_cases aq:q<m
 ·have i1:(q:Int)<m:=by omega
  have hqs:q<s.size:=by rw[HM.out];exact aq
  have bY:=xR s q hqs;obtain⟨bt,km⟩:∃bt,(s[q]'hqs).toNat=bt:=⟨_,rfl⟩
  rw[km] at bY;have Fw:Hid (bx ((aa s).drop q) l=match eH bt with|some k=>bx ((aa s).drop (q+1)) (l++[⟨k,aJ⟩])|none=>(l,bt :: (aa s).drop (q+1))):=by
   show _=_;rw[bY];rfl
  have ep:=hid bY;clear bY;have ou:Hid (Calls prog 89 #[.string ⟨#[42,43,63]⟩,.int .u8 (bt:Int)] wr fun e w'=>e=.returned (.bool (eH bt).isSome)/\wr=w'):=by
   have:=Kd ⟨#[42,43,63]⟩ bt wr (by decide);rw[zqb] at this;exact this
  rcases wm:eH bt with _|kk
  ·rw[wm] at Fw ou;have HR:Hid (X=(l,(aa s).drop q)):=by
    show _=_;rw[<-HX.out.1,Fw.out,ep.out]
   clear wm Fw;go_wp2_with (go_at_call 89;refine ou.out.mono ?_;rintro e W9 ⟨rfl,rfl⟩;refine Hid.out ?_);refine hid ?_;clear ou;go_wp2;go_ret2;exact⟨_,n,c,q,rfl,HX.out.2.2.2,inr ⟨l,_,q,b,by rw[H0.out,HR.out],by rw[HM.out];exact hq,rfl,rfl,HX.out.2.1,kT,rfl,HX.out.2.2.1⟩⟩
  rw[wm] at Fw ou;have Dn:(bt=42/\kk=4)\/(bt=43/\kk=5)\/(bt=63/\kk=6):=by
   unfold eH at wm
   repeat' split at wm
   all_goals simp_all
  have O5:=hid (Fw.out);clear wm Fw;go_wp2_with (go_at_call 89;refine ou.out.mono ?_;rintro e W9 ⟨rfl,rfl⟩;refine Hid.out ?_);refine hid ?_;clear ou;rcases Dn with ⟨rfl,rfl⟩|⟨rfl,rfl⟩|⟨rfl,rfl⟩
  ·have hO:=HX.out.2.2.1;have B2:=HX.out.2.2.2.size;go_wp2_with (at_builtin;refine wi _ rfl _ _ rfl wr.heap.size _ 0 [] rfl (Kv wr (le_refl _)) ⟨b,0,none⟩ n c l rfl HX.out.2.1 (Eh (hO.alloc _)) ?_ ?_ ?_ ?_)
   ·omega
   ·exact kT
   ·simp
   intro g2 c2 w2 fa cv;have H2:=ζ (gn fa B2) (HX.out.2.2.2.trans (((qt wr _).trans (cv.mono (by simp))).mono B2));have yB:=H2.out.2.size;clear fa cv hO;go_wp2_with (at_builtin;refine wi _ rfl _ _ rfl w.heap.size _ n l rfl (H2.out.1.alloc _) ⟨w2.heap.size,0,none⟩ 1 1 [⟨4,aJ⟩] rfl rfl (IJ w2 4) ?_ ?_ ?_ ?_)
   ·omega
   ·omega
   ·simp;omega
   intro g3 c3 w3 ez dM;have mz:Hid (w3.ownsRow w.heap.size 91 5 (.slice (some ⟨g3,0,none⟩) (n+1) c3) (n+1) (eJ (l++[⟨4,aJ⟩]))/\Below w.heap.size w w3):=(⟨ez,(H2.out.2.trans ((qt w2 _).mono yB)).trans dM⟩);clear ez dM;go_wp2;go_roundw
   ·exact⟨q+1,n+1,c3,g3,_,by omega,by omega,by omega,by go_num,rfl,by rw[<-HX.out.1,O5.out],by simp[HX.out.2.1],mz.out.1,mz.out.2⟩
   simp[intOf];omega
  ·have hO:=HX.out.2.2.1;have B2:=HX.out.2.2.2.size;go_wp2_with (at_builtin;refine wi _ rfl _ _ rfl wr.heap.size _ 0 [] rfl (Kv wr (le_refl _)) ⟨b,0,none⟩ n c l rfl HX.out.2.1 (Eh (hO.alloc _)) ?_ ?_ ?_ ?_)
   ·omega
   ·exact kT
   ·simp
   intro g2 c2 w2 fa cv;have H2:=ζ (gn fa B2) (HX.out.2.2.2.trans (((qt wr _).trans (cv.mono (by simp))).mono B2));have yB:=H2.out.2.size;clear fa cv hO;go_wp2_with (at_builtin;refine wi _ rfl _ _ rfl w.heap.size _ n l rfl (H2.out.1.alloc _) ⟨w2.heap.size,0,none⟩ 1 1 [⟨5,aJ⟩] rfl rfl (IJ w2 5) ?_ ?_ ?_ ?_)
   ·omega
   ·omega
   ·simp;omega
   intro g3 c3 w3 ez dM;have mz:Hid (w3.ownsRow w.heap.size 91 5 (.slice (some ⟨g3,0,none⟩) (n+1) c3) (n+1) (eJ (l++[⟨5,aJ⟩]))/\Below w.heap.size w w3):=(⟨ez,(H2.out.2.trans ((qt w2 _).mono yB)).trans dM⟩);clear ez dM;go_wp2;go_roundw
   ·exact⟨q+1,n+1,c3,g3,_,by omega,by omega,by omega,by go_num,rfl,by rw[<-HX.out.1,O5.out],by simp[HX.out.2.1],mz.out.1,mz.out.2⟩
   simp[intOf];omega
  have hO:=HX.out.2.2.1;have B2:=HX.out.2.2.2.size;go_wp2_with (at_builtin;refine wi _ rfl _ _ rfl wr.heap.size _ 0 [] rfl (Kv wr (le_refl _)) ⟨b,0,none⟩ n c l rfl HX.out.2.1 (Eh (hO.alloc _)) ?_ ?_ ?_ ?_)
  ·omega
  ·exact kT
  ·simp
  intro g2 c2 w2 fa cv;have H2:=ζ (gn fa B2) (HX.out.2.2.2.trans (((qt wr _).trans (cv.mono (by simp))).mono B2));have yB:=H2.out.2.size;clear fa cv hO;go_wp2_with (at_builtin;refine wi _ rfl _ _ rfl w.heap.size _ n l rfl (H2.out.1.alloc _) ⟨w2.heap.size,0,none⟩ 1 1 [⟨6,aJ⟩] rfl rfl (IJ w2 6) ?_ ?_ ?_ ?_)
  ·omega
  ·omega
  ·simp;omega
  intro g3 c3 w3 ez dM;have mz:Hid (w3.ownsRow w.heap.size 91 5 (.slice (some ⟨g3,0,none⟩) (n+1) c3) (n+1) (eJ (l++[⟨6,aJ⟩]))/\Below w.heap.size w w3):=⟨ez,(H2.out.2.trans ((qt w2 _).mono yB)).trans dM⟩
  clear ez dM;go_wp2;go_roundw
  ·exact⟨q+1,n+1,c3,g3,_,by omega,by omega,by omega,by go_num,rfl,by rw[<-HX.out.1,O5.out],by simp[HX.out.2.1],mz.out.1,mz.out.2⟩
  simp[intOf];omega
 have i1:¬((q:Int)<m):=by omega
 have HR:Hid (X=(l,(aa s).drop q)):=by
  show _=_;rw[<-HX.out.1,xB s q (by rw[HM.out];omega)];rfl
 go_wp2;go_ret2;exact⟨_,n,c,q,rfl,HX.out.2.2.2,inr ⟨l,_,q,b,by rw[H0.out,HR.out],by rw[HM.out];exact hq,rfl,rfl,HX.out.2.1,kT,rfl,HX.out.2.2.1⟩⟩
theorem zq2(c:Nat):fV ⟨#[124,41]⟩ c=(c == 124 || c == 41):=by
 unfold fV;by_cases h1:c=124
 ·subst h1;rfl
 by_cases h2:c=41
 ·subst h2;rfl
 have e1:(c == 124)=false:=by simp[h1]
 have e2:(c == 41)=false:=by simp[h2]
 rw[e1,e2];simp;omega
theorem zqd(atom:bf->Option bf)(hd:mK atom)(yz:jc atom)(D:Nat)(hD:D<=99)(h1:nL 88 (sub (cr atom)) D):nL 50 (sub (cq atom)) D:=by
 intro s k w hs hk;have HO:=hid (h1 s k w hs hk);have PE:=hid h1;obtain⟨m,hm⟩:∃m,s.size=m:=⟨_,rfl⟩
 have HM:=hid hm;have xV:=ζ hd yz;rw[hm] at hs hk;clear h1 hd yz;go_in;go_wp2_with (go_at_call 88;refine HO.out.mono ?_;rintro e w1 ⟨a,n,c,p,rfl,kb,hP⟩;refine Hid.out ?_);refine hid ?_;have HB:=hid kb;clear kb HO;rcases hP with ⟨h0,rfl,rfl,rfl⟩|⟨l,r,q,b,h0,hq,rfl,rfl,lC,kT,rfl,az⟩
 ·have H0:Hid (sub (cq atom) ((aa s).drop k)=none):=by
   show cq atom ([],(aa s).drop k)=none;unfold cq;rw[show cr atom ([],(aa s).drop k)=none from h0]
  clear h0;go_wp2;go_loopw [1,8] (fun v1 v8 wr=>v1=.int .i64 p/\v8=.slice none 0 0/\Hid (wr=w1)) (fun _ _ _=>0)
  ·exact⟨rfl,rfl,(rfl:w1=w1)⟩
  obtain⟨rfl,rfl,HW⟩:=hrel;go_wp2;go_ret2;exact⟨none,0,0,p,rfl,by rw[HW.out];exact HB.out,inl ⟨H0.out,rfl,rfl,rfl⟩⟩
 have jF:=Da xV.out.1 _ _ h0;obtain⟨X,hX⟩:∃X,aY atom (((aa s).drop q).length+1) (l,(aa s).drop q)=X:=⟨_,rfl⟩
 have H0:Hid (sub (cq atom) ((aa s).drop k)=X):=by
  show cq atom ([],(aa s).drop k)=_;unfold cq;rw[show cr atom ([],(aa s).drop k)=some (l,(aa s).drop q) from h0];exact hX
 rw[hm] at hq;have rk:n+2*(m-q)<=3200:=by
  have:=jF.2;simp[wh,hm] at this;omega
 have wE:Hid (aY atom (((aa s).drop q).length+1) (l,(aa s).drop q)=X/\l.length=n/\w1.ownsRow w.heap.size 91 5 (.slice (some ⟨b,0,none⟩) n c) n (eJ l)/\Below w.heap.size w w1):=⟨hX,lC,az,HB.out⟩
 clear h0 jF lC az hX;go_wp2;go_loopw [1,8,9] (fun v1 v8 _ wr=>∃(q n c b:Nat) (l:List Pc),q<=m/\0<n/\n+2*(m-q)<=3200/\v1=.int .i64 (q:Int)/\v8=.slice (some ⟨b,0,none⟩) n c/\Hid (aY atom (((aa s).drop q).length+1) (l,(aa s).drop q)=X/\l.length=n/\wr.ownsRow w.heap.size 91 5 (.slice (some ⟨b,0,none⟩) n c) n (eJ l)/\Below w.heap.size w wr)) (fun v _ _ _=>m-(intOf v).toNat)
 ·exact⟨q,n,c,b,l,hq,kT,rk,rfl,rfl,wE⟩
 clear wE rk kT hq;obtain⟨q,n,c,b,l,hq,kT,rk,rfl,rfl,HX⟩:=hrel;have kG:Hid ((m<=q\/∃r:Unit,gK ((aa s).drop q)=true)->aY atom (((aa s).drop q).length+1) (l,(aa s).drop q)=some (l,(aa s).drop q)):=fun h=>by
  unfold aY;rcases h with h|⟨r,h⟩
  ·rw[xB s q (by rw[HM.out];omega)];rfl
  simp only;rw[if_pos h]
 by_cases aq:q<m
 ·have i1:(q:Int)<m:=by omega
  have hqs:q<s.size:=by rw[HM.out];exact aq
  have bY:=xR s q hqs;obtain⟨bt,km⟩:∃bt,(s[q]'hqs).toNat=bt:=⟨_,rfl⟩
  rw[km] at bY;have ep:=hid bY;clear bY;have ou:Hid (Calls prog 89 #[.string ⟨#[124,41]⟩,.int .u8 (bt:Int)] wr fun e w'=>e=.returned (.bool (bt == 124 || bt == 41))/\wr=w'):=by
   have:=Kd ⟨#[124,41]⟩ bt wr (by decide);rw[zq2] at this;exact this
  by_cases he:(bt == 124 || bt == 41)=true
  ·have HR:Hid (X=some (l,(aa s).drop q)):=by
    show _=_;rw[<-HX.out.1];exact kG.out (inr ⟨(),by rw[ep.out];exact he⟩)
   rw[he] at ou;clear kG he;go_wp2_with (go_at_call 89;refine ou.out.mono ?_;rintro e W9 ⟨rfl,rfl⟩;refine Hid.out ?_);refine hid ?_;clear ou;go_wp2;go_ret2;exact⟨_,n,c,q,rfl,HX.out.2.2.2,inr ⟨l,_,q,b,by rw[H0.out,HR.out],by rw[HM.out];exact hq,rfl,rfl,HX.out.2.1,kT,rfl,HX.out.2.2.1⟩⟩
  have HE:=hid he;rw[show (bt == 124 || bt == 41)=false by simpa using he] at ou;clear kG he;go_wp2_with (go_at_call 89;refine ou.out.mono ?_;rintro e W9 ⟨rfl,rfl⟩;refine Hid.out ?_);refine hid ?_;clear ou;have HN:=hid (PE.out s q wr (by rw[HM.out];omega) (by rw[HM.out];omega));have qX:Hid (X=match cr atom (l,(aa s).drop q) with|none=>none|some x=>aY atom ((aa s).drop q).length (x.1++[⟨2,aJ⟩],x.2)):=by
   show _=_;rw[<-HX.out.1]
   conv=>lhs;unfold aY
   simp only;rw[if_neg (by rw[ep.out];exact HE.out)];rcases cr atom (l,(aa s).drop q) with _|x <;> rfl
  have xW:=hid (jc.at_ (Tr xV.out.2) l ((aa s).drop q));go_wp2_with (go_at_call 88;refine HN.out.mono ?_;rintro e w2 ⟨a2,n2,c2,p2,rfl,kb,hP⟩;refine Hid.out ?_);refine hid ?_;have Em:=hid kb;clear kb HN;rcases hP with ⟨h0,rfl,rfl,rfl⟩|⟨l2,r2,q2,b2,h0,hq2,rfl,rfl,xS,cU,rfl,fa⟩
  ·have HR:Hid (X=none):=by
    show _=_;rw[qX.out,xW.out,h0];rfl
   clear h0;have hN:=NG w2;go_wp2;go_ret2;exact⟨none,0,0,p2,rfl,HX.out.2.2.2.trans (Em.out.mono HX.out.2.2.2.size),inl ⟨by rw[H0.out,HR.out],rfl,rfl,rfl⟩⟩
  have jF:=Da xV.out.1 _ _ h0;rw[HM.out] at hq2;have T9:n2+2*(m-q2)+2<=2*(m-q)+1/\q<q2:=by
   have h1:=jF.2;have h2:=jF.1;simp[wh,HM.out] at h1 h2;omega
  have HR:Hid (aY atom (((aa s).drop q2).length+1) ((l++l2)++[⟨2,aJ⟩],(aa s).drop q2)=X):=by
   show _=_;rw[qX.out,xW.out,h0];refine zgT xV.out.1 _ _ _ ?_ ?_
   ·simp
   simp[wh,HM.out];omega
  have lP:Hid (w2.ownsRow w.heap.size 91 5 (.slice (some ⟨b,0,none⟩) n c) n (eJ l)/\w2.ownsRow w.heap.size 91 5 (.slice (some ⟨b2,0,none⟩) n2 c2) n2 (eJ l2)/\Below w.heap.size w w2):=⟨db HX.out.2.2.1 Em.out,gn fa HX.out.2.2.2.size,HX.out.2.2.2.trans (Em.out.mono HX.out.2.2.2.size)⟩
  have Jh:=hid xS;have yB:=lP.out.2.2.size;clear h0 jF fa xS;have hN:=MJ w2 b2 n2 c2;go_wp2_with (at_builtin;refine wi _ rfl _ _ rfl w2.heap.size _ 0 [] rfl (Kv w2 (le_refl _)) ⟨b,0,none⟩ n c l rfl HX.out.2.1 (Eh (lP.out.1.alloc _)) ?_ ?_ ?_ ?_)
  ·omega
  ·exact kT
  ·simp
  intro g3 c3 w3 ez dM;have sW:=(qt w2 _).trans (dM.mono (by simp));have H3:=ξ (gn ez yB) (db lP.out.2.1 sW) (lP.out.2.2.trans (sW.mono yB));have Pu:=H3.out.2.2.size;clear ez dM sW;go_wp2_with (at_builtin;refine wi _ rfl _ _ rfl w.heap.size _ n l rfl H3.out.1 ⟨b2,0,none⟩ n2 c2 l2 rfl Jh.out (Eh H3.out.2.1) ?_ ?_ ?_ ?_)
  ·omega
  ·exact cU
  ·exact Pu
  intro g4 c4 w4 nG fp;have H4:=ζ nG (H3.out.2.2.trans fp);have Tm:=H4.out.2.size;clear nG fp;go_wp2_with (at_builtin;refine wi _ rfl _ _ rfl w.heap.size _ (n+n2) (l++l2) rfl (H4.out.1.alloc _) ⟨w4.heap.size,0,none⟩ 1 1 [⟨2,aJ⟩] rfl rfl (IJ w4 2) ?_ ?_ ?_ ?_)
  ·omega
  ·omega
  ·simp;omega
  intro g5 c5 w5 ah ku;have H5:=ζ ah ((H4.out.2.trans ((qt w4 _).mono Tm)).trans ku);clear ah ku;go_wp2;go_roundw
  ·exact⟨q2,n+n2+1,c5,g5,_,by omega,by omega,by omega,rfl,rfl,HR.out,by simp[HX.out.2.1,Jh.out];try omega,by first|exact H5.out.1|(rw[List.append_assoc];exact H5.out.1),H5.out.2⟩
  simp[intOf];omega
 have i1:¬((q:Int)<m):=by omega
 have HR:Hid (X=some (l,(aa s).drop q)):=by
  show _=_;rw[<-HX.out.1];exact kG.out (inl (by omega))
 clear kG;go_wp2;go_ret2;exact⟨_,n,c,q,rfl,HX.out.2.2.2,inr ⟨l,_,q,b,by rw[H0.out,HR.out],by rw[HM.out];exact hq,rfl,rfl,HX.out.2.1,kT,rfl,HX.out.2.2.1⟩⟩
theorem zqe(atom:bf->Option bf)(hd:mK atom)(yz:jc atom)(D:Nat)(hD:D<=99)(h1:nL 50 (sub (cq atom)) D):nL 32 (sub (bh atom)) D:=by
 intro s k w hs hk;have HO:=hid (h1 s k w hs hk);have PE:=hid h1;obtain⟨m,hm⟩:∃m,s.size=m:=⟨_,rfl⟩
 have HM:=hid hm;have xV:=ζ hd yz;rw[hm] at hs hk;clear h1 hd yz;go_in;go_wp2_with (go_at_call 50;refine HO.out.mono ?_;rintro e w1 ⟨a,n,c,p,rfl,kb,hP⟩;refine Hid.out ?_);refine hid ?_;have HB:=hid kb;clear kb HO;rcases hP with ⟨h0,rfl,rfl,rfl⟩|⟨l,r,q,b,h0,hq,rfl,rfl,lC,kT,rfl,az⟩
 ·have H0:Hid (sub (bh atom) ((aa s).drop k)=none):=by
   show bh atom ([],(aa s).drop k)=none;unfold bh;rw[show cq atom ([],(aa s).drop k)=none from h0]
  clear h0;go_wp2;go_loopw [1,8] (fun v1 v8 wr=>v1=.int .i64 p/\v8=.slice none 0 0/\Hid (wr=w1)) (fun _ _ _=>0)
  ·exact⟨rfl,rfl,(rfl:w1=w1)⟩
  obtain⟨rfl,rfl,HW⟩:=hrel;go_wp2;go_ret2;exact⟨none,0,0,p,rfl,by rw[HW.out];exact HB.out,inl ⟨H0.out,rfl,rfl,rfl⟩⟩
 have jF:=C8 xV.out.1 _ _ h0;obtain⟨X,hX⟩:∃X,aX atom (((aa s).drop q).length+1) (l,(aa s).drop q)=X:=⟨_,rfl⟩
 have H0:Hid (sub (bh atom) ((aa s).drop k)=X):=by
  show bh atom ([],(aa s).drop k)=_;unfold bh;rw[show cq atom ([],(aa s).drop k)=some (l,(aa s).drop q) from h0];exact hX
 rw[hm] at hq;have rk:n+2*(m-q)<=3200:=by
  have:=jF.2;simp[wh,hm] at this;omega
 have wE:Hid (aX atom (((aa s).drop q).length+1) (l,(aa s).drop q)=X/\l.length=n/\w1.ownsRow w.heap.size 91 5 (.slice (some ⟨b,0,none⟩) n c) n (eJ l)/\Below w.heap.size w w1):=⟨hX,lC,az,HB.out⟩
 clear h0 jF lC az hX;go_wp2;go_loopw [1,8,9] (fun v1 v8 _ wr=>∃(q n c b:Nat) (l:List Pc),q<=m/\0<n/\n+2*(m-q)<=3200/\v1=.int .i64 (q:Int)/\v8=.slice (some ⟨b,0,none⟩) n c/\Hid (aX atom (((aa s).drop q).length+1) (l,(aa s).drop q)=X/\l.length=n/\wr.ownsRow w.heap.size 91 5 (.slice (some ⟨b,0,none⟩) n c) n (eJ l)/\Below w.heap.size w wr)) (fun v _ _ _=>m-(intOf v).toNat)
 ·exact⟨q,n,c,b,l,hq,kT,rk,rfl,rfl,wE⟩
 clear wE rk kT hq;obtain⟨q,n,c,b,l,hq,kT,rk,rfl,rfl,HX⟩:=hrel;have kG:Hid ((m<=q\/∃r:Unit,aw 124 ((aa s).drop q)=none)->aX atom (((aa s).drop q).length+1) (l,(aa s).drop q)=some (l,(aa s).drop q)):=fun h=>by
  unfold aX;rcases h with h|⟨r,h⟩
  ·rw[xB s q (by rw[HM.out];omega)];rfl
  simp only;rw[h]
 by_cases aq:q<m
 ·have i1:(q:Int)<m:=by omega
  have hqs:q<s.size:=by rw[HM.out];exact aq
  have bY:=xR s q hqs;obtain⟨bt,km⟩:∃bt,(s[q]'hqs).toNat=bt:=⟨_,rfl⟩
  rw[km] at bY;have ep:=hid bY;clear bY;by_cases he:¬bt=124
  ·have HR:Hid (X=some (l,(aa s).drop q)):=by
    show _=_;rw[<-HX.out.1];exact kG.out (inr ⟨(),by rw[ep.out];show (if bt=124 then some _ else none)=none;rw[if_neg he]⟩)
   have i2:¬((bt:Int)=124):=(by omega);clear kG he;go_wp2;go_ret2;exact⟨_,n,c,q,rfl,HX.out.2.2.2,inr ⟨l,_,q,b,by rw[H0.out,HR.out],by rw[HM.out];exact hq,rfl,rfl,HX.out.2.1,kT,rfl,HX.out.2.2.1⟩⟩
  have HE:=hid he;have i2:(bt:Int)=124:=by omega
  clear kG he;have HN:=hid (PE.out s (q+1) wr (by rw[HM.out];omega) (by rw[HM.out];omega));have qX:Hid (X=match cq atom (l,(aa s).drop (q+1)) with|none=>none|some x=>aX atom ((aa s).drop q).length (x.1++[⟨3,aJ⟩],x.2)):=by
   show _=_;rw[<-HX.out.1]
   conv=>lhs;unfold aX
   have Nw:aw 124 ((aa s).drop q)=some ((aa s).drop (q+1)):=by
    rw[ep.out];show (if bt=124 then some _ else none)=_;rw[if_pos (Decidable.not_not.1 HE.out)]
   simp only[Nw];generalize cq atom (l,(aa s).drop (q+1))=z;cases z <;> rfl
  have xW:=hid (jc.at_ (SU xV.out.2) l ((aa s).drop (q+1)));go_wp2_with (go_at_call 50;refine HN.out.mono ?_;rintro e w2 ⟨a2,n2,c2,p2,rfl,kb,hP⟩;refine Hid.out ?_);refine hid ?_;have Em:=hid kb;clear kb HN;rcases hP with ⟨h0,rfl,rfl,rfl⟩|⟨l2,r2,q2,b2,h0,hq2,rfl,rfl,xS,cU,rfl,fa⟩
  ·have HR:Hid (X=none):=by
    show _=_;rw[qX.out,xW.out,h0];rfl
   clear h0;have hN:=NG w2;go_wp2;go_ret2;exact⟨none,0,0,p2,rfl,HX.out.2.2.2.trans (Em.out.mono HX.out.2.2.2.size),inl ⟨by rw[H0.out,HR.out],rfl,rfl,rfl⟩⟩
  have jF:=C8 xV.out.1 _ _ h0;rw[HM.out] at hq2;have T9:n2+2*(m-q2)+2<=2*(m-q)+1/\q<q2:=by
   have h1:=jF.2;have h2:=jF.1;simp[wh,HM.out] at h1 h2;omega
  have HR:Hid (aX atom (((aa s).drop q2).length+1) ((l++l2)++[⟨3,aJ⟩],(aa s).drop q2)=X):=by
   show _=_;rw[qX.out,xW.out,h0];refine zgU xV.out.1 _ _ _ ?_ ?_
   ·simp
   simp[wh,HM.out];omega
  have lP:Hid (w2.ownsRow w.heap.size 91 5 (.slice (some ⟨b,0,none⟩) n c) n (eJ l)/\w2.ownsRow w.heap.size 91 5 (.slice (some ⟨b2,0,none⟩) n2 c2) n2 (eJ l2)/\Below w.heap.size w w2):=⟨db HX.out.2.2.1 Em.out,gn fa HX.out.2.2.2.size,HX.out.2.2.2.trans (Em.out.mono HX.out.2.2.2.size)⟩
  have Jh:=hid xS;have yB:=lP.out.2.2.size;clear h0 jF fa xS;have hN:=MJ w2 b2 n2 c2;go_wp2_with (at_builtin;refine wi _ rfl _ _ rfl w2.heap.size _ 0 [] rfl (Kv w2 (le_refl _)) ⟨b,0,none⟩ n c l rfl HX.out.2.1 (Eh (lP.out.1.alloc _)) ?_ ?_ ?_ ?_)
  ·omega
  ·exact kT
  ·simp
  intro g3 c3 w3 ez dM;have sW:=(qt w2 _).trans (dM.mono (by simp));have H3:=ξ (gn ez yB) (db lP.out.2.1 sW) (lP.out.2.2.trans (sW.mono yB));have Pu:=H3.out.2.2.size;clear ez dM sW;go_wp2_with (at_builtin;refine wi _ rfl _ _ rfl w.heap.size _ n l rfl H3.out.1 ⟨b2,0,none⟩ n2 c2 l2 rfl Jh.out (Eh H3.out.2.1) ?_ ?_ ?_ ?_)
  ·omega
  ·exact cU
  ·exact Pu
  intro g4 c4 w4 nG fp;have H4:=ζ nG (H3.out.2.2.trans fp);have Tm:=H4.out.2.size;clear nG fp;go_wp2_with (at_builtin;refine wi _ rfl _ _ rfl w.heap.size _ (n+n2) (l++l2) rfl (H4.out.1.alloc _) ⟨w4.heap.size,0,none⟩ 1 1 [⟨3,aJ⟩] rfl rfl (IJ w4 3) ?_ ?_ ?_ ?_)
  ·omega
  ·omega
  ·simp;omega
  intro g5 c5 w5 ah ku;have H5:=ζ ah ((H4.out.2.trans ((qt w4 _).mono Tm)).trans ku);clear ah ku;go_wp2;go_roundw
  ·exact⟨q2,n+n2+1,c5,g5,_,by omega,by omega,by omega,rfl,rfl,HR.out,by simp[HX.out.2.1,Jh.out];try omega,by first|exact H5.out.1|(rw[List.append_assoc];exact H5.out.1),H5.out.2⟩
  simp[intOf];omega
 have i1:¬((q:Int)<m):=by omega
 have HR:Hid (X=some (l,(aa s).drop q)):=by
  show _=_;rw[<-HX.out.1];exact kG.out (inl (by omega))
 clear kG;go_wp2;go_ret2;exact⟨_,n,c,q,rfl,HX.out.2.2.2,inr ⟨l,_,q,b,by rw[H0.out,HR.out],by rw[HM.out];exact hq,rfl,rfl,HX.out.2.1,kT,rfl,HX.out.2.2.1⟩⟩
theorem UR(D:Nat)(hD:D<=99)(vt:bf->Option bf)(hd:mK vt)(hl:jc vt)(h1:nL 128 (sub vt) D):nL 32 (sub (bh vt)) D:=
 zqe vt hd hl D hD (zqd vt hd hl D hD (zqc vt hd D hD h1))
theorem BB:∀n,n<=99->nL 32 (sub (bh (dA n))) (99-n)
 | 0,_=>UR 99 (le_refl _) _ (yP 0) (Te 0) (zmc 99 (le_refl _) _ (fun _=>rfl) (fun h=>by omega))
 | n+1,h=>by
  refine UR (99-(n+1)) (by omega) _ (yP (n+1)) (Te (n+1)) (zmc (99-(n+1)) (by omega) _ (fun h=>by omega) (fun _=>⟨dA n,rfl,?_⟩))
  have:=BB n (by omega)
  rw[show 99-(n+1)+1=99-n by omega]
  exact this
def zq3(s:ByteArray)(w:World)(e:Ending)(w':World):Prop:=
 ∃(a:Option Addr) (n c:Nat) (k:Int),e=.returned (.tuple #[.slice a n c,.int .i64 k])/\Below w.heap.size w w'/\
  (
   (a=none/\n=0/\c=0/\((1600<s.size/\k=6)\/(s.size<=1600/\eZ (aa s)=none/\k=5)\/(s.size<=1600/\k=6/\∃l,eZ (aa s)=some l/\400<l.length)))\/
   (s.size<=1600/\k=0/\∃(l:List Pc) (b:Nat),eZ (aa s)=some l/\l.length<=400/\l.length=n/\0<n/\a=some ⟨b,0,none⟩/\w'.ownsRow w.heap.size 91 5 (.slice a n c) n (eJ l)))
theorem zfi(s:ByteArray)(hs9:s.size<=9223372036854775807)(w:World):Calls prog 17 #[.string s] w (zq3 s w):=by
 obtain⟨m,hm⟩:∃m,s.size=m:=⟨_,rfl⟩
 have HM:=hid hm;by_cases lz:1600<m
 ·have i0:(1600:Int)<m:=by omega
  go_in;go_wp2;go_ret2;exact⟨none,0,0,6,rfl,Below.refl _ _,inl ⟨rfl,rfl,rfl,inl ⟨by rw[HM.out];exact lz,rfl⟩⟩⟩
 have i0:¬((1600:Int)<m):=by omega
 have HC:Hid (Calls prog 32 #[.string s,.int .i64 0,.int .i64 0] w (yr (sub (bh (dA 99))) s 0 w)):=BB 99 (le_refl _) s 0 w (by omega) (by omega);have HT:Hid (eZ (aa s)=match sub (bh (dA 99)) ((aa s).drop 0) with|some (l,[])=>some l|_=>none):=by
  show _=_;unfold eZ sub;rw[List.drop_zero];rcases bh (dA 99) ([],aa s) with _|⟨l,r⟩
  ·rfl
  cases r <;> rfl
 go_in;go_wp2_with (go_at_call 32;refine HC.out.mono ?_;rintro e w3 ⟨a,n,c,p,rfl,kb,hP⟩;refine Hid.out ?_);refine hid ?_;have HB:=hid kb;clear kb HC;rcases hP with ⟨hz,rfl,rfl,rfl⟩|⟨l,r,q,b,hz,hq,rfl,rfl,lC,kT,rfl,az⟩
 ·have hN:=NG w3;have HZ:Hid (eZ (aa s)=none):=by show _=_;rw[HT.out,hz]
  clear hz;go_wp2;go_ret2;exact⟨none,0,0,5,rfl,HB.out,inl ⟨rfl,rfl,rfl,inr (inl ⟨by rw[HM.out];omega,HZ.out,rfl⟩)⟩⟩
 rw[HM.out] at hq;have hN:=MJ w3 b n c;have HO:=ζ az lC;by_cases qs:q<m
 ·have j1:(q:Int)<m:=by omega
  have HZ:Hid (eZ (aa s)=none):=by
   show _=_;rw[HT.out,hz];have bY:=xR s q (by rw[HM.out];exact qs);rw[bY]
  clear hz az lC;go_wp2;go_ret2;exact⟨none,0,0,5,rfl,HB.out,inl ⟨rfl,rfl,rfl,inr (inl ⟨by rw[HM.out];omega,HZ.out,rfl⟩)⟩⟩
 have j1:¬((q:Int)<m):=by omega
 have HZ:Hid (eZ (aa s)=some l):=by
  show _=_;rw[HT.out,hz,xB s q (by rw[HM.out];omega)]
 clear hz az lC;by_cases ta:400<n
 ·have j2:(400:Int)<n:=by omega
  go_wp2;go_ret2;exact⟨none,0,0,6,rfl,HB.out,inl ⟨rfl,rfl,rfl,inr (inr ⟨by rw[HM.out];omega,rfl,l,HZ.out,by rw[HO.out.2];exact ta⟩)⟩⟩
 have j2:¬((400:Int)<n):=by omega
 go_wp2;go_ret2;exact⟨_,n,c,0,rfl,HB.out,inr ⟨by rw[HM.out];omega,rfl,l,b,HZ.out,by rw[HO.out.2];omega,HO.out.2,kT,rfl,HO.out.1⟩⟩
