import Derived.Test.YtkkhakmdjinenaaGreatZDRLan
import Derived.Test.YtkkhakmdjinenaaGreatZQAwk
import Derived.Test.YtkkhakmdjinenaaGreatZRPParse
set_option linter.all false
set_option maxHeartbeats 4000000
set_option maxRecDepth 100000
open Go.Lib (hid)
namespace Go.Proofs.YtkkhakmdjinenaaGreat
open Go.RowKit Go.Maps Go.Proofs.Tryz
open Or (inl inr)
def NM(pre:List Ru)(x:Ru)(er:Int):Prop:=
 (dN x.nm=false/\er=8)\/(dN x.nm=true/\
  ((
   (∃y∈pre,y.nm=x.nm)/\er=9)\/((∀y∈pre,y.nm≠x.nm)/\
   ((
    ir x.k=false/\er=1)\/(ir x.k=true/\
    ((∃e5:Nat,nh x.rx e5/\er=(e5:Int))\/(∃t,fu x.rx t/\((dI t []/\er=14)\/(¬dI t []/\er=0)))))))))
def TE(pre:List Ru)(x:Ru)(w:World)(e:Ending)(w':World):Prop:=∃er,e=.returned (.int .i64 er)/\NM pre x er/\Below w.heap.size w w'
theorem fu.lan{s:ByteArray}{t t':Rx}(h:fu s t)(h':fu s t'):dI t []↔dI t' []:=IN h.1 h'.1 (h.flat h') (fun _=>0) (fun _=>by omega) 0
theorem znS{s:ByteArray}{a b:Nat}(h:nh s a)(k:nh s b):a=b:=by
 rcases h with ⟨rfl,h⟩|⟨rfl,l,h,_⟩ <;> rcases k with ⟨rfl,k⟩|⟨rfl,l',k,_⟩
 ·rfl
 ·exact absurd k (h l')
 ·exact absurd h (k l)
 rfl
theorem yo.agree{pre:List Ru}{x:Ru}{e1 e2:Int}(h:yo pre x e1)(k:NM pre x e2)(h6:e1≠6):e1=e2:=by
 rcases h with ⟨h1,rfl⟩|⟨h1,h⟩ <;> rcases k with ⟨k1,rfl⟩|⟨k1,k⟩
 ·rfl
 ·rw[h1] at k1;cases k1
 ·rw[h1] at k1;cases k1
 rcases h with ⟨⟨y,hy,hn⟩,rfl⟩|⟨h2,h⟩ <;> rcases k with ⟨⟨y',hy',XN⟩,rfl⟩|⟨k2,k⟩
 ·rfl
 ·exact absurd hn (k2 y hy)
 ·exact absurd XN (h2 y' hy')
 rcases h with ⟨h3,rfl⟩|⟨h3,h⟩ <;> rcases k with ⟨k3,rfl⟩|⟨k3,k⟩
 ·rfl
 ·rw[h3] at k3;cases k3
 ·rw[h3] at k3;cases k3
 rcases h with ⟨e5,h4,rfl⟩|⟨t,h4,h⟩ <;> rcases k with ⟨e6,k4,rfl⟩|⟨t',k4,k⟩
 ·rw[znS h4 k4]
 ·exact (k4.ng h4).elim
 ·exact (h4.ng k4).elim
 have hl:=h4.lan k4;rcases h with ⟨_,rfl⟩|⟨h5,rfl⟩|⟨h5,rfl⟩ <;> rcases k with ⟨k5,rfl⟩|⟨k5,rfl⟩
 ·exact absurd rfl h6
 ·exact absurd rfl h6
 ·rfl
 ·exact absurd (hl.1 h5) k5
 ·exact absurd (hl.2 k5) h5
 rfl
theorem ZU{s:ByteArray}{l:List Pc}(h:eZ (aa s)=some l)(hl:l.length<=400):∃t,fu s t/\t.flat=l:=by
 have h2:bh (dA 99) ([],aa s)=some (l,[]):=by
  unfold eZ at h;rcases ho:bh (dA 99) ([],aa s) with _|⟨l',r⟩
  ·rw[ho] at h;cases h
  rw[ho] at h;cases r with
  | nil=>simp at h;rw[h]
  | cons a r=>simp at h
 obtain⟨t,hw,hf⟩:=Z3 (A7 s) h2;exact⟨t,⟨hw,by rw[hf];exact h2,by rw[hf];exact hl⟩,hf⟩
theorem Zb{s:ByteArray}(hs:s.size<=1600){k:Int}(h:(1600<s.size/\k=6)\/(s.size<=1600/\eZ (aa s)=none/\k=5)\/(s.size<=1600/\k=6/\∃l,eZ (aa s)=some l/\400<l.length)):∃e5:Nat,nh s e5/\k=(e5:Int)/\k≠0:=by
 rcases h with ⟨h,_⟩|⟨_,h,rfl⟩|⟨_,rfl,l,h,hl⟩
 ·omega
 ·refine⟨5,inl ⟨rfl,fun l hl=>?_⟩,rfl,by decide⟩;unfold eZ at h;rw[hl] at h;simp at h
 refine⟨6,inr ⟨rfl,l,?_,hl⟩,rfl,by decide⟩;unfold eZ at h;rcases ho:bh (dA 99) ([],aa s) with _|⟨l',r⟩
 ·rw[ho] at h;cases h
 rw[ho] at h;cases r with
 | nil=>simp at h;rw[h]
 | cons a r=>simp at h
theorem znT(t:Rx)(hw:t.wf)(g n cap:Nat)(w:World)(B:Nat)(h:w.ownsRow B 91 5 (.slice (some ⟨g,0,none⟩) n cap) n (eJ t.flat))(hn:t.flat.length=n)(dG:n<=1000):
  Calls prog 18 #[.slice (some ⟨g,0,none⟩) n cap,.string ⟨#[]⟩] w fun e w'=>∃b:Bool,e=.returned (.bool b)/\(b=true↔dI t [])/\Below w.heap.size w w':=by
 have hc:n<=cap/\cap<=maxLen:=by
  rcases h.2 with ⟨h1,h2⟩|⟨g',Ef,cur,hv,_,_,h3,h4,_⟩
  ·simp at h1
  simp at hv;obtain⟨_,rfl⟩:=hv;exact⟨h3,h4⟩
 refine (Yw t hw ⟨#[]⟩ 0 rfl (by omega) g 0 n cap w (SY h hn) hn (by omega) hc).mono ?_;rintro e w' ⟨rfl,hb⟩;exact⟨_,rfl,XC ⟨#[]⟩ [] 0 rfl (fun i h=>by simp at h) t hw,hb⟩
theorem zl4(n c:Nat)(a:Option Addr)(l:List Ru)(hl:l.length=n)(hn:n<=100000)(zn:n<=c)(i:Nat)(hi:i<l.length)(kh:l[i].nm.size<=maxLen)(Bw:l[i].rx.size<=1600)(w:World)(h1:fR w a l):
  Calls prog 24 #[.slice a n c,.int .i64 (i:Int)] w (TE (l.take i) l[i] w):=by
 obtain⟨g,off,rfl,hg,c0,c1,c2⟩:=h1.get i hi;have HR:=ζ h1 hl;have nJ:i<n:=by omega
 obtain⟨pre,rB⟩:∃p,l.take i=p:=⟨_,rfl⟩
 obtain⟨nm,kk,rx,hx⟩:∃nm kk rx,l[i]=⟨nm,kk,rx⟩:=⟨_,_,_,rfl⟩
 have HX:=ζ rB hx;rw[hx] at kh Bw c0 c1 c2;rw[rB,hx];simp only at kh Bw c0 c1 c2;clear rB hx h1 hl;have i1:(i:Int)<n:=by omega
 go_in;go_upto_region 2 with fail;have s0:=St.new w 48 #[.string nm,.int .i64 kk,.string rx];have k0:=al w (.cells #[.string nm,.int .i64 kk,.string rx] 48);obtain⟨b0,ay⟩:∃b0,w.heap.size=b0:=⟨_,rfl⟩
 have H0:Hid (St (w.alloc (.cells #[.string nm,.int .i64 kk,.string rx] 48)) 48 b0 #[.string nm,.int .i64 kk,.string rx]/\Below w.heap.size w (w.alloc (.cells #[.string nm,.int .i64 kk,.string rx] 48))):=⟨ay ▸ s0,k0⟩
 rw[ay];clear s0 k0 ay c0 c1 c2;generalize w.alloc (.cells #[.string nm,.int .i64 kk,.string rx] 48)=W0 at H0⊢;have uw:Hid (∀W,Below W0.heap.size W0 W->W.cell? ⟨b0,0,none⟩=some (.string nm)/\W.cell? ⟨b0,1,none⟩=some (.int .i64 kk)/\W.cell? ⟨b0,2,none⟩=some (.string rx)/\Below w.heap.size w W):=fun W hW=>by
  have h:=H0.out.1.below hW H0.out.1.lt;refine⟨(h.at_ 0).trans rfl,(h.at_ 1).trans rfl,(h.at_ 2).trans rfl,H0.out.2.trans (hW.mono H0.out.2.size)⟩
 obtain⟨d0,_,_,_⟩:=uw.out W0 (Below.refl _ _);have Ic:=hid (zk2 nm W0 kh);obtain⟨y,hy⟩:∃y,dN nm=y:=⟨_,rfl⟩
 have Hy:=hid hy;rw[hy] at Ic;clear hy;go_wp2_with (go_at_call 46;refine Ic.out.mono ?_;rintro e W9 ⟨rfl,rfl⟩;refine Hid.out ?_);refine hid ?_;clear Ic d0;cases y
 ·have HF:=hid (uw.out W0 (Below.refl _ _)).2.2.2;go_wp2;go_ret;exact⟨8,rfl,inl ⟨Hy.out,rfl⟩,HF.out⟩
 go_wp2_with fail;have HS:Hid ((∀j (h:j<l.length),j<0->l[j].nm≠nm)/\Below W0.heap.size W0 W0):=⟨fun j _ h=>by omega,Below.refl _ _⟩
 go_loopw [6] (fun v6 wr=>∃k:Nat,k<=i/\v6=.int .i64 (k:Int)/\Hid ((∀j (h:j<l.length),j<k->l[j].nm≠nm)/\Below W0.heap.size W0 wr)) (fun v _=>i-(intOf v).toNat)
 ·exact⟨0,Nat.zero_le _,rfl,HS.out⟩
 clear HS;obtain⟨k,hk,rfl,HK⟩:=hrel;have gq:=uw.out wr HK.out.2;by_cases aq:k<i
 ·have j1:(k:Int)<i:=by omega
  have j2:(k:Int)<n:=by omega
  have hkl:k<l.length:=by rw[HR.out.2];omega
  obtain⟨g',kJ,AR,_,e0,_,_⟩:=(HR.out.1.below gq.2.2.2).get k hkl;simp only[Option.some.injEq,Addr.mk.injEq] at AR;obtain⟨rfl,rfl,_⟩:=AR;obtain⟨d0,_,_,_⟩:=gq;rcases hE:(l[k].nm.toList == nm.toList) with _|_
  ·have hne:l[k].nm≠nm:=(fun e=>by rw[e] at hE;simp at hE);have Fe:=hid hne;generalize l[k].nm=nk at e0 hE;clear hne;go_upto_region 7 with fail;go_quiet (fail)
   all_goals
    have HD:Hid (Below W0.heap.size W0 (wr.drewN nq)):=HK.out.2.trans ⟨rfl,rfl,rfl,Nat.le_refl _,fun _ _=>rfl⟩
    go_wp2
    go_roundw
    case rel=>
     refine⟨k+1,by omega,by go_num,fun j hj hjk=>?_,HD.out⟩;by_cases e:j<k
     ·exact HK.out.1 j hj e
     have:j=k:=(by omega);subst this;exact Fe.out
    case measure=>simp[intOf];omega
  have heq:l[k].nm=nm:=by
   have:=eq_of_beq hE;rw[ByteArray.toList_eq,ByteArray.toList_eq] at this;exact IZ this
  have xP:Hid (∃y∈pre,y.nm=nm):=by
   refine⟨l[k],?_,heq⟩;rw[<-HX.out.1];rw[List.mem_take_iff_getElem];exact⟨k,by omega,rfl⟩
  generalize l[k].nm=nk at e0 hE;clear heq;go_upto_region 7 with fail;go_quiet (fail)
  all_goals
   have HD:=hid (uw.out (wr.drewN nq) (HK.out.2.trans ⟨rfl,rfl,rfl,Nat.le_refl _,fun _ _=>rfl⟩)).2.2.2
   go_wp2
   go_ret
   exact⟨9,rfl,inr ⟨Hy.out,inl ⟨xP.out,rfl⟩⟩,HD.out⟩
 obtain rfl:k=i:=by omega
 have ox:Hid (∀y∈pre,y.nm≠nm):=fun y hy=>by
  rw[<-HX.out.1,List.mem_take_iff_getElem] at hy;obtain⟨j,hj,rfl⟩:=hy;exact HK.out.1 j (by omega) (by omega)
 have HB:=hid gq.2.2.2;obtain⟨_,d1,d2,_⟩:=gq;obtain⟨z,hz⟩:∃z,ir kk=z:=⟨_,rfl⟩
 have Hz:=hid hz;cases z
 ·have A2:kk<0\/(¬kk<0/\2<kk):=by
   unfold ir at hz;simp at hz;omega
  clear hz;rcases A2 with h|⟨h,h2⟩
  ·go_wp2;go_ret;exact⟨1,rfl,inr ⟨Hy.out,inr ⟨ox.out,inl ⟨Hz.out,rfl⟩⟩⟩,HB.out⟩
  go_wp2;go_ret;exact⟨1,rfl,inr ⟨Hy.out,inr ⟨ox.out,inl ⟨Hz.out,rfl⟩⟩⟩,HB.out⟩
 have ka:¬kk<0:=by
  unfold ir at hz;simp at hz;omega
 have fm:¬2<kk:=by
  unfold ir at hz;simp at hz;omega
 have Y0:=hid (zfi rx (by omega) wr);clear hz;go_wp2_with (go_at_call 17;refine Y0.out.mono ?_;rintro e w3 ⟨a3,n3,c3,k3,rfl,kb,hP⟩;refine Hid.out ?_);refine hid ?_;have uk:=hid (HB.out.trans (kb.mono HB.out.size));clear kb Y0;rcases hP with ⟨rfl,rfl,rfl,hE⟩|⟨_,rfl,l3,b3,ic,yg,lD,DE,rfl,az⟩
 ·obtain⟨e5,Yf,rfl,hne⟩:=Zb Bw hE;have zl:=hid Yf;have j1:(((e5:Int)) != 0)=true:=by simpa using hne
  clear hE Yf hne;go_wp2;go_ret;exact⟨(e5:Int),rfl,inr ⟨Hy.out,inr ⟨ox.out,inr ⟨Hz.out,inl ⟨e5,zl.out,rfl⟩⟩⟩⟩,uk.out⟩
 obtain⟨t,hT,hf⟩:=ZU ic yg;have HT:=hid hT;have hH:=znT t hT.1 b3 n3 c3 w3 _ (by rw[hf];exact az) (by rw[hf];exact lD) (by omega);have HH:=hid hH;clear hH hT hf ic az lD;go_wp2_with (go_at_call 18;refine HH.out.mono ?_;rintro e w4 ⟨b,rfl,hb,kb⟩;refine Hid.out ?_);refine hid ?_;have HB4:=hid (uk.out.trans (kb.mono uk.out.size));have Hb:=hid hb;clear kb HH hb;cases b
 ·go_wp2;go_ret;exact⟨0,rfl,inr ⟨Hy.out,inr ⟨ox.out,inr ⟨Hz.out,inr ⟨t,HT.out,inr ⟨(fun h=>absurd (Hb.out.2 h) (by decide)),rfl⟩⟩⟩⟩⟩,HB4.out⟩
 go_wp2;go_ret;exact⟨14,rfl,inr ⟨Hy.out,inr ⟨ox.out,inr ⟨Hz.out,inr ⟨t,HT.out,inl ⟨Hb.out.1 (by trivial),rfl⟩⟩⟩⟩⟩,HB4.out⟩
def NK(l:List Ru)(k:Nat):Prop:=∀j (h:j<l.length),j<k->NM (l.take j) l[j] 0
def Pd(l:List Ru)(w:World)(e:Ending)(w':World):Prop:=
 ∃(i er:Int),e=.returned (.tuple #[.int .i64 i,.int .i64 er])/\Below w.heap.size w w'/\
 ((∃(q:Nat) (h:q<l.length),i=(q:Int)/\er≠0/\NK l q/\NM (l.take q) l[q] er)\/(i=(l.length:Int)/\er=0/\NK l l.length))
theorem ZO(n c:Nat)(a:Option Addr)(l:List Ru)(hl:l.length=n)(hn:n<=60)(zn:n<=c)(hB:NO l)(w:World)(h1:fR w a l):
  Calls prog 8 #[.slice a n c] w (Pd l w):=by
 have H:=ξ h1 hB hl;have i0:¬((60:Int)<n):=by omega
 clear h1 hB hl;go_in;go_wp2_with fail;have HS:Hid (NK l 0/\Below w.heap.size w w):=⟨fun j _ h=>by omega,Below.refl _ _⟩
 go_loopw [4] (fun v4 wr=>∃k:Nat,k<=n/\v4=.int .i64 (k:Int)/\Hid (NK l k/\Below w.heap.size w wr)) (fun v _=>n-(intOf v).toNat)
 ·exact⟨0,Nat.zero_le _,rfl,HS.out⟩
 clear HS;obtain⟨k,hk,rfl,HK⟩:=hrel;by_cases aq:k<n
 ·have j1:(k:Int)<n:=by omega
  have hkl:k<l.length:=by rw[H.out.2.2];exact aq
  have hb:=H.out.2.1 k hkl;have HR:=hid (zl4 n c a l H.out.2.2 (by omega) zn k hkl hb.1 hb.2 wr (H.out.1.below HK.out.2));go_wp2_with (go_at_call 24;refine HR.out.mono ?_;rintro e w2 ⟨er,rfl,hF,kb⟩;refine Hid.out ?_);refine hid ?_;have HB:=hid (HK.out.2.trans (kb.mono HK.out.2.size));have HF:=hid hF;clear kb HR hF hb;by_cases h0:er=0
  ·subst h0;go_wp2;go_roundw
   ·refine⟨k+1,by omega,by go_num,fun j hj hjk=>?_,HB.out⟩;by_cases e:j<k
    ·exact HK.out.1 j hj e
    have:j=k:=(by omega);subst this;exact HF.out
   simp[intOf];omega
  have j2:(er != 0)=true:=by simpa using h0
  have HE:=hid h0;clear h0;go_wp2;go_ret2;exact⟨_,er,rfl,HB.out,inl ⟨k,hkl,rfl,HE.out,HK.out.1,HF.out⟩⟩
 obtain rfl:k=n:=by omega
 have j1:¬((k:Int)<k):=by omega
 go_wp2;go_ret2;exact⟨_,0,rfl,HK.out.2,inr ⟨by rw[H.out.2.2],rfl,by rw[H.out.2.2];exact HK.out.1⟩⟩
theorem zg5{l:List Ru}{w w' v v':World}{e1 e2:Ending}(FP:l.length<=60)(h:F8 l w e1 w')(k:Pd l v e2 v'):∃i er i2 sq:Int,e1=.returned (.tuple #[.int .i64 i,.int .i64 er])/\e2=.returned (.tuple #[.int .i64 i2,.int .i64 sq])/\(er≠6->i=i2/\er=sq):=by
 obtain⟨i2,sq,rfl,_,hk⟩:=k;rcases h.2 with ⟨lz,_⟩|⟨i,hi,er,hne,nP,hE,rfl⟩|⟨_,nP,rfl⟩
 ·omega
 ·refine⟨_,_,_,_,rfl,rfl,fun h6=>?_⟩;rcases hk with ⟨q,hq,rfl,kW,Lj,hF⟩|⟨_,rfl,Lj⟩
  ·rcases Nat.lt_trichotomy i q with e|e|e
   ·exact absurd (hE.agree (Lj i hi e) h6) hne
   ·subst e;exact⟨rfl,hE.agree hF h6⟩
   exact absurd ((nP q hq e).agree hF (by decide)).symm kW
  exact absurd (hE.agree (Lj i hi hi) h6) hne
 refine⟨_,_,_,_,rfl,rfl,fun h6=>?_⟩;rcases hk with ⟨q,hq,rfl,kW,Lj,hF⟩|⟨rfl,rfl,_⟩
 ·exact absurd ((nP q hq hq).agree hF (by decide)).symm kW
 exact⟨rfl,rfl⟩
