import Derived.Test.YtbacgnhkapancaaGreatZDRLan
import Derived.Test.YtbacgnhkapancaaGreatZQAwk
import Derived.Test.YtbacgnhkapancaaGreatZRPParse
set_option linter.all false
set_option maxHeartbeats 4000000
set_option maxRecDepth 100000
open Go.Lib (hid)
namespace Go.Proofs.YtbacgnhkapancaaGreat
open Go.RowKit Go.Maps Go.WideElems Go.ChangeMaps Go.MapKept Go.Proofs.Tryz
open Nat (le_refl zero_le)
open Or (inl inr)
def Lv(pre:List Ru)(x:Ru)(er:Int):Prop:=
 (dI x.nm=false/\er=8)\/(dI x.nm=true/\
  ((
   (∃y∈pre,y.nm=x.nm)/\er=9)\/((∀y∈pre,y.nm≠x.nm)/\
   ((
    hY x.k=false/\er=1)\/(hY x.k=true/\
    ((∃e5:Nat,nz x.rx e5/\er=(e5:Int))\/(∃t,fx x.rx t/\((dO t []/\er=14)\/(¬dO t []/\er=0)))))))))
def Oq(pre:List Ru)(x:Ru)(w:World)(e:Ending)(w':World):Prop:=∃er,e=.returned (.int .i64 er)/\Lv pre x er/\Below w.heap.size w w'
theorem fx.lan{s:ByteArray}{t t':Rx}(h:fx s t)(h':fx s t'):dO t []↔dO t' []:=LD h.1 h'.1 (h.flat h') (fun _=>0) (fun _=>by omega) 0
theorem znA{s:ByteArray}{a b:Nat}(h:nz s a)(k:nz s b):a=b:=by
 rcases h with ⟨rfl,h⟩|⟨rfl,l,h,_⟩ <;> rcases k with ⟨rfl,k⟩|⟨rfl,l',k,_⟩
 ·rfl
 ·exact absurd k (h l')
 ·exact absurd h (k l)
 rfl
theorem Aq.agree{pre:List Ru}{x:Ru}{e1 e2:Int}(h:Aq pre x e1)(k:Lv pre x e2)(h6:e1≠6):e1=e2:=by
 rcases h with ⟨h1,rfl⟩|⟨h1,h⟩ <;> rcases k with ⟨k1,rfl⟩|⟨k1,k⟩
 ·rfl
 ·rw[h1] at k1;cases k1
 ·rw[h1] at k1;cases k1
 rcases h with ⟨⟨y,hy,hn⟩,rfl⟩|⟨h2,h⟩ <;> rcases k with ⟨⟨y',hy',hn'⟩,rfl⟩|⟨k2,k⟩
 ·rfl
 ·exact absurd hn (k2 y hy)
 ·exact absurd hn' (h2 y' hy')
 rcases h with ⟨h3,rfl⟩|⟨h3,h⟩ <;> rcases k with ⟨k3,rfl⟩|⟨k3,k⟩
 ·rfl
 ·rw[h3] at k3;cases k3
 ·rw[h3] at k3;cases k3
 rcases h with ⟨e5,h4,rfl⟩|⟨t,h4,h⟩ <;> rcases k with ⟨e6,k4,rfl⟩|⟨t',k4,k⟩
 ·rw[znA h4 k4]
 ·exact (k4.pJ h4).elim
 ·exact (h4.pJ k4).elim
 have hl:=h4.lan k4;rcases h with ⟨_,rfl⟩|⟨h5,rfl⟩|⟨h5,rfl⟩ <;> rcases k with ⟨k5,rfl⟩|⟨k5,rfl⟩
 ·exact absurd rfl h6
 ·exact absurd rfl h6
 ·rfl
 ·exact absurd (hl.1 h5) k5
 ·exact absurd (hl.2 k5) h5
 rfl
theorem znB{s:ByteArray}{l:List Pc}(h:eO (aa s)=some l)(hl:l.length<=400):∃t,fx s t/\t.flat=l:=by
 have h2:bf (dw 99) ([],aa s)=some (l,[]):=by
  unfold eO at h;rcases ho:bf (dw 99) ([],aa s) with _|⟨l',r⟩
  ·rw[ho] at h;cases h
  rw[ho] at h;cases r with
  | nil=>simp at h;rw[h]
  | cons a r=>simp at h
 obtain⟨t,hw,hf⟩:=Tu (Bk s) h2;exact⟨t,⟨hw,by rw[hf];exact h2,by rw[hf];exact hl⟩,hf⟩
theorem zlL{s:ByteArray}(hs:s.size<=1600){k:Int}(h:(1600<s.size/\k=6)\/(s.size<=1600/\eO (aa s)=none/\k=5)\/(s.size<=1600/\k=6/\∃l,eO (aa s)=some l/\400<l.length)):∃e5:Nat,nz s e5/\k=(e5:Int)/\k≠0:=by
 rcases h with ⟨h,_⟩|⟨_,h,rfl⟩|⟨_,rfl,l,h,hl⟩
 ·omega
 ·refine⟨5,inl ⟨rfl,fun l hl=>?_⟩,rfl,by decide⟩;unfold eO at h;rw[hl] at h;simp at h
 refine⟨6,inr ⟨rfl,l,?_,hl⟩,rfl,by decide⟩;unfold eO at h;rcases ho:bf (dw 99) ([],aa s) with _|⟨l',r⟩
 ·rw[ho] at h;cases h
 rw[ho] at h;cases r with
 | nil=>simp at h;rw[h]
 | cons a r=>simp at h
theorem znC(t:Rx)(hw:t.wf)(g n cap:Nat)(w:World)(B:Nat)(h:w.ownsRow B 104 5 (.slice (some ⟨g,0,none⟩) n cap) n (eC t.flat))(hn:t.flat.length=n)(dD:n<=1000):
  Calls prog 23 #[.slice (some ⟨g,0,none⟩) n cap,.string ⟨#[]⟩] w fun e w'=>∃b:Bool,e=.returned (.bool b)/\(b=true↔dO t [])/\Below w.heap.size w w':=by
 have hc:n<=cap/\cap<=maxLen:=by
  rcases h.2 with ⟨h1,h2⟩|⟨g',I3,cur,hv,_,_,h3,h4,_⟩
  ·simp at h1
  simp at hv;obtain⟨_,rfl⟩:=hv;exact⟨h3,h4⟩
 refine (zkB t hw ⟨#[]⟩ 0 rfl (by omega) g 0 n cap w (ZG h hn) hn (by omega) hc).mono ?_;rintro e w' ⟨rfl,hb⟩;exact⟨_,rfl,zmL ⟨#[]⟩ [] 0 rfl (fun i h=>by simp at h) t hw,hb⟩
theorem zlM(n c:Nat)(a:Option Addr)(l:List Ru)(hl:l.length=n)(hn:n<=100000)(xw:n<=c)(i:Nat)(hi:i<l.length)(jV:l[i].nm.size<=maxLen)(Bt:l[i].rx.size<=1600)(w:World)(h1:gH w a l):
  Calls prog 28 #[.slice a n c,.int .i64 (i:Int)] w (Oq (l.take i) l[i] w):=by
 obtain⟨g,off,rfl,hg,c0,c1,c2⟩:=h1.get i hi;have HR:=hid (Zz h1 hl);have nb:i<n:=by omega
 obtain⟨pre,q8⟩:∃p,l.take i=p:=⟨_,rfl⟩
 obtain⟨nm,kk,rx,hx⟩:∃nm kk rx,l[i]=⟨nm,kk,rx⟩:=⟨_,_,_,rfl⟩
 have HX:=hid (Zz q8 hx);rw[hx] at jV Bt c0 c1 c2;rw[q8,hx];simp only at jV Bt c0 c1 c2;clear q8 hx h1 hl;have i1:(i:Int)<n:=by omega
 go_enter func28,ntmps28;go_upto_region 2 with fail;have s0:=St.new w 33 #[.string nm,.int .i64 kk,.string rx];have k0:=al w (.cells #[.string nm,.int .i64 kk,.string rx] 33);obtain⟨b0,aD⟩:∃b0,w.heap.size=b0:=⟨_,rfl⟩
 have H0:Hid (St (w.alloc (.cells #[.string nm,.int .i64 kk,.string rx] 33)) 33 b0 #[.string nm,.int .i64 kk,.string rx]/\Below w.heap.size w (w.alloc (.cells #[.string nm,.int .i64 kk,.string rx] 33))):=⟨aD ▸ s0,k0⟩
 rw[aD];clear s0 k0 aD c0 c1 c2;generalize w.alloc (.cells #[.string nm,.int .i64 kk,.string rx] 33)=W0 at H0⊢;have tG:Hid (∀W,Below W0.heap.size W0 W->W.cell? ⟨b0,0,none⟩=some (.string nm)/\W.cell? ⟨b0,1,none⟩=some (.int .i64 kk)/\W.cell? ⟨b0,2,none⟩=some (.string rx)/\Below w.heap.size w W):=fun W hW=>by
  have h:=H0.out.1.below hW H0.out.1.lt;refine⟨(h.at_ 0).trans rfl,(h.at_ 1).trans rfl,(h.at_ 2).trans rfl,H0.out.2.trans (hW.mono H0.out.2.size)⟩
 obtain⟨d0,_,_,_⟩:=tG.out W0 (Below.refl _ _);have JP:=hid (zkM nm W0 jV);obtain⟨y,hy⟩:∃y,dI nm=y:=⟨_,rfl⟩
 have Hy:=hid hy;rw[hy] at JP;clear hy;go_wp2_with (go_at_call 50;refine JP.out.mono ?_;rintro e W9 ⟨rfl,rfl⟩;refine Hid.out ?_);refine hid ?_;clear JP d0;cases y
 ·have HF:=hid (tG.out W0 (Below.refl _ _)).2.2.2;go_wp2;go_ret;exact⟨8,rfl,inl ⟨Hy.out,rfl⟩,HF.out⟩
 go_wp2_with fail;have HS:Hid ((∀j (h:j<l.length),j<0->l[j].nm≠nm)/\Below W0.heap.size W0 W0):=⟨fun j _ h=>by omega,Below.refl _ _⟩
 go_loopw [6] (fun v6 wr=>∃k:Nat,k<=i/\v6=.int .i64 (k:Int)/\Hid ((∀j (h:j<l.length),j<k->l[j].nm≠nm)/\Below W0.heap.size W0 wr)) (fun v _=>i-(intOf v).toNat)
 ·exact⟨0,zero_le _,rfl,HS.out⟩
 clear HS;obtain⟨k,hk,rfl,HK⟩:=hrel;have fW:=tG.out wr HK.out.2;by_cases an:k<i
 ·have j1:(k:Int)<i:=by omega
  have j2:(k:Int)<n:=by omega
  have hkl:k<l.length:=by rw[HR.out.2];omega
  obtain⟨g',kj,zv,_,e0,_,_⟩:=(HR.out.1.below fW.2.2.2).get k hkl;simp only[Option.some.injEq,Addr.mk.injEq] at zv;obtain⟨rfl,rfl,_⟩:=zv;obtain⟨d0,_,_,_⟩:=fW;rcases hE:(l[k].nm.toList == nm.toList) with _|_
  ·have hne:l[k].nm≠nm:=(fun e=>by rw[e] at hE;simp at hE);have Fo:=hid hne;generalize l[k].nm=nk at e0 hE;clear hne;go_upto_region 7 with fail;go_quiet (fail)
   all_goals
    have HD:Hid (Below W0.heap.size W0 (wr.drewN nq)):=HK.out.2.trans ⟨rfl,rfl,rfl,le_refl _,fun _ _=>rfl⟩
    go_wp2_with fail
    go_roundw
    case rel=>
     refine⟨k+1,by omega,by go_num,fun j hj hjk=>?_,HD.out⟩;by_cases e:j<k
     ·exact HK.out.1 j hj e
     have:j=k:=(by omega);subst this;exact Fo.out
    case measure=>simp[intOf];omega
  have heq:l[k].nm=nm:=by
   have:=eq_of_beq hE;rw[ByteArray.toList_eq,ByteArray.toList_eq] at this;exact Il this
  have wL:Hid (∃y∈pre,y.nm=nm):=by
   refine⟨l[k],?_,heq⟩;rw[<-HX.out.1];rw[List.mem_take_iff_getElem];exact⟨k,by omega,rfl⟩
  generalize l[k].nm=nk at e0 hE;clear heq;go_upto_region 7 with fail;go_quiet (fail)
  all_goals
   have HD:=hid (tG.out (wr.drewN nq) (HK.out.2.trans ⟨rfl,rfl,rfl,le_refl _,fun _ _=>rfl⟩)).2.2.2
   go_wp2_with fail
   go_ret
   exact⟨9,rfl,inr ⟨Hy.out,inl ⟨wL.out,rfl⟩⟩,HD.out⟩
 obtain rfl:k=i:=by omega
 have nN:Hid (∀y∈pre,y.nm≠nm):=fun y hy=>by
  rw[<-HX.out.1,List.mem_take_iff_getElem] at hy;obtain⟨j,hj,rfl⟩:=hy;exact HK.out.1 j (by omega) (by omega)
 have HB:=hid fW.2.2.2;obtain⟨_,d1,d2,_⟩:=fW;obtain⟨z,hz⟩:∃z,hY kk=z:=⟨_,rfl⟩
 have Hz:=hid hz;cases z
 ·have yd:kk<0\/(¬kk<0/\2<kk):=by
   unfold hY at hz;simp at hz;omega
  clear hz;rcases yd with h|⟨h,h2⟩
  ·go_wp2;go_ret;exact⟨1,rfl,inr ⟨Hy.out,inr ⟨nN.out,inl ⟨Hz.out,rfl⟩⟩⟩,HB.out⟩
  go_wp2;go_ret;exact⟨1,rfl,inr ⟨Hy.out,inr ⟨nN.out,inl ⟨Hz.out,rfl⟩⟩⟩,HB.out⟩
 have jU:¬kk<0:=by
  unfold hY at hz;simp at hz;omega
 have eQ:¬2<kk:=by
  unfold hY at hz;simp at hz;omega
 have XQ:=hid (zkg rx (by omega) wr);clear hz;go_wp2_with (go_at_call 22;refine XQ.out.mono ?_;rintro e w3 ⟨a3,n3,c3,k3,rfl,kb,hP⟩;refine Hid.out ?_);refine hid ?_;have tm:=hid (HB.out.trans (kb.mono HB.out.size));clear kb XQ;rcases hP with ⟨rfl,rfl,rfl,hE⟩|⟨_,rfl,l3,b3,gP,xX,lq,Cw,rfl,ay⟩
 ·obtain⟨e5,YT,rfl,hne⟩:=zlL Bt hE;have yL:=hid YT;have j1:(((e5:Int)) != 0)=true:=by simpa using hne
  clear hE YT hne;go_wp2;go_ret;exact⟨(e5:Int),rfl,inr ⟨Hy.out,inr ⟨nN.out,inr ⟨Hz.out,inl ⟨e5,yL.out,rfl⟩⟩⟩⟩,tm.out⟩
 obtain⟨t,hT,hf⟩:=znB gP xX;have HT:=hid hT;have hH:=znC t hT.1 b3 n3 c3 w3 _ (by rw[hf];exact ay) (by rw[hf];exact lq) (by omega);have HH:=hid hH;clear hH hT hf gP ay lq;go_wp2_with (go_at_call 23;refine HH.out.mono ?_;rintro e w4 ⟨b,rfl,hb,kb⟩;refine Hid.out ?_);refine hid ?_;have TL:=hid (tm.out.trans (kb.mono tm.out.size));have Hb:=hid hb;clear kb HH hb;cases b
 ·go_wp2;go_ret;exact⟨0,rfl,inr ⟨Hy.out,inr ⟨nN.out,inr ⟨Hz.out,inr ⟨t,HT.out,inr ⟨(fun h=>absurd (Hb.out.2 h) (by decide)),rfl⟩⟩⟩⟩⟩,TL.out⟩
 go_wp2;go_ret;exact⟨14,rfl,inr ⟨Hy.out,inr ⟨nN.out,inr ⟨Hz.out,inr ⟨t,HT.out,inl ⟨Hb.out.1 (by trivial),rfl⟩⟩⟩⟩⟩,TL.out⟩
def LN(l:List Ru)(k:Nat):Prop:=∀j (h:j<l.length),j<k->Lv (l.take j) l[j] 0
def MY(l:List Ru)(w:World)(e:Ending)(w':World):Prop:=
 ∃(i er:Int),e=.returned (.tuple #[.int .i64 i,.int .i64 er])/\Below w.heap.size w w'/\
 ((∃(q:Nat) (h:q<l.length),i=(q:Int)/\er≠0/\LN l q/\Lv (l.take q) l[q] er)\/(i=(l.length:Int)/\er=0/\LN l l.length))
theorem zgZ(n c:Nat)(a:Option Addr)(l:List Ru)(hl:l.length=n)(hn:n<=60)(xw:n<=c)(hB:NH l)(w:World)(h1:gH w a l):
  Calls prog 10 #[.slice a n c] w (MY l w):=by
 have H:=hid (Zz h1 (Zz hB hl));have i0:¬((60:Int)<n):=by omega
 clear h1 hB hl;go_enter func10,ntmps10;go_wp2_with fail;have HS:Hid (LN l 0/\Below w.heap.size w w):=⟨fun j _ h=>by omega,Below.refl _ _⟩
 go_loopw [4] (fun v4 wr=>∃k:Nat,k<=n/\v4=.int .i64 (k:Int)/\Hid (LN l k/\Below w.heap.size w wr)) (fun v _=>n-(intOf v).toNat)
 ·exact⟨0,zero_le _,rfl,HS.out⟩
 clear HS;obtain⟨k,hk,rfl,HK⟩:=hrel;by_cases an:k<n
 ·have j1:(k:Int)<n:=by omega
  have hkl:k<l.length:=by rw[H.out.2.2];exact an
  have hb:=H.out.2.1 k hkl;have HR:=hid (zlM n c a l H.out.2.2 (by omega) xw k hkl hb.1 hb.2 wr (H.out.1.below HK.out.2));go_wp2_with (go_at_call 28;refine HR.out.mono ?_;rintro e w2 ⟨er,rfl,hF,kb⟩;refine Hid.out ?_);refine hid ?_;have HB:=hid (HK.out.2.trans (kb.mono HK.out.2.size));have HF:=hid hF;clear kb HR hF hb;by_cases h0:er=0
  ·subst h0;go_wp2;go_roundw
   ·refine⟨k+1,by omega,by go_num,fun j hj hjk=>?_,HB.out⟩;by_cases e:j<k
    ·exact HK.out.1 j hj e
    have:j=k:=(by omega);subst this;exact HF.out
   simp[intOf];omega
  have j2:(er != 0)=true:=by simpa using h0
  have HE:=hid h0;clear h0;go_wp2;go_ret2;exact⟨_,er,rfl,HB.out,inl ⟨k,hkl,rfl,HE.out,HK.out.1,HF.out⟩⟩
 obtain rfl:k=n:=by omega
 have j1:¬((k:Int)<k):=by omega
 go_wp2;go_ret2;exact⟨_,0,rfl,HK.out.2,inr ⟨by rw[H.out.2.2],rfl,by rw[H.out.2.2];exact HK.out.1⟩⟩
theorem zg0{l:List Ru}{w w' v v':World}{e1 e2:Ending}(TN:l.length<=60)(h:jM l w e1 w')(k:MY l v e2 v'):∃i er i2 yT:Int,e1=.returned (.tuple #[.int .i64 i,.int .i64 er])/\e2=.returned (.tuple #[.int .i64 i2,.int .i64 yT])/\(er≠6->i=i2/\er=yT):=by
 obtain⟨i2,yT,rfl,_,hk⟩:=k;rcases h.2 with ⟨kO,_⟩|⟨i,hi,er,hne,o9,hE,rfl⟩|⟨_,o9,rfl⟩
 ·omega
 ·refine⟨_,_,_,_,rfl,rfl,fun h6=>?_⟩;rcases hk with ⟨q,hq,rfl,km,L0,hF⟩|⟨_,rfl,L0⟩
  ·rcases Nat.lt_trichotomy i q with e|e|e
   ·exact absurd (hE.agree (L0 i hi e) h6) hne
   ·subst e;exact⟨rfl,hE.agree hF h6⟩
   exact absurd ((o9 q hq e).agree hF (by decide)).symm km
  exact absurd (hE.agree (L0 i hi hi) h6) hne
 refine⟨_,_,_,_,rfl,rfl,fun h6=>?_⟩;rcases hk with ⟨q,hq,rfl,km,L0,hF⟩|⟨rfl,rfl,_⟩
 ·exact absurd ((o9 q hq hq).agree hF (by decide)).symm km
 exact⟨rfl,rfl⟩
def zX(l:List Ru):List Value:=l.map fun x=>.int .i64 x.k
def zqC(l:List Ru)(w:World)(e:Ending)(w':World):Prop:=
 ∃(a:Option Addr) (c:Nat),e=.returned (.slice a l.length c)/\w'.ownsRow w.heap.size 3 1 (.slice a l.length c) l.length (zX l)/\Below w.heap.size w w'
theorem zlN(n c:Nat)(a:Option Addr)(l:List Ru)(hl:l.length=n)(hn:n<=100000)(xw:n<=c)(w:World)(h1:gH w a l):
  Calls prog 11 #[.slice a n c] w (zqC l w):=by
 obtain⟨iI,hI,pW,p9,qa⟩:=info_parts az;have H:=hid (Zz h1 hl);have fu:=Na n (by omega);have HO:=hid (Zz (Me n (by omega) w w.heap.size (le_refl _)) (al w (.cells (madeCells #[.int .i64 0] n) 3)));clear h1 hl;go_enter func11,ntmps11;go_upto_region 2 with fail;generalize w.alloc (.cells (madeCells #[.int .i64 0] n) 3)=W0 at HO⊢;clear fu;obtain⟨g0,PO⟩:∃g0,w.heap.size=g0:=⟨_,rfl⟩
 have j4:Hid (W0.ownsRow w.heap.size 3 1 (.slice (some ⟨g0,0,none⟩) 0 n) 0 (zX (l.take 0))/\Below w.heap.size w W0):=⟨by rw[<-PO];exact HO.out.1,HO.out.2⟩
 rw[PO];clear HO PO;go_wp2_with fail;go_loopw [3,5,11] (fun v3 _ v11 wr=>∃(k:Nat) (b:Option Addr) (d:Nat),k<=n/\v11=.int .i64 (k:Int)/\v3=.slice b k d/\Hid (wr.ownsRow w.heap.size 3 1 (.slice b k d) k (zX (l.take k))/\Below w.heap.size w wr)) (fun _ _ v _=>n-(intOf v).toNat)
 ·exact⟨0,_,_,zero_le _,rfl,rfl,j4.out⟩
 clear j4;obtain⟨k,b,d,hk,rfl,rfl,HK⟩:=hrel;by_cases an:k<n
 ·have j1:(k:Int)<n:=by omega
  have hkl:k<l.length:=by rw[H.out.2];exact an
  obtain⟨g,off,rfl,uY,c0,c1,c2⟩:=(H.out.1.below HK.out.2).get k hkl;have HT:Hid (zX (l.take (k+1))=zX (l.take k)++[.int .i64 l[k].k]):=by
   show _=_;unfold zX;rw[List.take_add_one,List.getElem?_eq_getElem hkl,List.map_append];rfl
  have Hn:=H.out.2;generalize l[k].nm=nm at c0;generalize l[k].k=kk at c1 HT;generalize l[k].rx=rx at c2;clear Hn;go_upto_region 5 with fail;have s0:=St.new wr 33 #[.string nm,.int .i64 kk,.string rx];have k0:=al wr (.cells #[.string nm,.int .i64 kk,.string rx] 33);obtain⟨b0,aD⟩:∃b0,wr.heap.size=b0:=⟨_,rfl⟩
  have H0:Hid (St (wr.alloc (.cells #[.string nm,.int .i64 kk,.string rx] 33)) 33 b0 #[.string nm,.int .i64 kk,.string rx]/\Below w.heap.size w (wr.alloc (.cells #[.string nm,.int .i64 kk,.string rx] 33))/\(wr.alloc (.cells #[.string nm,.int .i64 kk,.string rx] 33)).ownsRow w.heap.size 3 1 (.slice b k d) k (zX (l.take k))):=⟨aD ▸ s0,HK.out.2.trans (k0.mono HK.out.2.size),HK.out.1.alloc _⟩
  rw[aD];clear s0 k0 aD c0 c1 c2;generalize wr.alloc (.cells #[.string nm,.int .i64 kk,.string rx] 33)=W1 at H0⊢;have d1:W1.cell? ⟨b0,1,none⟩=some (.int .i64 kk):=(H0.out.1.at_ 1).trans rfl;have cU:=H0.out.2.1.size;have hO:=H0.out.2.2;go_wp2_with (at_builtin;refine wpList_append_own _ rfl _ _ 30 rfl w.heap.size 3 iI (.int .i64 0) 1 8 underlying30 hI pW p9 qa rfl (by decide) _ k _ rfl (hO.alloc _) ⟨W1.heap.size,0,none⟩ 1 1 [.int .i64 kk] rfl rfl ?c1 ?c2 ?c3 ?c4 ?c5 ?_)
  case c1=>
   intro j u hj
   match j,hj with
   | 0,hj=>simp at hj;subst hj;simp[Addr.add]
  case c2=>first|rfl|(intro u hu;simp at hu;subst hu;rfl)
  case c3=>unfold maxLen;omega
  case c4=>omega
  case c5=>first|omega|(simp;omega)
  intro v' w5 ah ag _;obtain⟨a5,c5,rfl⟩:=bJ ah;have HB:=hid ((H0.out.2.1.trans ((al W1 (.cells #[.int .i64 kk] 3)).mono cU)).grown ag (by simp;omega) (fun g e=>(hO.lt g e).1));have HW:=hid ah;clear ah ag hO d1 cU;go_wp2;go_roundw
  ·exact⟨k+1,a5,c5,by omega,by go_num,rfl,by rw[HT.out];exact HW.out,HB.out⟩
  simp[intOf];omega
 obtain rfl:k=n:=by omega
 have j1:¬((k:Int)<k):=by omega
 go_wp2;go_ret;refine⟨b,d,by rw[H.out.2];rfl,?_,HK.out.2⟩;have:=HK.out.1;rw[List.take_of_length_le (by rw[H.out.2];exact le_refl _)] at this;rw[H.out.2];exact this
def Dt(l:List Ru)(k:Nat):Prop:=∀j (h:j<l.length),j<k->l[j].rx.size<=40/\l[j].nm.size<=100
def SQ(l:List Ru)(w:World)(e:Ending)(w':World):Prop:=∃bo:Bool,e=.returned (.bool bo)/\(bo=true->l.length<=20/\Dt l l.length)/\Below w.heap.size w w'
theorem zlO(n c:Nat)(a:Option Addr)(l:List Ru)(hl:l.length=n)(hn:n<=9223372036854775807)(w:World)(h1:gH w a l):
  Calls prog 8 #[.slice a n c] w (SQ l w):=by
 have H:=hid (Zz h1 hl);clear h1 hl;go_enter func8,ntmps8;by_cases h20:20<n
 ·have i1:(20:Int)<n:=by omega
  go_wp2;go_ret;exact⟨false,rfl,fun h=>(by cases h),Below.refl _ _⟩
 have i1:¬((20:Int)<n):=by omega
 go_wp2_with fail;go_loopw [3] (fun v wr=>∃k:Nat,v=.int .i64 k/\k<=n/\wr=w/\Hid (Dt l k)) (fun v _=>n-(intOf v).toNat)
 ·exact⟨0,rfl,zero_le _,rfl,fun j _ h=>by omega⟩
 obtain⟨k,rfl,hk,rfl,HK⟩:=hrel;by_cases an:k<n
 ·have hkl:k<l.length:=by rw[H.out.2];exact an
  obtain⟨g,o,rfl,_,x0,x1,x2⟩:=H.out.1.get k hkl;have i2:(k:Int)<n:=by omega
  have HS:Hid (l[k].rx.size<=40->l[k].nm.size<=100->Dt l (k+1)):=fun h1 h2 j hj hjk=>by
   by_cases e:j=k
   ·subst e;exact⟨h1,h2⟩
   exact HK.out j hj (by omega)
  clear x1;generalize l[k].nm=nm at x0 HS;generalize l[k].rx=rx at x2 HS;by_cases Rh:40<rx.size
  ·have i3:decide ((40:Int)<(rx.size:Int))=true:=(by simp;omega);go_wp2;go_ret;exact⟨false,rfl,fun h=>(by cases h),Below.refl _ _⟩
  have i3:decide ((40:Int)<(rx.size:Int))=false:=by simp;omega
  by_cases Ou:100<nm.size
  ·have i4:((100:Int)<(nm.size:Int)):=(by omega);go_wp2;go_ret;exact⟨false,rfl,fun h=>(by cases h),Below.refl _ _⟩
  have i4:¬((100:Int)<(nm.size:Int)):=by omega
  have HZ:=hid (HS.out (by omega) (by omega));go_wp2;go_roundw
  ·exact⟨k+1,by go_num,by omega,trivial,HZ.out⟩
  simp[intOf];omega
 obtain rfl:k=n:=by omega
 have i2:¬((k:Int)<k):=by omega
 go_wp2;go_ret;exact⟨true,rfl,fun _=>⟨by rw[H.out.2];omega,by rw[H.out.2];exact HK.out⟩,Below.refl _ _⟩
def sc(l:List Ru)(s:ByteArray)(k:Nat)(r:Int):Prop:=(r=-1/\∀j (h:j<l.length),j<k->l[j].nm≠s)\/∃(i:Nat) (h:i<l.length),i<k/\r=((i:Nat):Int)/\l[i].nm=s/\∀j (h:j<l.length),j<i->l[j].nm≠s
theorem sc.eq{l:List Ru}{s:ByteArray}{r t:Int}(h:sc l s l.length r)(f:oH l s t):t=r:=by
 rcases h with ⟨rfl,h⟩|⟨i,hi,_,rfl,e,h⟩ <;> rcases f with ⟨rfl,f⟩|⟨q,hq,rfl,e',f⟩
 ·rfl
 ·exact absurd e' (h q hq hq)
 ·exact absurd e (f i hi)
 have:i=q:=by
  rcases Nat.lt_trichotomy i q with x|x|x
  ·exact absurd e (f i hi x)
  ·exact x
  exact absurd e' (h q hq x)
 rw[this]
theorem jM.form{l:List Ru}{w w':World}{e:Ending}(h:jM l w e w'):∃i er:Int,e=.returned (.tuple #[.int .i64 i,.int .i64 er]):=by
 rcases h.2 with ⟨_,rfl⟩|⟨_,_,_,_,_,_,rfl⟩|⟨_,_,rfl⟩
 all_goals exact⟨_,_,rfl⟩
theorem zlP{l:List Ru}{w w' v v':World}{i er i2 yT:Int}(TN:l.length<=60)(h:jM l w (.returned (.tuple #[.int .i64 i,.int .i64 er])) w')(k:MY l v (.returned (.tuple #[.int .i64 i2,.int .i64 yT])) v')(h6:er≠6):i=i2/\er=yT:=by
 obtain⟨a,b,c,d,e1,e2,h3⟩:=zg0 TN h k;simp at e1 e2;obtain⟨rfl,rfl⟩:=e1;obtain⟨rfl,rfl⟩:=e2;exact h3 h6
theorem zeF(n c:Nat)(a:Option Addr)(l:List Ru)(s:ByteArray)(hl:l.length=n)(hn:n<=9223372036854775807)(xw:n<=c)(w:World)(h1:gH w a l):
  Calls prog 3 #[.slice a n c,.string s] w fun e w'=>e=.returned (.bool true)/\Below w.heap.size w w':=by
 have H:=hid (Zz h1 (Zz hl (Zz hn xw)));have Zs:=hid (zhO w);clear h1 hl hn xw;go_enter func3,ntmps3;go_upto_region 3 with (go_at_call 7;refine Zs.out.mono ?_;rintro e w1 ⟨rfl,b1⟩);have H1:=hid b1;have nL:=hid (zlO n c a l H.out.2.1 H.out.2.2.1 w1 (H.out.1.below b1));clear b1 Zs;go_wp2_with (go_at_call 8;refine nL.out.mono ?_);rintro e w2 ⟨bo,rfl,rS,b2⟩;have H2:=hid (H1.out.trans (b2.mono H1.out.size));clear b2 nL H1;rcases bo with _|_
 ·clear rS;go_wp2;go_ret;exact⟨rfl,H2.out⟩
 have HF:=hid (rS rfl);clear rS;by_cases Ou:100<s.size
 ·have i1:(100:Int)<(s.size:Int):=by omega
  go_wp2;go_ret;exact⟨rfl,H2.out⟩
 have i1:¬((100:Int)<(s.size:Int)):=by omega
 have hn20:n<=20:=by have:=HF.out.1;rw[H.out.2.1] at this;exact this
 have HB:Hid (NH l):=fun j hj=>by
  have:=HF.out.2 j hj hj;unfold maxLen;omega
 have HC:=hid (WO n c a l H.out.2.1 (by omega) H.out.2.2.2 HB.out w2 (H.out.1.below H2.out));go_wp2_with (go_at_call 9;refine HC.out.mono ?_);intro e w3 hC;obtain⟨y1,er,rfl⟩:=hC.form;have vz:=hid hC;have H3:=hid (H2.out.trans (hC.1.mono H2.out.size));clear hC HC H2;have HR:=hid (zgZ n c a l H.out.2.1 (by omega) H.out.2.2.2 HB.out w3 (H.out.1.below H3.out));go_wp2_with (go_at_call 10;refine HR.out.mono ?_);intro e w4 hR;obtain⟨y2,yT,rfl,hb,hr⟩:=hR;have Iy:Hid (MY l w3 (.returned (.tuple #[.int .i64 y2,.int .i64 yT])) w4):=⟨_,_,rfl,hb,hr⟩
 have H4:=hid (H3.out.trans (hb.mono H3.out.size));have HE:Hid (er≠6->y1=y2/\er=yT):=fun h6=>zlP (by have:=H.out.2.1;omega) vz.out Iy.out h6
 clear hb hr HR H3 vz Iy;have HK:=hid (zlN n c a l H.out.2.1 (by omega) H.out.2.2.2 w4 (H.out.1.below H4.out));go_wp2_with (go_at_call 11;refine HK.out.mono ?_);rintro e w5 ⟨aK,cK,rfl,hO,b5⟩;have H5:=hid (H4.out.trans (b5.mono H4.out.size));have HO:=hid hO;have k8:=H.out.2.1;clear hO b5 HK H4;rw[k8] at HO;rw[k8];clear k8;have j0:((n:Int) != (n:Int))=false:=by simp
 go_wp2_with fail;go_loopw [10,11] (fun v10 v wr=>∃(k:Nat) (f:Int),k<=n/\v=.int .i64 (k:Int)/\v10=.int .i64 f/\Hid (sc l s k f/\Below w5.heap.size w5 wr)) (fun _ v _=>n-(intOf v).toNat)
 ·exact⟨0,-1,zero_le _,rfl,rfl,inl ⟨rfl,fun j _ h=>by omega⟩,Below.refl _ _⟩
 clear j0;obtain⟨k,f,hk,rfl,rfl,C9⟩:=hrel;have Gr:=hid C9.out.1;have Jg:=hid C9.out.2;have C7:Hid (Below w.heap.size w wr):=H5.out.trans (Jg.out.mono H5.out.size);have HO9:=hid (cW HO.out Jg.out);clear C9;by_cases an:k<n
 ·have i2:(k:Int)<n:=by omega
  have hkl:k<l.length:=by rw[H.out.2.1];exact an
  obtain⟨gK,rfl,_,hgK,mL⟩:=ep HO9.out (by omega);have c3:=(mL k (by omega)).1;obtain⟨g,off,rfl,uY,c0,c1,c2⟩:=(H.out.1.below C7.out).get k hkl;have yd:(zX l)[k]?=some (.int .i64 l[k].k):=by unfold zX;rw[List.getElem?_map,List.getElem?_eq_getElem hkl];rfl
  rw[yd] at c3;have HN:Hid (l[k].nm=s->(∀j (h:j<l.length),j<k->l[j].nm≠s)->sc l s (k+1) (k:Int)):=fun h1 h2=>inr ⟨k,hkl,by omega,rfl,h1,h2⟩
  have G2:Hid (l[k].nm≠s->(∀j (h:j<l.length),j<k->l[j].nm≠s)->sc l s (k+1) (-1)):=fun h1 h2=>inl ⟨rfl,fun j hj hjk=>by
   by_cases e:j=k
   ·subst e;exact h1
   ·exact h2 j hj (by omega)⟩
  generalize l[k].k=kk at c1 c3;generalize l[k].nm=nm at c0 HN G2;clear mL c2 hgK uY yd;have j1:(kk != kk)=false:=by simp
  go_upto_region 13 with fail;go_quiet (fail);rcases Gr.out with ⟨hf,uW⟩|⟨q,hq,J2,hf,zZ,Zl⟩
  ·subst hf;by_cases e:nm=s
   ·have HZ:=hid (HN.out e uW);clear uW HN G2 Gr hkl;subst e;have j2:(nm.toList == nm.toList)=true:=(by simp);go_wp2;go_roundw
    ·exact⟨k+1,(k:Int),by omega,by go_num,rfl,HZ.out,below_drewN Jg.out _⟩
    simp[intOf];omega
   have HZ:=hid (G2.out e uW);have j2:(nm.toList == s.toList)=false:=by
    rw[<-Bool.not_eq_true,TT];exact e
   clear uW HN G2 Gr hkl e;go_wp2;go_roundw
   ·exact⟨k+1,-1,by omega,by go_num,rfl,HZ.out,below_drewN Jg.out _⟩
   simp[intOf];omega
  have HZ:Hid (sc l s (k+1) f):=inr ⟨q,hq,by omega,hf,zZ,Zl⟩;have j2:¬(f<0):=by omega
  clear hf zZ Zl hq J2 HN G2 Gr hkl;go_wp2;go_roundw
  ·exact⟨k+1,f,by omega,by go_num,rfl,HZ.out,below_drewN Jg.out _⟩
  simp[intOf];omega
 obtain rfl:k=n:=by omega
 have i2:¬((k:Int)<k):=by omega
 have zA:Hid (sc l s l.length f):=by rw[H.out.2.1];exact Gr.out
 by_cases h6:er=6
 ·subst h6;go_wp2;go_ret;exact⟨rfl,C7.out⟩
 have LW:=hid (HE.out h6);have HI:=hid (Vr k c a l s H.out.2.1 H.out.2.2.1 wr (H.out.1.below C7.out));have j6:¬(er=6):=h6;have j7:(er == 6)=false:=by simpa using h6
 obtain⟨e1,e2⟩:=LW.out;subst e1 e2;clear h6 HE LW;go_wp2_with (go_at_call 12;refine HI.out.mono ?_);rintro e w6 ⟨r,rfl,hr,b6⟩;have HBf:=hid (C7.out.trans (b6.mono C7.out.size));obtain rfl:=zA.out.eq hr;clear hr b6 HI;go_wp2;go_ret;exact⟨rfl,HBf.out⟩
end Go.Proofs.YtbacgnhkapancaaGreat
