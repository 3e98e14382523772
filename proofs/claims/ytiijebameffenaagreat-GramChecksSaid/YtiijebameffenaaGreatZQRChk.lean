import Derived.Test.YtiijebameffenaaGreatZDRLan
import Derived.Test.YtiijebameffenaaGreatZQLan
import Derived.Test.YtiijebameffenaaGreatZRPParse
set_option linter.all false
set_option maxHeartbeats 4000000
set_option maxRecDepth 100000
open Go.Lib (hid)
namespace Go.Proofs.YtiijebameffenaaGreat
open Go.RowKit Go.Maps Go.Proofs.Tryz
open Or (inl inr)
def Pa(pre:List Ru)(x:Ru)(er:Int):Prop:=
 (bG x.nm=false/\er=8)\/(bG x.nm=true/\
  ((
   (∃y∈pre,y.nm=x.nm)/\er=9)\/((∀y∈pre,y.nm≠x.nm)/\
   ((
    iA x.k=false/\er=1)\/(iA x.k=true/\
    ((∃e5:Nat,og x.rx e5/\er=(e5:Int))\/(∃t,kP x.rx t/\((fj t []/\er=14)\/(¬fj t []/\er=0)))))))))
def QZ(pre:List Ru)(x:Ru)(w:World)(e:Ending)(w':World):Prop:=∃er,e=.returned (.int .i64 er)/\Pa pre x er/\Below w.heap.size w w'
theorem kP.lan{s:ByteArray}{t t':Rx}(h:kP s t)(h':kP s t'):fj t []↔fj t' []:=zi7 h.1 h'.1 (h.flat h') (fun _=>0) (fun _=>by omega) 0
theorem zom{s:ByteArray}{a b:Nat}(h:og s a)(k:og s b):a=b:=by
 rcases h with ⟨rfl,h⟩|⟨rfl,l,h,_⟩ <;> rcases k with ⟨rfl,k⟩|⟨rfl,l',k,_⟩
 ·rfl
 ·exact absurd k (h l')
 ·exact absurd h (k l)
 rfl
theorem Ik.agree{pre:List Ru}{x:Ru}{e1 e2:Int}(h:Ik pre x e1)(k:Pa pre x e2)(h6:e1≠6):e1=e2:=by
 rcases h with ⟨h1,rfl⟩|⟨h1,h⟩ <;> rcases k with ⟨k1,rfl⟩|⟨k1,k⟩
 ·rfl
 ·rw[h1] at k1;cases k1
 ·rw[h1] at k1;cases k1
 rcases h with ⟨⟨y,hy,hn⟩,rfl⟩|⟨h2,h⟩ <;> rcases k with ⟨⟨y',hy',GD⟩,rfl⟩|⟨k2,k⟩
 ·rfl
 ·exact absurd hn (k2 y hy)
 ·exact absurd GD (h2 y' hy')
 rcases h with ⟨h3,rfl⟩|⟨h3,h⟩ <;> rcases k with ⟨k3,rfl⟩|⟨k3,k⟩
 ·rfl
 ·rw[h3] at k3;cases k3
 ·rw[h3] at k3;cases k3
 rcases h with ⟨e5,h4,rfl⟩|⟨t,h4,h⟩ <;> rcases k with ⟨e6,k4,rfl⟩|⟨t',k4,k⟩
 ·rw[zom h4 k4]
 ·exact (k4.tY h4).elim
 ·exact (h4.tY k4).elim
 have hl:=h4.lan k4;rcases h with ⟨_,rfl⟩|⟨h5,rfl⟩|⟨h5,rfl⟩ <;> rcases k with ⟨k5,rfl⟩|⟨k5,rfl⟩
 ·exact absurd rfl h6
 ·exact absurd rfl h6
 ·rfl
 ·exact absurd (hl.1 h5) k5
 ·exact absurd (hl.2 k5) h5.1
 rfl
theorem zon{s:ByteArray}{l:List Pc}(h:fB (aa s)=some l)(hl:l.length<=400):∃t,kP s t/\t.flat=l:=by
 have h2:bx (dB 99) ([],aa s)=some (l,[]):=by
  unfold fB at h;rcases ho:bx (dB 99) ([],aa s) with _|⟨l',r⟩
  ·rw[ho] at h;cases h
  rw[ho] at h;cases r with
  | nil=>simp at h;rw[h]
  | cons a r=>simp at h
 obtain⟨t,hw,hf⟩:=ze3 (Al s) h2;exact⟨t,⟨hw,by rw[hf];exact h2,by rw[hf];exact hl⟩,hf⟩
theorem zmi{s:ByteArray}(hs:s.size<=1600){k:Int}(h:(1600<s.size/\k=6)\/(s.size<=1600/\fB (aa s)=none/\k=5)\/(s.size<=1600/\k=6/\∃l,fB (aa s)=some l/\400<l.length)):∃e5:Nat,og s e5/\k=(e5:Int)/\k≠0:=by
 rcases h with ⟨h,_⟩|⟨_,h,rfl⟩|⟨_,rfl,l,h,hl⟩
 ·omega
 ·refine⟨5,inl ⟨rfl,fun l hl=>?_⟩,rfl,by decide⟩;unfold fB at h;rw[hl] at h;simp at h
 refine⟨6,inr ⟨rfl,l,?_,hl⟩,rfl,by decide⟩;unfold fB at h;rcases ho:bx (dB 99) ([],aa s) with _|⟨l',r⟩
 ·rw[ho] at h;cases h
 rw[ho] at h;cases r with
 | nil=>simp at h;rw[h]
 | cons a r=>simp at h
theorem zoo(t:Rx)(hw:t.wf)(g n cap:Nat)(w:World)(B:Nat)(h:w.ownsRow B 148 5 (.slice (some ⟨g,0,none⟩) n cap) n (fe t.flat))(hn:t.flat.length=n)(dZ:n<=1000):
  Calls prog 78 #[.slice (some ⟨g,0,none⟩) n cap,.string ⟨#[]⟩] w fun e w'=>∃b:Bool,e=.returned (.bool b)/\(b=true↔fj t [])/\Below w.heap.size w w':=by
 have hc:n<=cap/\cap<=maxLen:=by
  rcases h.2 with ⟨h1,h2⟩|⟨g',Ka,cur,hv,_,_,h3,h4,_⟩
  ·simp at h1
  simp at hv;obtain⟨_,rfl⟩:=hv;exact⟨h3,h4⟩
 refine (zkU t hw ⟨#[]⟩ 0 rfl (by omega) g 0 n cap w (Zu h hn) hn (by omega) hc).mono ?_;rintro e w' ⟨rfl,hb⟩;exact⟨_,rfl,zni ⟨#[]⟩ [] 0 rfl (fun i h=>by simp at h) t hw,hb⟩
theorem zmj(n c:Nat)(a:Option Addr)(l:List Ru)(hl:l.length=n)(hn:n<=100000)(Jo:n<=c)(i:Nat)(hi:i<l.length)(jo:l[i].nm.size<=maxLen)(B7:l[i].rx.size<=1600)(w:World)(h1:jL w a l):
  Calls prog 58 #[.slice a n c,.int .i64 (i:Int)] w (QZ (l.take i) l[i] w):=by
 obtain⟨g,off,rfl,hg,c0,c1,c2⟩:=h1.get i hi;have HR:=ζ h1 hl;have nf:i<n:=by omega
 obtain⟨pre,Ej⟩:∃p,l.take i=p:=⟨_,rfl⟩
 obtain⟨nm,kk,rx,hx⟩:∃nm kk rx,l[i]=⟨nm,kk,rx⟩:=⟨_,_,_,rfl⟩
 have HX:=ζ Ej hx;rw[hx] at jo B7 c0 c1 c2;rw[Ej,hx];simp only at jo B7 c0 c1 c2;clear Ej hx h1 hl;have i1:(i:Int)<n:=by omega
 go_in;go_upto_region 2 with fail;have s0:=St.new w 55 #[.string nm,.int .i64 kk,.string rx];have k0:=al w (.cells #[.string nm,.int .i64 kk,.string rx] 55);obtain⟨b0,bz⟩:=Ξ w.heap.size
 have H0:Hid (St (w.alloc (.cells #[.string nm,.int .i64 kk,.string rx] 55)) 55 b0 #[.string nm,.int .i64 kk,.string rx]/\Below w.heap.size w (w.alloc (.cells #[.string nm,.int .i64 kk,.string rx] 55))):=⟨bz ▸ s0,k0⟩
 rw[bz];clear s0 k0 bz c0 c1 c2;generalize w.alloc (.cells #[.string nm,.int .i64 kk,.string rx] 55)=W0 at H0⊢;have uF:Hid (∀W,Below W0.heap.size W0 W->W.cell? ⟨b0,0,none⟩=some (.string nm)/\W.cell? ⟨b0,1,none⟩=some (.int .i64 kk)/\W.cell? ⟨b0,2,none⟩=some (.string rx)/\Below w.heap.size w W):=fun W hW=>by
  have h:=H0.o.1.below hW H0.o.1.lt;refine⟨(h.at_ 0).trans rfl,(h.at_ 1).trans rfl,(h.at_ 2).trans rfl,H0.o.2.trans (hW.mono H0.o.2.size)⟩
 obtain⟨d0,_,_,_⟩:=uF.o W0 (Below.refl _ _);have uu:=hid (Q9 nm W0 jo);obtain⟨y,hy⟩:=Ξ (bG nm)
 have Hy:=hid hy;rw[hy] at uu;clear hy;go_wp2_with (go_at_call 59;refine uu.o.mono ?_;rintro e W9 ⟨rfl,rfl⟩;refine Hid.o ?_);refine hid ?_;clear uu d0;cases y
 ·have HF:=hid (uF.o W0 (Below.refl _ _)).2.2.2;go_wp2;go_ret;exact⟨8,rfl,inl ⟨Hy.o,rfl⟩,HF.o⟩
 go_wp2_with fail;have HS:Hid ((∀j (h:j<l.length),j<0->l[j].nm≠nm)/\Below W0.heap.size W0 W0):=⟨fun j _ h=>by omega,Below.refl _ _⟩
 go_loopw [6] (fun v6 wr=>∃k:Nat,k<=i/\v6=.int .i64 (k:Int)/\Hid ((∀j (h:j<l.length),j<k->l[j].nm≠nm)/\Below W0.heap.size W0 wr)) (fun v _=>i-(intOf v).toNat)
 ·exact⟨0,Nat.zero_le _,rfl,HS.o⟩
 clear HS;obtain⟨k,hk,rfl,HK⟩:=hrel;have eR:=uF.o wr HK.o.2;by_cases aq:k<i
 ·have j1:(k:Int)<i:=by omega
  have j2:(k:Int)<n:=by omega
  have hkl:k<l.length:=by rw[HR.o.2];omega
  obtain⟨g',lF,BS,_,e0,_,_⟩:=(HR.o.1.below eR.2.2.2).get k hkl;simp only[Option.some.injEq,Addr.mk.injEq] at BS;obtain⟨rfl,rfl,_⟩:=BS;obtain⟨d0,_,_,_⟩:=eR;rcases hE:(l[k].nm.toList == nm.toList) with _|_
  ·have hne:l[k].nm≠nm:=(fun e=>by rw[e] at hE;simp at hE);have GI:=hid hne;generalize l[k].nm=nk at e0 hE;clear hne;go_upto_region 7 with fail;go_quiet (fail)
   all_goals
    have HD:Hid (Below W0.heap.size W0 (wr.drewN nq)):=HK.o.2.trans ⟨rfl,rfl,rfl,Nat.le_refl _,fun _ _=>rfl⟩
    go_wp2
    go_roundw
    case rel=>
     refine⟨k+1,by omega,by go_num,fun j hj hjk=>?_,HD.o⟩;by_cases e:j<k
     ·exact HK.o.1 j hj e
     have:j=k:=(by omega);subst this;exact GI.o
    case measure=>simp[intOf];omega
  have heq:l[k].nm=nm:=by
   have:=eq_of_beq hE;rw[ByteArray.toList_eq,ByteArray.toList_eq] at this;exact D6 this
  have yF:Hid (∃y∈pre,y.nm=nm):=by
   refine⟨l[k],?_,heq⟩;rw[<-HX.o.1];rw[List.mem_take_iff_getElem];exact⟨k,by omega,rfl⟩
  generalize l[k].nm=nk at e0 hE;clear heq;go_upto_region 7 with fail;go_quiet (fail)
  all_goals
   have HD:=hid (uF.o (wr.drewN nq) (HK.o.2.trans ⟨rfl,rfl,rfl,Nat.le_refl _,fun _ _=>rfl⟩)).2.2.2
   go_wp2
   go_ret
   exact⟨9,rfl,inr ⟨Hy.o,inl ⟨yF.o,rfl⟩⟩,HD.o⟩
 obtain rfl:k=i:=by omega
 have ke:Hid (∀y∈pre,y.nm≠nm):=fun y hy=>by
  rw[<-HX.o.1,List.mem_take_iff_getElem] at hy;obtain⟨j,hj,rfl⟩:=hy;exact HK.o.1 j (by omega) (by omega)
 have HB:=hid eR.2.2.2;obtain⟨_,d1,d2,_⟩:=eR;obtain⟨z,hz⟩:=Ξ (iA kk)
 have Hz:=hid hz;cases z
 ·have Cz:kk<0\/(¬kk<0/\2<kk):=by
   unfold iA at hz;simp at hz;omega
  clear hz;rcases Cz with h|⟨h,h2⟩
  ·go_wp2;go_ret;exact⟨1,rfl,inr ⟨Hy.o,inr ⟨ke.o,inl ⟨Hz.o,rfl⟩⟩⟩,HB.o⟩
  go_wp2;go_ret;exact⟨1,rfl,inr ⟨Hy.o,inr ⟨ke.o,inl ⟨Hz.o,rfl⟩⟩⟩,HB.o⟩
 have ll:¬kk<0:=by
  unfold iA at hz;simp at hz;omega
 have fS:¬2<kk:=by
  unfold iA at hz;simp at hz;omega
 have VM:=hid (zkw rx (by omega) wr);clear hz;go_wp2_with (go_at_call 77;refine VM.o.mono ?_;rintro e w3 ⟨a3,n3,c3,k3,rfl,kb,hP⟩;refine Hid.o ?_);refine hid ?_;have lk:=hid (HB.o.trans (kb.mono HB.o.size));clear kb VM;rcases hP with ⟨rfl,rfl,rfl,hE⟩|⟨_,rfl,l3,b3,ik,Cy,mH,DU,rfl,az⟩
 ·obtain⟨e5,Zt,rfl,hne⟩:=zmi B7 hE;have AM:=hid Zt;have j1:(((e5:Int)) != 0)=true:=by simpa using hne
  clear hE Zt hne;go_wp2;go_ret;exact⟨(e5:Int),rfl,inr ⟨Hy.o,inr ⟨ke.o,inr ⟨Hz.o,inl ⟨e5,AM.o,rfl⟩⟩⟩⟩,lk.o⟩
 obtain⟨t,hT,hf⟩:=zon ik Cy;have HT:=hid hT;have hH:=zoo t hT.1 b3 n3 c3 w3 _ (by rw[hf];exact az) (by rw[hf];exact mH) (by omega);have HH:=hid hH;clear hH hT hf ik az mH;go_wp2_with (go_at_call 78;refine HH.o.mono ?_;rintro e w4 ⟨b,rfl,hb,kb⟩;refine Hid.o ?_);refine hid ?_;have rj:=hid (lk.o.trans (kb.mono lk.o.size));have Hb:=hid hb;clear kb HH hb;cases b
 ·go_wp2;go_ret;exact⟨0,rfl,inr ⟨Hy.o,inr ⟨ke.o,inr ⟨Hz.o,inr ⟨t,HT.o,inr ⟨(fun h=>absurd (Hb.o.2 h) (by decide)),rfl⟩⟩⟩⟩⟩,rj.o⟩
 go_wp2;go_ret;exact⟨14,rfl,inr ⟨Hy.o,inr ⟨ke.o,inr ⟨Hz.o,inr ⟨t,HT.o,inl ⟨Hb.o.1 (by trivial),rfl⟩⟩⟩⟩⟩,rj.o⟩
def MX(l:List Ru)(k:Nat):Prop:=∀j (h:j<l.length),j<k->Pa (l.take j) l[j] 0
def PU(l:List Ru)(w:World)(e:Ending)(w':World):Prop:=
 ∃(i er:Int),e=.returned (.tuple #[.int .i64 i,.int .i64 er])/\Below w.heap.size w w'/\
 ((∃(q:Nat) (h:q<l.length),i=(q:Int)/\er≠0/\MX l q/\Pa (l.take q) l[q] er)\/(i=(l.length:Int)/\er=0/\MX l l.length))
theorem zgY(n c:Nat)(a:Option Addr)(l:List Ru)(hl:l.length=n)(hn:n<=60)(Jo:n<=c)(hB:UH l)(w:World)(h1:jL w a l):
  Calls prog 31 #[.slice a n c] w (PU l w):=by
 have H:=ξ h1 hB hl;have i0:¬((60:Int)<n):=by omega
 clear h1 hB hl;go_in;go_wp2_with fail;have HS:Hid (MX l 0/\Below w.heap.size w w):=⟨fun j _ h=>by omega,Below.refl _ _⟩
 go_loopw [4] (fun v4 wr=>∃k:Nat,k<=n/\v4=.int .i64 (k:Int)/\Hid (MX l k/\Below w.heap.size w wr)) (fun v _=>n-(intOf v).toNat)
 ·exact⟨0,Nat.zero_le _,rfl,HS.o⟩
 clear HS;obtain⟨k,hk,rfl,HK⟩:=hrel;by_cases aq:k<n
 ·have j1:(k:Int)<n:=by omega
  have hkl:k<l.length:=by rw[H.o.2.2];exact aq
  have hb:=H.o.2.1 k hkl;have HR:=hid (zmj n c a l H.o.2.2 (by omega) Jo k hkl hb.1 hb.2 wr (H.o.1.below HK.o.2));go_wp2_with (go_at_call 58;refine HR.o.mono ?_;rintro e w2 ⟨er,rfl,hF,kb⟩;refine Hid.o ?_);refine hid ?_;have HB:=hid (HK.o.2.trans (kb.mono HK.o.2.size));have HF:=hid hF;clear kb HR hF hb;by_cases h0:er=0
  ·subst h0;go_wp2;go_roundw
   ·refine⟨k+1,by omega,by go_num,fun j hj hjk=>?_,HB.o⟩;by_cases e:j<k
    ·exact HK.o.1 j hj e
    have:j=k:=(by omega);subst this;exact HF.o
   simp[intOf];omega
  have j2:(er != 0)=true:=by simpa using h0
  have HE:=hid h0;clear h0;go_wp2;go_ret2;exact⟨_,er,rfl,HB.o,inl ⟨k,hkl,rfl,HE.o,HK.o.1,HF.o⟩⟩
 obtain rfl:k=n:=by omega
 have j1:¬((k:Int)<k):=by omega
 go_wp2;go_ret2;exact⟨_,0,rfl,HK.o.2,inr ⟨by rw[H.o.2.2],rfl,by rw[H.o.2.2];exact HK.o.1⟩⟩
theorem zgZ{l:List Ru}{w w' v v':World}{e1 e2:Ending}(h60:l.length<=60)(h:EW l w e1 w')(k:PU l v e2 v'):∃i er i2 uY:Int,e1=.returned (.tuple #[.int .i64 i,.int .i64 er])/\e2=.returned (.tuple #[.int .i64 i2,.int .i64 uY])/\(er≠6->i=i2/\er=uY):=by
 obtain⟨i2,uY,rfl,_,hk⟩:=k;rcases h.2 with ⟨iZ,_⟩|⟨i,hi,er,hne,vz,hE,rfl⟩|⟨_,vz,rfl⟩
 ·omega
 ·refine⟨_,_,_,_,rfl,rfl,fun h6=>?_⟩;rcases hk with ⟨q,hq,rfl,kO,Mg,hF⟩|⟨_,rfl,Mg⟩
  ·rcases Nat.lt_trichotomy i q with e|e|e
   ·exact absurd (hE.agree (Mg i hi e) h6) hne
   ·subst e;exact⟨rfl,hE.agree hF h6⟩
   exact absurd ((vz q hq e).agree hF (by decide)).symm kO
  exact absurd (hE.agree (Mg i hi hi) h6) hne
 refine⟨_,_,_,_,rfl,rfl,fun h6=>?_⟩;rcases hk with ⟨q,hq,rfl,kO,Mg,hF⟩|⟨rfl,rfl,_⟩
 ·exact absurd ((vz q hq hq).agree hF (by decide)).symm kO
 exact⟨rfl,rfl⟩
