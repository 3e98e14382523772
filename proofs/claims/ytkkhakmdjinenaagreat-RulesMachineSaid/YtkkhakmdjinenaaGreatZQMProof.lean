import Derived.Test.YtkkhakmdjinenaaGreatZQRChk
import Derived.Test.YtkkhakmdjinenaaGreatZQRFrame
set_option linter.all false
set_option maxHeartbeats 4000000
set_option maxRecDepth 100000
open Go.Lib (hid)
namespace Go.Proofs.YtkkhakmdjinenaaGreat
open Go.RowKit Go.Maps Go.ChangeMaps
theorem znM(t:Rx)(hw:t.wf)(g n cap:Nat)(w:World)(B:Nat)(h:w.ownsRow B 91 5 (.slice (some ⟨g,0,none⟩) n cap) n (eJ t.flat))(hn:t.flat.length=n)(dG:n<=1000)(s:ByteArray)(hs:s.size<=99998):
  Calls Tryz.prog 18 #[.slice (some ⟨g,0,none⟩) n cap,.string s] w fun e w'=>∃b:Bool,e=.returned (.bool b)/\(b=true↔dI t ((List.range s.size).map (eW s)))/\Below w.heap.size w w':=by
 have hc:n<=cap/\cap<=maxLen:=by
  rcases h.2 with ⟨h1,h2⟩|⟨g',Ef,cur,hv,_,_,h3,h4,_⟩
  ·simp at h1
  simp at hv;obtain⟨_,rfl⟩:=hv;exact⟨h3,h4⟩
 refine (Yw t hw s s.size rfl hs g 0 n cap w (SY h hn) hn (by omega) hc).mono ?_;rintro e w' ⟨rfl,hb⟩;exact⟨_,rfl,XC s ((List.range s.size).map (eW s)) s.size (by simp) (fun i h=>by simp[eW]) t hw,hb⟩
theorem zh6(n c:Nat)(a:Option Addr)(l:List Ru)(hl:l.length=n)(hn:n<=100000)(hB:NO l)(T:Nat->Rx)(hT:∀j (h:j<l.length),fu l[j].rx (T j))(s:ByteArray)(hs:s.size<=99998)(w:World)(h1:fR w a l):
  Calls Tryz.prog 12 #[.slice a n c,.string s] w fun e w'=>∃r:Int,e=.returned (.int .i64 r)/\gP n (fun i=>dI (T i) ((List.range s.size).map (eW s))) r/\Below w.heap.size w w':=by
 have H:=ψ h1 hl hB hT;have HP:=hid (fun (x:ByteArray) (hx:x.size<=9223372036854775807) (W:World)=>zfi x hx W);have Hs:=hid hs;clear h1 hl hB hT hs;go_enter Tryz.func12,Tryz.ntmps12;go_wp2_with fail;have HS:Hid (Below w.heap.size w w/\∀j,j<0->¬dI (T j) ((List.range s.size).map (eW s))):=⟨Below.refl _ _,fun j h=>by omega⟩
 go_loopw [5,6,7] (fun v _ _ wr=>∃k:Nat,k<=n/\v=.int .i64 (k:Int)/\Hid (Below w.heap.size w wr/\∀j,j<k->¬dI (T j) ((List.range s.size).map (eW s)))) (fun v _ _ _=>n-(intOf v).toNat)
 ·exact⟨0,Nat.zero_le _,rfl,HS.out⟩
 clear HS;obtain⟨k,hk,rfl,HK⟩:=hrel;by_cases aq:k<n
 ·have j1:(k:Int)<n:=by omega
  have hkl:k<l.length:=by rw[H.out.2.1];exact aq
  obtain⟨g,off,rfl,yE,c0,c1,c2⟩:=(H.out.1.below HK.out.1).get k hkl;have HR:=ζ (H.out.2.2.1 k hkl).2 (H.out.2.2.2 k hkl);generalize l[k].rx=rx at c2 HR;clear c0 c1 yE hkl;have YM:=hid (HP.out rx (by have:=HR.out.1;omega) wr);go_wp2_with (go_at_call 17;refine YM.out.mono ?_);rintro e w3 ⟨a3,n3,c3,k3,rfl,b3,zO⟩;have H3:=hid (HK.out.1.trans (b3.mono HK.out.1.size));clear b3 YM c2;rcases zO with ⟨rfl,rfl,rfl,zO⟩|⟨_,rfl,lp,bq,VS,ta,lC,kT,rfl,az⟩
  ·obtain⟨e5,h1,_⟩:=Zb HR.out.1 zO;exact (HR.out.2.ng h1).elim
  obtain⟨t',rZ,rfl⟩:=ZU VS ta;have HH:=hid (znM t' rZ.1 bq n3 c3 w3 wr.heap.size az lC (by omega) s Hs.out);have YT:Hid (dI t' ((List.range s.size).map (eW s))↔dI (T k) ((List.range s.size).map (eW s))):=IN rZ.1 HR.out.2.1 (rZ.flat HR.out.2) (eW s) (fun j=>uT s j) s.size;clear VS ta lC rZ az HR;go_wp2_with (go_at_call 18;refine HH.out.mono ?_);rintro e w4 ⟨b,rfl,hb,b4⟩;have H4:=ζ (H3.out.trans (b4.mono H3.out.size)) hb;clear hb b4 HH H3;rcases b with _|_
  ·have HZ:Hid (∀j,j<k+1->¬dI (T j) ((List.range s.size).map (eW s))):=fun j hj h=>by
    by_cases e:j=k
    ·subst e;have:=H4.out.2.2 (YT.out.2 h);cases this
    exact HK.out.2 j (by omega) h
   go_wp2;go_roundw
   ·exact⟨k+1,by omega,by go_num,H4.out.1,HZ.out⟩
   simp[intOf];omega
  have HZ:=hid (YT.out.1 (H4.out.2.1 rfl));go_wp2;go_ret;exact⟨_,rfl,Or.inr ⟨k,aq,rfl,HZ.out,HK.out.2⟩,H4.out.1⟩
 obtain rfl:k=n:=by omega
 have j1:¬((k:Int)<k):=by omega
 go_wp2;go_ret;exact⟨_,rfl,Or.inl ⟨rfl,HK.out.2⟩,HK.out.1⟩
def Es(l:List Ru)(k:Nat):Prop:=∀j (h:j<l.length),j<k->l[j].rx.size<=40/\l[j].nm.size<=100
def OJ(l:List Ru)(w:World)(e:Ending)(w':World):Prop:=∃bo:Bool,e=.returned (.bool bo)/\(bo=true->l.length<=20/\Es l l.length)/\Below w.heap.size w w'
theorem zlW(n c:Nat)(a:Option Addr)(l:List Ru)(hl:l.length=n)(hn:n<=9223372036854775807)(w:World)(h1:fR w a l):
  Calls Tryz.prog 6 #[.slice a n c] w (OJ l w):=by
 have H:=ζ h1 hl;clear h1 hl;go_enter Tryz.func6,Tryz.ntmps6;by_cases Rb:20<n
 ·have i1:(20:Int)<n:=by omega
  go_wp2;go_ret;exact⟨false,rfl,fun h=>(by cases h),Below.refl _ _⟩
 have i1:¬((20:Int)<n):=by omega
 go_wp2;go_loopw [3] (fun v wr=>∃k:Nat,v=.int .i64 k/\k<=n/\wr=w/\Hid (Es l k)) (fun v _=>n-(intOf v).toNat)
 ·exact⟨0,rfl,Nat.zero_le _,rfl,fun j _ h=>by omega⟩
 obtain⟨k,rfl,hk,rfl,HK⟩:=hrel;by_cases aq:k<n
 ·have hkl:k<l.length:=by rw[H.out.2];exact aq
  obtain⟨g,o,rfl,_,x0,x1,x2⟩:=H.out.1.get k hkl;have i2:(k:Int)<n:=by omega
  have HS:Hid (l[k].rx.size<=40->l[k].nm.size<=100->Es l (k+1)):=fun h1 h2 j hj hjk=>by
   by_cases e:j=k
   ·subst e;exact⟨h1,h2⟩
   exact HK.out j hj (by omega)
  clear x1;generalize l[k].nm=nm at x0 HS;generalize l[k].rx=rx at x2 HS;by_cases QC:40<rx.size
  ·have i3:decide ((40:Int)<(rx.size:Int))=true:=(by simp;omega);go_wp2;go_ret;exact⟨false,rfl,fun h=>(by cases h),Below.refl _ _⟩
  have i3:decide ((40:Int)<(rx.size:Int))=false:=by simp;omega
  by_cases h100:100<nm.size
  ·have i4:((100:Int)<(nm.size:Int)):=(by omega);go_wp2;go_ret;exact⟨false,rfl,fun h=>(by cases h),Below.refl _ _⟩
  have i4:¬((100:Int)<(nm.size:Int)):=by omega
  have HZ:=hid (HS.out (by omega) (by omega));go_wp2;go_roundw
  ·exact⟨k+1,by go_num,by omega,trivial,HZ.out⟩
  simp[intOf];omega
 obtain rfl:k=n:=by omega
 have i2:¬((k:Int)<k):=by omega
 go_wp2;go_ret;exact⟨true,rfl,fun _=>⟨by rw[H.out.2];omega,by rw[H.out.2];exact HK.out⟩,Below.refl _ _⟩
theorem gP.uniq{n:Nat}{P:Nat->Prop}{a b:Int}(h:gP n P a)(k:gP n P b):a=b:=by
 rcases h with ⟨rfl,h⟩|⟨i,hi,rfl,hp,h⟩ <;> rcases k with ⟨rfl,k⟩|⟨j,hj,rfl,kp,k⟩
 ·rfl
 ·exact absurd kp (h j hj)
 ·exact absurd hp (k i hi)
 rcases Nat.lt_trichotomy i j with x|x|x
 ·exact absurd hp (k i x)
 ·rw[x]
 exact absurd kp (h j x)
theorem zjf{l:List Ru}{v v':World}{i er i2 sq:Int}(FP:l.length<=60)(w:World)(h:(∃(q:Nat) (h:q<l.length),i=(q:Int)/\er≠0/\fU l q/\yo (l.take q) l[q] er)\/(i=(l.length:Int)/\er=0/\fU l l.length))(k:Pd l v (.returned (.tuple #[.int .i64 i2,.int .i64 sq])) v')(h6:er≠6):sq=er:=by
 have hc:F8 l w (.returned (.tuple #[.int .i64 i,.int .i64 er])) w:=by
  rcases h with ⟨q,hq,rfl,h1,h2,h3⟩|⟨rfl,rfl,h2⟩
  ·exact⟨Below.refl _ _,Or.inr (Or.inl ⟨q,hq,er,h1,h2,h3,rfl⟩)⟩
  exact⟨Below.refl _ _,Or.inr (Or.inr ⟨FP,h2,rfl⟩)⟩
 obtain⟨a,b,c,d,e1,e2,h3⟩:=zg5 FP hc k;simp at e1 e2;obtain⟨rfl,rfl⟩:=e1;obtain⟨rfl,rfl⟩:=e2;exact (h3 h6).2.symm
theorem zdF(n c:Nat)(a:Option Addr)(l:List Ru)(s:ByteArray)(hl:l.length=n)(hn:n<=9223372036854775807)(zn:n<=c)(w:World)(h1:fR w a l):
  Calls Tryz.prog 3 #[.slice a n c,.string s] w fun e w'=>e=.returned (.bool true)/\Below w.heap.size w w':=by
 have H:=ψ h1 hl hn zn;have ZM:=hid (zh1 w);clear h1 hl hn zn;go_enter Tryz.func3,Tryz.ntmps3;go_upto_region 3 with (go_at_call 5;refine ZM.out.mono ?_;rintro e w1 ⟨rfl,b1⟩);have H1:=hid b1;have mh:=hid (zlW n c a l H.out.2.1 H.out.2.2.1 w1 (H.out.1.below b1));clear b1 ZM;go_wp2_with (go_at_call 6;refine mh.out.mono ?_);rintro e w2 ⟨bo,rfl,mW,b2⟩;have H2:=hid (H1.out.trans (b2.mono H1.out.size));clear b2 mh H1;rcases bo with _|_
 ·clear mW;go_wp2;go_ret;exact⟨rfl,H2.out⟩
 have HF:=hid (mW rfl);clear mW;by_cases Rb:20<s.size
 ·have i1:(20:Int)<(s.size:Int):=by omega
  go_wp2;go_ret;exact⟨rfl,H2.out⟩
 have i1:¬((20:Int)<(s.size:Int)):=by omega
 have Sn:n<=20:=by have:=HF.out.1;rw[H.out.2.1] at this;exact this
 have HB:Hid (CJ l):=fun j hj=>by
  have:=HF.out.2 j hj hj;unfold maxLen;omega
 have HS:Hid (s.size<=20):=Nat.le_of_not_lt Rb;have HM:=hid (zep n c a l H.out.2.1 Sn H.out.2.2.2 HB.out w2 (H.out.1.below H2.out));clear HF Rb;go_upto_region 5 with fail;go_wp2_with (go_at_call 7;refine HM.out.mono ?_);intro e w3 hP;have ep:=hid (St.new w3 29 (zC 29));have H3:=hid (H2.out.trans (hP.1.mono H2.out.size));have rQ:(∃er:Int,e=.returned (.tuple #[.agg (zC 29),.int .i64 er])/\er≠0/\(er≠6->∃(q:Nat) (h:q<l.length),fU l q/\yo (l.take q) l[q] er))\/
   (fU l l.length/\∃T:Nat->Rx,(∀j (h:j<l.length),fu l[j].rx (T j))/\∃(X:Dd) (C:Nat),e=.returned (.tuple #[.agg X.cD,.int .i64 0])/\DM w3 X/\Mn X C/\Jy l.length T X):=by
  rcases hP.2 with ⟨q,hq,er,h1,h2,h3,h4⟩|⟨h1,T,hT,h2|h2⟩
  ·exact Or.inl ⟨er,h4,h1,fun _=>⟨q,hq,h2,h3⟩⟩
  ·exact Or.inl ⟨6,h2.2,by decide,fun h=>absurd rfl h⟩
  ·exact Or.inr ⟨h1,T,hT,h2⟩
 have FP:l.length<=60:=by rw[H.out.2.1];omega
 clear hP HM H2;rcases rQ with ⟨er,rfl,GD,Bc⟩|⟨nP,T,hT,X,C,rfl,xE,pr,Zu⟩
 ·have H5:Hid (St ((w3.alloc (.cells (zC 29) 29)).setRow w3.heap.size (zC 29)) 29 w3.heap.size (zC 29)/\Below w.heap.size w ((w3.alloc (.cells (zC 29) 29)).setRow w3.heap.size (zC 29))):=
   ⟨ep.out.setRow,H3.out.trans ((kZ (al _ _) (Nat.le_refl _) _).mono H3.out.size)⟩
  have HE:=ζ GD Bc;clear Bc GD;go_upto_region 6 with (first
   | (refine og rfl 29 rfl (zC 29) (lN _) ?_)
   | (refine lO rfl 29 _ _ rfl w3.heap.size 29 (zC 29) (zC 29) rfl rfl ep.out (by rw[ia]) (by rw[fH,ia]) zS ?_))
  try simp only[Act.put,sA]
  obtain⟨b5,ku⟩:∃b5,w3.heap.size=b5:=⟨_,rfl⟩
  rw[ku] at H5
  try rw[ku]
  generalize (w3.alloc (.cells (zC 29) 29)).setRow b5 (zC 29)=V at H5⊢;clear ku ep H3;have HR:=hid (ZO n c a l H.out.2.1 (by omega) H.out.2.2.2 HB.out.b V (H.out.1.below H5.out.2));go_wp2_with (go_at_call 8;refine HR.out.mono ?_);intro e w4 hR;obtain⟨y2,sq,rfl,b4,hr⟩:=hR;have H6:=ζ (H5.out.1.ab b4) (H5.out.2.trans (b4.mono H5.out.2.size));have hz:w4.cell? ⟨b5,256,none⟩=some (.slice none 0 0):=by rw[H6.out.1.at_];exact DI.1
  by_cases h6:er=6
  ·subst h6;clear hr HR b4;go_wp2;go_ret;exact⟨rfl,H6.out.2⟩
  have zL:sq=er:=by
   obtain⟨q,hq,h7,h8⟩:=HE.out.2 h6;exact zjf FP w (Or.inl ⟨q,hq,rfl,HE.out.1,h7,h8⟩) ⟨y2,sq,rfl,b4,hr⟩ h6
  subst zL;have j1:(sq == 6)=false:=by simpa using h6
  have j2:(sq != 0)=true:=by simpa using HE.out.1
  have j3:(sq == sq)=true:=by simp
  clear hr HR b4 h6;go_wp2;go_ret;exact⟨rfl,H6.out.2⟩
 have H5:Hid (bg ((w3.alloc (.cells (zC 29) 29)).setRow w3.heap.size X.cD) w3.heap.size X/\Below w.heap.size w ((w3.alloc (.cells (zC 29) 29)).setRow w3.heap.size X.cD)):=
  ⟨bg.stored pr.r (xE.below (al _ _)) (St.new _ _ _),H3.out.trans ((kZ (al _ _) (Nat.le_refl _) _).mono H3.out.size)⟩
 have uz:=hid xE;have HX:=ξ pr Zu hT;have rL:=hid nP;clear xE pr Zu hT nP;go_upto_region 6 with (first
  | (refine og rfl 29 rfl (zC 29) (lN _) ?_)
  | (refine lO rfl 29 _ _ rfl w3.heap.size 29 (zC 29) X.cD rfl rfl ep.out (by rw[ia,uz.out.sz]) (by rw[fH,uz.out.sz]) uz.out.one ?_))
 try simp only[Act.put,sA]
 obtain⟨b5,ku⟩:∃b5,w3.heap.size=b5:=⟨_,rfl⟩
 rw[ku] at H5
 try rw[ku]
 generalize (w3.alloc (.cells (zC 29) 29)).setRow b5 X.cD=V at H5⊢;clear ku ep H3 uz;have HR:=hid (ZO n c a l H.out.2.1 (by omega) H.out.2.2.2 HB.out.b V (H.out.1.below H5.out.2));go_wp2_with (go_at_call 8;refine HR.out.mono ?_);intro e w9 hR;obtain⟨y2,sq,rfl,b4,hr⟩:=hR;have zL:sq=0:=zjf (i:=(l.length:Int)) (er:=0) FP w (Or.inr ⟨rfl,rfl,rL.out⟩) ⟨y2,sq,rfl,b4,hr⟩ (by decide);subst zL;have H6:=ζ (H5.out.1.ab b4) (H5.out.2.trans (b4.mono H5.out.2.size));clear hr HR b4 rL;have hr:=HX.out.1.r;have GS:=hid (zhM X ⟨C,hr⟩ w9 H6.out.1.dm hr.n2 (by rw[hr.m];exact hr.n2) (fun i hi=>by rw[hr.len i hi];exact (hr.il H6.out.1.dm.kl).2));clear hr;go_wp2_with (first
  | (refine js (by rfl) 29 _ rfl ⟨b5,0,none⟩ rfl X.cD _ H6.out.1.st.part Tryz.underlying29 rfl H6.out.1.dm.info ?_)
  | (go_at_call 9;refine GS.out.mono ?_))
 rintro e w4 ⟨bo,rfl,mW,b4⟩;have km:bo=true:=mW.2 ⟨C,HX.out.1.r⟩;subst km;have H7:=ζ (H6.out.1.ab b4) (H6.out.2.trans (b4.mono H6.out.2.size));clear mW b4 GS;go_upto_region 13 with fail;obtain⟨mv,Um⟩:∃mv,kj X (bD X 0 (eW s) s.size)=mv:=⟨_,rfl⟩
 have D6:=hid Um;have uv:Hid (∀W,fR W a l->Calls Tryz.prog 12 #[.slice a n c,.string s] W fun e w'=>e=.returned (.int .i64 mv)/\Below W.heap.size W w'):=fun W hW=>by
  refine (zh6 n c a l H.out.2.1 (by omega) HB.out.b T HX.out.2.2 s (by have:=HS.out;omega) W hW).mono ?_;rintro e w' ⟨r,rfl,sG,hb⟩;have h2:=HX.out.2.1 (eW s) s.size (fun j=>uT s j);rw[<-zjV HX.out.1.r.m,Um,H.out.2.1] at h2;rw[sG.uniq h2];exact⟨rfl,hb⟩
 have hr:=HX.out.1.r;have Hi:=hid (fun (W:World) (h:DM W X)=>zmG X (by have:=hr.n2;omega) (by have:=hr.n2;have:=hr.m;omega) (fun i hi=>by rw[hr.len i hi];have:=(hr.il h.kl).2;omega) W h);have j9:(mv != mv)=false:=by simp
 clear Um hr;have cZ:Hid (∀W',Below w4.heap.size w4 W'->Below w4.heap.size w4 W'/\bg W' b5 X/\fR W' a l):=fun W' h=>⟨h,H7.out.1.ab h,(H.out.1.below H7.out.2).below h⟩
 refine wp_region_held_drew (S:=fun W'=>Below w4.heap.size w4 W'/\bg W' b5 X/\fR W' a l) (by kernel_rfl) (cZ.out _ (Below.refl _ _).drew) fun η=>?_;refine an 0 (v:=.agg X.cD) ?_ (hy:=by intro wz hSw;exact ob (o:=_) (ρ:=_) wz 29 (.tmp 5) rfl ⟨b5,0,none⟩ rfl X.cD _ (bg.st hSw.2.1).part Tryz.underlying29 rfl (bg.dm hSw.2.1).info)
 try simp only[Act.put,sA]
 refine an 1 (v:=.agg X.cD) ?_ (hy:=by intro wz hSw;exact ob (o:=_) (ρ:=_) wz 29 (.tmp 5) rfl ⟨b5,0,none⟩ rfl X.cD _ (bg.st hSw.2.1).part Tryz.underlying29 rfl (bg.dm hSw.2.1).info)
 try simp only[Act.put,sA]
 refine an 2 ?_
 try simp only[Act.put,sA]
 refine an 5 ?_
 try simp only[Act.put,sA]
 refine an 6 ?_
 try simp only[Act.put,sA]
 refine bc 3 (fun K hK=>?_);go_simp;go_at_call 11;refine (Qg X C HX.out.1.r 0 s s.size rfl (by have:=HS.out;omega) _ η.2.1.dm).mono ?_;rintro e w5 ⟨rfl,vv⟩;have bz:Below w4.heap.size w4 w5:=η.1.trans (vv.mono η.1.size);clear vv
 try go_wp2_with fail
 refine hK.out _ _ (cZ.out _ bz) fun η=>?_;clear hK K
 try simp only[Act.put,sA]
 clear bz;refine bc 4 (fun K hK=>?_);go_simp;go_at_call 10;refine (Ku X _ _ η.2.1.dm (by have:=HX.out.1.r.m;have:=HX.out.1.r.n2;omega)).mono ?_;rintro e w5 ⟨rfl,vv⟩;rw[D6.out];have bz:Below w4.heap.size w4 w5:=η.1.trans (vv.mono η.1.size);clear vv
 try go_wp2_with fail
 refine hK.out _ _ (cZ.out _ bz) fun η=>?_;clear hK K
 try simp only[Act.put,sA]
 clear bz;refine bc 7 (fun K hK=>?_);go_simp;go_at_call 12;refine (uv.out _ η.2.2).mono ?_;rintro e w5 ⟨rfl,vv⟩;have bz:Below w4.heap.size w4 w5:=η.1.trans (vv.mono η.1.size);clear vv
 try go_wp2_with fail
 refine hK.out _ _ (cZ.out _ bz) fun η=>?_;clear hK K
 try simp only[Act.put,sA]
 clear bz;refine an 8 ?_
 try simp only[Act.put,sA]
 refine wpAnyH_done (by kernel_rfl) ?_ _;have H8:=ζ η.2.1 (H7.out.2.trans (η.1.mono H7.out.2.size));clear η;have IS:=hid (Hi.out _ H8.out.1.dm);go_wp2_with (first
  | (refine js (by rfl) 29 _ rfl ⟨b5,0,none⟩ rfl X.cD _ H8.out.1.st.part Tryz.underlying29 rfl H8.out.1.dm.info ?_)
  | (go_at_call 13;refine IS.out.mono ?_))
 rintro e w8 ⟨bo,rfl,mW,b8⟩;have tN:=ζ (H8.out.1.ab b8) (H8.out.2.trans (b8.mono H8.out.2.size));clear mW b8 IS Hi;rcases bo with _|_
 ·go_wp2;go_ret;exact⟨rfl,tN.out.2⟩
 have yC:=hid (zfP X C HX.out.1.r HX.out.1.PY HX.out.1.SW w8 tN.out.1.dm);go_wp2_with (first
  | (refine js (by rfl) 29 _ rfl ⟨b5,0,none⟩ rfl X.cD _ tN.out.1.st.part Tryz.underlying29 rfl tN.out.1.dm.info ?_)
  | (go_at_call 14;refine yC.out.mono ?_))
 rintro e w9 ⟨rfl,b9⟩;have IW:=ζ (tN.out.1.ab b9) (tN.out.2.trans (b9.mono tN.out.2.size));clear b9 yC;have pP:=hid (zhN X C HX.out.1.r HX.out.1.cls w9 IW.out.1.dm);go_wp2_with (first
  | (refine js (by rfl) 29 _ rfl ⟨b5,0,none⟩ rfl X.cD _ IW.out.1.st.part Tryz.underlying29 rfl IW.out.1.dm.info ?_)
  | (go_at_call 15;refine pP.out.mono ?_))
 rintro e qq ⟨rfl,WK⟩;have H12:=hid (IW.out.2.trans (WK.mono IW.out.2.size));clear WK pP;go_wp2;go_ret;exact⟨rfl,H12.out⟩
end Go.Proofs.YtkkhakmdjinenaaGreat
namespace Go.Proofs.YtkkhakmdjinenaaGreat.rulesMachine
open Go.ChangeShapes Go.WideShapes Go.RowKit
theorem lifted(os:Os)(started:os.Started)(H:Type)(enc:TypeId × Value->H):
  ReturnsInHanded {} Tryz.checked os 3 .any (Rows.rulesMachineSpec.pre6 enc Tryz.prog Tryz.f3 Rows.rulesMachineRow.domain false) (Rows.rulesMachineSpec.post enc Tryz.prog Tryz.f3 false true false false):=by
 refine returnsInHanded_of_change (C:=Tryz.checked) own started (by kernel_rfl) Tryz.func3
  (ChangeSpec.witness6 (enc:=enc) (C:=Tryz.checked) false ⟨#[],#[.slice none 0 0,.string .empty],[]⟩ 8 (by kernel_rfl) (by kernel_rfl) (by kernel_rfl) (by kernel_rfl)) ?_
 intro W base args ds gs before Bl hW hcnd _;have xL:∀(j:Nat) t v,Tryz.f3.params[j]?=some t->args[j]?=some v->Value.okWide Tryz.prog W .any base t v:=Bl;have hW':=hW;obtain⟨p,q,VE,hV,rfl,hfz,jC⟩:=hW;have hA:DataW.TrodAll enc Tryz.prog W 0 (fun _=>true) true Tryz.f3.params.toList args.toList ds p:=VE;rw[Tryz.params3] at hA xL;obtain⟨v0,vs0,d0,ds0,p0,q0,Wy,rfl,rfl,h0,r0⟩:=trodAll_cons hA;obtain⟨v1,vs1,d1,ds1,p1,q1,rfl,rfl,rfl,h1,r1⟩:=trodAll_cons r0;obtain⟨rfl,rfl,rfl⟩:=trodAll_nil r1;obtain rfl:args=#[v0,v1]:=by cases args;simp_all
 obtain⟨rfl,rfl⟩:=trodVars_none hV;obtain⟨a0,n0,c0,rfl⟩:=okWide_slice Tryz.underlying22 (xL 0 22 v0 rfl rfl);have k0:=h0;have lt0:∀x∈p0,x.block<W.heap.size:=by obtain⟨m,hm⟩:=k0;exact DataW.trod_lt m _ _ _ hm
 obtain⟨A0,Tw,rh,Qk,Q8,dv⟩:=(by obtain⟨fuel,hf⟩:=h0;exact zkq (by simpa [Value.cells] using hf):∃l:List Ru,l.length=n0/\fR W a0 l/\n0<=c0/\c0<=maxLen/\∀j (h:j<l.length),l[j].nm.size<=maxLen/\l[j].rx.size<=maxLen)
 obtain⟨s1,rfl,rfl,rfl,lf⟩:=Go.ChangeMaps.open_string Tryz.underlying9 (xL 1 9 v1 rfl rfl) h1;have RM:=lf;clear VE Bl;unfold maxLen at Q8 dv RM;refine (zdF n0 c0 a0 A0 s1 Tw (by omega) Qk W rh).mono fun e W' ⟨he,aP⟩=>?_
 subst he;exact⟨_,rfl,_,_,_,[],_,[],hW',trodAll_mk1 (shut_bool Tryz.underlying4 _),(trodAll_cons_mk (Below.trod laidOut (by kernel_rfl) (of_decide_eq_true (by kernel_rfl)) k0 aP lt0) (trodAll_cons_mk (Go.ChangeMaps.shut_string Tryz.underlying9 lf) trodAll_mk0)),rfl,aP.frame _,fun h=>by cases h⟩
theorem over:Rows.rulesMachineRow.holds Tryz.pinned (OpenSpec.ofChange Rows.rulesMachineSpec):=
 OpenClaim.holds_of_wide 3 Tryz.f3 rfl rfl rfl rfl rfl rfl rfl ⟨rfl,rfl,rfl,rfl,rfl⟩ rfl rfl rfl rfl rfl (by kernel_rfl) Tryz.func3 (by kernel_rfl)
  (of_decide_eq_true (by kernel_rfl)) (by unfold Func.isWrapper;first|(rw[if_pos (by decide +kernel)];kernel_rfl)|(rw[if_neg (by decide +kernel)];exact⟨rfl,rfl⟩))
  (fun os started H enc _=>lifted os started H enc)
theorem proved:Rows.RulesMachineSaid:=over
end Go.Proofs.YtkkhakmdjinenaaGreat.rulesMachine
