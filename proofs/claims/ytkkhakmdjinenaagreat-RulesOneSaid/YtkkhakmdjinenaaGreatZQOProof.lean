import Derived.Test.YtkkhakmdjinenaaGreatZQRRul
set_option linter.all false
set_option maxHeartbeats 4000000
set_option maxRecDepth 100000
open Go.Lib (hid)
namespace Go.Proofs.YtkkhakmdjinenaaGreat
open Go.RowKit Go.Maps Go.WideElems Go.ChangeMaps Go.MapKept
theorem zgX(x s:ByteArray)(hx:x.size<=9223372036854775807)(hs:s.size<=9223372036854775807)(w:World):
  Calls Tryz.prog 4 #[.string x,.string s] w fun e w'=>e=.returned (.bool true)/\Below w.heap.size w w':=by
 have Vd:=hid (zhS w);go_enter Tryz.func4,Tryz.ntmps4;go_upto_region 3 with (go_at_call 5;refine Vd.out.mono ?_;rintro e w1 ⟨rfl,b1⟩);have H1:=hid b1;clear b1 Vd;by_cases II:40<x.size
 ·have i1:decide ((40:Int)<(x.size:Int))=true:=by simp;omega
  go_wp2;go_ret;exact⟨rfl,H1.out⟩
 have i1:decide ((40:Int)<(x.size:Int))=false:=by simp;omega
 by_cases h20:20<s.size
 ·have i2:(20:Int)<(s.size:Int):=by omega
  go_wp2;go_ret;exact⟨rfl,H1.out⟩
 have i2:¬((20:Int)<(s.size:Int)):=by omega
 have HO:=hid (Z0 x (by omega) w1);have HS:=hid (Zz II h20);clear II h20;go_upto_region 5 with fail;have hZ0:=AW.1;go_wp2_with (go_at_call 16;refine HO.out.mono ?_);intro e w2 hP;have Ni:=hid (fun (W:World)=>zkk x hx W);have ee:=hid (St.new w2 29 (zC 29));have rF:(∃er:Int,e=.returned (.tuple #[.agg (zC 29),.int .i64 er])/\((∃e5:Nat,nu x e5/\er=(e5:Int))\/(er=6/\∃t,fU x t)))\/(∃t,fU x t/\∃(X:Dd) (C:Nat),e=.returned (.tuple #[.agg X.cD,.int .i64 0])/\DM w2 X/\Mn X C/\J6 t X):=by
  rcases hP.2 with ⟨er,h1,h2⟩|⟨t,h1,h2|h2⟩
  ·exact Or.inl ⟨_,h2,Or.inl ⟨er,h1,rfl⟩⟩
  ·exact Or.inl ⟨6,h2.2,Or.inr ⟨rfl,t,h1⟩⟩
  exact Or.inr ⟨t,h1,h2⟩
 have H2:=hid (H1.out.trans (hP.1.mono H1.out.size));clear hP HO H1;rcases rF with ⟨er,rfl,BI⟩|⟨t,ht,X,C,rfl,yl,pE,Jn⟩
 ·have H5:Hid (St ((w2.alloc (.cells (zC 29) 29)).setRow w2.heap.size (zC 29)) 29 w2.heap.size (zC 29)/\Below w.heap.size w ((w2.alloc (.cells (zC 29) 29)).setRow w2.heap.size (zC 29))):=
   ⟨ee.out.setRow,H2.out.trans ((kT (al _ _) (Nat.le_refl _) _).mono H2.out.size)⟩
  have HE:=hid BI;clear BI hZ0;go_upto_region 6 with (first
   | (refine nR rfl 29 rfl (zC 29) (lA _) ?_)
   | (refine lJ rfl 29 _ _ rfl w2.heap.size 29 (zC 29) (zC 29) rfl rfl ee.out (by rw[gY]) (by rw[fD,gY]) zM ?_))
  try simp only[Act.put,sA]
  obtain⟨b5,kt⟩:∃b5,w2.heap.size=b5:=⟨_,rfl⟩
  rw[kt] at H5
  try rw[kt]
  generalize (w2.alloc (.cells (zC 29) 29)).setRow b5 (zC 29)=V at H5⊢;clear kt ee H2;have HR:=hid (Ni.out V);go_wp2_with (go_at_call 17;refine HR.out.mono ?_);rintro e w3 ⟨a,n,c,k,rfl,b3,hk⟩;have H6:=hid (Zz (H5.out.1.ab b3) (H5.out.2.trans (b3.mono H5.out.2.size)));clear b3 HR Ni;have hz:w3.cell? ⟨b5,256,none⟩=some (.slice none 0 0):=by rw[H6.out.1.at_];exact AW.1
  rcases hk with ⟨rfl,rfl,rfl,hk⟩|⟨_,rfl,l,bq,hl,pM,_⟩
  ·obtain⟨e5,h1,h2,h3⟩:=UU (by have:=HS.out.1;omega) hk;have hek:er=k:=by
    rcases HE.out with ⟨e6,h4,h5⟩|⟨_,t,ht⟩
    ·rw[h5,h2,znA h4 h1]
    exact (ht.nE h1).elim
   subst hek;have j1:(er != 0)=true:=(by simpa using h3);have j2:(er == er)=true:=(by simp);clear hk h1 h2 h3;go_wp2;go_ret;exact⟨rfl,H6.out.2⟩
  obtain⟨t',rE,_⟩:=Y0 hl pM;have he6:er=6:=by
   rcases HE.out with ⟨e6,h4,h5⟩|⟨h4,_⟩
   ·exact (rE.nE h4).elim
   exact h4
  subst he6;clear hl pM rE;go_wp2;go_ret;exact⟨rfl,H6.out.2⟩
 have H5:Hid (bz ((w2.alloc (.cells (zC 29) 29)).setRow w2.heap.size X.cD) w2.heap.size X/\Below w.heap.size w ((w2.alloc (.cells (zC 29) 29)).setRow w2.heap.size X.cD)):=
  ⟨bz.stored pE.r (yl.below (al _ _)) (St.new _ _ _),H2.out.trans ((kT (al _ _) (Nat.le_refl _) _).mono H2.out.size)⟩
 have uT:=hid yl;have HX:=hid (Zz pE (Zz Jn ht));clear hZ0 yl pE Jn ht;go_upto_region 6 with (first
  | (refine nR rfl 29 rfl (zC 29) (lA _) ?_)
  | (refine lJ rfl 29 _ _ rfl w2.heap.size 29 (zC 29) X.cD rfl rfl ee.out (by rw[gY,uT.out.sz]) (by rw[fD,uT.out.sz]) uT.out.one ?_))
 try simp only[Act.put,sA]
 obtain⟨b5,kt⟩:∃b5,w2.heap.size=b5:=⟨_,rfl⟩
 rw[kt] at H5
 try rw[kt]
 generalize (w2.alloc (.cells (zC 29) 29)).setRow b5 X.cD=V at H5⊢;clear kt ee H2 uT;have HR:=hid (Ni.out V);go_wp2_with (go_at_call 17;refine HR.out.mono ?_);rintro e w3 ⟨a,n,c,k,rfl,b3,hk⟩;have H6:=hid (Zz (H5.out.1.ab b3) (H5.out.2.trans (b3.mono H5.out.2.size)));clear b3 HR Ni;rcases hk with ⟨rfl,rfl,rfl,hk⟩|⟨_,rfl,l,bq,hl,pM,lx,kH,rfl,az⟩
 ·obtain⟨e5,h1,h2,h3⟩:=UU (by have:=HS.out.1;omega) hk;exact (HX.out.2.2.nE h1).elim
 obtain⟨t',rE,rfl⟩:=Y0 hl pM;have HT:=hid (Zz rE (Zz az (Zz lx pM)));have hr:=HX.out.1.r;have J9:=hid (zhE X ⟨C,hr⟩ w3 H6.out.1.dm hr.n2 (by rw[hr.m];exact hr.n2) (fun i hi=>by rw[hr.len i hi];exact (hr.iq H6.out.1.dm.kl).2));clear hl pM rE az lx hr;go_wp2_with (first
  | (refine jr (by rfl) 29 _ rfl ⟨b5,0,none⟩ rfl X.cD _ H6.out.1.st.part Tryz.underlying29 rfl H6.out.1.dm.info ?_)
  | (go_at_call 9;refine J9.out.mono ?_))
 rintro e w4 ⟨bo,rfl,px,b4⟩;have kc:bo=true:=px.2 ⟨C,HX.out.1.r⟩;subst kc;have H7:=hid (Zz (H6.out.1.ab b4) (H6.out.2.trans (b4.mono H6.out.2.size)));have zW:=hid (cY HT.out.2.1 b4);clear px b4 J9;go_upto_region 11 with fail;obtain⟨mv,GR⟩:∃mv,ka X (bB X 0 (fw s) s.size)=mv:=⟨_,rfl⟩
 have AA:=hid GR;clear GR;have dc:Hid (∀W',Below w4.heap.size w4 W'->Below w4.heap.size w4 W'/\bz W' b5 X):=fun W' h=>⟨h,H7.out.1.ab h⟩
 refine wp_region_held_drew (S:=fun W'=>Below w4.heap.size w4 W'/\bz W' b5 X) (by kernel_rfl) (dc.out _ (Below.refl _ _).drew) fun hHeld=>?_;refine an 0 (v:=.agg X.cD) ?_ (hy:=by intro wz hSw;exact pt (o:=_) (ρ:=_) wz 29 (.tmp 5) rfl ⟨b5,0,none⟩ rfl X.cD _ (bz.st (And.right hSw)).part Tryz.underlying29 rfl (bz.dm (And.right hSw)).info)
 try simp only[Act.put,sA]
 refine an 1 (v:=.agg X.cD) ?_ (hy:=by intro wz hSw;exact pt (o:=_) (ρ:=_) wz 29 (.tmp 5) rfl ⟨b5,0,none⟩ rfl X.cD _ (bz.st (And.right hSw)).part Tryz.underlying29 rfl (bz.dm (And.right hSw)).info)
 try simp only[Act.put,sA]
 refine an 2 ?_
 try simp only[Act.put,sA]
 refine bf 3 (fun K hK=>?_);go_simp;go_at_call 11;refine (Ob X C HX.out.1.r 0 s s.size rfl (by have:=HS.out.2;omega) _ hHeld.2.dm).mono ?_;rintro e w5 ⟨rfl,vv⟩;have bD:Below w4.heap.size w4 w5:=hHeld.1.trans (vv.mono hHeld.1.size);clear vv
 try go_wp2_with fail
 refine hK.out _ _ (dc.out _ bD) fun hHeld=>?_;clear hK K
 try simp only[Act.put,sA]
 clear bD;refine bf 4 (fun K hK=>?_);go_simp;go_at_call 10;refine (IZ X _ _ hHeld.2.dm (by have:=HX.out.1.r.m;have:=HX.out.1.r.n2;omega)).mono ?_;rintro e w6 ⟨rfl,vv⟩;rw[AA.out];have bD:Below w4.heap.size w4 w6:=hHeld.1.trans (vv.mono hHeld.1.size);clear vv
 try go_wp2_with fail
 refine hK.out _ _ (dc.out _ bD) fun hHeld=>?_;clear hK K
 try simp only[Act.put,sA]
 clear bD;refine an 5 ?_
 try simp only[Act.put,sA]
 refine wpAnyH_done (by kernel_rfl) ?_ _;have H8:=hid (Zz hHeld.2 (H7.out.2.trans (hHeld.1.mono H7.out.2.size)));have js:=hid (cY zW.out hHeld.1);clear hHeld;have hlen:s.size<=20:=by have:=HS.out.2;omega
 have hc:n<=c/\c<=maxLen:=by
  rcases js.out.2 with ⟨h1,h2⟩|⟨g',J8,cur,hv,_,_,h3,h4,_⟩
  ·simp at h1
  simp at hv;obtain⟨_,rfl⟩:=hv;exact⟨h3,h4⟩
 have TO:=hid (zkF t' HT.out.1.1 s s.size rfl (by omega) bq 0 n c w6 (zlI js.out HT.out.2.2.1) HT.out.2.2.1 (by have:=HT.out.2.2.1;have:=HT.out.2.2.2;omega) hc);have Qx:∀j,fw s j<256:=fun j=>vy s j
 have hh:db s s.size t' wE s.size=true↔ec t ((List.range s.size).map (fw s)):=
  (zmM s ((List.range s.size).map (fw s)) s.size (by simp) (fun i h=>by simp[fw]) t' HT.out.1.1).trans (LI HT.out.1.1 HX.out.2.2.1 (HT.out.1.flat HX.out.2.2) (fw s) Qx s.size)
 have eR:=HX.out.2.1 (fw s) s.size Qx;rw[<-zjI HX.out.1.r.m,AA.out] at eR;have GR:(db s s.size t' wE s.size=true/\mv=0)\/(db s s.size t' wE s.size=false/\mv=-1):=by
  rcases hb:db s s.size t' wE s.size with _|_
  ·exact Or.inr ⟨rfl,eR.2 (fun h=>by rw[hh.2 h] at hb;cases hb)⟩
  exact Or.inl ⟨rfl,eR.1 (hh.1 hb)⟩
 have vp:=hid GR;generalize db s s.size t' wE s.size=hasb at TO vp;have hr:=HX.out.1.r;have KN:=hid (fun (W:World) (h:DM W X)=>zms X (by have:=hr.n2;omega) (by have:=hr.n2;have:=hr.m;omega) (fun i hi=>by rw[hr.len i hi];have:=(hr.iq h.kl).2;omega) W h);clear GR hh eR Qx hc hlen hr zW AA;have mL:Hid (∀v7,Below w6.heap.size w6 v7->bz v7 b5 X/\Below w.heap.size w v7):=fun v7 k7=>⟨H8.out.1.ab k7,H8.out.2.trans (k7.mono H8.out.2.size)⟩
 rcases vp.out with ⟨e1,e2⟩|⟨e1,e2⟩
 all_goals
  subst e1 e2
  clear vp
  go_wp2_with (go_at_call 18;refine TO.out.mono ?_)
  rintro e w7 ⟨rfl,b7⟩
  have H9:=hid (mL.out w7 b7)
  clear b7 TO
  have F5:=hid (KN.out w7 H9.out.1.dm)
  go_wp2_with (first
   | (refine jr (by rfl) 29 _ rfl ⟨b5,0,none⟩ rfl X.cD _ H9.out.1.st.part Tryz.underlying29 rfl H9.out.1.dm.info ?_)
   | (go_at_call 13;refine F5.out.mono ?_))
  rintro e w8 ⟨bo,rfl,px,b8⟩
  have uC:=hid (Zz (H9.out.1.ab b8) (H9.out.2.trans (b8.mono H9.out.2.size)))
  clear px b8 F5 KN
  rcases bo with _|_
  ·go_wp2;go_ret;exact⟨rfl,uC.out.2⟩
  have Az:=hid (zfJ X C HX.out.1.r HX.out.1.Ri HX.out.1.SN w8 uC.out.1.dm)
  go_wp2_with (first
   | (refine jr (by rfl) 29 _ rfl ⟨b5,0,none⟩ rfl X.cD _ uC.out.1.st.part Tryz.underlying29 rfl uC.out.1.dm.info ?_)
   | (go_at_call 14;refine Az.out.mono ?_))
  rintro e w9 ⟨rfl,b9⟩
  have H11:=hid (uC.out.2.trans (b9.mono uC.out.2.size))
  clear b9 Az
  go_wp2
  go_ret
  exact⟨rfl,H11.out⟩
end Go.Proofs.YtkkhakmdjinenaaGreat
namespace Go.Proofs.YtkkhakmdjinenaaGreat.rulesOne
open Go.ChangeShapes Go.WideShapes Go.ChangeAt Go.RowKit Go.Deep
theorem lifted(os:Os)(started:os.Started)(H:Type)(enc:TypeId × Value->H):
  ReturnsInHanded {} Tryz.checked os 4 .any (Rows.rulesOneSpec.pre6 enc Tryz.prog Tryz.f4 Rows.rulesOneRow.domain false) (Rows.rulesOneSpec.post enc Tryz.prog Tryz.f4 false true false false):=by
 refine returnsInHanded_of_change (C:=Tryz.checked) own started (by kernel_rfl) Tryz.func4
  (ChangeSpec.witness6 (enc:=enc) (C:=Tryz.checked) false ⟨#[],#[.string .empty,.string .empty],[]⟩ 8 (by kernel_rfl) (by kernel_rfl) (by kernel_rfl) (by kernel_rfl)) ?_
 intro W base args ds gs before Bv hW hcnd _;have yi:∀(j:Nat) t v,Tryz.f4.params[j]?=some t->args[j]?=some v->Value.okWide Tryz.prog W .any base t v:=Bv;have hW':=hW;obtain⟨p,q,T6,hV,rfl,hfz,ju⟩:=hW;have hA:DataW.TrodAll enc Tryz.prog W 0 (fun _=>true) true Tryz.f4.params.toList args.toList ds p:=T6;rw[Tryz.params4] at hA yi;obtain⟨v0,vs0,d0,ds0,p0,q0,Wl,rfl,rfl,h0,r0⟩:=trodAll_cons hA;obtain⟨v1,vs1,d1,ds1,p1,q1,rfl,rfl,rfl,h1,r1⟩:=trodAll_cons r0;obtain⟨rfl,rfl,rfl⟩:=trodAll_nil r1;obtain rfl:args=#[v0,v1]:=by cases args;simp_all
 obtain⟨rfl,rfl⟩:=trodVars_none hV;obtain⟨s0,rfl,rfl,rfl,mC⟩:=Go.ChangeMaps.open_string Tryz.underlying9 (yi 0 9 v0 rfl rfl) h0;have PQ:=mC;obtain⟨s1,rfl,rfl,rfl,kM⟩:=Go.ChangeMaps.open_string Tryz.underlying9 (yi 1 9 v1 rfl rfl) h1;have On:=kM;clear T6 Bv;unfold maxLen at PQ On;refine (zgX s0 s1 (by omega) (by omega) W).mono fun e W' ⟨he,aP⟩=>?_
 subst he;exact⟨_,rfl,_,_,_,[],_,[],hW',trodAll_mk1 (shut_bool Tryz.underlying4 _),(trodAll_cons_mk (Go.ChangeMaps.shut_string Tryz.underlying9 mC) (trodAll_cons_mk (Go.ChangeMaps.shut_string Tryz.underlying9 kM) trodAll_mk0)),rfl,aP.frame _,fun h=>by cases h⟩
theorem over:Rows.rulesOneRow.holds Tryz.pinned (OpenSpec.ofChange Rows.rulesOneSpec):=
 OpenClaim.holds_of_wide 4 Tryz.f4 rfl rfl rfl rfl rfl rfl rfl ⟨rfl,rfl,rfl,rfl,rfl⟩ rfl rfl rfl rfl rfl (by kernel_rfl) Tryz.func4 (by kernel_rfl)
  (of_decide_eq_true (by kernel_rfl)) (by unfold Func.isWrapper;first|(rw[if_pos (by decide +kernel)];kernel_rfl)|(rw[if_neg (by decide +kernel)];exact⟨rfl,rfl⟩))
  (fun os started H enc _=>lifted os started H enc)
theorem proved:Rows.RulesOneSaid:=over
end Go.Proofs.YtkkhakmdjinenaaGreat.rulesOne
