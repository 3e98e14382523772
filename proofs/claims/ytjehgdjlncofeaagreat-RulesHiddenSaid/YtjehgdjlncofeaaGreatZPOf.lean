import Derived.Test.YtjehgdjlncofeaaGreatZPMcW
set_option linter.unusedVariables false
set_option linter.unusedSimpArgs false
set_option maxHeartbeats 0
set_option maxRecDepth 99999
open Go.Lib (hid)
namespace Go.Proofs.YtjehgdjlncofeaaGreat
open Go.RowKit Go.Maps Go.WideElems Go.ChangeMaps Go.MapKept
theorem zn5{i:Nat}{v:Value}(h:(zC 39)[i]?=some v):v=.int .u8 0\/v=.slice none 0 0:=by
 have hz:=zak
 by_cases a:i<256
 ·rw[zeb i a] at h
  exact Or.inl (Option.some.inj h).symm
 ·by_cases b:i=256
  ·subst b;rw[zbs.1] at h;exact Or.inr (Option.some.inj h).symm
  ·by_cases c:i=257
   ·subst c;rw[zbs.2] at h;exact Or.inr (Option.some.inj h).symm
   ·rw[Array.getElem?_eq_none (by omega)] at h;cases h
theorem DM.setz{w:World}{b:Nat}{D:Dd}{C:Nat}(hR:DR D C)(h:DM w D)(hs:St w 39 b (zC 39))(cs:Array Value):DM (w.setRow b cs) D:=by
 have hk:=zbj w b cs
 have hsz:(w.setRow b cs).heap.size=w.heap.size:=setRow_size _ _ _
 have hC:=(hR.c256 h.kl).1
 have key:∀{g i:Nat}{v:Value},g<w.heap.size->w.cell? ⟨g,i,none⟩=some v->v≠.int .u8 0->v≠.slice none 0 0->(w.setRow b cs).cell? ⟨g,i,none⟩=some v:=fun {g i v} hg hc h1 h2=>by
  have hgb:g≠b:=fun e=>by
   subst e
   rw[hs.at_] at hc
   rcases zn5 hc with e|e
   ·exact h1 e
   ·exact h2 e
  rw[hk.cell9 (g:=g) (i:=i) (by simpa using hgb) hg]
  exact hc
 refine⟨h.sz,h.one,h.cl,h.kl,h.fN,h.fM,fun h0=>?_,fun h0=>?_⟩
 ·obtain⟨g,off,e,hg,hc⟩:=h.rN h0
  refine⟨g,off,e,by rw[hsz];exact hg,fun i hi=>⟨key hg (hc i hi).1 (fun e=>by cases e) (fun e=>by
   injection e with _ e _
   have:=hR.len i hi
   omega),fun h1=>?_⟩⟩
  obtain⟨g',off',e',hg',hc'⟩:=(hc i hi).2 h1
  exact⟨g',off',e',by rw[hsz];exact hg',fun j hj=>key hg' (hc' j hj) (fun e=>by cases e) (fun e=>by cases e)⟩
 ·obtain⟨g,off,e,hg,hc⟩:=h.rM h0
  exact⟨g,off,e,by rw[hsz];exact hg,fun j hj=>key hg (hc j hj) (fun e=>by cases e) (fun e=>by cases e)⟩
theorem DBx.stored{w:World}{b:Nat}{D:Dd}{C:Nat}(hR:DR D C)(hD:DM w D)(h:St w 39 b (zC 39)):DBx (w.setRow b D.cD) b D:=⟨h.setRow,hD.setz hR h _⟩
def PiP(O P:Dd)(C C':Nat):Prop:=∃(f:Nat->Nat) (B:Nat) (M:Dd) (g:Nat->Nat),Num (Eqv C (tD O) (mD O)) O.n f B/\MgF O C f B M/\Num (ColE M M.n) 256 g C'/\ClF M g C' P
theorem PiP.right{O P:Dd}{C C':Nat}(hR:DR O C)(h:PiP O P C C'):DR P C':=by
 obtain⟨f,B,M,g,h1,h2,h3,h4⟩:=h
 exact h4.right (h2.right hR h1) h3
theorem PiP.le{O P:Dd}{C C':Nat}(h:PiP O P C C'):P.n<=O.n:=by
 obtain⟨f,B,M,g,h1,h2,h3,h4⟩:=h
 have e:=h4.n
 have e2:M.n=B:=h2.2.1
 have e3:=h1.rpl_all
 have e4:=ziV f O.n
 omega
theorem PiP.mn{O P X:Dd}{C C' k:Nat}{l:List Nat}(hR:DR O C)(hO:Ordd O)(hT:Tgt O C)(h:PiP O P C C')(hl:l=wkN (rowsF P.len P.nx) [0] k)(hlk:l.length=k)(hkn:k<=P.n)(hX:DfF P C' k (ordF P l) (fun i=>P.q (l.getD i 0)) X):Mn X C'/\Beh X 0 O 0:=by
 obtain⟨f,B,M,g,h1,h2,h3,h4⟩:=h
 exact Mn.made hR hO hT h1 h2 h3 h4 hl hlk hkn hX
structure Odd (D O:Dd)(C:Nat):Prop where
 r:DR O C
 ord:Ordd O
 tgt:Tgt O C
 beh:Beh O 0 D 0
 le:O.n<=D.n
theorem Odd.made{D T O:Dd}{C k:Nat}{l:List Nat}(hR:DR D C)(hT:DfF D C D.n (trF D) D.q T)(hl:l=wkN (rowsF T.len T.nx) [0] k)(hlk:l.length=k)(hkn:k<=T.n)(hO:DfF T C k (ordF T l) (fun i=>T.q (l.getD i 0)) O):Odd D O C:=by
 have hRT:=hT.trim_right hR
 have hTT:=hT.trim_tgt hR
 have hn:=hR.n1
 have h1:=ze7 (D:=T) (k:=k) (by rw[<-hl];exact hlk)
 rw[<-hl] at h1
 have hb:=hO.ord_beh hRT hl hlk (i:=0) (by omega)
 rw[h1.2] at hb
 refine⟨?_,hO.ordd hRT hl hlk,hO.ord_tgt hRT hTT hl hlk,hb.trans (hT.trim_beh hR (by omega)),by have h3:=hO.2.1;have h4:=hT.2.1;omega⟩
 subst hl
 exact hO.ord_right hRT hlk hkn
def zmm(D:Dd)(w:World)(e:Ending)(w':World):Prop:=∃(X:Dd) (C':Nat),e=.returned (.tuple #[.agg X.cD,.int .i64 0])/\DM w' X/\Mn X C'/\Beh X 0 D 0/\X.n<=D.n/\Below w.heap.size w w'
theorem zhr(D:Dd)(C:Nat)(hR:DR D C)(w:World)(hD:DM w D):Calls Tryz.prog 33 #[.agg D.cD] w (zmm D w):=by
 have HB:=hid (And.intro (DBx.new hD) (And.intro (al w (.cells D.cD 39)) hR))
 clear hD hR
 go_enter Tryz.func33,Tryz.ntmps33
 go_upto_region 1 with (refine zap rfl 39 rfl (zC 39) (zat _) ?_)
 try simp only[Act.put,List.setIfInBounds_toArray,List.set_cons_zero,List.set_cons_succ,zb8]
 have H0:Hid (DBx ((w.alloc (.cells D.cD 39)).alloc (.cells (zC 39) 39)) w.heap.size D/\St ((w.alloc (.cells D.cD 39)).alloc (.cells (zC 39) 39)) 39 (w.heap.size+1) (zC 39)/\Below w.heap.size w ((w.alloc (.cells D.cD 39)).alloc (.cells (zC 39) 39))):=by
  refine⟨HB.out.1.keep (al _ _),?_,HB.out.2.1.trans ((al _ _).mono (by simp))⟩
  have:=St.new (w.alloc (.cells D.cD 39)) 39 (zC 39)
  simpa using this
 generalize (w.alloc (.cells D.cD 39)).alloc (.cells (zC 39) 39)=Wb at H0⊢
 obtain⟨b2,hb2⟩:∃b2,w.heap.size+1=b2:=⟨_,rfl⟩
 obtain⟨b0,hb0⟩:∃b0,w.heap.size=b0:=⟨_,rfl⟩
 rw[hb2,hb0] at H0
 rw[hb2,hb0]
 have Hb:=hid (And.intro hb0 hb2)
 clear hb2 hb0
 have HRy:=hid (zbH D C HB.out.2.2 Wb H0.out.1.dm)
 go_wp2_with (refine zad (by rfl) 39 _ rfl ⟨b0,0,none⟩ rfl D.cD _ H0.out.1.st.part Tryz.underlying39 rfl H0.out.1.dm.info ?_)
 refine HRy.out.mono ?_
 rintro e wy ⟨rfl,by_⟩
 have H0y:Hid (DBx wy b0 D/\St wy 39 b2 (zC 39)/\Below b0 w wy/\b0<=wy.heap.size):=⟨H0.out.1.keep by_,H0.out.2.1.keep by_,H0.out.2.2.trans (by_.mono (by have:=H0.out.2.2.size;have:=Hb.out.1;omega)),by have:=H0.out.2.2.size;have:=by_.size;have:=Hb.out.1;omega⟩
 have HTr:=hid (zl7 D C wy H0y.out.1.dm HB.out.2.2)
 clear by_ HRy
 go_wp2_with (refine zad (by rfl) 39 _ rfl ⟨b0,0,none⟩ rfl D.cD _ H0y.out.1.st.part Tryz.underlying39 rfl H0y.out.1.dm.info ?_)
 refine HTr.out.mono ?_
 rintro e wT ⟨T,rfl,hdT,t1,t2,t3,t4,t5,t6,bT,_⟩
 have HT:=hid (And.intro hdT (show DfF D C D.n (trF D) D.q T from ⟨t1,t2,t3,t4,t5,t6⟩))
 have H1:Hid (St wT 39 b2 (zC 39)/\Below b0 w wT/\b0<=wT.heap.size):=⟨H0y.out.2.1.keep bT,H0y.out.2.2.1.trans (bT.mono H0y.out.2.2.2),by have:=H0y.out.2.2.2;have:=bT.size;omega⟩
 obtain⟨k,hlk,hkn⟩:=zkt (HT.out.2.trim_right HB.out.2.2)
 have HOr:=hid (zf1 T C _ k rfl hlk hkn wT HT.out.1 (HT.out.2.trim_right HB.out.2.2))
 have Hlk:=hid (And.intro hlk hkn)
 clear hdT t1 t2 t3 t4 t5 t6 bT HTr hlk hkn
 go_wp2_with fail
 refine HOr.out.mono ?_
 rintro e wO ⟨O,rfl,hdO,t1,t2,t3,t4,t5,t6,bO,_⟩
 have HO:=hid (And.intro hdO (Odd.made HB.out.2.2 HT.out.2 rfl Hlk.out.1 Hlk.out.2 ⟨t1,t2,t3,t4,t5,t6⟩))
 have H2:Hid (St wO 39 b2 (zC 39)/\Below b0 w wO/\b0<=wO.heap.size):=⟨H1.out.1.keep bO,H1.out.2.1.trans (bO.mono H1.out.2.2),by have:=H1.out.2.2;have:=bO.size;omega⟩
 clear hdO t1 t2 t3 t4 t5 t6 bO HOr
 have HSt4:=hid (St.new wO 39 (zC 39))
 have H3:Hid (DBx ((wO.alloc (.cells (zC 39) 39)).setRow wO.heap.size O.cD) wO.heap.size O/\Below wO.heap.size wO ((wO.alloc (.cells (zC 39) 39)).setRow wO.heap.size O.cD)):=
  ⟨DBx.stored HO.out.2.r (HO.out.1.below (al _ _)) (St.new _ _ _),zaj (al _ _) (Nat.le_refl _) _⟩
 go_upto_region 4 with (first
  | (refine zap rfl 39 rfl (zC 39) (zat _) ?_)
  | (refine zaf rfl 39 _ _ rfl wO.heap.size 39 (zC 39) O.cD rfl rfl HSt4.out (by rw[zak,HO.out.1.sz]) (by rw[zah,HO.out.1.sz]) HO.out.1.one ?_))
 simp only[Act.put,sA,sB,sC]
 obtain⟨b4,hb4⟩:∃b4,wO.heap.size=b4:=⟨_,rfl⟩
 rw[hb4] at H3
 rw[hb4]
 generalize (wO.alloc (.cells (zC 39) 39)).setRow b4 O.cD=V at H3⊢
 have H4:Hid (St V 39 b2 (zC 39)/\Below b0 w V/\b0<=V.heap.size):=by
  have h:=H3.out.2
  have hs:=h.size
  rw[<-hb4] at h
  exact⟨H2.out.1.keep h,H2.out.2.1.trans (h.mono H2.out.2.2),by have:=H2.out.2.2;omega⟩
 clear hb4 HSt4
 have HSo:Hid (∀W',Below V.heap.size V W'->Below V.heap.size V W'/\DBx W' b4 O):=fun W' h=>⟨h,H3.out.1.keep h⟩
 go_cut [5] from 13 to 17 (fun v wx=>∃(b5:Nat) (P:Dd) (C':Nat),v=.pointer (some ⟨b5,0,none⟩)/\DBx wx b5 P/\PiP O P C C'/\Below V.heap.size V wx)
 case first=>
  refine wp_region_held_drew (S:=fun W'=>Below V.heap.size V W'/\DBx W' b4 O) (by kernel_rfl) (HSo.out _ (Below.refl _ _).drew) (fun hHeld=>?_)
  (refine tkA 0 (v:=.agg O.cD) ?_ (hy:=by intro wz hSw;exact zar (o:=_) (ρ:=_) wz 39 (.tmp 4) rfl ⟨b4,0,none⟩ rfl O.cD _ (DBx.st (And.right hSw)).part Tryz.underlying39 rfl (DBx.dm (And.right hSw)).info))
  (refine tkA 1 (v:=.agg O.cD) ?_ (hy:=by intro wz hSw;exact zar (o:=_) (ρ:=_) wz 39 (.tmp 4) rfl ⟨b4,0,none⟩ rfl O.cD _ (DBx.st (And.right hSw)).part Tryz.underlying39 rfl (DBx.dm (And.right hSw)).info);try simp only[Act.put,sA,sB,sC])
  refine wpAnyH_ready (rs:=[2,5]) (by kernel_rfl) (by simp) ?_
  refine arC (fun K hK=>?_) ?_
  ·skip
   go_simp
   go_at_call 59
   refine(zd8 O C HO.out.2.r _ hHeld.2.dm).mono ?_
   rintro e w8 ⟨f,B,aB,cB,rfl,ho,hNm,vv⟩
   have hbn:Below V.heap.size V w8:=hHeld.1.trans (vv.mono hHeld.1.size)
   have HK:=hid (And.intro (zhq ho) hNm)
   clear ho hNm vv
   try go_wp2_with fail
   refine hK.out _ _ (HSo.out _ hbn) (fun hHeld=>?_)
   clear hK K
   try simp only[Act.put,sA,sB,sC]
   clear hbn
   refine wpAnyH_ready (rs:=[3,5]) (by kernel_rfl) (by simp) ?_
   refine arC (fun K hK=>?_) ?_
   ·skip
    go_simp
    go_at_call 58
    refine(zbl O C HO.out.2.r _ f B HK.out.2 aB cB _ hHeld.2.dm HK.out.1).mono ?_
    rintro e w9 ⟨M,rfl,hdM,t1,t2,t3,t4,t5,t6,vv,_⟩
    have hbn:Below V.heap.size V w9:=hHeld.1.trans (vv.mono hHeld.1.size)
    have HMm:=hid (And.intro hdM (show MgF O C f B M from ⟨t1,t2,t3,t4,t5,t6⟩))
    clear hdM t1 t2 t3 t4 t5 t6 vv
    try go_wp2_with fail
    refine hK.out _ _ (HSo.out _ hbn) (fun hHeld=>?_)
    clear hK K
    try simp only[Act.put,sA,sB,sC]
    clear hbn
    refine wpAnyH_ready (rs:=[4,5]) (by kernel_rfl) (by simp) ?_
    refine arC (fun K hK=>?_) ?_
    ·skip
     go_simp
     go_at_call 57
     refine(za2 M C (HMm.out.2.right HO.out.2.r HK.out.2) _ HMm.out.1).mono ?_
     rintro e w10 ⟨P,g,C',rfl,hdP,hNg,hCl,vv⟩
     have hbn:Below V.heap.size V w10:=hHeld.1.trans (vv.mono hHeld.1.size)
     have HPp:=hid (And.intro hdP (show PiP O P C C' from ⟨f,B,M,g,HK.out.2,HMm.out.2,hNg,hCl⟩))
     clear hdP hNg hCl vv
     try go_wp2_with fail
     refine hK.out _ _ (HSo.out _ hbn) (fun hHeld=>?_)
     clear hK K
     try simp only[Act.put,sA,sB,sC]
     clear hbn
     refine rd1 5 (fun K hK=>?_)
     ·skip
      refine zbb (by rfl) 39 (by rfl) (zC 39) (zat _) ?_
      have kk:=al w10 (.cells (zC 39) 39)
      have hbn:Below V.heap.size V (w10.alloc (.cells (zC 39) 39)):=hHeld.1.trans (kk.mono hHeld.1.size)
      have HPp:=hid (And.intro (HPp.out.1.below kk) HPp.out.2)
      have H7:Hid (St (w10.alloc (.cells (zC 39) 39)) 39 w10.heap.size (zC 39)/\V.heap.size<=w10.heap.size):=⟨St.new _ _ _,hHeld.1.size⟩
      refine hK.out _ _ (HSo.out _ hbn) (fun hHeld=>?_)
      clear hK K
      try simp only[Act.put,sA,sB,sC]
      try simp only[zaw]
      clear kk
      generalize (w10.alloc (.cells (zC 39) 39))=V7 at H7 HPp hHeld hbn⊢
      refine rd1 6 (fun K hK=>?_)
      ·skip
       refine zbc (by rfl) 39 _ _ (by rfl) w10.heap.size 39 (zC 39) P.cD (by rfl) (by rfl) H7.out.1 (by rw[zak,HPp.out.1.sz]) (by rw[zah,HPp.out.1.sz]) HPp.out.1.one ?_
       have HE:=hid (And.intro (DBx.stored (HPp.out.2.right HO.out.2.r) HPp.out.1 H7.out.1) (And.intro HPp.out.2 (zaj hHeld.1 H7.out.2 P.cD)))
       refine hK.out _ _ (HSo.out _ HE.out.2.2) (fun hHeld=>?_)
       clear hK K
       try simp only[Act.put,sA,sB,sC]
       refine wpAnyH_done (by kernel_rfl) ?_ _
       clear hHeld
       go_wp2_with fail
       go_meet
       exact⟨_,P,C',rfl,HE.out⟩
    refine arC (fun K hK=>?_) ?_
    ·skip
     refine zbb (by rfl) 39 (by rfl) (zC 39) (zat _) ?_
     have kk:=al w9 (.cells (zC 39) 39)
     have hbn:Below V.heap.size V (w9.alloc (.cells (zC 39) 39)):=hHeld.1.trans (kk.mono hHeld.1.size)
     have HMm:=hid (And.intro (HMm.out.1.below kk) HMm.out.2)
     have H7:Hid (St (w9.alloc (.cells (zC 39) 39)) 39 w9.heap.size (zC 39)/\V.heap.size<=w9.heap.size):=⟨St.new _ _ _,hHeld.1.size⟩
     refine hK.out _ _ (HSo.out _ hbn) (fun hHeld=>?_)
     clear hK K
     try simp only[Act.put,sA,sB,sC]
     try simp only[zaw]
     clear kk
     generalize (w9.alloc (.cells (zC 39) 39))=V7 at H7 HMm hHeld hbn⊢
     refine rd1 4 (fun K hK=>?_)
     ·skip
      go_simp
      go_at_call 57
      refine(za2 M C (HMm.out.2.right HO.out.2.r HK.out.2) _ HMm.out.1).mono ?_
      rintro e w10 ⟨P,g,C',rfl,hdP,hNg,hCl,vv⟩
      have H7:Hid (St w10 39 w9.heap.size (zC 39)/\V.heap.size<=w9.heap.size):=⟨H7.out.1.keep vv,H7.out.2⟩
      have hbn:Below V.heap.size V w10:=hHeld.1.trans (vv.mono hHeld.1.size)
      have HPp:=hid (And.intro hdP (show PiP O P C C' from ⟨f,B,M,g,HK.out.2,HMm.out.2,hNg,hCl⟩))
      clear hdP hNg hCl vv
      try go_wp2_with fail
      refine hK.out _ _ (HSo.out _ hbn) (fun hHeld=>?_)
      clear hK K
      try simp only[Act.put,sA,sB,sC]
      clear hbn
      refine rd1 6 (fun K hK=>?_)
      ·skip
       refine zbc (by rfl) 39 _ _ (by rfl) w9.heap.size 39 (zC 39) P.cD (by rfl) (by rfl) H7.out.1 (by rw[zak,HPp.out.1.sz]) (by rw[zah,HPp.out.1.sz]) HPp.out.1.one ?_
       have HE:=hid (And.intro (DBx.stored (HPp.out.2.right HO.out.2.r) HPp.out.1 H7.out.1) (And.intro HPp.out.2 (zaj hHeld.1 H7.out.2 P.cD)))
       refine hK.out _ _ (HSo.out _ HE.out.2.2) (fun hHeld=>?_)
       clear hK K
       try simp only[Act.put,sA,sB,sC]
       refine wpAnyH_done (by kernel_rfl) ?_ _
       clear hHeld
       go_wp2_with fail
       go_meet
       exact⟨_,P,C',rfl,HE.out⟩
    exact AllReadyH.nil
   refine arC (fun K hK=>?_) ?_
   ·skip
    refine zbb (by rfl) 39 (by rfl) (zC 39) (zat _) ?_
    have kk:=al w8 (.cells (zC 39) 39)
    have hbn:Below V.heap.size V (w8.alloc (.cells (zC 39) 39)):=hHeld.1.trans (kk.mono hHeld.1.size)
    have HK:=hid (And.intro (HK.out.1.below kk) HK.out.2)
    have H7:Hid (St (w8.alloc (.cells (zC 39) 39)) 39 w8.heap.size (zC 39)/\V.heap.size<=w8.heap.size):=⟨St.new _ _ _,hHeld.1.size⟩
    refine hK.out _ _ (HSo.out _ hbn) (fun hHeld=>?_)
    clear hK K
    try simp only[Act.put,sA,sB,sC]
    try simp only[zaw]
    clear kk
    generalize (w8.alloc (.cells (zC 39) 39))=V7 at H7 HK hHeld hbn⊢
    refine rd1 3 (fun K hK=>?_)
    ·skip
     go_simp
     go_at_call 58
     refine(zbl O C HO.out.2.r _ f B HK.out.2 aB cB _ hHeld.2.dm HK.out.1).mono ?_
     rintro e w9 ⟨M,rfl,hdM,t1,t2,t3,t4,t5,t6,vv,_⟩
     have H7:Hid (St w9 39 w8.heap.size (zC 39)/\V.heap.size<=w8.heap.size):=⟨H7.out.1.keep vv,H7.out.2⟩
     have hbn:Below V.heap.size V w9:=hHeld.1.trans (vv.mono hHeld.1.size)
     have HMm:=hid (And.intro hdM (show MgF O C f B M from ⟨t1,t2,t3,t4,t5,t6⟩))
     clear hdM t1 t2 t3 t4 t5 t6 vv
     try go_wp2_with fail
     refine hK.out _ _ (HSo.out _ hbn) (fun hHeld=>?_)
     clear hK K
     try simp only[Act.put,sA,sB,sC]
     clear hbn
     refine rd1 4 (fun K hK=>?_)
     ·skip
      go_simp
      go_at_call 57
      refine(za2 M C (HMm.out.2.right HO.out.2.r HK.out.2) _ HMm.out.1).mono ?_
      rintro e w10 ⟨P,g,C',rfl,hdP,hNg,hCl,vv⟩
      have H7:Hid (St w10 39 w8.heap.size (zC 39)/\V.heap.size<=w8.heap.size):=⟨H7.out.1.keep vv,H7.out.2⟩
      have hbn:Below V.heap.size V w10:=hHeld.1.trans (vv.mono hHeld.1.size)
      have HPp:=hid (And.intro hdP (show PiP O P C C' from ⟨f,B,M,g,HK.out.2,HMm.out.2,hNg,hCl⟩))
      clear hdP hNg hCl vv
      try go_wp2_with fail
      refine hK.out _ _ (HSo.out _ hbn) (fun hHeld=>?_)
      clear hK K
      try simp only[Act.put,sA,sB,sC]
      clear hbn
      refine rd1 6 (fun K hK=>?_)
      ·skip
       refine zbc (by rfl) 39 _ _ (by rfl) w8.heap.size 39 (zC 39) P.cD (by rfl) (by rfl) H7.out.1 (by rw[zak,HPp.out.1.sz]) (by rw[zah,HPp.out.1.sz]) HPp.out.1.one ?_
       have HE:=hid (And.intro (DBx.stored (HPp.out.2.right HO.out.2.r) HPp.out.1 H7.out.1) (And.intro HPp.out.2 (zaj hHeld.1 H7.out.2 P.cD)))
       refine hK.out _ _ (HSo.out _ HE.out.2.2) (fun hHeld=>?_)
       clear hK K
       try simp only[Act.put,sA,sB,sC]
       refine wpAnyH_done (by kernel_rfl) ?_ _
       clear hHeld
       go_wp2_with fail
       go_meet
       exact⟨_,P,C',rfl,HE.out⟩
   exact AllReadyH.nil
  refine arC (fun K hK=>?_) ?_
  ·skip
   refine zbb (by rfl) 39 (by rfl) (zC 39) (zat _) ?_
   have kk:=al V.drew (.cells (zC 39) 39)
   have hbn:Below V.heap.size V (V.drew.alloc (.cells (zC 39) 39)):=hHeld.1.trans (kk.mono hHeld.1.size)
   have H7:Hid (St (V.drew.alloc (.cells (zC 39) 39)) 39 V.heap.size (zC 39)/\V.heap.size<=V.heap.size):=⟨St.new _ _ _,hHeld.1.size⟩
   refine hK.out _ _ (HSo.out _ hbn) (fun hHeld=>?_)
   clear hK K
   try simp only[Act.put,sA,sB,sC]
   try simp only[zaw]
   clear kk
   generalize (V.drew.alloc (.cells (zC 39) 39))=V7 at H7 hHeld hbn⊢
   refine rd1 2 (fun K hK=>?_)
   ·skip
    go_simp
    go_at_call 59
    refine(zd8 O C HO.out.2.r _ hHeld.2.dm).mono ?_
    rintro e w8 ⟨f,B,aB,cB,rfl,ho,hNm,vv⟩
    have H7:Hid (St w8 39 V.heap.size (zC 39)/\V.heap.size<=V.heap.size):=⟨H7.out.1.keep vv,H7.out.2⟩
    have hbn:Below V.heap.size V w8:=hHeld.1.trans (vv.mono hHeld.1.size)
    have HK:=hid (And.intro (zhq ho) hNm)
    clear ho hNm vv
    try go_wp2_with fail
    refine hK.out _ _ (HSo.out _ hbn) (fun hHeld=>?_)
    clear hK K
    try simp only[Act.put,sA,sB,sC]
    clear hbn
    refine rd1 3 (fun K hK=>?_)
    ·skip
     go_simp
     go_at_call 58
     refine(zbl O C HO.out.2.r _ f B HK.out.2 aB cB _ hHeld.2.dm HK.out.1).mono ?_
     rintro e w9 ⟨M,rfl,hdM,t1,t2,t3,t4,t5,t6,vv,_⟩
     have H7:Hid (St w9 39 V.heap.size (zC 39)/\V.heap.size<=V.heap.size):=⟨H7.out.1.keep vv,H7.out.2⟩
     have hbn:Below V.heap.size V w9:=hHeld.1.trans (vv.mono hHeld.1.size)
     have HMm:=hid (And.intro hdM (show MgF O C f B M from ⟨t1,t2,t3,t4,t5,t6⟩))
     clear hdM t1 t2 t3 t4 t5 t6 vv
     try go_wp2_with fail
     refine hK.out _ _ (HSo.out _ hbn) (fun hHeld=>?_)
     clear hK K
     try simp only[Act.put,sA,sB,sC]
     clear hbn
     refine rd1 4 (fun K hK=>?_)
     ·skip
      go_simp
      go_at_call 57
      refine(za2 M C (HMm.out.2.right HO.out.2.r HK.out.2) _ HMm.out.1).mono ?_
      rintro e w10 ⟨P,g,C',rfl,hdP,hNg,hCl,vv⟩
      have H7:Hid (St w10 39 V.heap.size (zC 39)/\V.heap.size<=V.heap.size):=⟨H7.out.1.keep vv,H7.out.2⟩
      have hbn:Below V.heap.size V w10:=hHeld.1.trans (vv.mono hHeld.1.size)
      have HPp:=hid (And.intro hdP (show PiP O P C C' from ⟨f,B,M,g,HK.out.2,HMm.out.2,hNg,hCl⟩))
      clear hdP hNg hCl vv
      try go_wp2_with fail
      refine hK.out _ _ (HSo.out _ hbn) (fun hHeld=>?_)
      clear hK K
      try simp only[Act.put,sA,sB,sC]
      clear hbn
      refine rd1 6 (fun K hK=>?_)
      ·skip
       refine zbc (by rfl) 39 _ _ (by rfl) V.heap.size 39 (zC 39) P.cD (by rfl) (by rfl) H7.out.1 (by rw[zak,HPp.out.1.sz]) (by rw[zah,HPp.out.1.sz]) HPp.out.1.one ?_
       have HE:=hid (And.intro (DBx.stored (HPp.out.2.right HO.out.2.r) HPp.out.1 H7.out.1) (And.intro HPp.out.2 (zaj hHeld.1 H7.out.2 P.cD)))
       refine hK.out _ _ (HSo.out _ HE.out.2.2) (fun hHeld=>?_)
       clear hK K
       try simp only[Act.put,sA,sB,sC]
       refine wpAnyH_done (by kernel_rfl) ?_ _
       clear hHeld
       go_wp2_with fail
       go_meet
       exact⟨_,P,C',rfl,HE.out⟩
  exact AllReadyH.nil
 case rest=>
  obtain⟨b5,P,C',rfl,hbx,hpi,hbv⟩:=hcut
  have HP:=hid (And.intro hbx (And.intro hpi hbv))
  have H5:Hid (St wc 39 b2 (zC 39)/\Below b0 w wc/\b0<=wc.heap.size):=⟨H4.out.1.keep hbv,H4.out.2.1.trans (hbv.mono H4.out.2.2),by have:=H4.out.2.2;have:=hbv.size;omega⟩
  obtain⟨k2,hlk2,hkn2⟩:=zkt (HP.out.2.1.right HO.out.2.r)
  have HOr:=hid (zf1 P C' _ k2 rfl hlk2 hkn2 wc HP.out.1.dm (HP.out.2.1.right HO.out.2.r))
  have Hlk2:=hid (And.intro hlk2 hkn2)
  clear hbx hpi hbv hlk2 hkn2
  go_wp2_with (refine zad (by rfl) 39 _ rfl ⟨b5,0,none⟩ rfl P.cD _ HP.out.1.st.part Tryz.underlying39 rfl HP.out.1.dm.info ?_)
  refine HOr.out.mono ?_
  rintro e wX ⟨X,rfl,hdX,t1,t2,t3,t4,t5,t6,bX,_⟩
  have HX:=hid (PiP.mn HO.out.2.r HO.out.2.ord HO.out.2.tgt HP.out.2.1 rfl Hlk2.out.1 Hlk2.out.2 (X:=X) ⟨t1,t2,t3,t4,t5,t6⟩)
  have HdX:=hid hdX
  have HXn:Hid (X.n<=D.n):=by have h1:=HP.out.2.1.le;have h2:=HO.out.2.le;have h3:=Hlk2.out.2;show X.n<=D.n;omega
  have HSt2:=hid (H5.out.1.keep bX)
  have HF:Hid (zmm D w (.returned (.tuple #[.agg X.cD,.int .i64 0])) (wX.setRow b2 X.cD)):=by
   have hb:Below w.heap.size w wX:=by
    have h:=H5.out.2.1.trans (bX.mono H5.out.2.2)
    rw[Hb.out.1];exact h
   refine⟨X,C',rfl,(DBx.stored HX.out.1.r hdX HSt2.out).dm,HX.out.1,HX.out.2.trans HO.out.2.beh,HXn.out,zaj hb (by have:=Hb.out.2;omega) _⟩
  clear hdX t1 t2 t3 t4 t5 t6 bX HOr
  go_wp2_with (refine zaf rfl 39 _ _ rfl b2 39 (zC 39) X.cD rfl rfl HSt2.out (by rw[zak,HdX.out.sz]) (by rw[zah,HdX.out.sz]) HdX.out.one ?_)
  refine bodyPost_ret (zaC rfl _ _ b2 X.cD _ rfl HSt2.out.setRow.part Tryz.underlying39 rfl (by rw[zah,HdX.out.sz])) rfl ?_
  exact HF.out
end Go.Proofs.YtjehgdjlncofeaaGreat
