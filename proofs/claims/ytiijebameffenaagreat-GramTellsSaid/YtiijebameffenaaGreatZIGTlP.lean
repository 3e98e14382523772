import Derived.Test.YtiijebameffenaaGreatZIAwk
set_option linter.all false
set_option maxHeartbeats 8000000
set_option maxRecDepth 100000
open Go.Lib (hid)
namespace Go.Proofs.YtiijebameffenaaGreat
open Go.RowKit Go.Maps Go.WideElems Go.ChangeMaps Go.MapKept
def wQ(w:World)(b c d:Nat)(G:Gr)(x y:Sy)(wr:World):Prop:=o9 w b G x wr/\kJ wr c y/\kJ wr d y
theorem wQ.aa{w wr w':World}{b c d:Nat}{G:Gr}{x y:Sy}(h:wQ w b c d G x y wr)(k:Below wr.heap.size wr w'):wQ w b c d G x y w':=⟨h.1.aa k,h.2.1.below k,h.2.2.below k⟩
def pj(w:World)(b d:Nat)(G:Gr)(x:Sy)(p:iw)(wr:World):Prop:=o9 w b G x wr/\nW wr d p
theorem pj.aa{w wr w':World}{b d:Nat}{G:Gr}{x:Sy}{p:iw}(h:pj w b d G x p wr)(k:Below wr.heap.size wr w'):pj w b d G x p w':=⟨h.1.aa k,h.2.below k⟩
theorem sd(w:World):Below w.heap.size w w.drew:=⟨rfl,rfl,rfl,Nat.le_refl _,fun _ _=>rfl⟩
theorem zfg(G:Gr)(x:Sy)(t:ByteArray)(w:World)(hA:G.At w)(hL:G.na 9223372036854775807)(ht9:t.size<=9223372036854775807)
  (hW:∀W,Calls Tryz.prog 7 #[] W (zo W))
  (IE:fI G->∀W,Below w.heap.size w W->Calls Tryz.prog 14 #[G.val,.agg (de x).toArray] W (px (dL G x) W))
  (II:fI G->∀W,Below w.heap.size w W->Calls Tryz.prog 16 #[G.val,.agg (de x).toArray] W (iP (gK G x) W))
  (IB:fI G->t.size<=100->∀W,Below w.heap.size w W->Calls Tryz.prog 12 #[G.val,.string t] W (Cb G t W))
  (XR:fI G->∀W,Below w.heap.size w W->Calls Tryz.prog 18 #[G.val,.int .i64 x.n] W (KX (ld G x.n) W))
  (FG:fI G->∀i:Int,∀W,Below w.heap.size w W->Calls Tryz.prog 19 #[G.val,.int .i64 i] W (iP (mJ G i) W))
  (Fb:fI G->∀i,i<G.P.length->∀W,Below w.heap.size w W->Calls Tryz.prog 20 #[(gj G i).val] W (px (ek (gj G i)) W))
  (Fv:fI G->∀W,Below w.heap.size w W->Calls Tryz.prog 22 #[G.val,.int .i64 x.n] W (wY (uC G x.n) W))
  (FV:fI G->t.size<=100->∀W,Below w.heap.size w W->Calls Tryz.prog 23 #[G.val,.string t] W (wY (tH G t) W)):
  Calls Tryz.prog 4 #[G.val,.agg (de x).toArray,.string t] w (zo w):=by
 show Calls Tryz.prog 4 #[.agg #[.slice G.aR G.R.length G.cR,.slice G.aS G.S.length G.cS,.slice G.aP G.P.length G.cP,.slice G.aL G.L.length G.cL,.int .i64 G.st],.agg #[.bool x.s,.int .i64 x.n],.string t] w _;have pY:Hid (∀W,Below w.heap.size w W->Calls Tryz.prog 8 #[.agg #[.slice G.aR G.R.length G.cR,.slice G.aS G.S.length G.cS,.slice G.aP G.P.length G.cP,.slice G.aL G.L.length G.cL,.int .i64 G.st]] W (MP G W)):=fun W k=>Zu G W (hA.below k) hL
 have DD:Hid (fI G->t.size<=100->∀W,Below w.heap.size w W->Calls Tryz.prog 12 #[.agg #[.slice G.aR G.R.length G.cR,.slice G.aS G.S.length G.cS,.slice G.aP G.P.length G.cP,.slice G.aL G.L.length G.cL,.int .i64 G.st],.string t] W (Cb G t W)):=IB;have Vc:Hid (∀W,Below w.heap.size w W->Calls Tryz.prog 13 #[.agg #[.slice G.aR G.R.length G.cR,.slice G.aS G.S.length G.cS,.slice G.aP G.P.length G.cP,.slice G.aL G.L.length G.cL,.int .i64 G.st],.string t] W (Cb G t W)):=fun W k=>zgl G t W (hA.below k) hL
 have wE:Hid (fI G->∀W,Below w.heap.size w W->Calls Tryz.prog 14 #[.agg #[.slice G.aR G.R.length G.cR,.slice G.aS G.S.length G.cS,.slice G.aP G.P.length G.cP,.slice G.aL G.L.length G.cL,.int .i64 G.st],.agg #[.bool x.s,.int .i64 x.n]] W (px (dL G x) W)):=IE;have VT:Hid (∀W,Below w.heap.size w W->Calls Tryz.prog 15 #[.agg #[.slice G.aR G.R.length G.cR,.slice G.aS G.S.length G.cS,.slice G.aP G.P.length G.cP,.slice G.aL G.L.length G.cL,.int .i64 G.st],.agg #[.bool x.s,.int .i64 x.n]] W (px (dL G x) W)):=fun W k=>zh8 G x W (hA.below k) hL
 have xO:Hid (fI G->∀W,Below w.heap.size w W->Calls Tryz.prog 16 #[.agg #[.slice G.aR G.R.length G.cR,.slice G.aS G.S.length G.cS,.slice G.aP G.P.length G.cP,.slice G.aL G.L.length G.cL,.int .i64 G.st],.agg #[.bool x.s,.int .i64 x.n]] W (iP (gK G x) W)):=II;have P5:Hid (∀(y:Sy) W,Below w.heap.size w W->Calls Tryz.prog 17 #[.agg #[.slice G.aR G.R.length G.cR,.slice G.aS G.S.length G.cS,.slice G.aP G.P.length G.cP,.slice G.aL G.L.length G.cL,.int .i64 G.st],.agg #[.bool y.s,.int .i64 y.n]] W (iP (gK G y) W)):=fun y W k=>zgg G y W (hA.below k) hL
 have Mz:Hid (fI G->∀W,Below w.heap.size w W->Calls Tryz.prog 18 #[.agg #[.slice G.aR G.R.length G.cR,.slice G.aS G.S.length G.cS,.slice G.aP G.P.length G.cP,.slice G.aL G.L.length G.cL,.int .i64 G.st],.int .i64 x.n] W (KX (ld G x.n) W)):=XR;have Bw:Hid (fI G->∀i:Int,∀W,Below w.heap.size w W->Calls Tryz.prog 19 #[.agg #[.slice G.aR G.R.length G.cR,.slice G.aS G.S.length G.cS,.slice G.aP G.P.length G.cP,.slice G.aL G.L.length G.cL,.int .i64 G.st],.int .i64 i] W (iP (mJ G i) W)):=FG;have WN:Hid (fI G->∀W,Below w.heap.size w W->Calls Tryz.prog 22 #[.agg #[.slice G.aR G.R.length G.cR,.slice G.aS G.S.length G.cS,.slice G.aP G.P.length G.cP,.slice G.aL G.L.length G.cL,.int .i64 G.st],.int .i64 x.n] W (wY (uC G x.n) W)):=Fv;have AL:Hid (fI G->t.size<=100->∀W,Below w.heap.size w W->Calls Tryz.prog 23 #[.agg #[.slice G.aR G.R.length G.cR,.slice G.aS G.S.length G.cS,.slice G.aP G.P.length G.cP,.slice G.aL G.L.length G.cL,.int .i64 G.st],.string t] W (wY (tH G t) W)):=FV;have vw:=hid Fb;have HA:=hid (Zz hA hL);have HW:=hid hW;clear hA hL IE II IB XR FG Fb Fv FV hW;obtain⟨w2,bD⟩:∃w2,((w.alloc (.cells #[.slice G.aR G.R.length G.cR,.slice G.aS G.S.length G.cS,.slice G.aP G.P.length G.cP,.slice G.aL G.L.length G.cL,.int .i64 G.st] 27)).alloc (.cells #[.bool x.s,.int .i64 x.n] 38))=w2:=⟨_,rfl⟩
 have H:Hid (eU w2 w.heap.size G/\kJ w2 (w.heap.size+1) x/\Below w.heap.size w w2):=by
  rw[<-bD];have k0:=al w (.cells #[.slice G.aR G.R.length G.cR,.slice G.aS G.S.length G.cS,.slice G.aP G.P.length G.cP,.slice G.aL G.L.length G.cL,.int .i64 G.st] 27);have k1:=al (w.alloc (.cells #[.slice G.aR G.R.length G.cR,.slice G.aS G.S.length G.cS,.slice G.aP G.P.length G.cP,.slice G.aL G.L.length G.cL,.int .i64 G.st] 27)) (.cells #[.bool x.s,.int .i64 x.n] 38);exact⟨((eU.new w G 27).below k1),(by have h9:=(kJ.new (w.alloc (.cells #[.slice G.aR G.R.length G.cR,.slice G.aS G.S.length G.cS,.slice G.aP G.P.length G.cP,.slice G.aL G.L.length G.cL,.int .i64 G.st] 27)) x 38);simpa using h9),(k0.trans (k1.mono k0.size))⟩
 have iL:Hid (w2.heap.size=w.heap.size+2):=by show _=_;rw[<-bD];simp
 go_enter Tryz.func4,Tryz.ntmps4;go_upto_region 1 with fail
 try rw[bD]
 clear bD;obtain⟨b,hb⟩:∃b,w.heap.size=b:=⟨_,rfl⟩
 have HX:Hid (o9 w b G x w2):=by rw[<-hb];exact H.out
 rw[hb];clear hb H iL;have Uf:=hid (HW.out w2);go_wp2_with (go_at_call 7;refine Uf.out.mono ?_);rintro e w3 ⟨rfl,b3⟩;have fm:=hid (HX.out.aa b3);clear b3 HX HW Uf;have c0:=fm.out.1.c0;have c1:=fm.out.1.c1;have c2:=fm.out.1.c2;have c3:=fm.out.1.c3;have c4:=fm.out.1.c4;have AY:=hid (pY.out w3 fm.out.2.2);go_wp2_with (go_at_call 8;refine AY.out.mono ?_);rintro e w4 ⟨bo,rfl,jG,b4⟩;have kt:=hid (fm.out.aa b4);clear b4 fm pY AY c0 c1 c2 c3 c4;rcases bo with _|_
 ·clear jG;go_wp2;go_ret;exact⟨rfl,kt.out.2.2⟩
 have HB:=hid (jG rfl);clear jG;by_cases Im:100<t.size
 ·have i1:(100:Int)<(t.size:Int):=by omega
  go_wp2;go_ret;exact⟨rfl,kt.out.2.2⟩
 have i1:¬((100:Int)<(t.size:Int)):=by omega
 have HT:Hid (t.size<=100):=by show _<=_;omega
 have Nq:=HB.out.p;have c0:=kt.out.1.c0;have c1:=kt.out.1.c1;have c2:=kt.out.1.c2;have c3:=kt.out.1.c3;have c4:=kt.out.1.c4;have Fj:=hid (DD.out HB.out HT.out w4 kt.out.2.2);go_wp2_with (go_at_call 12;refine Fj.out.mono ?_);rintro e w5 ⟨rfl,b5⟩;have mw:=hid (kt.out.aa b5);clear b5 kt Fj DD c0 c1 c2 c3 c4 i1 Im;obtain⟨fr,pR⟩:∃fr,mT G t=fr:=⟨_,rfl⟩
 have Cd:Hid (∀W,Below w.heap.size w W->Calls Tryz.prog 13 #[.agg #[.slice G.aR G.R.length G.cR,.slice G.aS G.S.length G.cS,.slice G.aP G.P.length G.cP,.slice G.aL G.L.length G.cL,.int .i64 G.st],.string t] W fun e w'=>e=.returned (.tuple #[.agg #[.bool fr.1.s,.int .i64 fr.1.n],.bool fr.2])/\Below W.heap.size W w'):=fun W k=>by rw[<-pR];exact Vc.out W k
 rw[pR];clear pR Vc;obtain⟨y,ok⟩:=fr;dsimp only at Cd⊢;rw[show (de y).toArray=#[.bool y.s,.int .i64 y.n] from rfl];obtain⟨c,hc⟩:∃c,w5.heap.size=c:=⟨_,rfl⟩
 obtain⟨w6,V4⟩:∃w6,w5.alloc (.cells #[.bool y.s,.int .i64 y.n] 38)=w6:=⟨_,rfl⟩
 have H6:Hid (o9 w b G x w6/\kJ w6 c y):=by
  rw[<-V4,<-hc];exact⟨mw.out.aa (al w5 _),kJ.new w5 y _⟩
 have WL:=hid (Cd.out w6 H6.out.1.2.2);have d0:=H6.out.1.1.c0;have d1:=H6.out.1.1.c1;have d2:=H6.out.1.1.c2;have d3:=H6.out.1.1.c3;have d4:=H6.out.1.1.c4;go_wp2_with (go_at_call 13;refine WL.out.mono ?_);rintro e w7 ⟨rfl,b7⟩;have H7:=hid (Zz (H6.out.1.aa b7) (H6.out.2.below b7));clear b7 V4 H6 WL Cd mw d0 d1 d2 d3 d4
 try rw[hc]
 clear hc;obtain⟨d,hd⟩:∃d,w7.heap.size=d:=⟨_,rfl⟩
 obtain⟨w8,Ju⟩:∃w8,w7.alloc (.cells #[.bool y.s,.int .i64 y.n] 38)=w8:=⟨_,rfl⟩
 have H8:Hid (wQ w b c d G x y w8):=by
  rw[<-Ju,<-hd];exact⟨H7.out.1.aa (al w7 _),H7.out.2.below (al w7 _),kJ.new w7 y _⟩
 go_upto_region 7 with fail
 try rw[Ju]
 try rw[hd]
 clear Ju hd H7;have q1:(y.s == y.s)=true:=by simp
 have q2:(y.n == y.n)=true:=by simp
 have q3:(ok == ok)=true:=by simp
 refine wp_region_held_drew (S:=fun W'=>wQ w b c d G x y W') (by kernel_rfl) (H8.out.aa (sd w8)) (fun hHeld=>?_);refine ag 0 (v:=.agg #[.slice G.aR G.R.length G.cR,.slice G.aS G.S.length G.cS,.slice G.aP G.P.length G.cP,.slice G.aL G.L.length G.cL,.int .i64 G.st]) ?_ (hy:=by intro wz hSw;have eV:=hSw.1.1.c0;have eQ:=hSw.1.1.c1;have ec:=hSw.1.1.c2;have fy:=hSw.1.1.c3;have fC:=hSw.1.1.c4;have fA:=hSw.1.2.1.c0;have fE:=hSw.1.2.1.c1;have fF:=hSw.2.1.c0;have fH:=hSw.2.1.c1;have ez:=hSw.2.2.c0;have bP:=hSw.2.2.c1;(try simp only[Act.put,sA,sB,sC]);go_simp;first|done|with_reducible rfl)
 try simp only[Act.put,sA,sB,sC]
 refine ag 1 (v:=.agg #[.bool x.s,.int .i64 x.n]) ?_ (hy:=by intro wz hSw;have eV:=hSw.1.1.c0;have eQ:=hSw.1.1.c1;have ec:=hSw.1.1.c2;have fy:=hSw.1.1.c3;have fC:=hSw.1.1.c4;have fA:=hSw.1.2.1.c0;have fE:=hSw.1.2.1.c1;have fF:=hSw.2.1.c0;have fH:=hSw.2.1.c1;have ez:=hSw.2.2.c0;have bP:=hSw.2.2.c1;(try simp only[Act.put,sA,sB,sC]);go_simp;first|done|with_reducible rfl)
 try simp only[Act.put,sA,sB,sC]
 refine ag 3 (v:=.agg #[.slice G.aR G.R.length G.cR,.slice G.aS G.S.length G.cS,.slice G.aP G.P.length G.cP,.slice G.aL G.L.length G.cL,.int .i64 G.st]) ?_ (hy:=by intro wz hSw;have eV:=hSw.1.1.c0;have eQ:=hSw.1.1.c1;have ec:=hSw.1.1.c2;have fy:=hSw.1.1.c3;have fC:=hSw.1.1.c4;have fA:=hSw.1.2.1.c0;have fE:=hSw.1.2.1.c1;have fF:=hSw.2.1.c0;have fH:=hSw.2.1.c1;have ez:=hSw.2.2.c0;have bP:=hSw.2.2.c1;(try simp only[Act.put,sA,sB,sC]);go_simp;first|done|with_reducible rfl)
 try simp only[Act.put,sA,sB,sC]
 refine ag 4 (v:=.agg #[.bool x.s,.int .i64 x.n]) ?_ (hy:=by intro wz hSw;have eV:=hSw.1.1.c0;have eQ:=hSw.1.1.c1;have ec:=hSw.1.1.c2;have fy:=hSw.1.1.c3;have fC:=hSw.1.1.c4;have fA:=hSw.1.2.1.c0;have fE:=hSw.1.2.1.c1;have fF:=hSw.2.1.c0;have fH:=hSw.2.1.c1;have ez:=hSw.2.2.c0;have bP:=hSw.2.2.c1;(try simp only[Act.put,sA,sB,sC]);go_simp;first|done|with_reducible rfl)
 try simp only[Act.put,sA,sB,sC]
 refine ba 2 (fun K hK=>?_);go_simp;go_at_call 14;refine (wE.out HB.out _ hHeld.1.2.2).mono ?_;rintro e w8 ⟨rfl,b8⟩;have aW:=hHeld.aa b8;clear b8 hHeld
 try go_wp2_with fail
 refine hK.out _ _ aW (fun hHeld=>?_);clear hK K aW
 try simp only[Act.put,sA,sB,sC]
 refine ba 5 (fun K hK=>?_);go_simp;go_at_call 15;refine (VT.out _ hHeld.1.2.2).mono ?_;rintro e w8 ⟨rfl,b8⟩;have aW:=hHeld.aa b8;clear b8 hHeld
 try go_wp2_with fail
 refine hK.out _ _ aW (fun hHeld=>?_);clear hK K aW
 try simp only[Act.put,sA,sB,sC]
 refine ag 6 (v:=.bool false) ?_ (hy:=by intro wz hSw;have eV:=hSw.1.1.c0;have eQ:=hSw.1.1.c1;have ec:=hSw.1.1.c2;have fy:=hSw.1.1.c3;have fC:=hSw.1.1.c4;have fA:=hSw.1.2.1.c0;have fE:=hSw.1.2.1.c1;have fF:=hSw.2.1.c0;have fH:=hSw.2.1.c1;have ez:=hSw.2.2.c0;have bP:=hSw.2.2.c1;(try simp only[Act.put,sA,sB,sC]);go_simp;first|done|with_reducible rfl)
 try simp only[Act.put,sA,sB,sC]
 refine ag 7 ?_ (hy:=by intro wz hSw;have eV:=hSw.1.1.c0;have eQ:=hSw.1.1.c1;have ec:=hSw.1.1.c2;have fy:=hSw.1.1.c3;have fC:=hSw.1.1.c4;have fA:=hSw.1.2.1.c0;have fE:=hSw.1.2.1.c1;have fF:=hSw.2.1.c0;have fH:=hSw.2.1.c1;have ez:=hSw.2.2.c0;have bP:=hSw.2.2.c1;(try simp only[Act.put,sA,sB,sC]);go_simp;first|done|with_reducible rfl)
 try simp only[Act.put,sA,sB,sC]
 refine ag 8 (v:=.agg #[.slice G.aR G.R.length G.cR,.slice G.aS G.S.length G.cS,.slice G.aP G.P.length G.cP,.slice G.aL G.L.length G.cL,.int .i64 G.st]) ?_ (hy:=by intro wz hSw;have eV:=hSw.1.1.c0;have eQ:=hSw.1.1.c1;have ec:=hSw.1.1.c2;have fy:=hSw.1.1.c3;have fC:=hSw.1.1.c4;have fA:=hSw.1.2.1.c0;have fE:=hSw.1.2.1.c1;have fF:=hSw.2.1.c0;have fH:=hSw.2.1.c1;have ez:=hSw.2.2.c0;have bP:=hSw.2.2.c1;(try simp only[Act.put,sA,sB,sC]);go_simp;first|done|with_reducible rfl)
 try simp only[Act.put,sA,sB,sC]
 refine ag 9 (v:=.agg #[.bool x.s,.int .i64 x.n]) ?_ (hy:=by intro wz hSw;have eV:=hSw.1.1.c0;have eQ:=hSw.1.1.c1;have ec:=hSw.1.1.c2;have fy:=hSw.1.1.c3;have fC:=hSw.1.1.c4;have fA:=hSw.1.2.1.c0;have fE:=hSw.1.2.1.c1;have fF:=hSw.2.1.c0;have fH:=hSw.2.1.c1;have ez:=hSw.2.2.c0;have bP:=hSw.2.2.c1;(try simp only[Act.put,sA,sB,sC]);go_simp;first|done|with_reducible rfl)
 try simp only[Act.put,sA,sB,sC]
 refine ag 11 (v:=.agg #[.slice G.aR G.R.length G.cR,.slice G.aS G.S.length G.cS,.slice G.aP G.P.length G.cP,.slice G.aL G.L.length G.cL,.int .i64 G.st]) ?_ (hy:=by intro wz hSw;have eV:=hSw.1.1.c0;have eQ:=hSw.1.1.c1;have ec:=hSw.1.1.c2;have fy:=hSw.1.1.c3;have fC:=hSw.1.1.c4;have fA:=hSw.1.2.1.c0;have fE:=hSw.1.2.1.c1;have fF:=hSw.2.1.c0;have fH:=hSw.2.1.c1;have ez:=hSw.2.2.c0;have bP:=hSw.2.2.c1;(try simp only[Act.put,sA,sB,sC]);go_simp;first|done|with_reducible rfl)
 try simp only[Act.put,sA,sB,sC]
 refine ag 12 (v:=.agg #[.bool x.s,.int .i64 x.n]) ?_ (hy:=by intro wz hSw;have eV:=hSw.1.1.c0;have eQ:=hSw.1.1.c1;have ec:=hSw.1.1.c2;have fy:=hSw.1.1.c3;have fC:=hSw.1.1.c4;have fA:=hSw.1.2.1.c0;have fE:=hSw.1.2.1.c1;have fF:=hSw.2.1.c0;have fH:=hSw.2.1.c1;have ez:=hSw.2.2.c0;have bP:=hSw.2.2.c1;(try simp only[Act.put,sA,sB,sC]);go_simp;first|done|with_reducible rfl)
 try simp only[Act.put,sA,sB,sC]
 refine ba 10 (fun K hK=>?_);go_simp;go_at_call 16;refine (xO.out HB.out _ hHeld.1.2.2).mono ?_;rintro e w8 ⟨rfl,b8⟩;have aW:=hHeld.aa b8;clear b8 hHeld
 try go_wp2_with fail
 refine hK.out _ _ aW (fun hHeld=>?_);clear hK K aW
 try simp only[Act.put,sA,sB,sC]
 refine ba 13 (fun K hK=>?_);go_simp;go_at_call 17;refine (P5.out x _ hHeld.1.2.2).mono ?_;rintro e w8 ⟨rfl,b8⟩;have aW:=hHeld.aa b8;clear b8 hHeld
 try go_wp2_with fail
 refine hK.out _ _ aW (fun hHeld=>?_);clear hK K aW
 try simp only[Act.put,sA,sB,sC]
 refine ag 14 (v:=.bool false) ?_ (hy:=by intro wz hSw;have eV:=hSw.1.1.c0;have eQ:=hSw.1.1.c1;have ec:=hSw.1.1.c2;have fy:=hSw.1.1.c3;have fC:=hSw.1.1.c4;have fA:=hSw.1.2.1.c0;have fE:=hSw.1.2.1.c1;have fF:=hSw.2.1.c0;have fH:=hSw.2.1.c1;have ez:=hSw.2.2.c0;have bP:=hSw.2.2.c1;(try simp only[Act.put,sA,sB,sC]);go_simp;first|done|with_reducible rfl)
 try simp only[Act.put,sA,sB,sC]
 refine ag 15 ?_ (hy:=by intro wz hSw;have eV:=hSw.1.1.c0;have eQ:=hSw.1.1.c1;have ec:=hSw.1.1.c2;have fy:=hSw.1.1.c3;have fC:=hSw.1.1.c4;have fA:=hSw.1.2.1.c0;have fE:=hSw.1.2.1.c1;have fF:=hSw.2.1.c0;have fH:=hSw.2.1.c1;have ez:=hSw.2.2.c0;have bP:=hSw.2.2.c1;(try simp only[Act.put,sA,sB,sC]);go_simp;first|done|with_reducible rfl)
 try simp only[Act.put,sA,sB,sC]
 refine ag 16 ?_ (hy:=by intro wz hSw;have eV:=hSw.1.1.c0;have eQ:=hSw.1.1.c1;have ec:=hSw.1.1.c2;have fy:=hSw.1.1.c3;have fC:=hSw.1.1.c4;have fA:=hSw.1.2.1.c0;have fE:=hSw.1.2.1.c1;have fF:=hSw.2.1.c0;have fH:=hSw.2.1.c1;have ez:=hSw.2.2.c0;have bP:=hSw.2.2.c1;(try simp only[Act.put,sA,sB,sC]);go_simp;first|done|with_reducible rfl)
 try simp only[Act.put,sA,sB,sC]
 refine ag 17 (v:=.agg #[.bool y.s,.int .i64 y.n]) ?_ (hy:=by intro wz hSw;have eV:=hSw.1.1.c0;have eQ:=hSw.1.1.c1;have ec:=hSw.1.1.c2;have fy:=hSw.1.1.c3;have fC:=hSw.1.1.c4;have fA:=hSw.1.2.1.c0;have fE:=hSw.1.2.1.c1;have fF:=hSw.2.1.c0;have fH:=hSw.2.1.c1;have ez:=hSw.2.2.c0;have bP:=hSw.2.2.c1;(try simp only[Act.put,sA,sB,sC]);go_simp;first|done|with_reducible rfl)
 try simp only[Act.put,sA,sB,sC]
 refine ag 18 (v:=.agg #[.bool y.s,.int .i64 y.n]) ?_ (hy:=by intro wz hSw;have eV:=hSw.1.1.c0;have eQ:=hSw.1.1.c1;have ec:=hSw.1.1.c2;have fy:=hSw.1.1.c3;have fC:=hSw.1.1.c4;have fA:=hSw.1.2.1.c0;have fE:=hSw.1.2.1.c1;have fF:=hSw.2.1.c0;have fH:=hSw.2.1.c1;have ez:=hSw.2.2.c0;have bP:=hSw.2.2.c1;(try simp only[Act.put,sA,sB,sC]);go_simp;first|done|with_reducible rfl)
 try simp only[Act.put,sA,sB,sC]
 refine ag 19 (v:=.bool false) ?_ (hy:=by intro wz hSw;have eV:=hSw.1.1.c0;have eQ:=hSw.1.1.c1;have ec:=hSw.1.1.c2;have fy:=hSw.1.1.c3;have fC:=hSw.1.1.c4;have fA:=hSw.1.2.1.c0;have fE:=hSw.1.2.1.c1;have fF:=hSw.2.1.c0;have fH:=hSw.2.1.c1;have ez:=hSw.2.2.c0;have bP:=hSw.2.2.c1;(try simp only[Act.put,sA,sB,sC]);go_simp;first|done|with_reducible rfl)
 try simp only[Act.put,sA,sB,sC]
 refine ag 20 ?_ (hy:=by intro wz hSw;have eV:=hSw.1.1.c0;have eQ:=hSw.1.1.c1;have ec:=hSw.1.1.c2;have fy:=hSw.1.1.c3;have fC:=hSw.1.1.c4;have fA:=hSw.1.2.1.c0;have fE:=hSw.1.2.1.c1;have fF:=hSw.2.1.c0;have fH:=hSw.2.1.c1;have ez:=hSw.2.2.c0;have bP:=hSw.2.2.c1;(try simp only[Act.put,sA,sB,sC]);go_simp;first|done|with_reducible rfl)
 try simp only[Act.put,sA,sB,sC]
 refine ag 21 ?_ (hy:=by intro wz hSw;have eV:=hSw.1.1.c0;have eQ:=hSw.1.1.c1;have ec:=hSw.1.1.c2;have fy:=hSw.1.1.c3;have fC:=hSw.1.1.c4;have fA:=hSw.1.2.1.c0;have fE:=hSw.1.2.1.c1;have fF:=hSw.2.1.c0;have fH:=hSw.2.1.c1;have ez:=hSw.2.2.c0;have bP:=hSw.2.2.c1;(try simp only[Act.put,sA,sB,sC]);go_simp;first|done|with_reducible rfl)
 try simp only[Act.put,sA,sB,sC]
 refine ag 22 ?_ (hy:=by intro wz hSw;have eV:=hSw.1.1.c0;have eQ:=hSw.1.1.c1;have ec:=hSw.1.1.c2;have fy:=hSw.1.1.c3;have fC:=hSw.1.1.c4;have fA:=hSw.1.2.1.c0;have fE:=hSw.1.2.1.c1;have fF:=hSw.2.1.c0;have fH:=hSw.2.1.c1;have ez:=hSw.2.2.c0;have bP:=hSw.2.2.c1;(try simp only[Act.put,sA,sB,sC]);go_simp;first|done|with_reducible rfl)
 try simp only[Act.put,sA,sB,sC]
 refine ag 23 ?_ (hy:=by intro wz hSw;have eV:=hSw.1.1.c0;have eQ:=hSw.1.1.c1;have ec:=hSw.1.1.c2;have fy:=hSw.1.1.c3;have fC:=hSw.1.1.c4;have fA:=hSw.1.2.1.c0;have fE:=hSw.1.2.1.c1;have fF:=hSw.2.1.c0;have fH:=hSw.2.1.c1;have ez:=hSw.2.2.c0;have bP:=hSw.2.2.c1;(try simp only[Act.put,sA,sB,sC]);go_simp;first|done|with_reducible rfl)
 try simp only[Act.put,sA,sB,sC]
 refine ag 24 (v:=.bool false) ?_ (hy:=by intro wz hSw;have eV:=hSw.1.1.c0;have eQ:=hSw.1.1.c1;have ec:=hSw.1.1.c2;have fy:=hSw.1.1.c3;have fC:=hSw.1.1.c4;have fA:=hSw.1.2.1.c0;have fE:=hSw.1.2.1.c1;have fF:=hSw.2.1.c0;have fH:=hSw.2.1.c1;have ez:=hSw.2.2.c0;have bP:=hSw.2.2.c1;(try simp only[Act.put,sA,sB,sC]);go_simp;first|done|with_reducible rfl)
 try simp only[Act.put,sA,sB,sC]
 refine ag 25 ?_ (hy:=by intro wz hSw;have eV:=hSw.1.1.c0;have eQ:=hSw.1.1.c1;have ec:=hSw.1.1.c2;have fy:=hSw.1.1.c3;have fC:=hSw.1.1.c4;have fA:=hSw.1.2.1.c0;have fE:=hSw.1.2.1.c1;have fF:=hSw.2.1.c0;have fH:=hSw.2.1.c1;have ez:=hSw.2.2.c0;have bP:=hSw.2.2.c1;(try simp only[Act.put,sA,sB,sC]);go_simp;first|done|with_reducible rfl)
 try simp only[Act.put,sA,sB,sC]
 refine wpAnyH_done (by kernel_rfl) ?_ _;have H9:=hid hHeld.1;have HO:=hid (Mz.out HB.out _ hHeld.1.2.2);clear hHeld H8 q1 q2 q3 wE VT xO Mz;have c0:=H9.out.1.c0;have c1:=H9.out.1.c1;have c2:=H9.out.1.c2;have c3:=H9.out.1.c3;have c4:=H9.out.1.c4;have s1:=H9.out.2.1.c1;go_wp2_with (go_at_call 18;refine HO.out.mono ?_);rintro e ny ⟨aL,cL,rfl,Xi,Sp⟩;have xV:=hid (Zz (H9.out.aa Sp) Xi);clear Sp Xi H9 HO c0 c1 c2 c3 c4 s1;obtain⟨m,hm⟩:∃m,G.P.length=m:=⟨_,rfl⟩
 obtain⟨nL,Mt⟩:∃nL,(ld G x.n).length=nL:=⟨_,rfl⟩
 have HM:=hid (Zz hm Mt);have hnLm:nL<=m:=by rw[<-Mt,<-hm];exact zoE _ _ _
 rw[hm] at Nq;rw[Mt];clear hm Mt;go_wp2;go_loopw [12,13,14,15] (fun v12 v13 v14 Pr wr=>∃(i k:Nat) (pv cv:Int),Pr=.int .i64 i/\v12=.int .i64 k/\v13=.int .i64 pv/\v14=.int .i64 cv/\i<=m/\k<=i/\Hid ((lp G x.n i).length=k/\ky G x.n i=pv/\kA G t i=cv/\o9 w b G x wr/\eI wr aL (ld G x.n))) (fun _ _ _ Pr _=>m-(intOf Pr).toNat)
 ·exact⟨0,0,-1,-1,rfl,rfl,rfl,rfl,Nat.zero_le _,Nat.le_refl _,rfl,rfl,rfl,xV.out.1,xV.out.2⟩
 clear xV;obtain⟨i,k,pv,cv,rfl,rfl,rfl,rfl,hi,hki,HR⟩:=hrel;have c2:=HR.out.2.2.2.1.1.c2;rw[HM.out.1] at c2;by_cases aw:i<m
 ·have i2:(i:Int)<m:=by omega
  have yh:i<G.P.length:=by rw[HM.out.1];exact aw
  obtain⟨g1,o1,e1,jx,yA,y0,y1,y2,y3,y4,y5⟩:=(HA.out.1.p.below HR.out.2.2.2.1.2.2).get i yh;obtain⟨p,hp⟩:∃p,gj G i=p:=⟨_,rfl⟩
  rw[<-qB yh,hp] at yA y0 y1 y2 y3 y4 y5;rw[e1] at c2;have sb:=HB.out.ps i yh;rw[<-qB yh,hp] at sb;have yl:=sb.2.1;have Hp:=hid (Zz hp sb);have HyA:=hid yA;obtain⟨d2,J6⟩:∃d2,wr.heap.size=d2:=⟨_,rfl⟩
  obtain⟨Aw,Cc⟩:∃Aw,wr.alloc (.cells #[.int .i64 p.bB,.string p.cZ,.slice p.ab p.body.length p.cb,.bool p.par,.int .i64 p.prec,.slice p.ah p.hints.length p.ch] 47)=Aw:=⟨_,rfl⟩
  have OX:Hid (pj w b d2 G x p Aw/\eI Aw aL (ld G x.n)):=by
   rw[<-Cc,<-J6];exact⟨⟨HR.out.2.2.2.1.aa (al wr _),nW.new wr p _⟩,HR.out.2.2.2.2.below (al wr _)⟩
  have HE:=hid (Zz HR.out.1 (Zz HR.out.2.1 HR.out.2.2.1));have zI:Hid (∀W,Below w.heap.size w W->p.At W):=fun W h=>by
   obtain⟨_,_,_,_,h9,_⟩:=(HA.out.1.p.below h).get i yh;rw[<-qB yh,hp] at h9;exact h9
  have HEq:Hid (∀W,Below w.heap.size w W->Calls Tryz.prog 20 #[.agg #[.int .i64 p.bB,.string p.cZ,.slice p.ab p.body.length p.cb,.bool p.par,.int .i64 p.prec,.slice p.ah p.hints.length p.ch]] W (px (ek p) W)):=fun W h=>by
   have h9:=vw.out HB.out i yh W h;rw[hp] at h9;exact h9
  have Qx:Hid (∀W,Below w.heap.size w W->Calls Tryz.prog 21 #[.agg #[.int .i64 p.bB,.string p.cZ,.slice p.ab p.body.length p.cb,.bool p.par,.int .i64 p.prec,.slice p.ah p.hints.length p.ch]] W (px (ek p) W)):=fun W h=>zgk p W (zI.out W h) (by omega)
  obtain⟨np,K0⟩:∃np,p.body.length=np:=⟨_,rfl⟩
  have NV:Hid (∀W,Below w.heap.size w W->Calls Tryz.prog 19 #[.agg #[.slice G.aR G.R.length G.cR,.slice G.aS G.S.length G.cS,.slice G.aP G.P.length G.cP,.slice G.aL G.L.length G.cL,.int .i64 G.st],.int .i64 i] W (iP (fT G p np) W)):=fun W h=>by
   have h9:=Bw.out HB.out i W h;rw[UT yh,hp,K0] at h9;exact h9
  have Lm:=hid K0;rw[K0] at yl;have iL:Hid (∀q,(fT G p q).size<=203+101*q):=fun q=>VV HB.out sb.1 q
  obtain⟨u,hu⟩:∃u,gK G ⟨true,p.bB⟩=u:=⟨_,rfl⟩
  have pk:=ES HB.out ⟨true,p.bB⟩;have fa:=sb.1;have Fw:Hid (∀W,Below w.heap.size w W->Calls Tryz.prog 17 #[.agg #[.slice G.aR G.R.length G.cR,.slice G.aS G.S.length G.cS,.slice G.aP G.P.length G.cP,.slice G.aL G.L.length G.cL,.int .i64 G.st],.agg #[.bool true,.int .i64 p.bB]] W (iP u W)):=fun W h=>by
   rw[<-hu];exact P5.out ⟨true,p.bB⟩ W h
  rw[hu] at pk;have sO:Hid (fT G p 0=((u++⟨#[46]⟩)++p.cZ)++⟨#[32,61]⟩):=by show _=_;rw[<-hu];rfl
  have n1:¬9223372036854775807<u.size+1:=by omega
  have n2:¬9223372036854775807<u.size+1+p.cZ.size:=by omega
  have n3:¬9223372036854775807<u.size+1+p.cZ.size+2:=by omega
  clear K0 hp hu sb;go_upto_region 14 with fail
  try rw[Cc]
  try rw[J6]
  clear Cc J6 HR y0 y1 y2 y3 y4 y5 e1 jx yA c2;refine wp_region_held_drew (S:=fun W'=>pj w b d2 G x p W'/\eI W' aL (ld G x.n)) (by kernel_rfl) (⟨OX.out.1.aa (sd Aw),OX.out.2.below (sd Aw)⟩) (fun hHeld=>?_);refine ag 0 (v:=.agg #[.slice G.aR G.R.length G.cR,.slice G.aS G.S.length G.cS,.slice G.aP G.P.length G.cP,.slice G.aL G.L.length G.cL,.int .i64 G.st]) ?_ (hy:=by intro wz hSw;have eV:=hSw.1.1.1.c0;have eQ:=hSw.1.1.1.c1;have ec:=hSw.1.1.1.c2;have fy:=hSw.1.1.1.c3;have fC:=hSw.1.1.1.c4;have fA:=hSw.1.2.c0;have fE:=hSw.1.2.c1;have fF:=hSw.1.2.c2;have fH:=hSw.1.2.c3;have ez:=hSw.1.2.c4;have bP:=hSw.1.2.c5;(try simp only[Act.put,sA,sB,sC]);go_simp;first|done|with_reducible rfl)
  try simp only[Act.put,sA,sB,sC]
  refine ag 1 ?_ (hy:=by intro wz hSw;have eV:=hSw.1.1.1.c0;have eQ:=hSw.1.1.1.c1;have ec:=hSw.1.1.1.c2;have fy:=hSw.1.1.1.c3;have fC:=hSw.1.1.1.c4;have fA:=hSw.1.2.c0;have fE:=hSw.1.2.c1;have fF:=hSw.1.2.c2;have fH:=hSw.1.2.c3;have ez:=hSw.1.2.c4;have bP:=hSw.1.2.c5;(try simp only[Act.put,sA,sB,sC]);go_simp;first|done|with_reducible rfl)
  try simp only[Act.put,sA,sB,sC]
  refine ag 2 ?_ (hy:=by intro wz hSw;have eV:=hSw.1.1.1.c0;have eQ:=hSw.1.1.1.c1;have ec:=hSw.1.1.1.c2;have fy:=hSw.1.1.1.c3;have fC:=hSw.1.1.1.c4;have fA:=hSw.1.2.c0;have fE:=hSw.1.2.c1;have fF:=hSw.1.2.c2;have fH:=hSw.1.2.c3;have ez:=hSw.1.2.c4;have bP:=hSw.1.2.c5;(try simp only[Act.put,sA,sB,sC]);go_simp;first|done|with_reducible rfl)
  try simp only[Act.put,sA,sB,sC]
  refine ag 3 (v:=.agg #[.bool true,.int .i64 p.bB]) ?_ (hy:=by intro wz hSw;have eV:=hSw.1.1.1.c0;have eQ:=hSw.1.1.1.c1;have ec:=hSw.1.1.1.c2;have fy:=hSw.1.1.1.c3;have fC:=hSw.1.1.1.c4;have fA:=hSw.1.2.c0;have fE:=hSw.1.2.c1;have fF:=hSw.1.2.c2;have fH:=hSw.1.2.c3;have ez:=hSw.1.2.c4;have bP:=hSw.1.2.c5;(try simp only[Act.put,sA,sB,sC]);go_simp;first|done|with_reducible rfl)
  try simp only[Act.put,sA,sB,sC]
  refine ag 6 ?_ (hy:=by intro wz hSw;have eV:=hSw.1.1.1.c0;have eQ:=hSw.1.1.1.c1;have ec:=hSw.1.1.1.c2;have fy:=hSw.1.1.1.c3;have fC:=hSw.1.1.1.c4;have fA:=hSw.1.2.c0;have fE:=hSw.1.2.c1;have fF:=hSw.1.2.c2;have fH:=hSw.1.2.c3;have ez:=hSw.1.2.c4;have bP:=hSw.1.2.c5;(try simp only[Act.put,sA,sB,sC]);go_simp;first|done|with_reducible rfl)
  try simp only[Act.put,sA,sB,sC]
  refine ag 7 ?_ (hy:=by intro wz hSw;have eV:=hSw.1.1.1.c0;have eQ:=hSw.1.1.1.c1;have ec:=hSw.1.1.1.c2;have fy:=hSw.1.1.1.c3;have fC:=hSw.1.1.1.c4;have fA:=hSw.1.2.c0;have fE:=hSw.1.2.c1;have fF:=hSw.1.2.c2;have fH:=hSw.1.2.c3;have ez:=hSw.1.2.c4;have bP:=hSw.1.2.c5;(try simp only[Act.put,sA,sB,sC]);go_simp;first|done|with_reducible rfl)
  try simp only[Act.put,sA,sB,sC]
  refine ba 4 (fun K hK=>?_);go_simp;go_at_call 17;refine (Fw.out _ hHeld.1.1.2.2).mono ?_;rintro e w8 ⟨rfl,b8⟩;have aW:=(⟨hHeld.1.aa b8,hHeld.2.below b8⟩:_/\_)
  clear b8 hHeld
  try go_wp2_with fail
  refine hK.out _ _ aW (fun hHeld=>?_);clear hK K aW
  try simp only[Act.put,sA,sB,sC]
  refine ag 5 ?_ (hy:=by intro wz hSw;have eV:=hSw.1.1.1.c0;have eQ:=hSw.1.1.1.c1;have ec:=hSw.1.1.1.c2;have fy:=hSw.1.1.1.c3;have fC:=hSw.1.1.1.c4;have fA:=hSw.1.2.c0;have fE:=hSw.1.2.c1;have fF:=hSw.1.2.c2;have fH:=hSw.1.2.c3;have ez:=hSw.1.2.c4;have bP:=hSw.1.2.c5;(try simp only[Act.put,sA,sB,sC]);go_simp;first|done|with_reducible rfl)
  try simp only[Act.put,sA,sB,sC]
  refine ag 8 ?_ (hy:=by intro wz hSw;have eV:=hSw.1.1.1.c0;have eQ:=hSw.1.1.1.c1;have ec:=hSw.1.1.1.c2;have fy:=hSw.1.1.1.c3;have fC:=hSw.1.1.1.c4;have fA:=hSw.1.2.c0;have fE:=hSw.1.2.c1;have fF:=hSw.1.2.c2;have fH:=hSw.1.2.c3;have ez:=hSw.1.2.c4;have bP:=hSw.1.2.c5;(try simp only[Act.put,sA,sB,sC]);go_simp;first|done|with_reducible rfl)
  try simp only[Act.put,sA,sB,sC]
  refine ag 9 ?_ (hy:=by intro wz hSw;have eV:=hSw.1.1.1.c0;have eQ:=hSw.1.1.1.c1;have ec:=hSw.1.1.1.c2;have fy:=hSw.1.1.1.c3;have fC:=hSw.1.1.1.c4;have fA:=hSw.1.2.c0;have fE:=hSw.1.2.c1;have fF:=hSw.1.2.c2;have fH:=hSw.1.2.c3;have ez:=hSw.1.2.c4;have bP:=hSw.1.2.c5;(try simp only[Act.put,sA,sB,sC]);go_simp;first|done|with_reducible rfl)
  try simp only[Act.put,sA,sB,sC]
  refine ag 10 ?_ (hy:=by intro wz hSw;have eV:=hSw.1.1.1.c0;have eQ:=hSw.1.1.1.c1;have ec:=hSw.1.1.1.c2;have fy:=hSw.1.1.1.c3;have fC:=hSw.1.1.1.c4;have fA:=hSw.1.2.c0;have fE:=hSw.1.2.c1;have fF:=hSw.1.2.c2;have fH:=hSw.1.2.c3;have ez:=hSw.1.2.c4;have bP:=hSw.1.2.c5;(try simp only[Act.put,sA,sB,sC]);go_simp;first|done|with_reducible rfl)
  try simp only[Act.put,sA,sB,sC]
  refine wpAnyH_done (by kernel_rfl) ?_ _;have WJ:=hid hHeld;clear hHeld OX n1 n2 n3 pk fa Fw;rw[<-sO.out];go_wp2_with fail;clear sO;go_loopw [17,18] (fun v17 Nt wr=>∃q:Nat,v17=.string (fT G p q)/\Nt=.int .i64 q/\q<=np/\Hid (pj w b d2 G x p wr/\eI wr aL (ld G x.n))) (fun _ Nt _=>np-(intOf Nt).toNat)
  ·exact⟨0,rfl,rfl,Nat.zero_le _,WJ.out⟩
  clear WJ;obtain⟨q,rfl,rfl,hq,HR⟩:=hrel;have p2:=HR.out.1.2.c2;rw[Lm.out] at p2;by_cases Ya:q<np
  ·have i4:(q:Int)<np:=(by omega);have GC:q<p.body.length:=(by rw[Lm.out];exact Ya);obtain⟨g3,o3,e3,x3,x4,x5⟩:=(zI.out wr HR.out.1.1.2.2).b.get q GC;clear x3 x4 x5;obtain⟨z,hz⟩:∃z,p.body[q]'GC=z:=(⟨_,rfl⟩);have dG:Hid (∀W',pj w b d2 G x p W'/\eI W' aL (ld G x.n)->W'.cell? ⟨d2,2,none⟩=some (.slice (some ⟨g3,o3,none⟩) np p.cb)/\W'.cell? ⟨g3,o3+q*2,none⟩=some (.bool z.s)/\W'.cell? ⟨g3,o3+q*2+1,none⟩=some (.int .i64 z.n)):=fun W' h=>by
    obtain⟨g',o',e',_,z0,z1⟩:=(zI.out W' h.1.1.2.2).b.get q GC;rw[e3] at e';injection e' with e';injection e' with f1 f2;subst f1 f2;have h9:=h.1.2.c2;rw[e3,Lm.out] at h9;rw[hz] at z0 z1;exact⟨h9,z0,z1⟩
   have oZ:p.body.getD q ⟨false,0⟩=z:=(by rw[<-hz];simp[GC]);have Ra:Hid (fT G p (q+1)=(fT G p q++⟨#[32]⟩)++gK G z):=(by show _=_;rw[<-oZ];rfl);have cQ:=ES HB.out z;have cJ:=iL.out q;obtain⟨us,un⟩:=z;dsimp only at dG;obtain⟨lb,z8⟩:∃lb,fT G p q=lb:=(⟨_,rfl⟩);obtain⟨u,hu⟩:∃u,gK G ⟨us,un⟩=u:=(⟨_,rfl⟩);have Fw:Hid (∀W,Below w.heap.size w W->Calls Tryz.prog 17 #[.agg #[.slice G.aR G.R.length G.cR,.slice G.aS G.S.length G.cS,.slice G.aP G.P.length G.cP,.slice G.aL G.L.length G.cL,.int .i64 G.st],.agg #[.bool us,.int .i64 un]] W (iP u W)):=fun W h=>by
    rw[<-hu];exact P5.out ⟨us,un⟩ W h
   rw[z8,hu] at Ra;rw[hu] at cQ;rw[z8] at cJ;rw[z8];have n1:¬9223372036854775807<lb.size+1:=(by omega);have n2:¬9223372036854775807<lb.size+1+u.size:=(by omega);go_upto_region 18 with fail;have RG:=hid HR.out;clear p2 GC e3 hz oZ cQ cJ z8 hu HR;refine wp_region_held_drew (S:=fun W'=>pj w b d2 G x p W'/\eI W' aL (ld G x.n)) (by kernel_rfl) (⟨RG.out.1.aa (sd wr),RG.out.2.below (sd wr)⟩) (fun hHeld=>?_);refine ag 0 ?_ (hy:=by intro wz hSw;have eV:=hSw.1.1.1.c0;have eQ:=hSw.1.1.1.c1;have ec:=hSw.1.1.1.c2;have fy:=hSw.1.1.1.c3;have fC:=hSw.1.1.1.c4;have fA:=hSw.1.2.c0;have fE:=hSw.1.2.c1;have fF:=hSw.1.2.c3;have fH:=hSw.1.2.c4;have ez:=hSw.1.2.c5;have bP:=(dG.out wz hSw).1;have pP:=(dG.out wz hSw).2.1;have pA:=(dG.out wz hSw).2.2;(try simp only[Act.put,sA,sB,sC]);go_simp;first|done|with_reducible rfl)
   try simp only[Act.put,sA,sB,sC]
   refine ag 1 ?_ (hy:=by intro wz hSw;have eV:=hSw.1.1.1.c0;have eQ:=hSw.1.1.1.c1;have ec:=hSw.1.1.1.c2;have fy:=hSw.1.1.1.c3;have fC:=hSw.1.1.1.c4;have fA:=hSw.1.2.c0;have fE:=hSw.1.2.c1;have fF:=hSw.1.2.c3;have fH:=hSw.1.2.c4;have ez:=hSw.1.2.c5;have bP:=(dG.out wz hSw).1;have pP:=(dG.out wz hSw).2.1;have pA:=(dG.out wz hSw).2.2;(try simp only[Act.put,sA,sB,sC]);go_simp;first|done|with_reducible rfl)
   try simp only[Act.put,sA,sB,sC]
   refine ag 2 (v:=.agg #[.slice G.aR G.R.length G.cR,.slice G.aS G.S.length G.cS,.slice G.aP G.P.length G.cP,.slice G.aL G.L.length G.cL,.int .i64 G.st]) ?_ (hy:=by intro wz hSw;have eV:=hSw.1.1.1.c0;have eQ:=hSw.1.1.1.c1;have ec:=hSw.1.1.1.c2;have fy:=hSw.1.1.1.c3;have fC:=hSw.1.1.1.c4;have fA:=hSw.1.2.c0;have fE:=hSw.1.2.c1;have fF:=hSw.1.2.c3;have fH:=hSw.1.2.c4;have ez:=hSw.1.2.c5;have bP:=(dG.out wz hSw).1;have pP:=(dG.out wz hSw).2.1;have pA:=(dG.out wz hSw).2.2;(try simp only[Act.put,sA,sB,sC]);go_simp;first|done|with_reducible rfl)
   try simp only[Act.put,sA,sB,sC]
   refine ag 3 ?_ (hy:=by intro wz hSw;have eV:=hSw.1.1.1.c0;have eQ:=hSw.1.1.1.c1;have ec:=hSw.1.1.1.c2;have fy:=hSw.1.1.1.c3;have fC:=hSw.1.1.1.c4;have fA:=hSw.1.2.c0;have fE:=hSw.1.2.c1;have fF:=hSw.1.2.c3;have fH:=hSw.1.2.c4;have ez:=hSw.1.2.c5;have bP:=(dG.out wz hSw).1;have pP:=(dG.out wz hSw).2.1;have pA:=(dG.out wz hSw).2.2;(try simp only[Act.put,sA,sB,sC]);go_simp;first|done|with_reducible rfl)
   try simp only[Act.put,sA,sB,sC]
   refine ag 4 ?_ (hy:=by intro wz hSw;have eV:=hSw.1.1.1.c0;have eQ:=hSw.1.1.1.c1;have ec:=hSw.1.1.1.c2;have fy:=hSw.1.1.1.c3;have fC:=hSw.1.1.1.c4;have fA:=hSw.1.2.c0;have fE:=hSw.1.2.c1;have fF:=hSw.1.2.c3;have fH:=hSw.1.2.c4;have ez:=hSw.1.2.c5;have bP:=(dG.out wz hSw).1;have pP:=(dG.out wz hSw).2.1;have pA:=(dG.out wz hSw).2.2;(try simp only[Act.put,sA,sB,sC]);go_simp;first|done|with_reducible rfl)
   try simp only[Act.put,sA,sB,sC]
   refine ag 5 ?_ (hy:=by intro wz hSw;have eV:=hSw.1.1.1.c0;have eQ:=hSw.1.1.1.c1;have ec:=hSw.1.1.1.c2;have fy:=hSw.1.1.1.c3;have fC:=hSw.1.1.1.c4;have fA:=hSw.1.2.c0;have fE:=hSw.1.2.c1;have fF:=hSw.1.2.c3;have fH:=hSw.1.2.c4;have ez:=hSw.1.2.c5;have bP:=(dG.out wz hSw).1;have pP:=(dG.out wz hSw).2.1;have pA:=(dG.out wz hSw).2.2;(try simp only[Act.put,sA,sB,sC]);go_simp;first|done|with_reducible rfl)
   try simp only[Act.put,sA,sB,sC]
   refine ag 6 ?_ (hy:=by intro wz hSw;have eV:=hSw.1.1.1.c0;have eQ:=hSw.1.1.1.c1;have ec:=hSw.1.1.1.c2;have fy:=hSw.1.1.1.c3;have fC:=hSw.1.1.1.c4;have fA:=hSw.1.2.c0;have fE:=hSw.1.2.c1;have fF:=hSw.1.2.c3;have fH:=hSw.1.2.c4;have ez:=hSw.1.2.c5;have bP:=(dG.out wz hSw).1;have pP:=(dG.out wz hSw).2.1;have pA:=(dG.out wz hSw).2.2;(try simp only[Act.put,sA,sB,sC]);go_simp;first|done|with_reducible rfl)
   try simp only[Act.put,sA,sB,sC]
   refine ag 7 (v:=.agg #[.bool us,.int .i64 un]) ?_ (hy:=by intro wz hSw;have eV:=hSw.1.1.1.c0;have eQ:=hSw.1.1.1.c1;have ec:=hSw.1.1.1.c2;have fy:=hSw.1.1.1.c3;have fC:=hSw.1.1.1.c4;have fA:=hSw.1.2.c0;have fE:=hSw.1.2.c1;have fF:=hSw.1.2.c3;have fH:=hSw.1.2.c4;have ez:=hSw.1.2.c5;have bP:=(dG.out wz hSw).1;have pP:=(dG.out wz hSw).2.1;have pA:=(dG.out wz hSw).2.2;(try simp only[Act.put,sA,sB,sC]);go_simp;first|done|with_reducible rfl)
   try simp only[Act.put,sA,sB,sC]
   refine ba 8 (fun K hK=>?_);go_simp;go_at_call 17;refine (Fw.out _ hHeld.1.1.2.2).mono ?_;rintro e w8 ⟨rfl,b8⟩;have aW:=((⟨hHeld.1.aa b8,hHeld.2.below b8⟩:_/\_));clear b8 hHeld
   try go_wp2_with fail
   refine hK.out _ _ aW (fun hHeld=>?_);clear hK K aW
   try simp only[Act.put,sA,sB,sC]
   refine ag 9 ?_ (hy:=by intro wz hSw;have eV:=hSw.1.1.1.c0;have eQ:=hSw.1.1.1.c1;have ec:=hSw.1.1.1.c2;have fy:=hSw.1.1.1.c3;have fC:=hSw.1.1.1.c4;have fA:=hSw.1.2.c0;have fE:=hSw.1.2.c1;have fF:=hSw.1.2.c3;have fH:=hSw.1.2.c4;have ez:=hSw.1.2.c5;have bP:=(dG.out wz hSw).1;have pP:=(dG.out wz hSw).2.1;have pA:=(dG.out wz hSw).2.2;(try simp only[Act.put,sA,sB,sC]);go_simp;first|done|with_reducible rfl)
   try simp only[Act.put,sA,sB,sC]
   refine ag 10 ?_ (hy:=by intro wz hSw;have eV:=hSw.1.1.1.c0;have eQ:=hSw.1.1.1.c1;have ec:=hSw.1.1.1.c2;have fy:=hSw.1.1.1.c3;have fC:=hSw.1.1.1.c4;have fA:=hSw.1.2.c0;have fE:=hSw.1.2.c1;have fF:=hSw.1.2.c3;have fH:=hSw.1.2.c4;have ez:=hSw.1.2.c5;have bP:=(dG.out wz hSw).1;have pP:=(dG.out wz hSw).2.1;have pA:=(dG.out wz hSw).2.2;(try simp only[Act.put,sA,sB,sC]);go_simp;first|done|with_reducible rfl)
   try simp only[Act.put,sA,sB,sC]
   refine wpAnyH_done (by kernel_rfl) ?_ _;have H14:=hid hHeld;clear hHeld RG n1 n2 Fw dG;rw[<-Ra.out];clear Ra;go_wp2;go_roundw
   ·exact⟨q+1,rfl,by go_num,by omega,H14.out⟩
   simp[intOf];omega
  obtain rfl:q=np:=by omega
  have HJ:=hid HR.out;clear HR hq Ya;obtain⟨lb,z8⟩:∃lb,fT G p q=lb:=⟨_,rfl⟩
  rw[z8] at NV;rw[z8];clear z8 iL Lm zI;obtain⟨be,ru⟩:∃be,ek p=be:=⟨_,rfl⟩
  rw[ru] at HEq Qx;clear ru;go_upto_region 19 with fail;clear p2;refine wp_region_held_drew (S:=fun W'=>pj w b d2 G x p W'/\eI W' aL (ld G x.n)) (by kernel_rfl) (⟨HJ.out.1.aa (sd wr),HJ.out.2.below (sd wr)⟩) (fun hHeld=>?_);refine ag 0 (v:=.agg #[.slice G.aR G.R.length G.cR,.slice G.aS G.S.length G.cS,.slice G.aP G.P.length G.cP,.slice G.aL G.L.length G.cL,.int .i64 G.st]) ?_ (hy:=by intro wz hSw;have eV:=hSw.1.1.1.c0;have eQ:=hSw.1.1.1.c1;have ec:=hSw.1.1.1.c2;have fy:=hSw.1.1.1.c3;have fC:=hSw.1.1.1.c4;have fA:=hSw.1.2.c0;have fE:=hSw.1.2.c1;have fF:=hSw.1.2.c2;have fH:=hSw.1.2.c3;have ez:=hSw.1.2.c4;have bP:=hSw.1.2.c5;(try simp only[Act.put,sA,sB,sC]);go_simp;first|done|with_reducible rfl)
  try simp only[Act.put,sA,sB,sC]
  refine ag 1 ?_ (hy:=by intro wz hSw;have eV:=hSw.1.1.1.c0;have eQ:=hSw.1.1.1.c1;have ec:=hSw.1.1.1.c2;have fy:=hSw.1.1.1.c3;have fC:=hSw.1.1.1.c4;have fA:=hSw.1.2.c0;have fE:=hSw.1.2.c1;have fF:=hSw.1.2.c2;have fH:=hSw.1.2.c3;have ez:=hSw.1.2.c4;have bP:=hSw.1.2.c5;(try simp only[Act.put,sA,sB,sC]);go_simp;first|done|with_reducible rfl)
  try simp only[Act.put,sA,sB,sC]
  refine ag 3 ?_ (hy:=by intro wz hSw;have eV:=hSw.1.1.1.c0;have eQ:=hSw.1.1.1.c1;have ec:=hSw.1.1.1.c2;have fy:=hSw.1.1.1.c3;have fC:=hSw.1.1.1.c4;have fA:=hSw.1.2.c0;have fE:=hSw.1.2.c1;have fF:=hSw.1.2.c2;have fH:=hSw.1.2.c3;have ez:=hSw.1.2.c4;have bP:=hSw.1.2.c5;(try simp only[Act.put,sA,sB,sC]);go_simp;first|done|with_reducible rfl)
  try simp only[Act.put,sA,sB,sC]
  refine ba 2 (fun K hK=>?_);go_simp;go_at_call 19;refine (NV.out _ hHeld.1.1.2.2).mono ?_;rintro e w8 ⟨rfl,b8⟩;have aW:=(⟨hHeld.1.aa b8,hHeld.2.below b8⟩:_/\_)
  clear b8 hHeld
  try go_wp2_with fail
  refine hK.out _ _ aW (fun hHeld=>?_);clear hK K aW
  try simp only[Act.put,sA,sB,sC]
  refine ag 4 (v:=.bool false) ?_ (hy:=by intro wz hSw;have eV:=hSw.1.1.1.c0;have eQ:=hSw.1.1.1.c1;have ec:=hSw.1.1.1.c2;have fy:=hSw.1.1.1.c3;have fC:=hSw.1.1.1.c4;have fA:=hSw.1.2.c0;have fE:=hSw.1.2.c1;have fF:=hSw.1.2.c2;have fH:=hSw.1.2.c3;have ez:=hSw.1.2.c4;have bP:=hSw.1.2.c5;(try simp only[Act.put,sA,sB,sC]);go_simp;first|done|with_reducible rfl)
  try simp only[Act.put,sA,sB,sC]
  refine ag 5 ?_ (hy:=by intro wz hSw;have eV:=hSw.1.1.1.c0;have eQ:=hSw.1.1.1.c1;have ec:=hSw.1.1.1.c2;have fy:=hSw.1.1.1.c3;have fC:=hSw.1.1.1.c4;have fA:=hSw.1.2.c0;have fE:=hSw.1.2.c1;have fF:=hSw.1.2.c2;have fH:=hSw.1.2.c3;have ez:=hSw.1.2.c4;have bP:=hSw.1.2.c5;(try simp only[Act.put,sA,sB,sC]);go_simp;first|done|with_reducible rfl)
  try simp only[Act.put,sA,sB,sC]
  refine ag 6 (v:=.agg #[.int .i64 p.bB,.string p.cZ,.slice p.ab p.body.length p.cb,.bool p.par,.int .i64 p.prec,.slice p.ah p.hints.length p.ch]) ?_ (hy:=by intro wz hSw;have eV:=hSw.1.1.1.c0;have eQ:=hSw.1.1.1.c1;have ec:=hSw.1.1.1.c2;have fy:=hSw.1.1.1.c3;have fC:=hSw.1.1.1.c4;have fA:=hSw.1.2.c0;have fE:=hSw.1.2.c1;have fF:=hSw.1.2.c2;have fH:=hSw.1.2.c3;have ez:=hSw.1.2.c4;have bP:=hSw.1.2.c5;(try simp only[Act.put,sA,sB,sC]);go_simp;first|done|with_reducible rfl)
  try simp only[Act.put,sA,sB,sC]
  refine ag 8 (v:=.agg #[.int .i64 p.bB,.string p.cZ,.slice p.ab p.body.length p.cb,.bool p.par,.int .i64 p.prec,.slice p.ah p.hints.length p.ch]) ?_ (hy:=by intro wz hSw;have eV:=hSw.1.1.1.c0;have eQ:=hSw.1.1.1.c1;have ec:=hSw.1.1.1.c2;have fy:=hSw.1.1.1.c3;have fC:=hSw.1.1.1.c4;have fA:=hSw.1.2.c0;have fE:=hSw.1.2.c1;have fF:=hSw.1.2.c2;have fH:=hSw.1.2.c3;have ez:=hSw.1.2.c4;have bP:=hSw.1.2.c5;(try simp only[Act.put,sA,sB,sC]);go_simp;first|done|with_reducible rfl)
  try simp only[Act.put,sA,sB,sC]
  refine ba 7 (fun K hK=>?_);go_simp;go_at_call 20;refine (HEq.out _ hHeld.1.1.2.2).mono ?_;rintro e w8 ⟨rfl,b8⟩;have aW:=(⟨hHeld.1.aa b8,hHeld.2.below b8⟩:_/\_)
  clear b8 hHeld
  try go_wp2_with fail
  refine hK.out _ _ aW (fun hHeld=>?_);clear hK K aW
  try simp only[Act.put,sA,sB,sC]
  refine ba 9 (fun K hK=>?_);go_simp;go_at_call 21;refine (Qx.out _ hHeld.1.1.2.2).mono ?_;rintro e w8 ⟨rfl,b8⟩;have aW:=(⟨hHeld.1.aa b8,hHeld.2.below b8⟩:_/\_)
  clear b8 hHeld
  try go_wp2_with fail
  refine hK.out _ _ aW (fun hHeld=>?_);clear hK K aW
  try simp only[Act.put,sA,sB,sC]
  refine ag 10 (v:=.bool false) ?_ (hy:=by intro wz hSw;have eV:=hSw.1.1.1.c0;have eQ:=hSw.1.1.1.c1;have ec:=hSw.1.1.1.c2;have fy:=hSw.1.1.1.c3;have fC:=hSw.1.1.1.c4;have fA:=hSw.1.2.c0;have fE:=hSw.1.2.c1;have fF:=hSw.1.2.c2;have fH:=hSw.1.2.c3;have ez:=hSw.1.2.c4;have bP:=hSw.1.2.c5;(try simp only[Act.put,sA,sB,sC]);go_simp;first|done|with_reducible rfl)
  try simp only[Act.put,sA,sB,sC]
  refine ag 11 ?_ (hy:=by intro wz hSw;have eV:=hSw.1.1.1.c0;have eQ:=hSw.1.1.1.c1;have ec:=hSw.1.1.1.c2;have fy:=hSw.1.1.1.c3;have fC:=hSw.1.1.1.c4;have fA:=hSw.1.2.c0;have fE:=hSw.1.2.c1;have fF:=hSw.1.2.c2;have fH:=hSw.1.2.c3;have ez:=hSw.1.2.c4;have bP:=hSw.1.2.c5;(try simp only[Act.put,sA,sB,sC]);go_simp;first|done|with_reducible rfl)
  try simp only[Act.put,sA,sB,sC]
  refine wpAnyH_done (by kernel_rfl) ?_ _;have Bf:=hid hHeld;clear hHeld HJ NV HEq Qx;have p0:=Bf.out.1.2.c0;have p1:=Bf.out.1.2.c1;have p3:=Bf.out.1.2.c3;have s1:=Bf.out.1.1.2.1.c1;obtain⟨As,zm⟩:∃As,kA G t (i+1)=As:=⟨_,rfl⟩
  have MH:cv<0->p.cZ=t->As=(i:Int):=fun h1 h2=>by rw[<-zm];exact RR (by rw[HE.out.2.2];exact h1) (by rw[Hp.out.1];exact h2)
  have KZ:¬(cv<0/\p.cZ=t)->As=cv:=fun h=>by rw[<-zm,OR (by rw[HE.out.2.2,Hp.out.1];exact h)];exact HE.out.2.2
  have UB:=hid (Zz zm (Zz MH KZ));obtain⟨k2,eD⟩:∃k2,(lp G x.n (i+1)).length=k2:=⟨_,rfl⟩
  obtain⟨BF,um⟩:∃BF,ky G x.n (i+1)=BF:=⟨_,rfl⟩
  have jO:Hid ((lp G x.n (i+1)).length=k2/\ky G x.n (i+1)=BF/\kA G t (i+1)=As):=⟨eD,um,UB.out.1⟩
  have oz:=GK p.cZ t;have Ck:(cv<0/\(p.cZ.toList == t.toList)=true/\As=(i:Int))\/(cv<0/\(p.cZ.toList == t.toList)=false/\As=cv)\/(¬cv<0/\As=cv):=by
   by_cases f0:cv<0
   ·by_cases f1:p.cZ=t
    ·exact Or.inl ⟨f0,by rw[oz];simp[f1],MH f0 f1⟩
    exact Or.inr (Or.inl ⟨f0,by rw[oz];simp[f1],KZ (fun h=>f1 h.2)⟩)
   exact Or.inr (Or.inr ⟨f0,KZ (fun h=>f0 h.1)⟩)
  obtain⟨bp,LX⟩:∃bp,p.par=bp:=⟨_,rfl⟩
  rw[LX] at p3;have JC:((p.bB != x.n)=true/\k2=k/\BF=pv)\/((p.bB != x.n)=false/\k2=k+1/\(∃g4 o4,aL=some ⟨g4,o4,none⟩/\(∀W,eI W aL (ld G x.n)->W.cell? ⟨g4,o4+k,none⟩=some (.int .i64 i)))/\k<nL/\((pv<0/\bp=true/\BF=(i:Int))\/(pv<0/\bp=false/\BF=pv)\/(¬pv<0/\BF=pv))):=by
   by_cases f0:p.bB=x.n
   ·have f1:(gj G i).bB=x.n:=(by rw[Hp.out.1];exact f0);obtain⟨Kk,ur⟩:=zoF yh f1;have LY:k<(ld G x.n).length:=(by rw[<-HE.out.1];exact Kk);have hk6:(ld G x.n)[k]=(i:Int):=by
     have:(ld G x.n)[k]?=some (i:Int):=(by rw[<-HE.out.1,List.getElem?_eq_getElem Kk,ur]);rw[List.getElem?_eq_getElem LY] at this;exact Option.some.inj this
    obtain⟨g4,o4,e4,_⟩:=Bf.out.2.get k LY;refine Or.inr ⟨by simp[f0],by rw[<-eD,Gc f1,List.length_append,HE.out.1];rfl,⟨g4,o4,e4,fun W h=>?_⟩,by rw[<-HM.out.2];exact LY,?_⟩
    ·obtain⟨g',o',e',_,h9⟩:=h.get k LY;rw[e4] at e';injection e' with e';injection e' with f2 f3;subst f2 f3;rw[h9,hk6]
    by_cases f4:pv<0
    ·cases bp with
     | true=>exact Or.inl ⟨f4,rfl,by rw[<-um];exact Sl (by rw[HE.out.2.1];exact f4) f1 (by rw[Hp.out.1];exact LX)⟩
     | false=>exact Or.inr (Or.inl ⟨f4,rfl,by rw[<-um,Ie (fun h=>by have h9:=h.2.2;rw[Hp.out.1,LX] at h9;cases h9)];exact HE.out.2.1⟩)
    exact Or.inr (Or.inr ⟨f4,by rw[<-um,Ie (fun h=>f4 (by rw[<-HE.out.2.1];exact h.1))];exact HE.out.2.1⟩)
   have f1:(gj G i).bB≠x.n:=(by rw[Hp.out.1];exact f0);exact Or.inl ⟨by simp[f0],by rw[<-eD,J0 f1];exact HE.out.1,by rw[<-um,Ie (fun h=>f1 h.2.1)];exact HE.out.2.1⟩
  clear zm MH KZ eD um oz LX UB HE Hp yh;have FD:Hid (o9 w b G x _/\eI _ aL (ld G x.n)):=⟨Bf.out.1.1,Bf.out.2⟩
  rcases JC with ⟨j1,rfl,rfl⟩|⟨j1,rfl,⟨g4,o4,rfl,JH⟩,pT,pW⟩
  ·rcases Ck with ⟨j2,j3,rfl⟩|⟨j2,j3,rfl⟩|⟨j2,rfl⟩
   all_goals
    go_wp2
    go_roundw
    case rel=>exact⟨i+1,_,_,_,by go_num,rfl,rfl,rfl,by omega,by omega,jO.out.1,jO.out.2.1,jO.out.2.2,FD.out.1,FD.out.2⟩
    case measure=>simp[intOf];omega
  have fk:=JH _ FD.out.2;have j5:(k:Int)<nL:=by omega
  have j6:¬(nL:Int)<=k:=by omega
  have j7:((i:Int) != (i:Int))=false:=by simp
  clear JH;rcases Ck with ⟨j2,j3,rfl⟩|⟨j2,j3,rfl⟩|⟨j2,rfl⟩
  all_goals
   rcases pW with ⟨j8,rfl,rfl⟩|⟨j8,rfl,rfl⟩|⟨j8,rfl⟩
   all_goals
    go_wp2
    go_roundw
    case rel=>exact⟨i+1,k+1,_,_,by go_num,by go_num,rfl,rfl,by omega,by omega,jO.out.1,jO.out.2.1,jO.out.2.2,FD.out.1,FD.out.2⟩
    case measure=>simp[intOf];omega
 obtain rfl:i=m:=by omega
 have HZ:Hid (ld G x.n=lp G x.n i/\uC G x.n=pv/\tH G t=cv):=⟨by unfold ld;rw[HM.out.1],by unfold uC;rw[HM.out.1];exact HR.out.2.1,by unfold tH;rw[HM.out.1];exact HR.out.2.2.1⟩
 have pT:k=nL:=by rw[<-HR.out.1,<-HM.out.2,HZ.out.1]
 subst pT;have HJ:=hid HR.out.2.2.2.1;have Np:Hid (∀W,Below w.heap.size w W->Calls Tryz.prog 22 #[.agg #[.slice G.aR G.R.length G.cR,.slice G.aS G.S.length G.cS,.slice G.aP G.P.length G.cP,.slice G.aL G.L.length G.cL,.int .i64 G.st],.int .i64 x.n] W (wY pv W)):=fun W h=>by rw[<-HZ.out.2.1];exact WN.out HB.out W h
 have NL:Hid (∀W,Below w.heap.size w W->Calls Tryz.prog 23 #[.agg #[.slice G.aR G.R.length G.cR,.slice G.aS G.S.length G.cS,.slice G.aP G.P.length G.cP,.slice G.aL G.L.length G.cL,.int .i64 G.st],.string t] W (wY cv W)):=fun W h=>by rw[<-HZ.out.2.2];exact AL.out HB.out HT.out W h
 have FT:Hid (∀W,Below w.heap.size w W->Calls Tryz.prog 19 #[.agg #[.slice G.aR G.R.length G.cR,.slice G.aS G.S.length G.cS,.slice G.aP G.P.length G.cP,.slice G.aL G.L.length G.cL,.int .i64 G.st],.int .i64 (G.P.length:Int)] W (iP ⟨#[]⟩ W)):=fun W h=>by
  have h9:=Bw.out HB.out (G.P.length:Int) W h;rw[M3 (by omega)] at h9;exact h9
 have rB:Hid (∀W,Below w.heap.size w W->Calls Tryz.prog 19 #[.agg #[.slice G.aR G.R.length G.cR,.slice G.aS G.S.length G.cS,.slice G.aP G.P.length G.cP,.slice G.aL G.L.length G.cL,.int .i64 G.st],.int .i64 (-1)] W (iP ⟨#[]⟩ W)):=fun W h=>by
  have h9:=Bw.out HB.out (-1) W h;rw[M3 (by omega)] at h9;exact h9
 have i5:((k:Int) == (k:Int))=true:=by simp
 have i6:(pv == pv)=true:=by simp
 have i7:(cv == cv)=true:=by simp
 clear HR Bw WN AL HZ;go_upto_region 29 with fail;clear c2;have c0:=HJ.out.1.c0;have c1:=HJ.out.1.c1;have c2:=HJ.out.1.c2;have c3:=HJ.out.1.c3;have c4:=HJ.out.1.c4;have s1:=HJ.out.2.1.c1;have wM:=hid (Np.out _ HJ.out.2.2);go_wp2_with (go_at_call 22;refine wM.out.mono ?_);rintro e w20 ⟨rfl,UX⟩;have ri:=hid (HJ.out.aa UX);clear UX wM c0 c1 c2 c3 c4 s1 HJ;have c0:=ri.out.1.c0;have c1:=ri.out.1.c1;have c2:=ri.out.1.c2;have c3:=ri.out.1.c3;have c4:=ri.out.1.c4;have Tg:=hid (NL.out _ ri.out.2.2);go_wp2_with (go_at_call 23;refine Tg.out.mono ?_);rintro e w21 ⟨rfl,Xs⟩;have qA:=hid (ri.out.aa Xs);clear Xs Tg c0 c1 c2 c3 c4 ri;have c0:=qA.out.1.c0;have c1:=qA.out.1.c1;have c2:=qA.out.1.c2;have c3:=qA.out.1.c3;have c4:=qA.out.1.c4;have tE:=hid (FT.out _ qA.out.2.2);go_wp2_with (go_at_call 19;refine tE.out.mono ?_);rintro e w22 ⟨rfl,SA⟩;have qk:=hid (qA.out.aa SA);clear SA tE c0 c1 c2 c3 c4 qA;have c0:=qk.out.1.c0;have c1:=qk.out.1.c1;have c2:=qk.out.1.c2;have c3:=qk.out.1.c3;have c4:=qk.out.1.c4;have KG:=hid (rB.out _ qk.out.2.2);go_wp2_with (go_at_call 19;refine KG.out.mono ?_);rintro e w23 ⟨rfl,TX⟩;have M7:=hid (qk.out.2.2.trans (TX.mono qk.out.2.2.size));clear TX;go_wp2;go_ret;exact⟨rfl,M7.out⟩
theorem zot(G:Gr)(x:Sy)(t:ByteArray)(w:World)(hA:G.At w)(hL:G.na 9223372036854775807)(ht:t.size<=9223372036854775807):Calls Tryz.prog 4 #[G.val,.agg (de x).toArray,.string t] w (zo w):=
 zfg G x t w hA hL ht zgh
  (fun h W k=>I2 G x W (hA.below k) (h.lim (by omega)))
  (fun h W k=>zh9 G x W (hA.below k) h)
  (fun h _ W k=>XB G t W (hA.below k) (h.lim (by omega)))
  (fun h W k=>Z5 G x.n W (hA.below k) (by have:=h.p;omega))
  (fun h i W k=>WT G i W (hA.below k) h)
  (fun h i hi W k=>VM (gj G i) W (by rw[qB hi];exact ((hA.below k).p.get i hi).choose_spec.choose_spec.2.2.1) (by rw[qB hi];have:=(h.ps i hi).2.1;omega))
  (fun h W k=>zjo G x.n W (hA.below k) (by have:=h.p;omega))
  (fun h _ W k=>zjn G t W (hA.below k) (by have:=h.p;omega))
end Go.Proofs.YtiijebameffenaaGreat
namespace Go.Proofs.YtiijebameffenaaGreat.gramTells
open Go.ChangeShapes Go.WideShapes Go.ChangeAt Go.RowKit Go.Deep
theorem lifted(os:Os)(started:os.Started)(H:Type)(enc:TypeId × Value->H):
  ReturnsInHanded {} Tryz.checked os 4 .any (Rows.gramTellsSpec.pre6 enc Tryz.prog Tryz.f4 Rows.gramTellsRow.domain false) (Rows.gramTellsSpec.post enc Tryz.prog Tryz.f4 false true false false):=by
 refine returnsInHanded_of_change (C:=Tryz.checked) own started (by kernel_rfl) Tryz.func4
  (ChangeSpec.witness6 (enc:=enc) (C:=Tryz.checked) false ⟨#[],#[.agg #[.slice none 0 0,.slice none 0 0,.slice none 0 0,.slice none 0 0,.int .i64 0],.agg #[.bool false,.int .i64 0],.string .empty],[]⟩ 8 (by kernel_rfl) (by kernel_rfl) (by kernel_rfl) (by kernel_rfl)) ?_
 intro W base args ds gs before Ab hW hcnd _;have tC:∀(j:Nat) t v,Tryz.f4.params[j]?=some t->args[j]?=some v->Value.okWide Tryz.prog W .any base t v:=Ab;have hW':=hW;obtain⟨p,q,SY,hV,rfl,Ur,iR⟩:=hW;have hA:DataW.TrodAll enc Tryz.prog W 0 (fun _=>true) true Tryz.f4.params.toList args.toList ds p:=SY;rw[Tryz.params4] at hA tC;obtain⟨v0,vs0,d0,ds0,p0,q0,UR,rfl,rfl,h0,r0⟩:=trodAll_cons hA;obtain⟨v1,vs1,d1,ds1,p1,q1,rfl,rfl,rfl,h1,r1⟩:=trodAll_cons r0;obtain⟨v2,IL,d2,ds2,p2,q2,rfl,rfl,rfl,h2,r2⟩:=trodAll_cons r1;obtain⟨rfl,rfl,rfl⟩:=trodAll_nil r2;obtain rfl:args=#[v0,v1,v2]:=by cases args;simp_all
 obtain⟨rfl,rfl⟩:=trodVars_none hV;have k0:=h0;have lt0:∀x∈p0,x.block<W.heap.size:=by obtain⟨m,hm⟩:=k0;exact DataW.trod_lt m _ _ _ hm
 obtain⟨G0,rfl,Qe,Ar,hg0⟩:=zex (tC 0 27 v0 rfl rfl) (by obtain⟨fuel,hf⟩:=h0;exact⟨fuel,_,hf⟩);have hM0:G0.na 9223372036854775807:=Ar.mono (by unfold maxLen;omega);have k1:=h1;have ZT:∀x∈p1,x.block<W.heap.size:=by obtain⟨m,hm⟩:=k1;exact DataW.trod_lt m _ _ _ hm
 obtain⟨y1,rfl⟩:=zfe (tC 1 38 v1 rfl rfl) (by obtain⟨fuel,hf⟩:=h1;exact⟨fuel,_,hf⟩);obtain⟨s2,rfl,rfl,rfl,oQ⟩:=Go.ChangeMaps.open_string Tryz.underlying9 (tC 2 9 v2 rfl rfl) h2;have RL:=oQ;clear SY Ab;unfold maxLen at RL;refine (zot G0 y1 s2 W Qe hM0 (by omega)).mono fun e W' ⟨he,aJ⟩=>?_
 subst he;exact⟨_,rfl,_,_,_,[],_,[],hW',trodAll_mk1 (shut_bool Tryz.underlying4 _),(trodAll_cons_mk (Below.trod laidOut (by kernel_rfl) (of_decide_eq_true (by kernel_rfl)) k0 aJ lt0) (trodAll_cons_mk (Below.trod laidOut (by kernel_rfl) (of_decide_eq_true (by kernel_rfl)) k1 aJ ZT) (trodAll_cons_mk (Go.ChangeMaps.shut_string Tryz.underlying9 oQ) trodAll_mk0))),rfl,aJ.frame _,fun h=>by cases h⟩
theorem over:Rows.gramTellsRow.holds Tryz.pinned (OpenSpec.ofChange Rows.gramTellsSpec):=
 OpenClaim.holds_of_wide 4 Tryz.f4 rfl rfl rfl rfl rfl rfl rfl ⟨rfl,rfl,rfl,rfl,rfl⟩ rfl rfl rfl rfl rfl (by kernel_rfl) Tryz.func4 (by kernel_rfl)
  (of_decide_eq_true (by kernel_rfl)) (by unfold Func.isWrapper;first|(rw[if_pos (by decide +kernel)];kernel_rfl)|(rw[if_neg (by decide +kernel)];exact⟨rfl,rfl⟩))
  (fun os started H enc _=>lifted os started H enc)
theorem proved:Rows.GramTellsSaid:=over
end Go.Proofs.YtiijebameffenaaGreat.gramTells
