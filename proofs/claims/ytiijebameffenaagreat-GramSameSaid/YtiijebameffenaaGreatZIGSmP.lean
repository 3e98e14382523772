import Derived.Test.YtiijebameffenaaGreatZIAwk
set_option linter.all false
set_option maxHeartbeats 8000000
set_option maxRecDepth 100000
open Go.Lib (hid)
namespace Go.Proofs.YtiijebameffenaaGreat
open Go.RowKit Go.Maps Go.WideElems Go.ChangeMaps Go.MapKept
theorem Yn(G K:Gr)(w:World)(hA:G.At w)(hK:K.At w)(hL:G.lb 9223372036854775807)(ou:K.lb 9223372036854775807)
  (hW:∀W,Calls Tryz.prog 7 #[] W (yQ W))
  (hS:lj G->lj K->∀W,Below w.heap.size w W->Calls Tryz.prog 11 #[G.val,K.val] W (ba (dT G K) W)):
  Calls Tryz.prog 5 #[G.val,K.val] w (yQ w):=by
 show Calls Tryz.prog 5 #[.agg #[.slice G.aR G.R.length G.cR,.slice G.aS G.S.length G.cS,.slice G.aP G.P.length G.cP,.slice G.aL G.L.length G.cL,.int .i64 G.st],.agg #[.slice K.aR K.R.length K.cR,.slice K.aS K.S.length K.cS,.slice K.aP K.P.length K.cP,.slice K.aL K.L.length K.cL,.int .i64 K.st]] w _;have HFG:Hid (∀W,Below w.heap.size w W->Calls Tryz.prog 8 #[.agg #[.slice G.aR G.R.length G.cR,.slice G.aS G.S.length G.cS,.slice G.aP G.P.length G.cP,.slice G.aL G.L.length G.cL,.int .i64 G.st]] W (Jx G W)):=fun W k=>Ww G W (hA.below k) hL
 have HFK:Hid (∀W,Below w.heap.size w W->Calls Tryz.prog 8 #[.agg #[.slice K.aR K.R.length K.cR,.slice K.aS K.S.length K.cS,.slice K.aP K.P.length K.cP,.slice K.aL K.L.length K.cL,.int .i64 K.st]] W (Jx K W)):=fun W k=>Ww K W (hK.below k) ou
 have HRs:Hid (∀W,Below w.heap.size w W->Calls Tryz.prog 24 #[.agg #[.slice G.aR G.R.length G.cR,.slice G.aS G.S.length G.cS,.slice G.aP G.P.length G.cP,.slice G.aL G.L.length G.cL,.int .i64 G.st],.agg #[.slice K.aR K.R.length K.cR,.slice K.aS K.S.length K.cS,.slice K.aP K.P.length K.cP,.slice K.aL K.L.length K.cL,.int .i64 K.st]] W (fun e w'=>∃b,(b=true↔dT G K)/\mB b W e w')):=fun W k=>zgg G K W (hA.below k) (hK.below k) hL ou
 have EM:Hid (lj G->lj K->∀W,Below w.heap.size w W->Calls Tryz.prog 11 #[.agg #[.slice G.aR G.R.length G.cR,.slice G.aS G.S.length G.cS,.slice G.aP G.P.length G.cP,.slice G.aL G.L.length G.cL,.int .i64 G.st],.agg #[.slice K.aR K.R.length K.cR,.slice K.aS K.S.length K.cS,.slice K.aP K.P.length K.cP,.slice K.aL K.L.length K.cL,.int .i64 K.st]] W (ba (dT G K) W)):=hS;have HW:=hid hW;clear hA hK hL ou hW hS;obtain⟨w2,bK⟩:∃w2,((w.alloc (.cells #[.slice G.aR G.R.length G.cR,.slice G.aS G.S.length G.cS,.slice G.aP G.P.length G.cP,.slice G.aL G.L.length G.cL,.int .i64 G.st] 27)).alloc (.cells #[.slice K.aR K.R.length K.cR,.slice K.aS K.S.length K.cS,.slice K.aP K.P.length K.cP,.slice K.aL K.L.length K.cL,.int .i64 K.st] 27))=w2:=⟨_,rfl⟩
 have H:Hid (fo w2 w.heap.size G/\fo w2 (w.heap.size+1) K/\Below w.heap.size w w2):=by
  rw[<-bK];have k0:=al w (.cells #[.slice G.aR G.R.length G.cR,.slice G.aS G.S.length G.cS,.slice G.aP G.P.length G.cP,.slice G.aL G.L.length G.cL,.int .i64 G.st] 27);have k1:=al (w.alloc (.cells #[.slice G.aR G.R.length G.cR,.slice G.aS G.S.length G.cS,.slice G.aP G.P.length G.cP,.slice G.aL G.L.length G.cL,.int .i64 G.st] 27)) (.cells #[.slice K.aR K.R.length K.cR,.slice K.aS K.S.length K.cS,.slice K.aP K.P.length K.cP,.slice K.aL K.L.length K.cL,.int .i64 K.st] 27);exact⟨((fo.new w G 27).below k1),(by have h9:=(fo.new (w.alloc (.cells #[.slice G.aR G.R.length G.cR,.slice G.aS G.S.length G.cS,.slice G.aP G.P.length G.cP,.slice G.aL G.L.length G.cL,.int .i64 G.st] 27)) K 27);simpa using h9),(k0.trans (k1.mono k0.size))⟩
 have jC:Hid (w2.heap.size=w.heap.size+2):=by show _=_;rw[<-bK];simp
 go_enter Tryz.func5,Tryz.ntmps5;go_upto_region 1 with fail
 try rw[bK]
 clear bK;obtain⟨b,hb⟩:∃b,w.heap.size=b:=⟨_,rfl⟩
 have HX:Hid (kq w b G K w2):=by rw[<-hb];exact H.out
 rw[hb];clear hb H jC;have Wk:=hid (HW.out w2);go_wp2_with (go_at_call 7;refine Wk.out.mono ?_);rintro e w3 ⟨rfl,b3⟩;have eh:=hid (HX.out.aa b3);clear b3 HX HW Wk;go_upto_region 3 with fail;refine wp_region_held_drew (S:=fun W'=>kq w b G K W') (by kernel_rfl) (eh.out.Nn 1) (fun hHeld=>?_);refine ak 0 (v:=.agg #[.slice G.aR G.R.length G.cR,.slice G.aS G.S.length G.cS,.slice G.aP G.P.length G.cP,.slice G.aL G.L.length G.cL,.int .i64 G.st]) ?_ (hy:=by intro wz hSw;have jU:=hSw.1.c0;have lW:=hSw.1.c1;have kL:=hSw.1.c2;have kH:=hSw.1.c3;have lQ:=hSw.1.c4;have l6:=hSw.2.1.c0;have lN:=hSw.2.1.c1;have lX:=hSw.2.1.c2;have lU:=hSw.2.1.c3;have lZ:=hSw.2.1.c4;(try simp only[Act.put,sA,sB,sC]);go_simp;first|done|with_reducible rfl)
 try simp only[Act.put,sA,sB,sC]
 refine bc 1 (fun K hK=>?_);go_simp;go_at_call 8;refine (HFG.out _ hHeld.2.2).mono ?_;rintro e w8 ⟨bo,rfl,cn,b8⟩;have aZ:=hHeld.aa b8;clear b8 hHeld
 try go_wp2_with fail
 refine hK.out _ _ aZ (fun hHeld=>?_);clear hK K aZ
 try simp only[Act.put,sA,sB,sC]
 cases bo with
 | false=>
  clear cn;refine ak 2 ?_ (hy:=by intro wz hSw;have jU:=hSw.1.c0;have lW:=hSw.1.c1;have kL:=hSw.1.c2;have kH:=hSw.1.c3;have lQ:=hSw.1.c4;have l6:=hSw.2.1.c0;have lN:=hSw.2.1.c1;have lX:=hSw.2.1.c2;have lU:=hSw.2.1.c3;have lZ:=hSw.2.1.c4;(try simp only[Act.put,sA,sB,sC]);go_simp;first|done|with_reducible rfl)
  try simp only[Act.put,sA,sB,sC]
  refine ak 3 ?_ (hy:=by intro wz hSw;have jU:=hSw.1.c0;have lW:=hSw.1.c1;have kL:=hSw.1.c2;have kH:=hSw.1.c3;have lQ:=hSw.1.c4;have l6:=hSw.2.1.c0;have lN:=hSw.2.1.c1;have lX:=hSw.2.1.c2;have lU:=hSw.2.1.c3;have lZ:=hSw.2.1.c4;(try simp only[Act.put,sA,sB,sC]);go_simp;first|done|with_reducible rfl)
  try simp only[Act.put,sA,sB,sC]
  refine dg 4 ?_
  try simp only[Act.put,sA,sB,sC]
  refine dg 5 ?_
  try simp only[Act.put,sA,sB,sC]
  refine dg 6 ?_
  try simp only[Act.put,sA,sB,sC]
  refine ak 7 ?_ (hy:=by intro wz hSw;have jU:=hSw.1.c0;have lW:=hSw.1.c1;have kL:=hSw.1.c2;have kH:=hSw.1.c3;have lQ:=hSw.1.c4;have l6:=hSw.2.1.c0;have lN:=hSw.2.1.c1;have lX:=hSw.2.1.c2;have lU:=hSw.2.1.c3;have lZ:=hSw.2.1.c4;(try simp only[Act.put,sA,sB,sC]);go_simp;first|done|with_reducible rfl)
  try simp only[Act.put,sA,sB,sC]
  refine ak 8 ?_ (hy:=by intro wz hSw;have jU:=hSw.1.c0;have lW:=hSw.1.c1;have kL:=hSw.1.c2;have kH:=hSw.1.c3;have lQ:=hSw.1.c4;have l6:=hSw.2.1.c0;have lN:=hSw.2.1.c1;have lX:=hSw.2.1.c2;have lU:=hSw.2.1.c3;have lZ:=hSw.2.1.c4;(try simp only[Act.put,sA,sB,sC]);go_simp;first|done|with_reducible rfl)
  try simp only[Act.put,sA,sB,sC]
  refine dg 9 ?_
  try simp only[Act.put,sA,sB,sC]
  refine dg 10 ?_
  try simp only[Act.put,sA,sB,sC]
  refine dg 11 ?_
  try simp only[Act.put,sA,sB,sC]
  refine dg 12 ?_
  try simp only[Act.put,sA,sB,sC]
  refine dg 13 ?_
  try simp only[Act.put,sA,sB,sC]
  refine dg 14 ?_
  try simp only[Act.put,sA,sB,sC]
  refine dg 15 ?_
  try simp only[Act.put,sA,sB,sC]
  refine ak 16 ?_ (hy:=by intro wz hSw;have jU:=hSw.1.c0;have lW:=hSw.1.c1;have kL:=hSw.1.c2;have kH:=hSw.1.c3;have lQ:=hSw.1.c4;have l6:=hSw.2.1.c0;have lN:=hSw.2.1.c1;have lX:=hSw.2.1.c2;have lU:=hSw.2.1.c3;have lZ:=hSw.2.1.c4;(try simp only[Act.put,sA,sB,sC]);go_simp;first|done|with_reducible rfl)
  try simp only[Act.put,sA,sB,sC]
  refine ak 17 ?_ (hy:=by intro wz hSw;have jU:=hSw.1.c0;have lW:=hSw.1.c1;have kL:=hSw.1.c2;have kH:=hSw.1.c3;have lQ:=hSw.1.c4;have l6:=hSw.2.1.c0;have lN:=hSw.2.1.c1;have lX:=hSw.2.1.c2;have lU:=hSw.2.1.c3;have lZ:=hSw.2.1.c4;(try simp only[Act.put,sA,sB,sC]);go_simp;first|done|with_reducible rfl)
  try simp only[Act.put,sA,sB,sC]
  refine wpAnyH_done (by kernel_rfl) ?_ _;go_wp2;go_ret;exact⟨rfl,hHeld.2.2⟩
 | true=>
  have HBG:=hid (cn rfl)
  clear cn
  refine ak 2 ?_ (hy:=by intro wz hSw;have jU:=hSw.1.c0;have lW:=hSw.1.c1;have kL:=hSw.1.c2;have kH:=hSw.1.c3;have lQ:=hSw.1.c4;have l6:=hSw.2.1.c0;have lN:=hSw.2.1.c1;have lX:=hSw.2.1.c2;have lU:=hSw.2.1.c3;have lZ:=hSw.2.1.c4;(try simp only[Act.put,sA,sB,sC]);go_simp;first|done|with_reducible rfl)
  try simp only[Act.put,sA,sB,sC]
  refine ak 3 ?_ (hy:=by intro wz hSw;have jU:=hSw.1.c0;have lW:=hSw.1.c1;have kL:=hSw.1.c2;have kH:=hSw.1.c3;have lQ:=hSw.1.c4;have l6:=hSw.2.1.c0;have lN:=hSw.2.1.c1;have lX:=hSw.2.1.c2;have lU:=hSw.2.1.c3;have lZ:=hSw.2.1.c4;(try simp only[Act.put,sA,sB,sC]);go_simp;first|done|with_reducible rfl)
  try simp only[Act.put,sA,sB,sC]
  refine ak 4 (v:=.agg #[.slice K.aR K.R.length K.cR,.slice K.aS K.S.length K.cS,.slice K.aP K.P.length K.cP,.slice K.aL K.L.length K.cL,.int .i64 K.st]) ?_ (hy:=by intro wz hSw;have jU:=hSw.1.c0;have lW:=hSw.1.c1;have kL:=hSw.1.c2;have kH:=hSw.1.c3;have lQ:=hSw.1.c4;have l6:=hSw.2.1.c0;have lN:=hSw.2.1.c1;have lX:=hSw.2.1.c2;have lU:=hSw.2.1.c3;have lZ:=hSw.2.1.c4;(try simp only[Act.put,sA,sB,sC]);go_simp;first|done|with_reducible rfl)
  try simp only[Act.put,sA,sB,sC]
  refine bc 5 (fun K hK=>?_)
  go_simp
  go_at_call 8
  refine (HFK.out _ hHeld.2.2).mono ?_
  rintro e w8 ⟨bo,rfl,cn,b8⟩
  have aZ:=hHeld.aa b8
  clear b8 hHeld
  try go_wp2_with fail
  refine hK.out _ _ aZ (fun hHeld=>?_)
  clear hK K aZ
  try simp only[Act.put,sA,sB,sC]
  cases bo with
  | false=>
   clear cn;refine ak 6 ?_ (hy:=by intro wz hSw;have jU:=hSw.1.c0;have lW:=hSw.1.c1;have kL:=hSw.1.c2;have kH:=hSw.1.c3;have lQ:=hSw.1.c4;have l6:=hSw.2.1.c0;have lN:=hSw.2.1.c1;have lX:=hSw.2.1.c2;have lU:=hSw.2.1.c3;have lZ:=hSw.2.1.c4;(try simp only[Act.put,sA,sB,sC]);go_simp;first|done|with_reducible rfl)
   try simp only[Act.put,sA,sB,sC]
   refine ak 7 ?_ (hy:=by intro wz hSw;have jU:=hSw.1.c0;have lW:=hSw.1.c1;have kL:=hSw.1.c2;have kH:=hSw.1.c3;have lQ:=hSw.1.c4;have l6:=hSw.2.1.c0;have lN:=hSw.2.1.c1;have lX:=hSw.2.1.c2;have lU:=hSw.2.1.c3;have lZ:=hSw.2.1.c4;(try simp only[Act.put,sA,sB,sC]);go_simp;first|done|with_reducible rfl)
   try simp only[Act.put,sA,sB,sC]
   refine ak 8 ?_ (hy:=by intro wz hSw;have jU:=hSw.1.c0;have lW:=hSw.1.c1;have kL:=hSw.1.c2;have kH:=hSw.1.c3;have lQ:=hSw.1.c4;have l6:=hSw.2.1.c0;have lN:=hSw.2.1.c1;have lX:=hSw.2.1.c2;have lU:=hSw.2.1.c3;have lZ:=hSw.2.1.c4;(try simp only[Act.put,sA,sB,sC]);go_simp;first|done|with_reducible rfl)
   try simp only[Act.put,sA,sB,sC]
   refine dg 9 ?_
   try simp only[Act.put,sA,sB,sC]
   refine dg 10 ?_
   try simp only[Act.put,sA,sB,sC]
   refine dg 11 ?_
   try simp only[Act.put,sA,sB,sC]
   refine dg 12 ?_
   try simp only[Act.put,sA,sB,sC]
   refine dg 13 ?_
   try simp only[Act.put,sA,sB,sC]
   refine dg 14 ?_
   try simp only[Act.put,sA,sB,sC]
   refine dg 15 ?_
   try simp only[Act.put,sA,sB,sC]
   refine ak 16 ?_ (hy:=by intro wz hSw;have jU:=hSw.1.c0;have lW:=hSw.1.c1;have kL:=hSw.1.c2;have kH:=hSw.1.c3;have lQ:=hSw.1.c4;have l6:=hSw.2.1.c0;have lN:=hSw.2.1.c1;have lX:=hSw.2.1.c2;have lU:=hSw.2.1.c3;have lZ:=hSw.2.1.c4;(try simp only[Act.put,sA,sB,sC]);go_simp;first|done|with_reducible rfl)
   try simp only[Act.put,sA,sB,sC]
   refine ak 17 ?_ (hy:=by intro wz hSw;have jU:=hSw.1.c0;have lW:=hSw.1.c1;have kL:=hSw.1.c2;have kH:=hSw.1.c3;have lQ:=hSw.1.c4;have l6:=hSw.2.1.c0;have lN:=hSw.2.1.c1;have lX:=hSw.2.1.c2;have lU:=hSw.2.1.c3;have lZ:=hSw.2.1.c4;(try simp only[Act.put,sA,sB,sC]);go_simp;first|done|with_reducible rfl)
   try simp only[Act.put,sA,sB,sC]
   refine wpAnyH_done (by kernel_rfl) ?_ _;go_wp2;go_ret;exact⟨rfl,hHeld.2.2⟩
  | true=>
   have HBK:=hid (cn rfl);clear cn;refine ak 6 ?_ (hy:=by intro wz hSw;have jU:=hSw.1.c0;have lW:=hSw.1.c1;have kL:=hSw.1.c2;have kH:=hSw.1.c3;have lQ:=hSw.1.c4;have l6:=hSw.2.1.c0;have lN:=hSw.2.1.c1;have lX:=hSw.2.1.c2;have lU:=hSw.2.1.c3;have lZ:=hSw.2.1.c4;(try simp only[Act.put,sA,sB,sC]);go_simp;first|done|with_reducible rfl)
   try simp only[Act.put,sA,sB,sC]
   refine ak 7 ?_ (hy:=by intro wz hSw;have jU:=hSw.1.c0;have lW:=hSw.1.c1;have kL:=hSw.1.c2;have kH:=hSw.1.c3;have lQ:=hSw.1.c4;have l6:=hSw.2.1.c0;have lN:=hSw.2.1.c1;have lX:=hSw.2.1.c2;have lU:=hSw.2.1.c3;have lZ:=hSw.2.1.c4;(try simp only[Act.put,sA,sB,sC]);go_simp;first|done|with_reducible rfl)
   try simp only[Act.put,sA,sB,sC]
   refine ak 8 ?_ (hy:=by intro wz hSw;have jU:=hSw.1.c0;have lW:=hSw.1.c1;have kL:=hSw.1.c2;have kH:=hSw.1.c3;have lQ:=hSw.1.c4;have l6:=hSw.2.1.c0;have lN:=hSw.2.1.c1;have lX:=hSw.2.1.c2;have lU:=hSw.2.1.c3;have lZ:=hSw.2.1.c4;(try simp only[Act.put,sA,sB,sC]);go_simp;first|done|with_reducible rfl)
   try simp only[Act.put,sA,sB,sC]
   refine ak 9 (v:=.agg #[.slice G.aR G.R.length G.cR,.slice G.aS G.S.length G.cS,.slice G.aP G.P.length G.cP,.slice G.aL G.L.length G.cL,.int .i64 G.st]) ?_ (hy:=by intro wz hSw;have jU:=hSw.1.c0;have lW:=hSw.1.c1;have kL:=hSw.1.c2;have kH:=hSw.1.c3;have lQ:=hSw.1.c4;have l6:=hSw.2.1.c0;have lN:=hSw.2.1.c1;have lX:=hSw.2.1.c2;have lU:=hSw.2.1.c3;have lZ:=hSw.2.1.c4;(try simp only[Act.put,sA,sB,sC]);go_simp;first|done|with_reducible rfl)
   try simp only[Act.put,sA,sB,sC]
   refine ak 10 (v:=.agg #[.slice K.aR K.R.length K.cR,.slice K.aS K.S.length K.cS,.slice K.aP K.P.length K.cP,.slice K.aL K.L.length K.cL,.int .i64 K.st]) ?_ (hy:=by intro wz hSw;have jU:=hSw.1.c0;have lW:=hSw.1.c1;have kL:=hSw.1.c2;have kH:=hSw.1.c3;have lQ:=hSw.1.c4;have l6:=hSw.2.1.c0;have lN:=hSw.2.1.c1;have lX:=hSw.2.1.c2;have lU:=hSw.2.1.c3;have lZ:=hSw.2.1.c4;(try simp only[Act.put,sA,sB,sC]);go_simp;first|done|with_reducible rfl)
   try simp only[Act.put,sA,sB,sC]
   refine ak 12 (v:=.agg #[.slice G.aR G.R.length G.cR,.slice G.aS G.S.length G.cS,.slice G.aP G.P.length G.cP,.slice G.aL G.L.length G.cL,.int .i64 G.st]) ?_ (hy:=by intro wz hSw;have jU:=hSw.1.c0;have lW:=hSw.1.c1;have kL:=hSw.1.c2;have kH:=hSw.1.c3;have lQ:=hSw.1.c4;have l6:=hSw.2.1.c0;have lN:=hSw.2.1.c1;have lX:=hSw.2.1.c2;have lU:=hSw.2.1.c3;have lZ:=hSw.2.1.c4;(try simp only[Act.put,sA,sB,sC]);go_simp;first|done|with_reducible rfl)
   try simp only[Act.put,sA,sB,sC]
   refine ak 13 (v:=.agg #[.slice K.aR K.R.length K.cR,.slice K.aS K.S.length K.cS,.slice K.aP K.P.length K.cP,.slice K.aL K.L.length K.cL,.int .i64 K.st]) ?_ (hy:=by intro wz hSw;have jU:=hSw.1.c0;have lW:=hSw.1.c1;have kL:=hSw.1.c2;have kH:=hSw.1.c3;have lQ:=hSw.1.c4;have l6:=hSw.2.1.c0;have lN:=hSw.2.1.c1;have lX:=hSw.2.1.c2;have lU:=hSw.2.1.c3;have lZ:=hSw.2.1.c4;(try simp only[Act.put,sA,sB,sC]);go_simp;first|done|with_reducible rfl)
   try simp only[Act.put,sA,sB,sC]
   refine bc 11 (fun K hK=>?_);go_simp;go_at_call 11;refine (EM.out HBG.out HBK.out _ hHeld.2.2).mono ?_;rintro e w8 ⟨b1,eU,rfl,b8⟩;have aZ:=hHeld.aa b8;clear b8 hHeld
   try go_wp2_with fail
   refine hK.out _ _ aZ (fun hHeld=>?_);clear hK K aZ
   try simp only[Act.put,sA,sB,sC]
   refine bc 14 (fun K hK=>?_);go_simp;go_at_call 24;refine (HRs.out _ hHeld.2.2).mono ?_;rintro e w8 ⟨b2,bZ,rfl,b8⟩;have aZ:=hHeld.aa b8;clear b8 hHeld
   try go_wp2_with fail
   refine hK.out _ _ aZ (fun hHeld=>?_);clear hK K aZ
   try simp only[Act.put,sA,sB,sC]
   have qU:b1=b2:=Bool.eq_iff_iff.2 (eU.trans bZ.symm);subst qU;clear eU bZ;have hb11:(b1 == b1)=true:=(by simp);refine ak 15 (v:=.bool true) ?_ (hy:=by intro wz hSw;have jU:=hSw.1.c0;have lW:=hSw.1.c1;have kL:=hSw.1.c2;have kH:=hSw.1.c3;have lQ:=hSw.1.c4;have l6:=hSw.2.1.c0;have lN:=hSw.2.1.c1;have lX:=hSw.2.1.c2;have lU:=hSw.2.1.c3;have lZ:=hSw.2.1.c4;(try simp only[Act.put,sA,sB,sC]);go_simp;first|done|with_reducible rfl)
   try simp only[Act.put,sA,sB,sC]
   refine ak 16 ?_ (hy:=by intro wz hSw;have jU:=hSw.1.c0;have lW:=hSw.1.c1;have kL:=hSw.1.c2;have kH:=hSw.1.c3;have lQ:=hSw.1.c4;have l6:=hSw.2.1.c0;have lN:=hSw.2.1.c1;have lX:=hSw.2.1.c2;have lU:=hSw.2.1.c3;have lZ:=hSw.2.1.c4;(try simp only[Act.put,sA,sB,sC]);go_simp;first|done|with_reducible rfl)
   try simp only[Act.put,sA,sB,sC]
   refine ak 17 ?_ (hy:=by intro wz hSw;have jU:=hSw.1.c0;have lW:=hSw.1.c1;have kL:=hSw.1.c2;have kH:=hSw.1.c3;have lQ:=hSw.1.c4;have l6:=hSw.2.1.c0;have lN:=hSw.2.1.c1;have lX:=hSw.2.1.c2;have lU:=hSw.2.1.c3;have lZ:=hSw.2.1.c4;(try simp only[Act.put,sA,sB,sC]);go_simp;first|done|with_reducible rfl)
   try simp only[Act.put,sA,sB,sC]
   refine wpAnyH_done (by kernel_rfl) ?_ _;go_wp2;go_ret;exact⟨rfl,hHeld.2.2⟩
theorem zoq(G K:Gr)(w:World)(hA:G.At w)(hK:K.At w)(hL:G.lb 9223372036854775807)(ou:K.lb 9223372036854775807):Calls Tryz.prog 5 #[G.val,K.val] w (yQ w):=
 Yn G K w hA hK hL ou zgc
  (fun h1 h2 W k=>zh7 G K W (hA.below k) (hK.below k) (h1.lim (by omega)) (h2.lim (by omega)))
end Go.Proofs.YtiijebameffenaaGreat
namespace Go.Proofs.YtiijebameffenaaGreat.gramSame
open Go.ChangeShapes Go.WideShapes Go.ChangeAt Go.RowKit Go.Deep
theorem lifted(os:Os)(started:os.Started)(H:Type)(enc:TypeId × Value->H):
  ReturnsInHanded {} Tryz.checked os 5 .any (Rows.gramSameSpec.pre6 enc Tryz.prog Tryz.f5 Rows.gramSameRow.domain false) (Rows.gramSameSpec.post enc Tryz.prog Tryz.f5 false true false false):=by
 refine returnsInHanded_of_change (C:=Tryz.checked) own started (by kernel_rfl) Tryz.func5
  (ChangeSpec.witness6 (enc:=enc) (C:=Tryz.checked) false ⟨#[],#[.agg #[.slice none 0 0,.slice none 0 0,.slice none 0 0,.slice none 0 0,.int .i64 0],.agg #[.slice none 0 0,.slice none 0 0,.slice none 0 0,.slice none 0 0,.int .i64 0]],[]⟩ 8 (by kernel_rfl) (by kernel_rfl) (by kernel_rfl) (by kernel_rfl)) ?_
 intro W base args ds gs before Ax hW hcnd _;have vz:∀(j:Nat) t v,Tryz.f5.params[j]?=some t->args[j]?=some v->Value.okWide Tryz.prog W .any base t v:=Ax;have hW':=hW;obtain⟨p,q,Xj,hV,rfl,Uy,iM⟩:=hW;have hA:DataW.TrodAll enc Tryz.prog W 0 (fun _=>true) true Tryz.f5.params.toList args.toList ds p:=Xj;rw[Tryz.params5] at hA vz;obtain⟨v0,vs0,d0,ds0,p0,q0,SE,rfl,rfl,h0,r0⟩:=trodAll_cons hA;obtain⟨v1,vs1,d1,ds1,p1,q1,rfl,rfl,rfl,h1,r1⟩:=trodAll_cons r0;obtain⟨rfl,rfl,rfl⟩:=trodAll_nil r1;obtain rfl:args=#[v0,v1]:=by cases args;simp_all
 obtain⟨rfl,rfl⟩:=trodVars_none hV;have k0:=h0;have lt0:∀x∈p0,x.block<W.heap.size:=by obtain⟨m,hm⟩:=k0;exact DataW.trod_lt m _ _ _ hm
 obtain⟨G0,rfl,Q3,A5,hg0⟩:=V8 (vz 0 27 v0 rfl rfl) (by obtain⟨fuel,hf⟩:=h0;exact⟨fuel,_,hf⟩);have hM0:G0.lb 9223372036854775807:=A5.mono (by unfold maxLen;omega);have k1:=h1;have lt1:∀x∈p1,x.block<W.heap.size:=by obtain⟨m,hm⟩:=k1;exact DataW.trod_lt m _ _ _ hm
 obtain⟨G1,rfl,PG,wP,gV⟩:=V8 (vz 1 27 v1 rfl rfl) (by obtain⟨fuel,hf⟩:=h1;exact⟨fuel,_,hf⟩);have hM1:G1.lb 9223372036854775807:=wP.mono (by unfold maxLen;omega);clear Xj Ax;refine (zoq G0 G1 W Q3 PG hM0 hM1).mono fun e W' ⟨he,aJ⟩=>?_
 subst he;exact⟨_,rfl,_,_,_,[],_,[],hW',trodAll_mk1 (shut_bool Tryz.underlying4 _),(trodAll_cons_mk (Below.trod laidOut (by kernel_rfl) (of_decide_eq_true (by kernel_rfl)) k0 aJ lt0) (trodAll_cons_mk (Below.trod laidOut (by kernel_rfl) (of_decide_eq_true (by kernel_rfl)) k1 aJ lt1) trodAll_mk0)),rfl,aJ.frame _,fun h=>by cases h⟩
theorem over:Rows.gramSameRow.holds Tryz.pinned (OpenSpec.ofChange Rows.gramSameSpec):=
 OpenClaim.holds_of_wide 5 Tryz.f5 rfl rfl rfl rfl rfl rfl rfl ⟨rfl,rfl,rfl,rfl,rfl⟩ rfl rfl rfl rfl rfl (by kernel_rfl) Tryz.func5 (by kernel_rfl)
  (of_decide_eq_true (by kernel_rfl)) (by unfold Func.isWrapper;first|(rw[if_pos (by decide +kernel)];kernel_rfl)|(rw[if_neg (by decide +kernel)];exact⟨rfl,rfl⟩))
  (fun os started H enc _=>lifted os started H enc)
theorem proved:Rows.GramSameSaid:=over
end Go.Proofs.YtiijebameffenaaGreat.gramSame
