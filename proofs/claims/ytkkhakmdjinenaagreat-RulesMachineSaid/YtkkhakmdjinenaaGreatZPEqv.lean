import Derived.Test.YtkkhakmdjinenaaGreatZPOf
set_option linter.all false
set_option maxHeartbeats 4000000
set_option maxRecDepth 100000
open Go.Lib (hid)
namespace Go.Proofs.YtkkhakmdjinenaaGreat
open Go.Proofs.Tryz
open Or (inl inr)
open List (getElem?_cons_succ getElem?_cons_zero getElem?_toArray range)
open Region (wanted)
variable {A:Nat->Nat->Bool}{C M N c g i j k:Nat}{D X:Dd}{W0 w:World}{f:Nat->Bool}{gs:Nat->Nat}{vO:Value}
structure Ap (C:Nat)(t:Nat->Nat->Nat)(m:Nat->Int)(N r i k c:Nat)(A:Nat->Nat->Bool):Prop where
 snd:∀x y,x<N->y<N->A x y=true->¬jH C t m x y
 jG:∀x y,x<N->y<N->¬Mo C t m r x y->A x y=true
 new:∀x y,x<N->y<N->(x<i\/(x=i/\y<k))->¬Mo C t m (r+1) x y->A x y=true
 cur:∀c',c'<c->¬Mo C t m r (t i c') (t k c')->A i k=true
section
variable {C N r i k c : Nat}{t : Nat → Nat → Nat}{m : Nat → Int}{A : Nat → Nat → Bool}
theorem Ap.start(h:∀x y,x<N->y<N->(A x y=true↔m x≠m y)):Ap C t m N 0 0 0 0 A:=
 ⟨fun x y hx hy e h2=>(h x y hx hy).1 e (h2 0),fun x y hx hy e=>(h x y hx hy).2 e,fun x y _ _ e=>by omega,fun c' e=>by omega⟩
def vH(A:Nat->Nat->Bool)(i k:Nat)(v:Bool):Nat->Nat->Bool:=fun x y=>if x=i/\y=k then v else A x y
theorem Ap.put(ht:∀i c,i<N->c<C->t i c<N)(h:Ap C t m N r i k c A)(hi:i<N)(hk:k<N)(hc:c<C)(hA:A i k=false):Ap C t m N r i k (c+1) (vH A i k (A (t i c) (t k c))):=by
 have gm:A i k≠true:=by rw[hA];simp
 refine⟨fun x y hx hy e=>?_,fun x y hx hy e=>?_,fun x y hx hy e1 e2=>?_,fun c' hc' e=>?_⟩
 ·by_cases a:x=i/\y=k
  ·obtain⟨rfl,rfl⟩:=a;simp only[vH,and_self,if_true] at e;exact fun h2=>h.snd _ _ (ht _ _ hi hc) (ht _ _ hk hc) e (h2.step hc)
  simp only[vH,if_neg a] at e;exact h.snd x y hx hy e
 ·by_cases a:x=i/\y=k
  ·obtain⟨rfl,rfl⟩:=a;exact absurd (h.jG _ _ hx hy e) gm
  simp only[vH,if_neg a];exact h.jG x y hx hy e
 ·have a:¬(x=i/\y=k):=by omega
  simp only[vH,if_neg a];exact h.new x y hx hy e1 e2
 simp only[vH,and_self,if_true];by_cases a:c'=c
 ·subst a;exact h.jG _ _ (ht _ _ hi hc) (ht _ _ hk hc) e
 exact absurd (h.cur c' (by omega) e) gm
theorem Ap.BM(h:Ap C t m N r i k c A)(hi:i<N)(hk:k<N)(hc:A i k=true\/c=C):Ap C t m N r i (k+1) 0 A:=by
 refine⟨h.snd,h.jG,fun x y hx hy e1 e2=>?_,fun c' e=>by omega⟩;by_cases a:x=i/\y=k
 ·obtain⟨rfl,rfl⟩:=a;rcases hc with hc|rfl
  ·exact hc
  by_cases h1:Mo c t m r x y
  ·by_cases h2:∀c',c'<c->Mo c t m r (t x c') (t y c')
   ·exact absurd ⟨h1,h2⟩ e2
   have h3:∃c',c'<c/\¬Mo c t m r (t x c') (t y c'):=by
    refine(Classical.byContradiction fun h4=>h2 fun c' hc'=>?_);exact Classical.byContradiction fun h5=>h4 ⟨c',hc',h5⟩
   obtain⟨c',hc',h4⟩:=h3;exact h.cur c' hc' h4
  exact h.jG x y hx hy h1
 exact h.new x y hx hy (by omega) e2
theorem Ap.G9(h:Ap C t m N r i N c A):Ap C t m N r (i+1) 0 0 A:=
 ⟨h.snd,h.jG,fun x y hx hy e1 e2=>h.new x y hx hy (by omega) e2,fun c' e=>by omega⟩
theorem Ap.KN(h:Ap C t m N r N k c A):Ap C t m N (r+1) 0 0 0 A:=
 ⟨h.snd,fun x y hx hy e=>h.new x y hx hy (by omega) e,fun x y _ _ e=>by omega,fun c' e=>by omega⟩
theorem Ap.done(ht:∀i c,i<N->c<C->t i c<N)(h:Ap C t m N N i k c A):∀x y,x<N->y<N->(A x y=true↔¬jH C t m x y):=by
 intro x y hx hy;refine⟨h.snd x y hx hy,fun e=>h.jG x y hx hy (fun e2=>e ((zqu ht hx hy).1 e2))⟩
end
open Go.RowKit Go.Maps
def kj(D:Dd)(i:Int):Int:=if 0<=i/\i<(D.m:Int) then D.q i.toNat else -1
theorem Ku(D:Dd)(i:Int)(w:World)(hD:DM w D)(hm:D.m<=100000):
  Calls prog 10 #[.agg D.cD,.int .i64 i] w fun e w'=>e=.returned (.int .i64 (kj D i))/\Below w.heap.size w w':=by
 have HB:=ζ (bg.new hD) (al w (.cells D.cD 29));clear hD;go_in;go_upto_region 1 with fail;generalize w.alloc (.cells D.cD 29)=W0 at HB⊢;generalize ay:w.heap.size=b0 at HB⊢;have bW:=hid ay;clear ay;have HF:=hid (show Below w.heap.size w W0 by rw[bW.out];exact HB.out.2);have f2:=HB.out.1.f2;by_cases h0:0<=i
 ·by_cases h1:i<(D.m:Int)
  ·obtain⟨k,rfl⟩:∃k:Nat,i=k:=(⟨i.toNat,by omega⟩);have hk:k<D.m:=(by omega);obtain⟨g,off,e,hg,hc⟩:=HB.out.1.dm.rM (by omega);have c1:=hc k hk;rw[e] at f2;have i1:¬((D.m:Int)<=(k:Int)):=(by omega);have i2:¬((k:Int)<0):=(by omega);have HZ:Hid (kj D (k:Int)=D.q k):=(by show _=_;unfold kj;rw[if_pos ⟨by omega,by omega⟩];simp);clear hc e;go_wp2;go_ret;exact⟨by rw[HZ.out];rfl,HF.out⟩
  have i1:(D.m:Int)<=i:=by omega
  have i2:¬(i<0):=by omega
  have HZ:Hid (kj D i=-1):=by show _=_;unfold kj;rw[if_neg (by omega)]
  go_wp2;go_ret;exact⟨by rw[HZ.out];rfl,HF.out⟩
 have i1:i<0:=by omega
 have HZ:Hid (kj D i=-1):=by show _=_;unfold kj;rw[if_neg (by omega)]
 go_wp2;go_ret;exact⟨by rw[HZ.out];rfl,HF.out⟩
theorem MD(D:Dd)(C:Nat)(hR:DR D C)(i c:Nat)(hi:i<=D.n)(hc:c<C)(w:World)(hD:DM w D):
  Calls prog 29 #[.agg D.cD,.int .i64 (i:Int),.int .i64 (c:Int)] w fun e w'=>e=.returned (.int .i64 (tD D i c))/\Below w.heap.size w w':=by
 have HB:=ξ (bg.new hD) (al w (.cells D.cD 29)) hR;have cU:=hR.n2;clear hD hR;go_in;go_upto_region 1 with fail;generalize w.alloc (.cells D.cD 29)=W0 at HB⊢;generalize ay:w.heap.size=b0 at HB⊢;have bW:=hid ay;clear ay;have HF:=hid (show Below w.heap.size w W0 by rw[bW.out];exact HB.out.2.1);have f1:=HB.out.1.f1;by_cases h1:i<D.n
 ·obtain⟨g,off,e,hg,cN,zN⟩:=HB.out.1.dm.row i h1;have hl:=HB.out.2.2.len i h1;rw[hl] at cN zN;obtain⟨g2,off2,e2,yR,fB⟩:=zN (by omega);have cA:=fB c hc;rw[e] at f1;rw[e2] at cN;have i1:¬((D.n:Int)<=(i:Int)):=by omega
  obtain⟨x,hx⟩:∃x,D.nx i c=x:=⟨_,rfl⟩
  rw[hx] at cA;by_cases h2:x<0
  ·have HZ:Hid (tD D i c=D.n):=(by show _=_;unfold tD;rw[if_neg (by omega)]);clear fB e e2 zN hl hx;go_wp2;go_ret;exact⟨by rw[HZ.out];rfl,HF.out⟩
  have HZ:Hid (((tD D i c:Nat):Int)=x):=by show _=_;unfold tD;rw[if_pos ⟨h1,by omega⟩];omega
  clear fB e e2 zN hl hx;go_wp2;go_ret;exact⟨by rw[HZ.out];rfl,HF.out⟩
 obtain rfl:i=D.n:=by omega
 have HZ:Hid (tD D D.n c=D.n):=by show _=_;unfold tD;rw[if_neg (by omega)]
 go_wp2;go_ret;exact⟨by rw[HZ.out];rfl,HF.out⟩
structure dU (W0:World)(M N:Nat)(vO:Value)(gs:Nat->Nat)(A:Nat->Nat->Bool)(w:World):Prop where
 aP:Below W0.heap.size W0 w
 gr:bE w W0.heap.size 64 4 1 vO M (fun i=>.slice (some ⟨gs i,0,none⟩) N N) (fun _=>N) (fun i=>fG (A i) N)
section
variable {W0 w w' : World}{M N : Nat}{vO : Value}{gs : Nat → Nat}{A : Nat → Nat → Bool}
theorem dU.ab(h:dU W0 M N vO gs A w)(k:Below w.heap.size w w'):dU W0 M N vO gs A w':=⟨h.aP.trans (k.mono h.aP.size),h.gr.ab k⟩
theorem dU.out(h:dU W0 M N vO gs A w)(hi:i<M):∃g c,vO=.slice (some ⟨g,0,none⟩) M c/\W0.heap.size<=g/\∀i,i<M->w.cell? ⟨g,i,none⟩=some (.slice (some ⟨gs i,0,none⟩) N N):=by
 obtain⟨a,c,e⟩:=bP h.gr.own;have ho:=h.gr.own;rw[e] at ho;obtain⟨g,e2,h1,h2,h3⟩:=eC ho (by omega);refine⟨g,c,by rw[e,e2],h1,fun j hj=>?_⟩;rw[(h3 j (by omega)).1];simp[hj]
theorem dU.lo(h:dU W0 M N vO gs A w)(hN:0<N)(hi:i<M):W0.heap.size<=gs i:=by
 obtain⟨g,e,h1,_⟩:=eC (h.gr.row i hi) hN;injection e with e;injection e with e _;omega
theorem dU.cell(h:dU W0 M N vO gs A w)(hi:i<M)(hj:j<N):w.cell? ⟨gs i,j,none⟩=some (.bool (A i j))/\w.frozen? ⟨gs i,j,none⟩=false:=by
 obtain⟨g,e,h1,h2,h3⟩:=eC (h.gr.row i hi) (by omega);injection e with e;injection e with e _;subst e;obtain⟨h4,h5⟩:=h3 j (by omega);exact⟨by rw[h4];simp[fG,hj],h5⟩
theorem dU.put(h:dU W0 M N vO gs A w)(hi:i<M)(hj:j<N)(v:Bool):dU W0 M N vO gs (vH A i j v) (w.setCell ⟨gs i,j,none⟩ (.bool v)):=by
 have kk:Kept [] [gs i] w (w.setCell ⟨gs i,j,none⟩ (.bool v)):=(Kept.refl _ _ _).setCell _ _ (inl (by simp));refine⟨h.aP.setCell (p:=⟨gs i,j,none⟩) (h.lo (by omega) hi) _,⟨fI h.gr.own kk (by simp) (fun g e hm=>?_),fun k hk=>?_,h.gr.sep⟩⟩
 ·exact iB h.gr.own (h.gr.row i hi) (by decide) g e (by simp[List.mem_singleton.1 hm,Value.ownBlock])
 by_cases e:k=i
 ·subst e;have:=uj (h.gr.row k hk) j hj (.bool v);rw[RI] at this;have e2:fG (vH A k j v k) N=fG (fun x=>if x=j then v else A k x) N:=by
   unfold fG;refine(List.map_congr_left fun x hx=>?_);simp[vH]
  show World.ownsRow _ _ _ _ _ _ (fG (vH A k j v k) N);rw[e2];exact this
 have e2:fG (vH A i j v k) N=fG (A k) N:=by
  unfold fG;refine List.map_congr_left fun x hx=>?_
  simp[vH,e]
 show World.ownsRow _ _ _ _ _ _ (fG (vH A i j v k) N);rw[e2];refine fI (h.gr.row k hk) kk (by simp) (fun g e3 hm=>?_);exact h.gr.sep k i hk hi e g e3 (by simp[List.mem_singleton.1 hm,Value.ownBlock])
end
theorem uD:(prog.info? 64).map (fun i=>(i.zero,i.size,i.bytes))=some (some (.slice none 0 0),1,24):=by kernel_rfl
theorem XT(hm:D.m=D.n)(i:Nat)(hi:i<=D.n):kj D (i:Int)=mD D i:=by
 unfold kj mD;rw[hm];by_cases h:i<D.n
 ·rw[if_pos (by omega),if_pos h];simp
 rw[if_neg (by omega),if_neg h]
def A0(D:Dd)(x y:Nat):Bool:=mD D x != mD D y
theorem zqL(hf:∀y,y<k->f y=A0 D i y):∀y,y<k+1->(fun j=>if j=k then (mD D i != mD D k) else f j) y=A0 D i y:=by
 intro y hy;by_cases e:y=k
 ·simp only[if_pos e];rw[e];rfl
 simp only[if_neg e];exact hf y (by omega)
theorem zrh(D:Dd)(N:Nat):Ap C (tD D) (mD D) N 0 0 0 0 (A0 D):=Ap.start (fun x y _ _=>by simp[A0])
theorem dU.cells(h:dU W0 M N (.slice (some ⟨g,0,none⟩) M c) gs A w)(hi:i<M):w.cell? ⟨g,i,none⟩=some (.slice (some ⟨gs i,0,none⟩) N N):=by
 obtain⟨g',c',e,_,h3⟩:=h.out hi;injection e with e;injection e with e;injection e with e _;subst e;exact h3 i hi
def Vi(D:Dd)(C:Nat)(w:World)(e:Ending)(w':World):Prop:=
 ∃(vO:Value) (gs:Nat->Nat) (A:Nat->Nat->Bool),e=.returned vO/\dU w (D.n+1) (D.n+1) vO gs A w'/\∀x y,x<D.n+1->y<D.n+1->(A x y=true↔¬jH C (tD D) (mD D) x y)
theorem dU.nil(W0:World)(N:Nat)(gs:Nat->Nat)(A:Nat->Nat->Bool):dU W0 0 N (.slice none 0 0) gs A W0:=
 ⟨Below.refl _ _,⟨World.ownsRow_nil _ _ _ _,fun i hi=>absurd hi (by omega),fun i j hi=>absurd hi (by omega)⟩⟩
theorem dU.base{W:World}(h:dU W0 M N vO gs A w)(k:Below W.heap.size W W0):dU W M N vO gs A w:=
 ⟨k.trans (h.aP.mono k.size),⟨gn h.gr.own k.size,fun i hi=>gn (h.gr.row i hi) k.size,h.gr.sep⟩⟩
theorem dU.push{wr w1 w2 w':World}{v':Value}(h:dU W0 M N vO gs A wr)(ho:OB wr g N f w1)(hN:0<N)(hf:∀y,y<N->f y=A M y)(k2:Below w1.heap.size w1 w2)
  (az:w2.ownsRow W0.heap.size 64 1 vO M ((range M).map fun i=>.slice (some ⟨gs i,0,none⟩) N N)->w'.ownsRow W0.heap.size 64 1 v' (M+1) (((range M).map fun i=>.slice (some ⟨gs i,0,none⟩) N N)++[.slice (some ⟨g,0,none⟩) N N])) (hg:w2.grownBy w' vO.ownBlock):
  dU W0 (M+1) N v' (fun i=>if i=M then g else gs i) A w':=by
 have h2:=(h.ab ho.aP).ab k2;have aq:=h.gr.lt.2;have e:fG f N=fG (A M) N:=by
  unfold fG;refine List.map_congr_left fun x hx=>?_
  rw[hf x (List.mem_range.1 hx)]
 have hu:w2.ownsRow W0.heap.size 4 1 (.slice (some ⟨g,0,none⟩) N N) N (fG (A M) N):=by
  rw[<-e];exact gn (db ho.own k2) h.aP.size
 have hp:=h2.gr.qb (u:=.slice (some ⟨g,0,none⟩) N N) (by decide) hu (fun i hi b e1 e2=>by
  have h3:=aq i hi b e1
  have h4:=ho.lo
  have h5:g=b:=by simpa [Value.ownBlock] using e2
  omega) (az h2.gr.own) hg
 refine⟨fL h2.aP h2.gr.own h2.aP.size hg,?_⟩;have e3:(fun j=>if j=M then Value.slice (some ⟨g,0,none⟩) N N else .slice (some ⟨gs j,0,none⟩) N N)=fun i=>.slice (some ⟨(fun i=>if i=M then g else gs i) i,0,none⟩) N N:=by
  funext j;by_cases e:j=M <;> simp[e]
 rw[e3] at hp;exact hp
theorem zj1(D:Dd)(C:Nat)(hR:DR D C)(w:World)(hD:DM w D):
  Calls prog 28 #[.agg D.cD] w (Vi D C w):=by
 have HB:=ψ (bg.new hD) (al w (.cells D.cD 29)) hR hR.m;have cU:=hR.n2;have da:=hR.n1;have tq:=(hR.il hD.kl).2;obtain⟨N,hN⟩:∃N,D.n+1=N:=⟨_,rfl⟩
 have fJ:=QN N (by omega);clear hD hR;go_in;go_upto_region 1 with fail;generalize w.alloc (.cells D.cD 29)=W0 at HB⊢;generalize ay:w.heap.size=b0 at HB⊢;have bW:=hid ay;clear ay;have f1:=HB.out.1.f1;have i0:((D.n:Int)+1)=(N:Int):=by omega
 have i1:IntKind.i64.wrap ((D.n:Int)+1)=(N:Int):=by rw[i0];exact IntWalk.i64_in _ (by omega)
 have Ij:Hid (∃gs,dU W0 0 N (.slice none 0 0) gs (A0 D) W0):=⟨fun _=>0,dU.nil _ _ _ _⟩
 go_wp2;go_loopw [4,5,6,7] (fun v4 v5 _ _ wr=>∃(i:Nat),v5=.int .i64 i/\i<=N/\(∃a c,v4=.slice a i c)/\Hid (∃gs,dU W0 i N v4 gs (A0 D) wr)) (fun _ v _ _ _=>N-(intOf v).toNat)
 ·exact⟨0,rfl,by omega,⟨_,_,rfl⟩,Ij⟩
 obtain⟨i,rfl,hi,⟨a4,c4,rfl⟩,HA⟩:=hrel;clear Ij f1;revert wr;intro wo HA;by_cases aq:i<N
 ·have j1:(i:Int)<N:=by omega
  have zb:=hid (OB.made wo N (by unfold maxLen;omega));go_upto_region 7 with fail;obtain⟨g,hg⟩:∃g,wo.heap.size=g:=⟨_,rfl⟩
  rw[hg] at zb;rw[hg];generalize wo.alloc (.cells (madeCells #[.bool false] N) 4)=W1 at zb⊢;go_wp2;go_loopw [7] (fun v wq=>∃(k:Nat),v=.int .i64 k/\k<=N/\Hid (∃f,OB wo g N f wq/\∀y,y<k->f y=A0 D i y)) (fun v _=>N-(intOf v).toNat)
  ·exact⟨0,rfl,by omega,_,zb.out,fun y hy=>absurd hy (by omega)⟩
  clear zb;obtain⟨k,rfl,hk,HF⟩:=hrel;by_cases dE:k<N
  ·have j2:(k:Int)<N:=(by omega);obtain⟨f,hO,hf⟩:=HF.out;have HO:=hid hO;have Hf:=hid hf;have U6:Hid (i<=D.n/\k<=D.n):=(⟨by omega,by omega⟩);clear hO hf HF;obtain⟨gs,hA⟩:=HA.out;have Tv:=hid hA.aP;have Dh:W0.heap.size<=wo.heap.size:=hA.aP.size;clear hA;have cZ:Hid (∀W',Below wo.heap.size wo W'->Below wo.heap.size wo W'/\bg W' b0 D):=(fun W' h=>⟨h,(HB.out.1.ab (Tv.out.trans (h.mono Dh)))⟩);go_upto_region 10 with fail;have tF:=hid (HO.out.ab (Below.refl wr.heap.size wr).drew);have eQ:=Tv.out.trans (tF.out.aP.mono Dh);refine wp_region_held_drew (S:=fun W'=>Below W0.heap.size W0 W'/\bg W' b0 D) (by kernel_rfl) ⟨eQ,HB.out.1.ab eQ⟩ fun η=>?_;clear eQ
   (refine an 0 ?_;refine an 1 ?_)
   (refine an 2 (v:=.agg D.cD) ?_ (hy:=by intro wz hSw;exact ob (o:=_) (ρ:=_) wz 29 (.tmp 1) rfl ⟨b0,0,none⟩ rfl D.cD _ (bg.st (And.right hSw)).part underlying29 rfl (bg.dm (And.right hSw)).info))
   (refine an 3 ?_)
   (refine an 5 (v:=.agg D.cD) ?_ (hy:=by intro wz hSw;exact ob (o:=_) (ρ:=_) wz 29 (.tmp 1) rfl ⟨b0,0,none⟩ rfl D.cD _ (bg.st (And.right hSw)).part underlying29 rfl (bg.dm (And.right hSw)).info))
   (refine an 6 ?_;try simp only[Act.put,sA])
   refine bc 4 (fun K hK=>?_);skip;go_simp;go_at_call 10;refine (Ku D (i:Int) _ η.2.dm (by have:=HB.out.2.2.1.m;omega)).mono ?_;rintro e w8 ⟨rfl,vv⟩;rw[XT HB.out.2.2.1.m i U6.out.1];have bz:Below W0.heap.size W0 w8:=η.1.trans (vv.mono η.1.size);have kz:=hid (tF.out.ab vv);clear vv;have vQ:=HB.out.1.ab bz
   try go_wp2_with fail
   refine hK.out _ _ (⟨bz,vQ⟩) fun η=>?_;clear hK K
   try simp only[Act.put,sA]
   clear bz vQ;refine bc 7 (fun K hK=>?_);skip;go_simp;go_at_call 10;refine (Ku D (k:Int) _ η.2.dm (by have:=HB.out.2.2.1.m;omega)).mono ?_;rintro e w9 ⟨rfl,vv⟩;rw[XT HB.out.2.2.1.m k U6.out.2];have bz:Below W0.heap.size W0 w9:=η.1.trans (vv.mono η.1.size);have TX:=hid (kz.out.ab vv);clear vv;have vQ:=HB.out.1.ab bz
   try go_wp2_with fail
   refine hK.out _ _ (⟨bz,vQ⟩) fun η=>?_;clear hK K
   try simp only[Act.put,sA]
   clear bz vQ
   (refine an 8 ?_;refine an 9 ?_;try simp only[Act.put,sA])
   refine bc 10 (fun K hK=>?_);skip;obtain⟨y0,y1⟩:=TX.out.cell k dE;go_simp;have SQ:=hid (TX.out.put k dE (mD D i != mD D k));have bz:Below W0.heap.size W0 (w9.setCell ⟨g,k,none⟩ (.bool (mD D i != mD D k))):=Tv.out.trans (SQ.out.aP.mono Dh);have vQ:=HB.out.1.ab bz
   try go_wp2_with fail
   refine hK.out _ _ (⟨bz,vQ⟩) fun η=>?_;clear hK K
   try simp only[Act.put,sA]
   clear bz vQ y0 y1;refine wpAnyH_done (by kernel_rfl) ?_ _;have HF:Hid (∃f,OB wo g N f _/\∀y,y<k+1->f y=A0 D i y):=(⟨_,SQ.out,zqL Hf.out⟩);clear η tF kz TX SQ;go_wp2;go_roundw
   ·exact⟨k+1,by go_num,by omega,HF.out⟩
   simp[intOf];omega
  obtain rfl:k=N:=by omega
  obtain⟨f,hO,hf⟩:=HF.out;obtain⟨gs,hA⟩:=HA.out;have HO:=hid hO;have Hf:=hid hf;have iX:=hid hA;have Dh:W0.heap.size<=wo.heap.size:=hA.aP.size;have hwq:=hO.aP.size;have k9:=al wr (.cells #[.slice (some ⟨g,0,none⟩) k k] 64);have wJ:=((hA.ab hO.aP).ab k9).gr.own;obtain⟨i9,BF,dv,cP,cG⟩:=info_parts uD;clear hO hf hA HF;go_wp2_with (at_builtin;refine wpList_append_own_at _ rfl _ _ 62 rfl W0.heap.size 64 i9 (.slice none 0 0) 1 24 underlying62 BF dv cP cG rfl (by decide) _ _ _ rfl wJ ⟨wr.heap.size,0,none⟩ 1 1 [.slice (some ⟨g,0,none⟩) k k] rfl rfl (cell_one_new _ _ _) ?d2 ?d3 ?d4 ?d5 ?_)
  case d2=>first|(intro u hu;simp at hu;subst hu;rfl)|rfl
  case d3=>unfold maxLen;omega
  case d4=>omega
  case d5=>first|(simp;omega)|omega
  intro v' w5 ah ag _ bJ;obtain⟨a5,c5,rfl⟩:=bP ah;have HN:=hid (iX.out.push HO.out (by omega) Hf.out k9 (fun _=>ah) ag);clear ah ag bJ wJ k9;go_wp2;go_roundw
  ·exact⟨i+1,by go_num,by omega,⟨_,_,rfl⟩,_,HN.out⟩
  simp[intOf];omega
 obtain rfl:i=N:=by omega
 obtain⟨gs,hA⟩:=HA.out;obtain⟨gO,cO,eO,_,_⟩:=hA.out (i:=0) (by omega);rw[eO];rw[eO] at hA;have ph:Hid (∃A,dU W0 i i (.slice (some ⟨gO,0,none⟩) i cO) gs A wo/\Ap C (tD D) (mD D) i 0 0 0 0 A):=⟨_,hA,zrh D i⟩
 clear hA eO HA fJ;have sr:Hid (∀x c,x<i->c<C->tD D x c<i):=fun x c _ hc=>by rw[<-hN];exact C3 HB.out.2.2.1 x c hc
 go_wp2;go_loopw [8,9,10,11] (fun v8 _ _ _ wq=>∃(r:Nat),v8=.int .i64 r/\r<=i/\Hid (∃A,dU W0 i i (.slice (some ⟨gO,0,none⟩) i cO) gs A wq/\Ap C (tD D) (mD D) i r 0 0 0 A)) (fun v _ _ _ _=>i-(intOf v).toNat)
 ·exact⟨0,rfl,by omega,ph.out⟩
 clear ph;obtain⟨r,rfl,hr,HP⟩:=hrel;by_cases J4:r<i
 ·have j2:(r:Int)<i:=by omega
  go_wp2;go_loopw [9,10,11] (fun v9 _ _ wq=>∃(x:Nat),v9=.int .i64 x/\x<=i/\Hid (∃A,dU W0 i i (.slice (some ⟨gO,0,none⟩) i cO) gs A wq/\Ap C (tD D) (mD D) i r x 0 0 A)) (fun v _ _ _=>i-(intOf v).toNat)
  ·exact⟨0,rfl,by omega,HP.out⟩
  clear HP;obtain⟨x,rfl,hx,HP⟩:=hrel;by_cases xn:x<i
  ·have j3:(x:Int)<i:=(by omega);go_wp2;go_loopw [10,11] (fun v10 _ wq=>∃(y:Nat),v10=.int .i64 y/\y<=i/\Hid (∃A,dU W0 i i (.slice (some ⟨gO,0,none⟩) i cO) gs A wq/\Ap C (tD D) (mD D) i r x y 0 A)) (fun v _ _=>i-(intOf v).toNat)
   ·exact⟨0,rfl,by omega,HP.out⟩
   clear HP;obtain⟨y,rfl,hy,HP⟩:=hrel;by_cases Co:y<i
   ·have j4:(y:Int)<i:=(by omega);go_wp2;go_loopw [11] (fun v11 wq=>∃(c:Nat),v11=.int .i64 c/\c<=C/\Hid (∃A,dU W0 i i (.slice (some ⟨gO,0,none⟩) i cO) gs A wq/\Ap C (tD D) (mD D) i r x y c A)) (fun v _=>C-(intOf v).toNat)
    ·exact⟨0,rfl,by omega,HP.out⟩
    clear HP;obtain⟨c,rfl,hc,HP⟩:=hrel;obtain⟨A,hP,YP⟩:=HP.out;have vQ:=HB.out.1.ab hP.aP;have f1:=vQ.f1;obtain⟨gN,oN,eN,ky,cN,_⟩:=vQ.dm.row 0 (by omega);rw[eN] at f1;rw[HB.out.2.2.1.len 0 (by omega)] at cN;simp only[Nat.add_zero] at cN;have cO1:=hP.cells xn;have cb:=(hP.cell xn Co).1;have fj:=hid hP;have yC:=hid YP;have vZ:=hid eN;clear hP YP vQ eN ky HP;by_cases lT:c<C
    ·have j5:(c:Int)<C:=(by omega);cases EG:A x y
     ·rw[EG] at cb;obtain⟨ti,NH⟩:∃ti,tD D x c=ti:=(⟨_,rfl⟩);obtain⟨tk,LW⟩:∃tk,tD D y c=tk:=(⟨_,rfl⟩);have Kh:ti<i:=(by rw[<-NH];exact sr.out x c xn lT);have OO:tk<i:=(by rw[<-LW];exact sr.out y c Co lT);have HT:=ζ NH LW;have Yr:=hid (yC.out.put sr.out xn Co lT EG);rw[NH,LW] at Yr;have cZ:Hid (∀A' W',dU W0 i i (.slice (some ⟨gO,0,none⟩) i cO) gs A' W'->Below W0.heap.size W0 W'/\bg W' b0 D/\W'.cell? ⟨gO,x,none⟩=some (.slice (some ⟨gs x,0,none⟩) i i)/\W'.cell? ⟨gO,ti,none⟩=some (.slice (some ⟨gs ti,0,none⟩) i i)):=(fun A' W' h=>⟨h.aP,HB.out.1.ab h.aP,h.cells xn,h.cells Kh⟩);have Hav:=hid EG;have ix:x<=D.n:=(by omega);have hyn:y<=D.n:=(by omega);have j6:(ti:Int)<i:=(by omega);have j7:(tk:Int)<i:=(by omega);clear NH LW EG;go_upto_region 24 with fail;have PW:=hid (fj.out.ab (Below.refl wr.heap.size wr).drew);refine wp_region_held_drew (S:=fun W'=>Below W0.heap.size W0 W'/\bg W' b0 D/\W'.cell? ⟨gO,x,none⟩=some (.slice (some ⟨gs x,0,none⟩) i i)/\W'.cell? ⟨gO,ti,none⟩=some (.slice (some ⟨gs ti,0,none⟩) i i)) (by kernel_rfl) (cZ.out _ _ PW.out) (fun η=>?_)
      (refine an 0 ?_;refine an 1 ?_;refine an 2 ?_;try simp only[Act.put,sA];refine an 3 ?_;refine an 4 ?_;refine an 5 ?_)
      (refine an 6 (v:=.agg D.cD) ?_ (hy:=by intro wz hSw;exact ob (o:=_) (ρ:=_) wz 29 (.tmp 1) rfl ⟨b0,0,none⟩ rfl D.cD _ (bg.st (And.left (And.right hSw))).part underlying29 rfl (bg.dm (And.left (And.right hSw))).info))
      (refine an 7 ?_;refine an 8 ?_)
      (refine an 12 (v:=.agg D.cD) ?_ (hy:=by intro wz hSw;exact ob (o:=_) (ρ:=_) wz 29 (.tmp 1) rfl ⟨b0,0,none⟩ rfl D.cD _ (bg.st (And.left (And.right hSw))).part underlying29 rfl (bg.dm (And.left (And.right hSw))).info))
      (refine an 13 ?_;refine an 14 ?_;try simp only[Act.put,sA])
      refine bc 9 (fun K hK=>?_);skip;go_simp;go_at_call 29;refine (MD D C HB.out.2.2.1 x c ix lT _ η.2.1.dm).mono ?_;rintro e w8 ⟨rfl,vv⟩;rw[HT.out.1];have rb:=hid (PW.out.ab vv);clear vv;have ym:=cZ.out _ _ rb.out
      try go_wp2_with fail
      refine hK.out _ _ (ym) fun η=>?_;clear hK K
      try simp only[Act.put,sA]
      clear ym
      (refine an 10 ?_;refine an 11 ?_;try simp only[Act.put,sA])
      refine bc 15 (fun K hK=>?_);skip;go_simp;go_at_call 29;refine (MD D C HB.out.2.2.1 y c hyn lT _ η.2.1.dm).mono ?_;rintro e w9 ⟨rfl,vv⟩;rw[HT.out.2];have EX:=hid (rb.out.ab vv);clear vv;have ym:=cZ.out _ _ EX.out
      try go_wp2_with fail
      refine hK.out _ _ (ym) fun η=>?_;clear hK K
      try simp only[Act.put,sA]
      clear ym
      (refine an 16 ?_;try simp only[Act.put,sA])
      refine bc 17 (fun K hK=>?_);skip;have z0:=(EX.out.cell Kh OO).1;go_simp;have ym:=cZ.out _ _ EX.out;refine hK.out _ _ (ym) fun η=>?_;clear hK K
      try simp only[Act.put,sA]
      clear ym z0
      (refine an 18 ?_;try simp only[Act.put,sA])
      refine bc 19 (fun K hK=>?_);skip;obtain⟨y0,y1⟩:=EX.out.cell xn Co;go_simp;have TZ:=hid (EX.out.put xn Co (A ti tk));have ym:=cZ.out _ _ TZ.out
      try go_wp2_with fail
      refine hK.out _ _ (ym) fun η=>?_;clear hK K
      try simp only[Act.put,sA]
      clear ym y0 y1;refine wpAnyH_done (by kernel_rfl) ?_ _;have HF:Hid (∃A,dU W0 i i (.slice (some ⟨gO,0,none⟩) i cO) gs A _/\Ap C (tD D) (mD D) i r x y (c+1) A):=(⟨_,TZ.out,Yr.out⟩);clear η PW rb EX TZ;go_wp2;go_roundw
      ·exact⟨c+1,by go_num,by omega,HF.out⟩
      simp[intOf];omega
     rw[EG] at cb;have O0:Hid (∃A,dU W0 i i (.slice (some ⟨gO,0,none⟩) i cO) gs A wr/\Ap C (tD D) (mD D) i r x (y+1) 0 A):=(⟨A,fj.out,yC.out.BM xn Co (inl EG)⟩);clear EG;go_wp2;go_roundw
     ·exact⟨y+1,by go_num,by omega,O0.out⟩
     simp[intOf];omega
    have O0:Hid (∃A,dU W0 i i (.slice (some ⟨gO,0,none⟩) i cO) gs A wr/\Ap C (tD D) (mD D) i r x (y+1) 0 A):=(⟨A,fj.out,yC.out.BM xn Co (inr (by omega))⟩);obtain rfl:c=C:=(by omega);go_wp2;go_roundw
    ·exact⟨y+1,by go_num,by omega,O0.out⟩
    simp[intOf];omega
   obtain rfl:y=i:=(by omega);have HNi:Hid (∃A,dU W0 y y (.slice (some ⟨gO,0,none⟩) y cO) gs A wr/\Ap C (tD D) (mD D) y r (x+1) 0 0 A):=by
    obtain⟨A,h1,h2⟩:=HP.out;exact⟨A,h1,h2.G9⟩
   go_wp2;go_roundw
   ·exact⟨x+1,by go_num,by omega,HNi.out⟩
   simp[intOf];omega
  obtain rfl:x=i:=by omega
  have HNr:Hid (∃A,dU W0 x x (.slice (some ⟨gO,0,none⟩) x cO) gs A wr/\Ap C (tD D) (mD D) x (r+1) 0 0 0 A):=by
   obtain⟨A,h1,h2⟩:=HP.out;exact⟨A,h1,h2.KN⟩
  go_wp2;go_roundw
  ·exact⟨r+1,by go_num,by omega,HNr.out⟩
  simp[intOf];omega
 obtain rfl:r=i:=by omega
 have HF:Hid (Vi D C w (.returned (.slice (some ⟨gO,0,none⟩) r cO)) wr):=by
  obtain⟨A,h1,h2⟩:=HP.out;refine⟨_,gs,A,rfl,?_,?_⟩
  ·rw[hN];exact h1.base (by rw[bW.out];exact HB.out.2.1)
  rw[hN];exact h2.done sr.out
 clear HP;go_wp2;go_ret;exact HF.out
theorem zdE(K:Nat->Nat)(C:Nat)(hC:qH K C)(hk:∀j,j<256->K j<256)(w:World):
  Calls prog 55 #[.agg (aU K)] w (tz (∀c,c<C->∃j,j<256/\K j=c) w):=by
 have BN:C<=256:=by
  obtain⟨j,hj,e⟩:=hC.2;have:=hk j hj;omega
 have HB:=φ (St.new w 25 (aU K)) (al w (.cells (aU K) 25)) hC hk hk;have dO:=vX K;clear hC hk;go_in;go_wp2_with fail;generalize w.alloc (.cells (aU K) 25)=W0 at HB⊢;generalize ay:w.heap.size=b0 at HB⊢;have bW:=hid ay;clear ay;have ur:=hid (Gd K C HB.out.2.2.1 HB.out.2.2.2.1 W0);refine wp_scope_straight (wp_seq (wp_label ?_));go_wp2_with (refine p5 rfl 25 _ rfl ⟨b0,0,none⟩ rfl (aU K) (.array 256 5) HB.out.1.dL underlying25 rfl dO ?_);refine ur.out.mono ?_;rintro e w1 ⟨rfl,b1⟩;have H1:=ζ (HB.out.1.ab b1) (HB.out.2.1.trans (b1.mono (by have:=HB.out.2.1.size;have:=bW.out;omega)));clear b1 ur;go_wp2;go_loopw [3,5,8,12] (fun _ _ v _ wr=>∃(c:Nat),v=.int .i64 c/\c<=C/\wr=w1/\Hid (∀c',c'<c->∃j,j<256/\K j=c')) (fun _ _ v _ _=>C-(intOf v).toNat)
 ·exact⟨0,rfl,by omega,rfl,fun c' h=>absurd h (by omega)⟩
 obtain⟨c,rfl,hc,rfl,JO⟩:=hrel;by_cases aq:c<C
 ·have i1:(c:Int)<C:=by omega
  obtain⟨W9,Un⟩:∃W9,W9=wr:=⟨wr,rfl⟩
  have ep:=hid H1.out.1;go_wp2_with (refine p5 rfl 25 _ rfl ⟨b0,0,none⟩ rfl (aU K) (.array 256 5) ep.out.dL underlying25 rfl dO ?_);go_loopw [5,12] (fun _ v wq=>∃(k:Nat),v=.int .i64 k/\k<=256/\wq=wr/\Hid (∀j,j<k->K j≠c)) (fun _ v _=>256-(intOf v).toNat)
  ·exact⟨0,rfl,by omega,rfl,fun j hj=>by omega⟩
  obtain⟨k,rfl,fm,rfl,HN⟩:=hrel;by_cases dE:k<256
  ·have i2:(k:Int)<256:=(by omega);have hv:=Ec K k dE;have Ai:=Mr 25 5 256 (aU K) k _ underlying25 dE (by kernel_rfl) ⟨_,underlying5,rfl⟩ hv wr;have tO:=HB.out.2.2.2.1 k dE;have HS:Hid (K k≠c->∀j,j<k+1->K j≠c):=fun h j hj=>by
    by_cases e:j=k
    ·subst e;exact h
    exact HN.out j (by omega)
   have HY:Hid (K k=c->∀c',c'<c+1->∃j,j<256/\K j=c'):=fun h c' hc'=>by
    by_cases e:c'=c
    ·exact⟨k,dE,by rw[h,e]⟩
    exact JO.out c' (by omega)
   generalize K k=y at hv Ai tO HS HY;by_cases e:y=c
   ·subst e;have HY2:=hid (HY.out rfl);clear HS HY;go_wp2;go_roundw
    ·exact⟨y+1,by go_num,by omega,by first|trivial|rfl,HY2⟩
    simp[intOf];omega
   have HZ:=hid (HS.out e);clear HY;have i3:¬((y:Int)=c):=(by omega);go_wp2;go_roundw
   ·exact⟨k+1,by go_num,by omega,by first|trivial|rfl,HZ⟩
   simp[intOf];omega
  obtain rfl:k=256:=by omega
  have HF:Hid (tz (∀c,c<C->∃j,j<256/\K j=c) w (.returned (.bool false)) wr):=⟨false,rfl,⟨(fun h=>by cases h),fun h=>by
   obtain⟨j,hj,e⟩:=h c aq
   exact absurd e (HN.out j hj)⟩,by rw[bW.out];exact H1.out.2⟩
  go_wp2_with fail
  try dsimp only[Exit.noGoto]
  go_ret;exact HF.out
 obtain rfl:c=C:=by omega
 go_wp2_with fail
 try dsimp only[Exit.noGoto]
 go_ret;exact⟨true,rfl,⟨fun _=>JO.out,fun _=>rfl⟩,by rw[bW.out];exact H1.out.2⟩
theorem zeJ(D:Dd)(hm:D.m<=100000)(hn:D.n<=100000)(w:World)(hD:DM w D):
  Calls prog 56 #[.agg D.cD] w (tz ((∀i,i<D.m->-1<=D.q i/\D.q i<32768)/\D.m=D.n) w):=by
 have HB:=ζ (bg.new hD) (al w (.cells D.cD 29));clear hD;go_in;go_upto_region 1 with fail;generalize w.alloc (.cells D.cD 29)=W0 at HB⊢;generalize ay:w.heap.size=b0 at HB⊢;have bW:=hid ay;clear ay;have f1:=HB.out.1.f1;have f2:=HB.out.1.f2;have Li:=hid (show Below w.heap.size w W0 by rw[bW.out];exact HB.out.2);go_wp2;go_loopw [4,8] (fun _ v wr=>∃(k:Nat),v=.int .i64 k/\k<=D.m/\wr=W0/\Hid (∀i,i<k->-1<=D.q i/\D.q i<32768)) (fun _ v _=>D.m-(intOf v).toNat)
 ·exact⟨0,rfl,by omega,rfl,fun i h=>absurd h (by omega)⟩
 obtain⟨k,rfl,hk,rfl,HK⟩:=hrel;by_cases aq:k<D.m
 ·obtain⟨gM,oM,eM,_,lJ⟩:=HB.out.1.dm.rM (by omega);have cM:=lJ k aq;have i1:(k:Int)<(D.m:Int):=by omega
  rw[eM];have NC:=hid eM;have HS:Hid (-1<=D.q k/\D.q k<32768->∀i,i<k+1->-1<=D.q i/\D.q i<32768):=fun h i hi=>by
   by_cases e:i=k
   ·subst e;exact h
   exact HK.out i (by omega)
  have gY:Hid ((∀i,i<D.m->-1<=D.q i/\D.q i<32768)->-1<=D.q k/\D.q k<32768):=fun h=>h k aq
  clear lJ eM;generalize D.q k=y at cM HS gY;by_cases h1:y < -1
  ·have i2:decide (y < -1)=true:=(by simp;omega);have HF:Hid (tz ((∀i,i<D.m->-1<=D.q i/\D.q i<32768)/\D.m=D.n) w (.returned (.bool false)) wr):=(⟨false,rfl,⟨(fun h=>by cases h),(fun h=>by have:=gY.out h.1;omega)⟩,Li.out⟩);clear HS gY;go_wp2;go_ret;exact HF.out
  have i2:decide (y < -1)=false:=by simp;omega
  by_cases h2:32768<=y
  ·have i3:decide (32768<=y)=true:=(by simp;omega);have HF:Hid (tz ((∀i,i<D.m->-1<=D.q i/\D.q i<32768)/\D.m=D.n) w (.returned (.bool false)) wr):=(⟨false,rfl,⟨(fun h=>by cases h),(fun h=>by have:=gY.out h.1;omega)⟩,Li.out⟩);clear HS gY;go_wp2;go_ret;exact HF.out
  have i3:decide (32768<=y)=false:=by simp;omega
  have oJ:=hid (HS.out ⟨by omega,by omega⟩);clear HS gY;go_wp2;go_roundw
  ·exact⟨k+1,by go_num,by omega,by first|trivial|rfl,oJ⟩
  simp[intOf];omega
 obtain rfl:k=D.m:=by omega
 by_cases jl:D.m=D.n
 ·have HF:Hid (tz ((∀i,i<D.m->-1<=D.q i/\D.q i<32768)/\D.m=D.n) w (.returned (.bool true)) wr):=⟨true,rfl,⟨fun _=>⟨HK.out,jl⟩,fun _=>rfl⟩,Li.out⟩
  have i4:((D.m:Int) == (D.n:Int))=true:=by simp;omega
  go_wp2;go_ret
  first|exact HF.out|(rw[i4];exact HF.out)|(simp only[jl] at *;simpa using HF.out)
 have HF:Hid (tz ((∀i,i<D.m->-1<=D.q i/\D.q i<32768)/\D.m=D.n) w (.returned (.bool false)) wr):=⟨false,rfl,⟨(fun h=>by cases h),fun h=>absurd h.2 jl⟩,Li.out⟩
 have i4:((D.m:Int) == (D.n:Int))=false:=by simp;omega
 go_wp2;go_ret
 first|exact HF.out|(rw[i4];exact HF.out)
theorem zfV(D:Dd)(C:Nat)(hC:qH D.K C)(hn:D.n<=32768)(hl:∀i,i<D.n->D.len i<=100000)(w:World)(hD:DM w D):
  Calls prog 57 #[.agg D.cD] w (tz (∀i,i<D.n->D.len i=C/\∀c,c<C->-1<=D.nx i c/\D.nx i c<(D.n:Int)) w):=by
 have tq:C<=256:=by
  obtain⟨j,hj,e⟩:=hC.2;have:=hD.kl j hj;omega
 have HB:=ψ (bg.new hD) (al w (.cells D.cD 29)) hC hl;have dO:=vX D.K;clear hD hC hl;go_in;go_upto_region 1 with fail;generalize w.alloc (.cells D.cD 29)=W0 at HB⊢;generalize ay:w.heap.size=b0 at HB⊢;have bW:=hid ay;clear ay;have ur:=hid (Gd D.K C HB.out.2.2.1 HB.out.1.dm.kl W0);go_wp2_with (refine p5 rfl 25 _ rfl ⟨b0,0,none⟩ rfl (aU D.K) (.array 256 5) HB.out.1.dL underlying25 rfl dO ?_);refine ur.out.mono ?_;rintro e w1 ⟨rfl,b1⟩;have H1:=ζ (HB.out.1.ab b1) (HB.out.2.1.trans (b1.mono (by have:=HB.out.2.1.size;have:=bW.out;omega)));have xU:Hid (∀W',Below w1.heap.size w1 W'->∀bo:Bool,(bo=true↔(∀i,i<D.n->D.len i=C/\∀c,c<C->-1<=D.nx i c/\D.nx i c<(D.n:Int)))->tz (∀i,i<D.n->D.len i=C/\∀c,c<C->-1<=D.nx i c/\D.nx i c<(D.n:Int)) w (.returned (.bool bo)) W'):=fun W' h bo hb=>⟨bo,rfl,hb,by
  rw[bW.out]
  exact H1.out.2.trans (h.mono (by have:=H1.out.2.size;have:=bW.out;omega))⟩
 have f1:=H1.out.1.f1;clear b1 ur;by_cases kT:D.n=0
 ·have HF:=hid (xU.out w1 (Below.refl _ _) true ⟨fun _ i hi=>absurd hi (by omega),fun _=>rfl⟩);rw[kT] at f1;go_wp2;go_loopw [5,7,14,24] (fun _ _ v _ wr=>v=.int .i64 0/\wr=w1) (fun _ _ v _ _=>0)
  ·exact⟨rfl,rfl⟩
  obtain⟨rfl,rfl⟩:=hrel;go_wp2;go_ret;exact HF.out
 obtain⟨gN,oN,eN,ky,pO⟩:=H1.out.1.dm.rN (by omega);rw[eN] at f1;have vZ:=hid eN;have sw:=hid pO;clear eN pO;go_wp2;go_loopw [5,7,14,24] (fun _ _ v _ wr=>∃(i:Nat),v=.int .i64 i/\i<=D.n/\Hid (Below w1.heap.size w1 wr)/\Hid (∀i',i'<i->D.len i'=C/\∀c,c<C->-1<=D.nx i' c/\D.nx i' c<(D.n:Int))) (fun _ _ v _ _=>D.n-(intOf v).toNat)
 ·exact⟨0,rfl,by omega,Below.refl _ _,fun i' h=>absurd h (by omega)⟩
 obtain⟨i,rfl,hi,HX,HI⟩:=hrel;clear f1;by_cases aq:i<D.n
 ·have cN:=(HX.out.cell (p:=⟨gN,oN+i,none⟩) ky).trans (sw.out i aq).1;have vG:=hid (sw.out i aq).2;have pV:=HB.out.2.2.2 i aq;by_cases hlen:D.len i=C
  rotate_left
  ·have HF:=hid (xU.out wr HX.out false ⟨(fun h=>by cases h),(fun h=>absurd (h i aq).1 hlen)⟩);obtain⟨ln,lC⟩:∃ln,D.len i=ln:=(⟨_,rfl⟩);rw[lC] at cN hlen pV;have i1:(i:Int)<(D.n:Int):=(by omega);have i2:((ln:Int) != (C:Int))=true:=by simp;omega
   try dsimp only at cN
   clear lC vG;go_wp2;go_ret;exact HF.out
  have HIs:Hid ((∀c,c<C->-1<=D.nx i c/\D.nx i c<(D.n:Int))->∀i',i'<i+1->D.len i'=C/\∀c,c<C->-1<=D.nx i' c/\D.nx i' c<(D.n:Int)):=fun h i' hi'=>by
   by_cases e:i'=i
   ·subst e;exact⟨hlen,h⟩
   exact HI.out i' (by omega)
  rw[hlen] at cN;rw[hlen] at vG;have i1:(i:Int)<(D.n:Int):=by omega
  try dsimp only at cN
  clear hlen;go_wp2;go_loopw [7,24] (fun _ v wq=>∃(c:Nat),v=.int .i64 c/\c<=C/\Hid (Below w1.heap.size w1 wq)/\Hid (∀c',c'<c->-1<=D.nx i c'/\D.nx i c'<(D.n:Int))) (fun _ v _=>C-(intOf v).toNat)
  ·exact⟨0,rfl,by omega,HX,fun c' h=>absurd h (by omega)⟩
  clear HX cN;obtain⟨c,rfl,hc,HX,JO⟩:=hrel;by_cases lT:c<C
  ·obtain⟨gA,oA,eA,Bm,lH⟩:=vG.out (by omega);have cA:=(HX.out.cell (p:=⟨gA,oA+c,none⟩) Bm).trans (lH c lT);have i2:(c:Int)<C:=(by omega);have kg:=hid (H1.out.1.ab HX.out);have HS:Hid (-1<=D.nx i c/\D.nx i c<(D.n:Int)->∀c',c'<c+1->-1<=D.nx i c'/\D.nx i c'<(D.n:Int)):=fun h c' hc'=>by
    by_cases e:c'=c
    ·subst e;exact h
    exact JO.out c' (by omega)
   have gY:Hid ((∀i,i<D.n->D.len i=C/\∀c,c<C->-1<=D.nx i c/\D.nx i c<(D.n:Int))->-1<=D.nx i c/\D.nx i c<(D.n:Int)):=(fun h=>(h i aq).2 c lT);rw[eA];have GJ:=hid eA;clear lH eA;generalize D.nx i c=t at cA HS gY;by_cases ht:t=-1
   ·subst ht;have oJ:=hid (HS.out ⟨by omega,by omega⟩);clear HS gY;go_wp2;go_roundw
    ·exact⟨c+1,by go_num,by omega,HX,oJ⟩
    simp[intOf];omega
   have Io:(t != (-1:Int))=true:=(by simp[ht]);have nb:=hid (Kc D t wr kg.out.dm);by_cases zk:0<=t/\t<(D.n:Int)
   ·have J5:Hid (decide (0<=t/\t<(D.n:Int))=true):=(by show _=_;simp;omega);have oJ:=hid (HS.out ⟨by omega,by omega⟩);clear HS gY;go_wp2_with (refine js (by first|rfl|(simp[ht];done)) 29 _ rfl ⟨b0,0,none⟩ rfl D.cD _ kg.out.st.part underlying29 rfl kg.out.dm.info ?_);refine nb.out.mono ?_;rintro e w5 ⟨rfl,b5⟩;have Th:=hid (HX.out.trans (b5.mono HX.out.size));rw[J5.out];clear b5 nb;go_wp2;go_roundw
    ·exact⟨c+1,by go_num,by omega,Th,oJ⟩
    simp[intOf];omega
   have J5:Hid (decide (0<=t/\t<(D.n:Int))=false):=(by show _=_;simp;omega);have oJ:Hid (¬(∀i,i<D.n->D.len i=C/\∀c,c<C->-1<=D.nx i c/\D.nx i c<(D.n:Int))):=(fun h=>by have:=gY.out h;omega);clear HS gY;go_wp2_with (refine js (by first|rfl|(simp[ht];done)) 29 _ rfl ⟨b0,0,none⟩ rfl D.cD _ kg.out.st.part underlying29 rfl kg.out.dm.info ?_);refine nb.out.mono ?_;rintro e w5 ⟨rfl,b5⟩;have HF:=hid (xU.out w5 (HX.out.trans (b5.mono HX.out.size)) false ⟨(fun h=>by cases h),(fun h=>absurd h oJ.out)⟩);rw[J5.out];clear b5 nb;go_wp2;go_ret;exact HF.out
  obtain rfl:c=C:=by omega
  have oJ:=hid (HIs.out JO.out);go_wp2;go_roundw
  ·exact⟨i+1,by go_num,by omega,HX,oJ⟩
  simp[intOf];omega
 obtain rfl:i=D.n:=by omega
 have HF:=hid (xU.out wr HX.out true ⟨fun _=>HI.out,fun _=>rfl⟩);go_wp2;go_ret;exact HF.out
theorem zi7{K:Nat->Nat}{C':Nat}(h:qH K C)(h':qH K C'):C=C':=by
 obtain⟨j,hj,e⟩:=h.2;obtain⟨j',Bh,e'⟩:=h'.2;have h1:=h.1 j' Bh;have h2:=h'.1 j hj;omega
theorem zj5(D:Dd)(hn:D.n<=32768)(hm:D.m<=100000)(hl:∀i,i<D.n->D.len i<=100000)(w:World)(hD:DM w D):
  Calls prog 34 #[.agg D.cD] w (tz (∃C,DR D C) w):=by
 obtain⟨C,hC⟩:=Ys D.K;have HB:=ψ (bg.new hD) (al w (.cells D.cD 29)) hC hl;have dO:=vX D.K;clear hD hC hl;go_in;go_upto_region 1 with fail;generalize w.alloc (.cells D.cD 29)=W0 at HB⊢;generalize ay:w.heap.size=b0 at HB⊢;have bW:=hid ay;clear ay;have f1:=HB.out.1.f1;have oV:b0<=W0.heap.size:=by have:=HB.out.2.1.size;have:=bW.out;omega
 have xU:Hid (∀W',Below W0.heap.size W0 W'->∀bo:Bool,(bo=true↔∃C,DR D C)->tz (∃C,DR D C) w (.returned (.bool bo)) W'):=fun W' h bo hb=>⟨bo,rfl,hb,by
  rw[bW.out]
  exact HB.out.2.1.trans (h.mono oV)⟩
 by_cases da:D.n<1
 ·have HF:=hid (xU.out W0 (Below.refl _ _) false ⟨(fun h=>by cases h),(fun h=>by
   obtain⟨C',h⟩:=h
   have:=h.n1
   omega)⟩)
  have i1:((D.n:Int)<1):=by omega
  go_wp2;go_ret;exact HF.out
 have i1:¬((D.n:Int)<1):=by omega
 have i2:¬((32768:Int)<(D.n:Int)):=by omega
 have KG:=hid (zdE D.K C HB.out.2.2.1 HB.out.1.dm.kl W0);go_wp2_with (refine p5 rfl 25 _ rfl ⟨b0,0,none⟩ rfl (aU D.K) (.array 256 5) HB.out.1.dL underlying25 rfl dO ?_);refine KG.out.mono ?_;rintro e w1 ⟨bo,rfl,mW,b1⟩;have Hg:=hid mW;have H1:=ζ (HB.out.1.ab b1) b1;have Fa:=hid (zeJ D hm (by omega) w1 H1.out.1.dm);clear b1 KG mW;rcases bo with _|_
 ·have HF:=hid (xU.out w1 H1.out.2 false ⟨(fun h=>by cases h),(fun h=>by
   obtain⟨C',h⟩:=h
   have e:=zi7 h.c HB.out.2.2.1
   subst e
   exact Hg.out.2 h.xj)⟩)
  clear f1;go_wp2;go_ret;exact HF.out
 clear f1;go_wp2_with (refine js (by rfl) 29 _ rfl ⟨b0,0,none⟩ rfl D.cD _ H1.out.1.st.part underlying29 rfl H1.out.1.dm.info ?_);refine Fa.out.mono ?_;rintro e w2 ⟨bo,rfl,mW,b2⟩;have Hq:=hid mW;have H2:=ζ (H1.out.1.ab b2) (H1.out.2.trans (b2.mono H1.out.2.size));have zW:=hid (zfV D C HB.out.2.2.1 hn HB.out.2.2.2 w2 H2.out.1.dm);clear b2 Fa mW;rcases bo with _|_
 ·have HF:=hid (xU.out w2 H2.out.2 false ⟨(fun h=>by cases h),(fun h=>by
   obtain⟨C',h⟩:=h
   exact Hq.out.2 ⟨fun i hi=>h.q i (by have:=h.m;omega),h.m⟩)⟩)
  go_wp2;go_ret;exact HF.out
 go_wp2_with (refine js (by rfl) 29 _ rfl ⟨b0,0,none⟩ rfl D.cD _ H2.out.1.st.part underlying29 rfl H2.out.1.dm.info ?_);refine zW.out.mono ?_;rintro e w3 ⟨bo,rfl,mW,b3⟩;have HF:=hid (xU.out w3 (H2.out.2.trans (b3.mono H2.out.2.size)) bo ⟨(fun h=>by
  have h3:=mW.1 h
  have h2:=Hq.out.1 (by first|rfl|trivial)
  exact⟨C,HB.out.2.2.1,by omega,hn,h2.2,Hg.out.1 (by first|rfl|trivial),fun i hi=>(h3 i hi).1,fun i hi=>h2.1 i (by have:=h2.2;omega),fun i c hi hc=>(h3 i hi).2 c hc⟩),(fun h=>by
  obtain⟨C',h⟩:=h
  have e:=zi7 h.c HB.out.2.2.1
  subst e
  exact mW.2 (fun i hi=>⟨h.len i hi,fun c hc=>h.nx i c hi hc⟩))⟩)
 clear b3 zW mW;go_wp2;go_ret;exact HF.out
theorem zfP(D:Dd)(C:Nat)(hR:DR D C)(Fo:∀i k,i<D.n->k<i->¬jH C (tD D) (mD D) i k)(Be:1<D.n->∀i,i<D.n->¬jH C (tD D) (mD D) i D.n)(w:World)(hD:DM w D):
  Calls prog 14 #[.agg D.cD] w fun e w'=>e=.returned (.bool true)/\Below w.heap.size w w':=by
 have HB:=φ (bg.new hD) (al w (.cells D.cD 29)) hR Fo Be;have cU:=hR.n2;have da:=hR.n1;clear hD hR Fo Be;go_in;go_upto_region 1 with fail;generalize w.alloc (.cells D.cD 29)=W0 at HB⊢;obtain⟨b0,ay⟩:∃b0,w.heap.size=b0:=⟨_,rfl⟩
 have bW:=hid ay;rw[ay] at HB;rw[ay];have oV:b0<=W0.heap.size:=by have:=HB.out.2.1.size;omega
 clear ay;have yC:=hid (zj1 D C HB.out.2.2.1 W0 HB.out.1.dm);go_wp2_with (refine js (by rfl) 29 _ rfl ⟨b0,0,none⟩ rfl D.cD _ HB.out.1.st.part underlying29 rfl HB.out.1.dm.info ?_);refine yC.out.mono ?_;rintro e w1 ⟨vO,gs,A,rfl,hA,hEq⟩;have H1:=ζ (HB.out.1.ab hA.aP) (HB.out.2.1.trans (hA.aP.mono oV));have eQ:b0<=w1.heap.size:=by have:=hA.aP.size;omega
 obtain⟨gO,cO,rfl,_,_⟩:=hA.out (i:=0) (by omega);have HA:=hid hA;have HE:=hid hEq;have mh:Hid (∀W',Below w1.heap.size w1 W'->Below w.heap.size w W'):=fun W' h=>by
  rw[bW.out];exact H1.out.2.trans (h.mono eQ)
 obtain⟨N,hN⟩:∃N,D.n+1=N:=⟨_,rfl⟩
 have HN:=hid hN;have HC:Hid (∀W',Below w1.heap.size w1 W'->∀i k,i<N->k<N->W'.cell? ⟨gO,i,none⟩=some (.slice (some ⟨gs i,0,none⟩) N N)/\W'.cell? ⟨gs i,k,none⟩=some (.bool (A i k))):=fun W' h i k hi hk=>by
  have h9:=HA.out.ab h;rw[HN.out] at h9;exact⟨h9.cells hi,(h9.cell hi hk).1⟩
 have EN:Hid (∀W',Below w1.heap.size w1 W'->W'.cell? ⟨b0,256,none⟩=some (.slice D.aN D.n D.cN)):=fun W' h=>(H1.out.1.ab h).f1
 have hnN:D.n<N:=by omega
 rw[hN];clear hA hEq yC hN;go_wp2;go_loopw [4,5] (fun v _ wr=>∃(i:Nat),v=.int .i64 i/\i<=D.n/\Hid (Below w1.heap.size w1 wr)) (fun v _ _=>D.n-(intOf v).toNat)
 ·exact⟨0,rfl,by omega,Below.refl _ _⟩
 obtain⟨i,rfl,hi,HL⟩:=hrel;have f1:=EN.out wr HL.out;by_cases aq:i<D.n
 ·have i1:(i:Int)<(D.n:Int):=by omega
  have i2:(i:Int)<N:=by omega
  go_wp2;go_loopw [5] (fun v wq=>∃(k:Nat),v=.int .i64 k/\k<=i/\wq=wr) (fun v _=>i-(intOf v).toNat)
  ·exact⟨0,rfl,by omega,rfl⟩
  obtain⟨k,rfl,hk,rfl⟩:=hrel;by_cases dE:k<i
  ·obtain⟨c1,c2⟩:=HC.out wr HL.out i k (by omega) (by omega);have hA:A i k=true:=(HE.out i k (by have:=HN.out;omega) (by have:=HN.out;omega)).2 (HB.out.2.2.2.1 i k aq dE);rw[hA] at c2;have i3:(k:Int)<i:=(by omega);have i4:(k:Int)<N:=(by omega);clear hA;go_wp2;go_roundw
   ·exact⟨k+1,by go_num,by omega,by first|trivial|rfl⟩
   simp[intOf];omega
  obtain rfl:k=i:=by omega
  obtain⟨c1,c2⟩:=HC.out wr HL.out k D.n (by omega) hnN;have i4:(D.n:Int)<(N:Int):=by omega
  cases hA:A k D.n
  ·have hn:¬(1<D.n):=fun h=>by
    have:=(HE.out k D.n (by omega) (by omega)).2 (HB.out.2.2.2.2 h k aq);rw[hA] at this;cases this
   rw[hA] at c2;clear hA;have i5:¬((1:Int)<(D.n:Int)):=(by omega);go_wp2_with fail;go_quiet (fail);rename_i nq;have pL:Hid (Below w1.heap.size w1 (wr.drewN nq)):=below_drewN HL.out _;go_wp2;go_roundw
   ·exact⟨k+1,by go_num,by omega,pL.out⟩
   simp[intOf];omega
  rw[hA] at c2;clear hA;go_wp2_with fail;go_quiet (fail);rename_i nq;have pL:Hid (Below w1.heap.size w1 (wr.drewN nq)):=below_drewN HL.out _;go_wp2;go_roundw
  ·exact⟨k+1,by go_num,by omega,pL.out⟩
  simp[intOf];omega
 obtain rfl:i=D.n:=by omega
 have HF:=hid (mh.out wr HL.out);go_wp2;go_ret;exact⟨rfl,HF.out⟩
theorem zjV(hm:D.m=D.n)(i:Int):kj D i=bu D i:=by unfold kj bu;rw[hm]
theorem Mn.PY(h:Mn X C):∀i k,i<X.n->k<i->¬jH C (tD X) (mD X) i k:=fun i k hi hk he=>by
 rw[SG h.r,DQ hi,DQ (by omega)] at he
 have:=h.apart i k hi (by omega) he
 omega
theorem Mn.SW(h:Mn X C):1<X.n->∀i,i<X.n->¬jH C (tD X) (mD X) i X.n:=fun h1 i hi he=>by
 rw[SG h.r,DQ hi,ON] at he
 have key:∀j,1<=j->j<X.n->¬eK X j X (-1):=fun j hj1 hj hb=>by
  have h2:=h.ord.PG h.r hj
  cases h2 with
  | base e=>omega
  | @step x y hx e=>
   obtain⟨ix,c,hc,e2⟩:=e
   rw[h.r.len x ix] at hc
   exact h.A5 x c ix hc (by rw[e2];omega) (by rw[e2];exact hb)
 by_cases e:i=0
 ·subst e
  have h2:=h.ord.PG h.r h1
  have Qy:∀y,jI (Ed X) (fun y=>y=0) y->y<X.n->y=0\/∃c,c<C/\X.nx 0 c≠-1:=by
   intro y hy
   induction hy with
   | base e=>exact fun _=>inl e
   | @step x y _ e ih=>
    intro _
    rcases ih e.1 with h3|h3
    ·subst h3
     obtain⟨ix,c,hc,e2⟩:=e
     rw[h.r.len 0 ix] at hc
     exact inr ⟨c,hc,by rw[e2];omega⟩
    ·exact inr h3
  rcases Qy 1 h2 h1 with h3|⟨c,hc,hne⟩
  ·omega
  ·obtain⟨b,hb,rfl⟩:=h.r.xj c hc
   have h4:=he.step hb
   rw[um _ hi,qW] at h4
   exact h.A5 0 _ hi hc hne h4
 ·exact key i (by omega) hi he
theorem zhM(D:Dd)(U2:∃C,DR D C)(w:World)(hD:DM w D)(hn:D.n<=32768)(hm:D.m<=32768)(hl:∀i,i<D.n->D.len i<=256):
  Calls prog 9 #[.agg D.cD] w (tz (∃C,DR D C) w):=by
 obtain⟨C,hC⟩:=Ys D.K;have BN:C<=256:=by
  obtain⟨j,hj,e⟩:=hC.2;have:=hD.kl j hj;omega
 have HC:=hid hC;have QJ:=hid U2;clear U2;have HB:=ξ (bg.new hD) (al w (.cells D.cD 29)) hl;clear hC hD hl;go_in;go_upto_region 1 with fail;generalize w.alloc (.cells D.cD 29)=W0 at HB⊢;obtain⟨b0,ay⟩:∃b0,w.heap.size=b0:=⟨_,rfl⟩
 rw[ay] at HB;rw[ay];have bW:=hid ay;clear ay;have f1:=HB.out.1.f1;have f2:=HB.out.1.f2;by_cases da:D.n<1
 ·go_wp2;go_ret;exact⟨false,rfl,⟨(fun h=>by cases h),(fun h=>by
   obtain⟨C9,h9⟩:=h
   have:=h9.n1
   omega)⟩,by rw[bW.out];exact HB.out.2.1⟩
 have i1:¬((D.n:Int)<1):=by omega
 have i2:¬((32768:Int)<(D.n:Int)):=by omega
 by_cases jl:D.m=D.n
 rotate_left
 ·have i3:¬((D.m:Int)=(D.n:Int)):=by omega
  go_wp2;go_ret;exact⟨false,rfl,⟨(fun h=>by cases h),(fun h=>by
   obtain⟨C9,h9⟩:=h
   exact absurd h9.m jl)⟩,by rw[bW.out];exact HB.out.2.1⟩
 have IY:=hid jl;rw[jl] at f2;have HG:=hid (zhg D C HC.out W0 HB.out.1.dm);clear jl;go_wp2_with (refine js (by rfl) 29 _ rfl ⟨b0,0,none⟩ rfl D.cD _ HB.out.1.st.part underlying29 rfl HB.out.1.dm.info ?_);refine HG.out.mono ?_;rintro e w1 ⟨bo,rfl,mW,b1⟩;have H1:=ζ (HB.out.1.ab b1) (HB.out.2.1.trans (b1.mono (by have:=HB.out.2.1.size;have:=bW.out;omega)));have Sj:=hid mW;clear b1 mW HG f1 f2;rcases bo with _|_
 ·go_wp2;go_ret;exact⟨false,rfl,⟨(fun h=>by cases h),(fun h=>by
   obtain⟨C9,h9⟩:=h
   have e:=qH.uniq h9.c HC.out
   subst e
   exact Sj.out.2 h9.xj)⟩,by rw[bW.out];exact H1.out.2⟩
 have Ri:=hid (Sj.out.1 rfl);clear Sj;obtain⟨W1,p8⟩:∃W1,w1=W1:=⟨_,rfl⟩
 rw[p8] at H1;rw[p8];clear p8;go_wp2;go_loopw [4,5] (fun v _ wr=>∃(i:Nat),v=.int .i64 i/\i<=D.n/\Hid (Below W1.heap.size W1 wr/\∀i',i'<i->Oy D C i')) (fun v _ _=>D.n-(intOf v).toNat)
 ·exact⟨0,rfl,by omega,⟨Below.refl _ _,fun i' h=>by omega⟩⟩
 obtain⟨i,rfl,hi,HX⟩:=hrel;have kg:=hid (H1.out.1.ab HX.out.1);have oY:Hid (∀W',Below wr.heap.size wr W'->Below w.heap.size w W'):=fun W' h=>by
  rw[bW.out];have h1:b0<=W1.heap.size:=by have:=H1.out.2.size;have:=bW.out;omega
  have h2:=HX.out.1.size;exact H1.out.2.trans ((HX.out.1.trans (h.mono h2)).mono h1)
 by_cases aq:i<D.n
 ·obtain⟨gN,oN,eN,ky,cN,zN⟩:=kg.out.dm.row i aq;obtain⟨gM,oM,eM,pW,lJ⟩:=kg.out.dm.rM (by have:=IY.out;omega);have cM:=lJ i (by have:=IY.out;omega);clear lJ;have f1:=kg.out.f1;have f2:=kg.out.f2;rw[eN] at f1;rw[eM] at f2;have pV:=HB.out.2.2 i aq;have i3:(i:Int)<(D.n:Int):=by omega
  have i4:(i:Int)<(D.m:Int):=by have:=IY.out;omega
  have Lh:Hid (D.len i=C->(-1<=D.q i/\D.q i<32768)->(∀c,c<C->-1<=D.nx i c/\D.nx i c<(D.n:Int))->∀i',i'<i+1->Oy D C i'):=fun h1 h2 h3 i' hi'=>by
   by_cases e:i'=i
   ·subst e;exact⟨h1,h2,h3⟩
   exact HX.out.2 i' (by omega)
  have J7:Hid ((∃C',DR D C')->D.len i=C/\-1<=D.q i/\D.q i<32768):=fun h=>by
   obtain⟨C9,h9⟩:=h;have e:=qH.uniq h9.c HC.out;subst e;exact⟨h9.len i aq,h9.q i aq⟩
  have p9:Hid ((∃C',DR D C')->∀c,c<C->-1<=D.nx i c/\D.nx i c<(D.n:Int)):=fun h=>by
   obtain⟨C9,h9⟩:=h;have e:=qH.uniq h9.c HC.out;subst e;exact fun c hc=>h9.nx i c aq hc
  have vG:=hid zN;generalize D.len i=ln at cN Lh pV vG J7;generalize D.A i=ai at cN vG;generalize D.Cp i=ci at cN;generalize hy:D.q i=y at cM Lh J7;have cZ:Hid (∀W',Below wr.heap.size wr W'->Below wr.heap.size wr W'/\bg W' b0 D/\W'.cell? ⟨b0,256,none⟩=some (.slice (some ⟨gN,oN,none⟩) D.n D.cN)/\W'.cell? ⟨gN,oN+i,none⟩=some (.slice ai ln ci)/\W'.cell? ⟨b0,257,none⟩=some (.slice (some ⟨gM,oM,none⟩) D.m D.cM)/\W'.cell? ⟨gM,oM+i,none⟩=some (.int .i64 y)):=fun W' h=>
   ⟨h,kg.out.ab h,(h.cell (p:=⟨b0,256,none⟩) kg.out.st.lt).trans f1,(h.cell (p:=⟨gN,oN+i,none⟩) ky).trans cN,(h.cell (p:=⟨b0,257,none⟩) kg.out.st.lt).trans f2,(h.cell (p:=⟨gM,oM+i,none⟩) pW).trans cM⟩
  have vZ:=hid eN;have NC:=hid eM;have HmM:=hid IY.out;clear eN eM hy zN ky pW f1 f2 cN cM;go_upto_region 7 with fail;by_cases e1:ln=C
  rotate_left
  ·exact absurd (J7.out QJ.out).1 e1
  subst e1;have i7:((ln:Int) != (ln:Int))=false:=by simp
  have AT:=hid (Lh.out rfl);clear Lh;by_cases e2:y < -1
  ·have:=J7.out QJ.out;omega
  by_cases e3:32768<=y
  ·have:=J7.out QJ.out;omega
  have i5:decide (y < -1)=false:=by simp;omega
  have i6:decide (32768<=y)=false:=by simp;omega
  have HRm:=hid (AT.out ⟨by omega,by omega⟩);clear AT;refine wp_region_held_drew (S:=fun W'=>Below wr.heap.size wr W'/\bg W' b0 D/\W'.cell? ⟨b0,256,none⟩=some (.slice (some ⟨gN,oN,none⟩) D.n D.cN)/\W'.cell? ⟨gN,oN+i,none⟩=some (.slice ai ln ci)/\W'.cell? ⟨b0,257,none⟩=some (.slice (some ⟨gM,oM,none⟩) D.m D.cM)/\W'.cell? ⟨gM,oM+i,none⟩=some (.int .i64 y)) (by kernel_rfl) (cZ.out _ (Below.refl _ _).drew) (fun η=>?_)
  (refine an 0 ?_;refine an 1 ?_;refine an 2 ?_;try simp only[Act.put,sA];refine an 3 ?_;refine an 4 ?_;refine an 5 ?_)
  (refine an 6 (v:=.agg D.cD) ?_ (hy:=by intro wz hSw;exact ob (o:=_) (ρ:=_) wz 29 (.tmp 1) rfl ⟨b0,0,none⟩ rfl D.cD _ (bg.st (And.left (And.right hSw))).part underlying29 rfl (bg.dm (And.left (And.right hSw))).info);try simp only[Act.put,sA])
  refine bc 7 (fun K hK=>?_);skip;go_simp;go_at_call 26;refine (VK D ln HC.out _ η.2.1.dm).mono ?_;rintro e wj ⟨rfl,vj⟩;have bz:Below wr.heap.size wr wj:=η.1.trans (vj.mono η.1.size);clear vj
  try go_wp2_with fail
  refine hK.out _ _ (cZ.out _ bz) fun η=>?_;clear hK K bz
  try simp only[Act.put,sA]
  (refine an 8 ?_;refine an 9 ?_;refine an 10 ?_;try simp only[Act.put,sA];refine an 11 ?_;refine an 12 ?_;refine an 13 ?_;try simp only[Act.put,sA];refine an 14 ?_;refine an 15 ?_;refine an 16 ?_;try simp only[Act.put,sA];refine an 17 ?_;refine an 18 ?_;refine an 19 ?_;try simp only[Act.put,sA];refine an 20 ?_;refine an 21 ?_;refine an 22 ?_;try simp only[Act.put,sA];refine an 23 ?_;refine an 24 ?_;try simp only[Act.put,sA])
  refine wpAnyH_done (by kernel_rfl) ?_ _;have E3:=hid η.1;clear η;obtain⟨W7,Dq⟩:∃W7,wj=W7:=⟨_,rfl⟩
  rw[Dq] at E3;rw[Dq];clear Dq;have HZ7:=hid (vG.out.below E3.out);have HS7:=hid (cZ.out _ E3.out);clear cZ;go_wp2;go_loopw [5] (fun v wq=>∃(c:Nat),v=.int .i64 c/\c<=ln/\wq=W7/\Hid (∀c',c'<c->-1<=D.nx i c'/\D.nx i c'<(D.n:Int))) (fun v _=>ln-(intOf v).toNat)
  ·exact⟨0,rfl,by omega,rfl,fun c' h=>by omega⟩
  obtain⟨c,rfl,hc,rfl,HY⟩:=hrel;obtain⟨_,_,g1,g2,_,_⟩:=HS7.out;by_cases lT:c<ln
  ·obtain⟨gA,oA,rfl,_,lH⟩:=HZ7.out (by omega);have cA:=lH c lT;clear lH;have i7:(c:Int)<ln:=(by omega);have Wx:Hid ((-1<=D.nx i c/\D.nx i c<(D.n:Int))->∀c',c'<c+1->-1<=D.nx i c'/\D.nx i c'<(D.n:Int)):=fun h c' hc'=>by
    by_cases e:c'=c
    ·subst e;exact h
    exact HY.out c' (by omega)
   have QY:Hid ((∃C',DR D C')->-1<=D.nx i c/\D.nx i c<(D.n:Int)):=(fun h=>p9.out h c lT);generalize D.nx i c=t at cA Wx QY;by_cases e4:t < -1
   ·have i8:decide (t < -1)=true:=(by simp;omega);have rL:=hid (oY.out _ E3.out);go_wp2;go_ret;exact⟨false,rfl,⟨(fun h=>by cases h),(fun h=>by have:=QY.out h;omega)⟩,rL.out⟩
   by_cases e5:(D.n:Int)<=t
   ·have i8:decide (t < -1)=false:=(by simp;omega);have i9:decide ((D.n:Int)<=t)=true:=(by simp;omega);have rL:=hid (oY.out _ E3.out);go_wp2;go_ret;exact⟨false,rfl,⟨(fun h=>by cases h),(fun h=>by have:=QY.out h;omega)⟩,rL.out⟩
   have i8:decide (t < -1)=false:=(by simp;omega);have i9:decide ((D.n:Int)<=t)=false:=(by simp;omega);have HZ:=hid (Wx.out ⟨by omega,by omega⟩);go_wp2;go_roundw
   ·exact⟨c+1,by go_num,by omega,by first|trivial|rfl,HZ⟩
   simp[intOf];omega
  obtain rfl:c=ln:=by omega
  have lP:Hid (Below W1.heap.size W1 wr/\∀i',i'<i+1->Oy D c i'):=⟨HX.out.1.trans (E3.out.mono HX.out.1.size),HRm.out HY.out⟩
  go_wp2;go_roundw
  ·exact⟨i+1,by go_num,by omega,lP⟩
  simp[intOf];omega
 obtain rfl:i=D.n:=by omega
 have rL:=hid (oY.out wr (Below.refl _ _));have HDR:Hid (∃C,DR D C):=⟨C,HC.out,by omega,by omega,IY.out,Ri.out,fun i h=>(HX.out.2 i h).1,fun i h=>(HX.out.2 i h).2.1,fun i c h1 h2=>(HX.out.2 i h1).2.2 c h2⟩
 go_wp2;go_ret;exact⟨true,rfl,⟨fun _=>HDR.out,fun _=>rfl⟩,rL.out⟩
theorem znj(hN:fD (iD D D.n) 256 D.K C){b m:Nat}(hb:b<256)(h1:∀j,j<b->D.K j<m)(h2:∀c,c<m->∃j,j<b/\D.K j=c):D.K b<=m:=by
 refine Nat.le_of_not_lt fun aq=>?_
 have hC:=hN.lt b hb;obtain⟨i,hi,e,h3⟩:=hN.new m (by omega);rcases Nat.lt_trichotomy i b with h|h|h
 ·have:=h1 i h;omega
 ·subst h;omega
 have:=h3 b h;omega
theorem zlv(hR:DR D C)(hN:fD (iD D D.n) 256 D.K C)(hc:c<C)(hk:k<c):¬∀i,i<D.n->tD D i c=tD D i k:=by
 intro h;obtain⟨a,ha,ea,_⟩:=hN.new c hc;obtain⟨b,hb,eb,_⟩:=hN.new k (by omega);have h2:=(hN.same a b ha hb).2 (fun i hi=>by
  rw[ea,eb]
  have h3:=h i hi
  have x1:=hR.nx i c hi hc
  have x2:=hR.nx i k hi (by omega)
  unfold tD at h3
  split at h3 <;> split at h3 <;> omega)
 omega
theorem zhN(D:Dd)(C:Nat)(hR:DR D C)(hN:fD (iD D D.n) 256 D.K C)(w:World)(hD:DM w D):
  Calls prog 15 #[.agg D.cD] w fun e w'=>e=.returned (.bool true)/\Below w.heap.size w w':=by
 have HB:=ψ (bg.new hD) (al w (.cells D.cD 29)) hR hN;have cU:=hR.n2;have da:=hR.n1;have tq:=(hR.il hD.kl).2;clear hD hR hN;go_in;go_upto_region 1 with fail;generalize w.alloc (.cells D.cD 29)=W0 at HB⊢;obtain⟨b0,ay⟩:∃b0,w.heap.size=b0:=⟨_,rfl⟩
 have bW:=hid ay;rw[ay] at HB;rw[ay];have oV:b0<=W0.heap.size:=by have:=HB.out.2.1.size;omega
 clear ay;have mh:Hid (∀W',Below W0.heap.size W0 W'->Below w.heap.size w W'):=fun W' h=>by
  rw[bW.out];exact HB.out.2.1.trans (h.mono oV)
 have cZ:Hid (∀W',Below W0.heap.size W0 W'->Below W0.heap.size W0 W'/\bg W' b0 D):=fun W' h=>⟨h,HB.out.1.ab h⟩
 go_wp2;go_loopw [3,4] (fun v3 v wr=>∃(b m:Nat),v=.int .i64 b/\v3=.int .i64 m/\b<=256/\m<=b/\W0=wr/\Hid ((∀j,j<b->D.K j<m)/\∀c,c<m->∃j,j<b/\D.K j=c)) (fun _ v _=>256-(intOf v).toNat)
 ·exact⟨0,0,rfl,rfl,by omega,by omega,rfl,fun j hj=>absurd hj (by omega),fun c hc=>absurd hc (by omega)⟩
 obtain⟨b,m,rfl,rfl,hb,hm,rfl,HI⟩:=hrel;by_cases aq:b<256
 ·have f0:=HB.out.1.f0 b aq;have tO:=HB.out.1.dm.kl b aq;have hle:=znj HB.out.2.2.2 aq HI.out.1 HI.out.2;have i1:(b:Int)<256:=by omega
  have HS:Hid (D.K b<m->(∀j,j<b+1->D.K j<m)/\∀c,c<m->∃j,j<b+1/\D.K j=c):=fun h=>⟨fun j hj=>by
   by_cases e:j=b
   ·subst e;exact h
   ·exact HI.out.1 j (by omega),fun c hc=>by
   obtain⟨j,hj,e⟩:=HI.out.2 c hc
   exact⟨j,by omega,e⟩⟩
  have HT:Hid (D.K b=m->(∀j,j<b+1->D.K j<m+1)/\∀c,c<m+1->∃j,j<b+1/\D.K j=c):=fun h=>⟨fun j hj=>by
   by_cases e:j=b
   ·subst e;omega
   ·have:=HI.out.1 j (by omega);omega,fun c hc=>by
   by_cases e:c=m
   ·exact⟨b,by omega,by omega⟩
   ·obtain⟨j,hj,e⟩:=HI.out.2 c (by omega)
    exact⟨j,by omega,e⟩⟩
  clear HI;generalize D.K b=y at f0 tO hle HS HT;have i2:¬((m:Int)<y):=by omega
  by_cases e:y=m
  ·have HZ:=hid (HT.out e);subst e;clear HS HT;go_wp2;go_roundw
   ·exact⟨b+1,y+1,by go_num,by go_num,by omega,by omega,by first|trivial|rfl,HZ⟩
   simp[intOf];omega
  have HZ:=hid (HS.out (by omega));have i3:¬((y:Int)=m):=by omega
  clear HS HT;go_wp2;go_roundw
  ·exact⟨b+1,m,by go_num,rfl,by omega,by omega,by first|trivial|rfl,HZ⟩
  simp[intOf];omega
 obtain rfl:b=256:=by omega
 obtain rfl:m=C:=by
  obtain⟨j,hj,e⟩:=HB.out.2.2.1.c.2;have h1:=HI.out.1 j hj;refine Nat.le_antisymm (Nat.le_of_not_lt fun h=>?_) (by omega);obtain⟨j2,hj2,e2⟩:=HI.out.2 C h;have:=HB.out.2.2.1.c.1 j2 hj2;omega
 clear HI aq;go_wp2_with fail;rw[show ((256:Nat):Int)=256 from rfl];go_loopw [5,6,7,8] (fun v _ _ _ wr=>∃(c:Nat),v=.int .i64 c/\c<=m/\Hid (Below W0.heap.size W0 wr)) (fun v _ _ _ _=>m-(intOf v).toNat)
 ·exact⟨0,rfl,by omega,Below.refl _ _⟩
 obtain⟨c,rfl,hc,HL⟩:=hrel;by_cases lT:c<m
 ·have i1:(c:Int)<m:=by omega
  go_wp2;go_loopw [6,7,8] (fun v _ _ wq=>∃(k:Nat),v=.int .i64 k/\k<=c/\Hid (Below W0.heap.size W0 wq)) (fun v _ _ _=>c-(intOf v).toNat)
  ·exact⟨0,rfl,by omega,HL.out⟩
  clear HL;obtain⟨k,rfl,hk,HL⟩:=hrel;by_cases dE:k<c
  ·have i2:(k:Int)<c:=(by omega);have yC:=hid (zlv HB.out.2.2.1 HB.out.2.2.2 lT dE);go_wp2;go_loopw [7,8] (fun v7 v wq=>∃(i:Nat) (s:Bool),v=.int .i64 i/\v7=.bool s/\i<=D.n/\Hid (Below W0.heap.size W0 wq)/\Hid (s=true↔∀i',i'<i->tD D i' c=tD D i' k)) (fun _ v _=>D.n-(intOf v).toNat)
   ·exact⟨0,true,rfl,rfl,by omega,HL.out,⟨fun _ i' hi'=>absurd hi' (by omega),fun _=>rfl⟩⟩
   clear HL;obtain⟨i,s,rfl,rfl,hi,HL,HS⟩:=hrel;have f1:=(cZ.out wr HL.out).2.f1;by_cases pV:i<D.n
   ·have i3:(i:Int)<(D.n:Int):=(by omega);have i4:i<=D.n:=hi;cases s
    ·have HN:Hid (false=true↔∀i',i'<i+1->tD D i' c=tD D i' k):=(⟨fun h=>(by cases h),fun h=>HS.out.2 (fun i' hi'=>h i' (by omega))⟩);go_upto_region 19 with fail;clear f1;refine wp_region_held_drew (S:=fun W'=>Below W0.heap.size W0 W'/\bg W' b0 D) (by kernel_rfl) (cZ.out _ HL.out.drew) (fun η=>?_)
     (refine an 0 ?_;refine an 1 ?_;try simp only[Act.put,sA])
     refine xh 2 ?_ (hw:=by first|rfl|kernel_rfl|simp[wanted,yielded])
     try simp only[Act.put,sA]
     refine xh 3 ?_ (hw:=by first|rfl|kernel_rfl|simp[wanted,yielded])
     try simp only[Act.put,sA]
     refine xh 4 ?_ (hw:=by first|rfl|kernel_rfl|simp[wanted,yielded])
     try simp only[Act.put,sA]
     refine xh 5 ?_ (hw:=by first|rfl|kernel_rfl|simp[wanted,yielded])
     try simp only[Act.put,sA]
     refine xh 6 ?_ (hw:=by first|rfl|kernel_rfl|simp[wanted,yielded])
     try simp only[Act.put,sA]
     refine xh 7 ?_ (hw:=by first|rfl|kernel_rfl|simp[wanted,yielded])
     try simp only[Act.put,sA]
     refine xh 8 ?_ (hw:=by first|rfl|kernel_rfl|simp[wanted,yielded])
     try simp only[Act.put,sA]
     refine xh 9 ?_ (hw:=by first|rfl|kernel_rfl|simp[wanted,yielded])
     try simp only[Act.put,sA]
     refine xh 10 ?_ (hw:=by first|rfl|kernel_rfl|simp[wanted,yielded])
     try simp only[Act.put,sA]
     (refine an 11 ?_;refine an 12 ?_;try simp only[Act.put,sA])
     refine wpAnyH_done (by kernel_rfl) ?_ _;have OC:=hid η.1;clear η;go_wp2;go_roundw
     ·exact⟨i+1,_,by go_num,rfl,by omega,OC.out,HN.out⟩
     simp[intOf];omega
    have HN:Hid ((decide (((tD D i c:Nat):Int)=((tD D i k:Nat):Int)))=true↔∀i',i'<i+1->tD D i' c=tD D i' k):=⟨fun h i' hi'=>by
     by_cases e:i'=i
     ·subst e;have:=of_decide_eq_true h;omega
     ·exact HS.out.1 rfl i' (by omega),fun h=>decide_eq_true (by rw[h i (by omega)])⟩
    go_upto_region 19 with fail;clear f1;refine wp_region_held_drew (S:=fun W'=>Below W0.heap.size W0 W'/\bg W' b0 D) (by kernel_rfl) (cZ.out _ HL.out.drew) (fun η=>?_)
    (refine an 0 ?_;refine an 1 ?_)
    (refine an 2 (v:=.agg D.cD) ?_ (hy:=by intro wz hSw;exact ob (o:=_) (ρ:=_) wz 29 (.tmp 1) rfl ⟨b0,0,none⟩ rfl D.cD _ (bg.st (And.right hSw)).part underlying29 rfl (bg.dm (And.right hSw)).info))
    (refine an 3 ?_;refine an 4 ?_)
    (refine an 6 (v:=.agg D.cD) ?_ (hy:=by intro wz hSw;exact ob (o:=_) (ρ:=_) wz 29 (.tmp 1) rfl ⟨b0,0,none⟩ rfl D.cD _ (bg.st (And.right hSw)).part underlying29 rfl (bg.dm (And.right hSw)).info))
    (refine an 7 ?_;refine an 8 ?_;try simp only[Act.put,sA])
    refine bc 5 (fun K hK=>?_);skip;go_simp;go_at_call 29;refine (MD D m HB.out.2.2.1 i c hi (by omega) _ η.2.dm).mono ?_;rintro e w5 ⟨rfl,vj⟩;have bz:Below W0.heap.size W0 w5:=η.1.trans (vj.mono η.1.size);clear vj
    try go_wp2_with fail
    refine hK.out _ _ (cZ.out _ bz) fun η=>?_;clear hK K
    try simp only[Act.put,sA]
    clear bz;refine bc 9 (fun K hK=>?_);skip;go_simp;go_at_call 29;refine (MD D m HB.out.2.2.1 i k hi (by omega) _ η.2.dm).mono ?_;rintro e w9 ⟨rfl,vj⟩;have bz:Below W0.heap.size W0 w9:=η.1.trans (vj.mono η.1.size);clear vj
    try go_wp2_with fail
    refine hK.out _ _ (cZ.out _ bz) fun η=>?_;clear hK K
    try simp only[Act.put,sA]
    clear bz
    (refine an 10 ?_;refine an 11 ?_;refine an 12 ?_;try simp only[Act.put,sA])
    refine wpAnyH_done (by kernel_rfl) ?_ _;have OC:=hid η.1;clear η;go_wp2;go_roundw
    ·exact⟨i+1,_,by go_num,rfl,by omega,OC.out,HN.out⟩
    simp[intOf];omega
   obtain rfl:i=D.n:=(by omega);cases s
   ·go_wp2;go_roundw
    ·exact⟨k+1,by go_num,by omega,HL.out⟩
    simp[intOf];omega
   exact absurd (HS.out.1 rfl) yC.out
  obtain rfl:k=c:=by omega
  go_wp2;go_roundw
  ·exact⟨k+1,by go_num,by omega,HL.out⟩
  simp[intOf];omega
 obtain rfl:c=m:=by omega
 have HF:=hid (mh.out wr HL.out);go_wp2;go_ret;exact⟨rfl,HF.out⟩
