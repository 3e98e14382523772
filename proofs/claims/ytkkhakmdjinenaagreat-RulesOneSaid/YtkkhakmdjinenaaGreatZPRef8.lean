import Derived.Test.YtkkhakmdjinenaaGreatZPOf
set_option linter.all false
set_option maxHeartbeats 4000000
set_option maxRecDepth 100000
open Go.Lib (hid)
namespace Go.Proofs.YtkkhakmdjinenaaGreat
open Go.Proofs.Tryz
variable {A:Nat->Nat->Bool}{C M N g i j:Nat}{D X:Dd}{W0 w:World}{f:Nat->Bool}{gs:Nat->Nat}{vO:Value}
structure Ap (C:Nat)(t:Nat->Nat->Nat)(m:Nat->Int)(N r i k c:Nat)(A:Nat->Nat->Bool):Prop where
 snd:∀x y,x<N->y<N->A x y=true->¬jB C t m x y
 jC:∀x y,x<N->y<N->¬Mo C t m r x y->A x y=true
 new:∀x y,x<N->y<N->(x<i\/(x=i/\y<k))->¬Mo C t m (r+1) x y->A x y=true
 cur:∀c',c'<c->¬Mo C t m r (t i c') (t k c')->A i k=true
section
variable {C N r i k c : Nat}{t : Nat → Nat → Nat}{m : Nat → Int}{A : Nat → Nat → Bool}
theorem Ap.start(h:∀x y,x<N->y<N->(A x y=true↔m x≠m y)):Ap C t m N 0 0 0 0 A:=
 ⟨fun x y hx hy e h2=>(h x y hx hy).1 e (h2 0),fun x y hx hy e=>(h x y hx hy).2 e,fun x y _ _ e=>by omega,fun c' e=>by omega⟩
def uU(A:Nat->Nat->Bool)(i k:Nat)(v:Bool):Nat->Nat->Bool:=fun x y=>if x=i/\y=k then v else A x y
theorem Ap.put(ht:∀i c,i<N->c<C->t i c<N)(h:Ap C t m N r i k c A)(hi:i<N)(hk:k<N)(hc:c<C)(hA:A i k=false):Ap C t m N r i k (c+1) (uU A i k (A (t i c) (t k c))):=by
 have gd:A i k≠true:=by rw[hA];simp
 refine⟨fun x y hx hy e=>?_,fun x y hx hy e=>?_,fun x y hx hy e1 e2=>?_,fun c' hc' e=>?_⟩
 ·by_cases a:x=i/\y=k
  ·obtain⟨rfl,rfl⟩:=a;simp only[uU,and_self,if_true] at e;exact fun h2=>h.snd _ _ (ht _ _ hi hc) (ht _ _ hk hc) e (h2.step hc)
  simp only[uU,if_neg a] at e;exact h.snd x y hx hy e
 ·by_cases a:x=i/\y=k
  ·obtain⟨rfl,rfl⟩:=a;exact absurd (h.jC _ _ hx hy e) gd
  simp only[uU,if_neg a];exact h.jC x y hx hy e
 ·have a:¬(x=i/\y=k):=by omega
  simp only[uU,if_neg a];exact h.new x y hx hy e1 e2
 simp only[uU,and_self,if_true];by_cases a:c'=c
 ·subst a;exact h.jC _ _ (ht _ _ hi hc) (ht _ _ hk hc) e
 exact absurd (h.cur c' (by omega) e) gd
theorem Ap.Bj(h:Ap C t m N r i k c A)(hi:i<N)(hk:k<N)(hc:A i k=true\/c=C):Ap C t m N r i (k+1) 0 A:=by
 refine⟨h.snd,h.jC,fun x y hx hy e1 e2=>?_,fun c' e=>by omega⟩;by_cases a:x=i/\y=k
 ·obtain⟨rfl,rfl⟩:=a;rcases hc with hc|rfl
  ·exact hc
  by_cases h1:Mo c t m r x y
  ·by_cases h2:∀c',c'<c->Mo c t m r (t x c') (t y c')
   ·exact absurd ⟨h1,h2⟩ e2
   have h3:∃c',c'<c/\¬Mo c t m r (t x c') (t y c'):=by
    refine(Classical.byContradiction fun h4=>h2 fun c' hc'=>?_);exact Classical.byContradiction fun h5=>h4 ⟨c',hc',h5⟩
   obtain⟨c',hc',h4⟩:=h3;exact h.cur c' hc' h4
  exact h.jC x y hx hy h1
 exact h.new x y hx hy (by omega) e2
theorem Ap.IX(h:Ap C t m N r i N c A):Ap C t m N r (i+1) 0 0 A:=
 ⟨h.snd,h.jC,fun x y hx hy e1 e2=>h.new x y hx hy (by omega) e2,fun c' e=>by omega⟩
theorem Ap.JM(h:Ap C t m N r N k c A):Ap C t m N (r+1) 0 0 0 A:=
 ⟨h.snd,fun x y hx hy e=>h.new x y hx hy (by omega) e,fun x y _ _ e=>by omega,fun c' e=>by omega⟩
theorem Ap.done(ht:∀i c,i<N->c<C->t i c<N)(h:Ap C t m N N i k c A):∀x y,x<N->y<N->(A x y=true↔¬jB C t m x y):=by
 intro x y hx hy;refine⟨h.snd x y hx hy,fun e=>h.jC x y hx hy (fun e2=>e ((zqa ht hx hy).1 e2))⟩
end
open Go.RowKit Go.Maps Go.WideElems Go.ChangeMaps Go.MapKept
def ka(D:Dd)(i:Int):Int:=if 0<=i/\i<(D.m:Int) then D.q i.toNat else -1
theorem IZ(D:Dd)(i:Int)(w:World)(hD:DM w D)(hm:D.m<=100000):
  Calls prog 10 #[.agg D.cD,.int .i64 i] w fun e w'=>e=.returned (.int .i64 (ka D i))/\Below w.heap.size w w':=by
 have HB:=hid (Zz (bz.new hD) (al w (.cells D.cD 29)));clear hD;go_in;go_upto_region 1 with fail;generalize w.alloc (.cells D.cD 29)=W0 at HB⊢;obtain⟨b0,ay⟩:∃b0,w.heap.size=b0:=⟨_,rfl⟩
 have bW:=hid ay;rw[ay] at HB;rw[ay];clear ay;have HF:=hid (show Below w.heap.size w W0 by rw[bW.out];exact HB.out.2);have f2:=HB.out.1.f2;by_cases h0:0<=i
 ·by_cases h1:i<(D.m:Int)
  ·obtain⟨k,rfl⟩:∃k:Nat,i=k:=(⟨i.toNat,by omega⟩);have hk:k<D.m:=(by omega);obtain⟨g,off,e,hg,hc⟩:=HB.out.1.dm.rM (by omega);have c1:=hc k hk;rw[e] at f2;have i1:¬((D.m:Int)<=(k:Int)):=(by omega);have i2:¬((k:Int)<0):=(by omega);have HZ:Hid (ka D (k:Int)=D.q k):=(by show _=_;unfold ka;rw[if_pos ⟨by omega,by omega⟩];simp);clear hc e;go_wp2;go_ret;exact⟨by rw[HZ.out];rfl,HF.out⟩
  have i1:(D.m:Int)<=i:=by omega
  have i2:¬(i<0):=by omega
  have HZ:Hid (ka D i=-1):=by show _=_;unfold ka;rw[if_neg (by omega)]
  go_wp2;go_ret;exact⟨by rw[HZ.out];rfl,HF.out⟩
 have i1:i<0:=by omega
 have HZ:Hid (ka D i=-1):=by show _=_;unfold ka;rw[if_neg (by omega)]
 go_wp2;go_ret;exact⟨by rw[HZ.out];rfl,HF.out⟩
theorem zls(D:Dd)(C:Nat)(hR:DR D C)(i c:Nat)(hi:i<=D.n)(hc:c<C)(w:World)(hD:DM w D):
  Calls prog 29 #[.agg D.cD,.int .i64 (i:Int),.int .i64 (c:Int)] w fun e w'=>e=.returned (.int .i64 ((tD D i c:Nat):Int))/\Below w.heap.size w w':=by
 have HB:=hid (Zz (bz.new hD) (Zz (al w (.cells D.cD 29)) hR));have cU:=hR.n2;clear hD hR;go_in;go_upto_region 1 with fail;generalize w.alloc (.cells D.cD 29)=W0 at HB⊢;obtain⟨b0,ay⟩:∃b0,w.heap.size=b0:=⟨_,rfl⟩
 have bW:=hid ay;rw[ay] at HB;rw[ay];clear ay;have HF:=hid (show Below w.heap.size w W0 by rw[bW.out];exact HB.out.2.1);have f1:=HB.out.1.f1;by_cases h1:i<D.n
 ·obtain⟨g,off,e,hg,cN,zN⟩:=HB.out.1.dm.row i h1;have hl:=HB.out.2.2.len i h1;rw[hl] at cN zN;obtain⟨g2,off2,e2,yX,fp⟩:=zN (by omega);have cA:=fp c hc;rw[e] at f1;rw[e2] at cN;have i1:¬((D.n:Int)<=(i:Int)):=by omega
  obtain⟨x,hx⟩:∃x,D.nx i c=x:=⟨_,rfl⟩
  rw[hx] at cA;by_cases h2:x<0
  ·have HZ:Hid (tD D i c=D.n):=(by show _=_;unfold tD;rw[if_neg (by omega)]);clear fp e e2 zN hl hx;go_wp2;go_ret;exact⟨by rw[HZ.out];rfl,HF.out⟩
  have HZ:Hid (((tD D i c:Nat):Int)=x):=by show _=_;unfold tD;rw[if_pos ⟨h1,by omega⟩];omega
  clear fp e e2 zN hl hx;go_wp2;go_ret;exact⟨by rw[HZ.out];rfl,HF.out⟩
 obtain rfl:i=D.n:=by omega
 have HZ:Hid (tD D D.n c=D.n):=by show _=_;unfold tD;rw[if_neg (by omega)]
 go_wp2;go_ret;exact⟨by rw[HZ.out];rfl,HF.out⟩
structure dP (W0:World)(M N:Nat)(vO:Value)(gs:Nat->Nat)(A:Nat->Nat->Bool)(w:World):Prop where
 aP:Below W0.heap.size W0 w
 gr:bE w W0.heap.size 64 4 1 vO M (fun i=>.slice (some ⟨gs i,0,none⟩) N N) (fun _=>N) (fun i=>fB (A i) N)
section
variable {W0 w w' : World}{M N : Nat}{vO : Value}{gs : Nat → Nat}{A : Nat → Nat → Bool}
theorem dP.ab(h:dP W0 M N vO gs A w)(k:Below w.heap.size w w'):dP W0 M N vO gs A w':=⟨h.aP.trans (k.mono h.aP.size),h.gr.ab k⟩
theorem dP.out(h:dP W0 M N vO gs A w)(hi:i<M):∃g c,vO=.slice (some ⟨g,0,none⟩) M c/\W0.heap.size<=g/\∀i,i<M->w.cell? ⟨g,i,none⟩=some (.slice (some ⟨gs i,0,none⟩) N N):=by
 obtain⟨a,c,e⟩:=bP h.gr.own;have ho:=h.gr.own;rw[e] at ho;obtain⟨g,e2,h1,h2,h3⟩:=ek ho (by omega);refine⟨g,c,by rw[e,e2],h1,fun j hj=>?_⟩;rw[(h3 j (by omega)).1];simp[hj]
theorem dP.lo(h:dP W0 M N vO gs A w)(hN:0<N)(hi:i<M):W0.heap.size<=gs i:=by
 obtain⟨g,e,h1,_⟩:=ek (h.gr.row i hi) hN;injection e with e;injection e with e _;omega
theorem dP.cell(h:dP W0 M N vO gs A w)(hi:i<M)(hj:j<N):w.cell? ⟨gs i,j,none⟩=some (.bool (A i j))/\w.frozen? ⟨gs i,j,none⟩=false:=by
 obtain⟨g,e,h1,h2,h3⟩:=ek (h.gr.row i hi) (by omega);injection e with e;injection e with e _;subst e;obtain⟨h4,h5⟩:=h3 j (by omega);exact⟨by rw[h4];simp[fB,hj],h5⟩
theorem dP.put(h:dP W0 M N vO gs A w)(hi:i<M)(hj:j<N)(v:Bool):dP W0 M N vO gs (uU A i j v) (w.setCell ⟨gs i,j,none⟩ (.bool v)):=by
 have kk:Kept [] [gs i] w (w.setCell ⟨gs i,j,none⟩ (.bool v)):=(Kept.refl _ _ _).setCell _ _ (Or.inl (by simp));refine⟨h.aP.setCell (p:=⟨gs i,j,none⟩) (h.lo (by omega) hi) _,⟨fC h.gr.own kk (by simp) (fun g e hm=>?_),fun k hk=>?_,h.gr.sep⟩⟩
 ·exact im h.gr.own (h.gr.row i hi) (by decide) g e (by simp[List.mem_singleton.1 hm,Value.ownBlock])
 by_cases e:k=i
 ·subst e;have:=ua (h.gr.row k hk) j hj (.bool v);rw[Pf] at this;have e2:fB (uU A k j v k) N=fB (fun x=>if x=j then v else A k x) N:=by
   unfold fB;refine(List.map_congr_left fun x hx=>?_);simp[uU]
  show World.ownsRow _ _ _ _ _ _ (fB (uU A k j v k) N);rw[e2];exact this
 have e2:fB (uU A i j v k) N=fB (A k) N:=by
  unfold fB;refine List.map_congr_left fun x hx=>?_
  simp[uU,e]
 show World.ownsRow _ _ _ _ _ _ (fB (uU A i j v k) N);rw[e2];refine fC (h.gr.row k hk) kk (by simp) (fun g e3 hm=>?_);exact h.gr.sep k i hk hi e g e3 (by simp[List.mem_singleton.1 hm,Value.ownBlock])
end
theorem uk:(prog.info? 64).map (fun i=>(i.zero,i.size,i.bytes))=some (some (.slice none 0 0),1,24):=by kernel_rfl
theorem Zk(hm:D.m=D.n)(i:Nat)(hi:i<=D.n):ka D (i:Int)=mD D i:=by
 unfold ka mD;rw[hm];by_cases h:i<D.n
 ·rw[if_pos (by omega),if_pos h];simp
 rw[if_neg (by omega),if_neg h]
def A0(D:Dd)(x y:Nat):Bool:=mD D x != mD D y
theorem zqr{k:Nat}(hf:∀y,y<k->f y=A0 D i y):∀y,y<k+1->(fun j=>if j=k then (mD D i != mD D k) else f j) y=A0 D i y:=by
 intro y hy;by_cases e:y=k
 ·simp only[if_pos e];rw[e];rfl
 simp only[if_neg e];exact hf y (by omega)
theorem zqX(D:Dd)(N:Nat):Ap C (tD D) (mD D) N 0 0 0 0 (A0 D):=Ap.start (fun x y _ _=>by simp[A0])
theorem dP.cells{c:Nat}(h:dP W0 M N (.slice (some ⟨g,0,none⟩) M c) gs A w)(hi:i<M):w.cell? ⟨g,i,none⟩=some (.slice (some ⟨gs i,0,none⟩) N N):=by
 obtain⟨g',c',e,_,h3⟩:=h.out hi;injection e with e;injection e with e;injection e with e _;subst e;exact h3 i hi
def Wq(D:Dd)(C:Nat)(w:World)(e:Ending)(w':World):Prop:=
 ∃(vO:Value) (gs:Nat->Nat) (A:Nat->Nat->Bool),e=.returned vO/\dP w (D.n+1) (D.n+1) vO gs A w'/\∀x y,x<D.n+1->y<D.n+1->(A x y=true↔¬jB C (tD D) (mD D) x y)
theorem dP.nil(W0:World)(N:Nat)(gs:Nat->Nat)(A:Nat->Nat->Bool):dP W0 0 N (.slice none 0 0) gs A W0:=
 ⟨Below.refl _ _,⟨World.ownsRow_nil _ _ _ _,fun i hi=>absurd hi (by omega),fun i j hi=>absurd hi (by omega)⟩⟩
theorem dP.base{W:World}(h:dP W0 M N vO gs A w)(k:Below W.heap.size W W0):dP W M N vO gs A w:=
 ⟨k.trans (h.aP.mono k.size),⟨ga h.gr.own k.size,fun i hi=>ga (h.gr.row i hi) k.size,h.gr.sep⟩⟩
theorem dP.push{wr w1 w2 w':World}{v':Value}(h:dP W0 M N vO gs A wr)(ho:OB wr g N f w1)(hN:0<N)(hf:∀y,y<N->f y=A M y)(k2:Below w1.heap.size w1 w2)
  (az:w2.ownsRow W0.heap.size 64 1 vO M ((List.range M).map fun i=>.slice (some ⟨gs i,0,none⟩) N N)->w'.ownsRow W0.heap.size 64 1 v' (M+1) (((List.range M).map fun i=>.slice (some ⟨gs i,0,none⟩) N N)++[.slice (some ⟨g,0,none⟩) N N])) (hg:w2.grownBy w' vO.ownBlock):
  dP W0 (M+1) N v' (fun i=>if i=M then g else gs i) A w':=by
 have h2:=(h.ab ho.aP).ab k2;have aq:=h.gr.lt.2;have e:fB f N=fB (A M) N:=by
  unfold fB;refine List.map_congr_left fun x hx=>?_
  rw[hf x (List.mem_range.1 hx)]
 have hu:w2.ownsRow W0.heap.size 4 1 (.slice (some ⟨g,0,none⟩) N N) N (fB (A M) N):=by
  rw[<-e];exact ga (cY ho.own k2) h.aP.size
 have hp:=h2.gr.p8 (u:=.slice (some ⟨g,0,none⟩) N N) (by decide) hu (fun i hi b e1 e2=>by
  have h3:=aq i hi b e1
  have h4:=ho.lo
  have h5:g=b:=by simpa [Value.ownBlock] using e2
  omega) (az h2.gr.own) hg
 refine⟨fG h2.aP h2.gr.own h2.aP.size hg,?_⟩;have e3:(fun j=>if j=M then Value.slice (some ⟨g,0,none⟩) N N else .slice (some ⟨gs j,0,none⟩) N N)=fun i=>.slice (some ⟨(fun i=>if i=M then g else gs i) i,0,none⟩) N N:=by
  funext j;by_cases e:j=M <;> simp[e]
 rw[e3] at hp;exact hp
theorem zjO(D:Dd)(C:Nat)(hR:DR D C)(w:World)(hD:DM w D):
  Calls prog 28 #[.agg D.cD] w (Wq D C w):=by
 have HB:=hid (Zz (bz.new hD) (Zz (al w (.cells D.cD 29)) (Zz hR hR.m)));have cU:=hR.n2;have da:=hR.n1;have tX:=(hR.iq hD.kl).2;obtain⟨N,hN⟩:∃N,D.n+1=N:=⟨_,rfl⟩
 have eR:=QK N (by omega);clear hD hR;go_in;go_upto_region 1 with fail;generalize w.alloc (.cells D.cD 29)=W0 at HB⊢;obtain⟨b0,ay⟩:∃b0,w.heap.size=b0:=⟨_,rfl⟩
 have bW:=hid ay;rw[ay] at HB;rw[ay];clear ay;have f1:=HB.out.1.f1;have i0:((D.n:Int)+1)=(N:Int):=by omega
 have i1:IntKind.i64.wrap ((D.n:Int)+1)=(N:Int):=by rw[i0];exact IntWalk.i64_in _ (by omega)
 have KD:Hid (∃gs,dP W0 0 N (.slice none 0 0) gs (A0 D) W0):=⟨fun _=>0,dP.nil _ _ _ _⟩
 go_wp2;go_loopw [4,5,6,7] (fun v4 v5 _ _ wr=>∃(i:Nat),v5=.int .i64 i/\i<=N/\(∃a c,v4=.slice a i c)/\Hid (∃gs,dP W0 i N v4 gs (A0 D) wr)) (fun _ v _ _ _=>N-(intOf v).toNat)
 ·exact⟨0,rfl,by omega,⟨_,_,rfl⟩,KD⟩
 obtain⟨i,rfl,hi,⟨a4,c4,rfl⟩,HA⟩:=hrel;clear KD f1;revert wr;intro wo HA;by_cases aq:i<N
 ·have j1:(i:Int)<N:=by omega
  have yI:=hid (OB.made wo N (by unfold maxLen;omega));go_upto_region 7 with fail;obtain⟨g,hg⟩:∃g,wo.heap.size=g:=⟨_,rfl⟩
  rw[hg] at yI;rw[hg];generalize wo.alloc (.cells (madeCells #[.bool false] N) 4)=W1 at yI⊢;go_wp2;go_loopw [7] (fun v wq=>∃(k:Nat),v=.int .i64 k/\k<=N/\Hid (∃f,OB wo g N f wq/\∀y,y<k->f y=A0 D i y)) (fun v _=>N-(intOf v).toNat)
  ·exact⟨0,rfl,by omega,_,yI.out,fun y hy=>absurd hy (by omega)⟩
  clear yI;obtain⟨k,rfl,hk,HF⟩:=hrel;by_cases dE:k<N
  ·have j2:(k:Int)<N:=(by omega);obtain⟨f,hO,hf⟩:=HF.out;have HO:=hid hO;have Hf:=hid hf;have Hlt:Hid (i<=D.n/\k<=D.n):=(⟨by omega,by omega⟩);clear hO hf HF;obtain⟨gs,hA⟩:=HA.out;have OF:=hid hA.aP;have CZ:W0.heap.size<=wo.heap.size:=hA.aP.size;clear hA;have dc:Hid (∀W',Below wo.heap.size wo W'->Below wo.heap.size wo W'/\bz W' b0 D):=(fun W' h=>⟨h,(HB.out.1.ab (OF.out.trans (h.mono CZ)))⟩);go_upto_region 10 with fail;have ug:=hid (HO.out.ab (Below.refl wr.heap.size wr).drew);have eG:=OF.out.trans (ug.out.aP.mono CZ);refine wp_region_held_drew (S:=fun W'=>Below W0.heap.size W0 W'/\bz W' b0 D) (by kernel_rfl) ⟨eG,HB.out.1.ab eG⟩ fun hHeld=>?_;clear eG
   (refine an 0 ?_;refine an 1 ?_)
   (refine an 2 (v:=.agg D.cD) ?_ (hy:=by intro wz hSw;exact pt (o:=_) (ρ:=_) wz 29 (.tmp 1) rfl ⟨b0,0,none⟩ rfl D.cD _ (bz.st (And.right hSw)).part underlying29 rfl (bz.dm (And.right hSw)).info))
   (refine an 3 ?_)
   (refine an 5 (v:=.agg D.cD) ?_ (hy:=by intro wz hSw;exact pt (o:=_) (ρ:=_) wz 29 (.tmp 1) rfl ⟨b0,0,none⟩ rfl D.cD _ (bz.st (And.right hSw)).part underlying29 rfl (bz.dm (And.right hSw)).info))
   (refine an 6 ?_;try simp only[Act.put,sA])
   refine bf 4 (fun K hK=>?_);skip;go_simp;go_at_call 10;refine (IZ D (i:Int) _ hHeld.2.dm (by have:=HB.out.2.2.1.m;omega)).mono ?_;rintro e w8 ⟨rfl,vv⟩;rw[Zk HB.out.2.2.1.m i Hlt.out.1];have bD:Below W0.heap.size W0 w8:=hHeld.1.trans (vv.mono hHeld.1.size);have kq:=hid (ug.out.ab vv);clear vv;have wH:=HB.out.1.ab bD
   try go_wp2_with fail
   refine hK.out _ _ (⟨bD,wH⟩) fun hHeld=>?_;clear hK K
   try simp only[Act.put,sA]
   clear bD wH;refine bf 7 (fun K hK=>?_);skip;go_simp;go_at_call 10;refine (IZ D (k:Int) _ hHeld.2.dm (by have:=HB.out.2.2.1.m;omega)).mono ?_;rintro e w9 ⟨rfl,vv⟩;rw[Zk HB.out.2.2.1.m k Hlt.out.2];have bD:Below W0.heap.size W0 w9:=hHeld.1.trans (vv.mono hHeld.1.size);have Tf:=hid (kq.out.ab vv);clear vv;have wH:=HB.out.1.ab bD
   try go_wp2_with fail
   refine hK.out _ _ (⟨bD,wH⟩) fun hHeld=>?_;clear hK K
   try simp only[Act.put,sA]
   clear bD wH
   (refine an 8 ?_;refine an 9 ?_;try simp only[Act.put,sA])
   refine bf 10 (fun K hK=>?_);skip;obtain⟨y0,y1⟩:=Tf.out.cell k dE;go_simp;have PR:=hid (Tf.out.put k dE (mD D i != mD D k));have bD:Below W0.heap.size W0 (w9.setCell ⟨g,k,none⟩ (.bool (mD D i != mD D k))):=OF.out.trans (PR.out.aP.mono CZ);have wH:=HB.out.1.ab bD
   try go_wp2_with fail
   refine hK.out _ _ (⟨bD,wH⟩) fun hHeld=>?_;clear hK K
   try simp only[Act.put,sA]
   clear bD wH y0 y1;refine wpAnyH_done (by kernel_rfl) ?_ _;have HF:Hid (∃f,OB wo g N f _/\∀y,y<k+1->f y=A0 D i y):=(⟨_,PR.out,zqr Hf.out⟩);clear hHeld ug kq Tf PR;go_wp2;go_roundw
   ·exact⟨k+1,by go_num,by omega,HF.out⟩
   simp[intOf];omega
  obtain rfl:k=N:=by omega
  obtain⟨f,hO,hf⟩:=HF.out;obtain⟨gs,hA⟩:=HA.out;have HO:=hid hO;have Hf:=hid hf;have iD:=hid hA;have CZ:W0.heap.size<=wo.heap.size:=hA.aP.size;have hwq:=hO.aP.size;have k9:=al wr (.cells #[.slice (some ⟨g,0,none⟩) k k] 64);have vw:=((hA.ab hO.aP).ab k9).gr.own;obtain⟨i9,AV,dy,cJ,cv⟩:=info_parts uk;clear hO hf hA HF;go_wp2_with (at_builtin;refine wpList_append_own_at _ rfl _ _ 62 rfl W0.heap.size 64 i9 (.slice none 0 0) 1 24 underlying62 AV dy cJ cv rfl (by decide) _ _ _ rfl vw ⟨wr.heap.size,0,none⟩ 1 1 [.slice (some ⟨g,0,none⟩) k k] rfl rfl (cell_one_new _ _ _) ?d2 ?d3 ?d4 ?d5 ?_)
  case d2=>first|(intro u hu;simp at hu;subst hu;rfl)|rfl
  case d3=>unfold maxLen;omega
  case d4=>omega
  case d5=>first|(simp;omega)|omega
  intro v' w5 ah ag _ bJ;obtain⟨a5,c5,rfl⟩:=bP ah;have HN:=hid (iD.out.push HO.out (by omega) Hf.out k9 (fun _=>ah) ag);clear ah ag bJ vw k9;go_wp2;go_roundw
  ·exact⟨i+1,by go_num,by omega,⟨_,_,rfl⟩,_,HN.out⟩
  simp[intOf];omega
 obtain rfl:i=N:=by omega
 obtain⟨gs,hA⟩:=HA.out;obtain⟨gO,cO,eO,_,_⟩:=hA.out (i:=0) (by omega);rw[eO];rw[eO] at hA;have oz:Hid (∃A,dP W0 i i (.slice (some ⟨gO,0,none⟩) i cO) gs A wo/\Ap C (tD D) (mD D) i 0 0 0 0 A):=⟨_,hA,zqX D i⟩
 clear hA eO HA eR;have rQ:Hid (∀x c,x<i->c<C->tD D x c<i):=fun x c _ hc=>by rw[<-hN];exact DJ HB.out.2.2.1 x c hc
 go_wp2;go_loopw [8,9,10,11] (fun v8 _ _ _ wq=>∃(r:Nat),v8=.int .i64 r/\r<=i/\Hid (∃A,dP W0 i i (.slice (some ⟨gO,0,none⟩) i cO) gs A wq/\Ap C (tD D) (mD D) i r 0 0 0 A)) (fun v _ _ _ _=>i-(intOf v).toNat)
 ·exact⟨0,rfl,by omega,oz.out⟩
 clear oz;obtain⟨r,rfl,hr,HP⟩:=hrel;by_cases F0:r<i
 ·have j2:(r:Int)<i:=by omega
  go_wp2;go_loopw [9,10,11] (fun v9 _ _ wq=>∃(x:Nat),v9=.int .i64 x/\x<=i/\Hid (∃A,dP W0 i i (.slice (some ⟨gO,0,none⟩) i cO) gs A wq/\Ap C (tD D) (mD D) i r x 0 0 A)) (fun v _ _ _=>i-(intOf v).toNat)
  ·exact⟨0,rfl,by omega,HP.out⟩
  clear HP;obtain⟨x,rfl,hx,HP⟩:=hrel;by_cases yd:x<i
  ·have j3:(x:Int)<i:=(by omega);go_wp2;go_loopw [10,11] (fun v10 _ wq=>∃(y:Nat),v10=.int .i64 y/\y<=i/\Hid (∃A,dP W0 i i (.slice (some ⟨gO,0,none⟩) i cO) gs A wq/\Ap C (tD D) (mD D) i r x y 0 A)) (fun v _ _=>i-(intOf v).toNat)
   ·exact⟨0,rfl,by omega,HP.out⟩
   clear HP;obtain⟨y,rfl,hy,HP⟩:=hrel;by_cases Dn:y<i
   ·have j4:(y:Int)<i:=(by omega);go_wp2;go_loopw [11] (fun v11 wq=>∃(c:Nat),v11=.int .i64 c/\c<=C/\Hid (∃A,dP W0 i i (.slice (some ⟨gO,0,none⟩) i cO) gs A wq/\Ap C (tD D) (mD D) i r x y c A)) (fun v _=>C-(intOf v).toNat)
    ·exact⟨0,rfl,by omega,HP.out⟩
    clear HP;obtain⟨c,rfl,hc,HP⟩:=hrel;obtain⟨A,hP,U3⟩:=HP.out;have wH:=HB.out.1.ab hP.aP;have f1:=wH.f1;obtain⟨gN,oN,eN,km,cN,_⟩:=wH.dm.row 0 (by omega);rw[eN] at f1;rw[HB.out.2.2.1.len 0 (by omega)] at cN;simp only[Nat.add_zero] at cN;have cO1:=hP.cells yd;have cb:=(hP.cell yd Dn).1;have eV:=hid hP;have Az:=hid U3;have wF:=hid eN;clear hP U3 wH eN km HP;by_cases mj:c<C
    ·have j5:(c:Int)<C:=(by omega);cases DP:A x y
     ·rw[DP] at cb;obtain⟨ti,KX⟩:∃ti,tD D x c=ti:=(⟨_,rfl⟩);obtain⟨tk,NJ⟩:∃tk,tD D y c=tk:=(⟨_,rfl⟩);have Jo:ti<i:=(by rw[<-KX];exact rQ.out x c yd mj);have Rk:tk<i:=(by rw[<-NJ];exact rQ.out y c Dn mj);have HT:=hid (Zz KX NJ);have Uv:=hid (Az.out.put rQ.out yd Dn mj DP);rw[KX,NJ] at Uv;have dc:Hid (∀A' W',dP W0 i i (.slice (some ⟨gO,0,none⟩) i cO) gs A' W'->Below W0.heap.size W0 W'/\bz W' b0 D/\W'.cell? ⟨gO,x,none⟩=some (.slice (some ⟨gs x,0,none⟩) i i)/\W'.cell? ⟨gO,ti,none⟩=some (.slice (some ⟨gs ti,0,none⟩) i i)):=(fun A' W' h=>⟨h.aP,HB.out.1.ab h.aP,h.cells yd,h.cells Jo⟩);have Hav:=hid DP;have hY:x<=D.n:=(by omega);have hyn:y<=D.n:=(by omega);have j6:(ti:Int)<i:=(by omega);have j7:(tk:Int)<i:=(by omega);clear KX NJ DP;go_upto_region 24 with fail;have QI:=hid (eV.out.ab (Below.refl wr.heap.size wr).drew);refine wp_region_held_drew (S:=fun W'=>Below W0.heap.size W0 W'/\bz W' b0 D/\W'.cell? ⟨gO,x,none⟩=some (.slice (some ⟨gs x,0,none⟩) i i)/\W'.cell? ⟨gO,ti,none⟩=some (.slice (some ⟨gs ti,0,none⟩) i i)) (by kernel_rfl) (dc.out _ _ QI.out) (fun hHeld=>?_)
      (refine an 0 ?_;refine an 1 ?_;refine an 2 ?_;try simp only[Act.put,sA];refine an 3 ?_;refine an 4 ?_;refine an 5 ?_)
      (refine an 6 (v:=.agg D.cD) ?_ (hy:=by intro wz hSw;exact pt (o:=_) (ρ:=_) wz 29 (.tmp 1) rfl ⟨b0,0,none⟩ rfl D.cD _ (bz.st (And.left (And.right hSw))).part underlying29 rfl (bz.dm (And.left (And.right hSw))).info))
      (refine an 7 ?_;refine an 8 ?_)
      (refine an 12 (v:=.agg D.cD) ?_ (hy:=by intro wz hSw;exact pt (o:=_) (ρ:=_) wz 29 (.tmp 1) rfl ⟨b0,0,none⟩ rfl D.cD _ (bz.st (And.left (And.right hSw))).part underlying29 rfl (bz.dm (And.left (And.right hSw))).info))
      (refine an 13 ?_;refine an 14 ?_;try simp only[Act.put,sA])
      refine bf 9 (fun K hK=>?_);skip;go_simp;go_at_call 29;refine (zls D C HB.out.2.2.1 x c hY mj _ hHeld.2.1.dm).mono ?_;rintro e w8 ⟨rfl,vv⟩;rw[HT.out.1];have qS:=hid (QI.out.ab vv);clear vv;have xO:=dc.out _ _ qS.out
      try go_wp2_with fail
      refine hK.out _ _ (xO) fun hHeld=>?_;clear hK K
      try simp only[Act.put,sA]
      clear xO
      (refine an 10 ?_;refine an 11 ?_;try simp only[Act.put,sA])
      refine bf 15 (fun K hK=>?_);skip;go_simp;go_at_call 29;refine (zls D C HB.out.2.2.1 y c hyn mj _ hHeld.2.1.dm).mono ?_;rintro e w9 ⟨rfl,vv⟩;rw[HT.out.2];have EZ:=hid (qS.out.ab vv);clear vv;have xO:=dc.out _ _ EZ.out
      try go_wp2_with fail
      refine hK.out _ _ (xO) fun hHeld=>?_;clear hK K
      try simp only[Act.put,sA]
      clear xO
      (refine an 16 ?_;try simp only[Act.put,sA])
      refine bf 17 (fun K hK=>?_);skip;have z0:=(EZ.out.cell Jo Rk).1;go_simp;have xO:=dc.out _ _ EZ.out;refine hK.out _ _ (xO) fun hHeld=>?_;clear hK K
      try simp only[Act.put,sA]
      clear xO z0
      (refine an 18 ?_;try simp only[Act.put,sA])
      refine bf 19 (fun K hK=>?_);skip;obtain⟨y0,y1⟩:=EZ.out.cell yd Dn;go_simp;have SE:=hid (EZ.out.put yd Dn (A ti tk));have xO:=dc.out _ _ SE.out
      try go_wp2_with fail
      refine hK.out _ _ (xO) fun hHeld=>?_;clear hK K
      try simp only[Act.put,sA]
      clear xO y0 y1;refine wpAnyH_done (by kernel_rfl) ?_ _;have HF:Hid (∃A,dP W0 i i (.slice (some ⟨gO,0,none⟩) i cO) gs A _/\Ap C (tD D) (mD D) i r x y (c+1) A):=(⟨_,SE.out,Uv.out⟩);clear hHeld QI qS EZ SE;go_wp2;go_roundw
      ·exact⟨c+1,by go_num,by omega,HF.out⟩
      simp[intOf];omega
     rw[DP] at cb;have SB:Hid (∃A,dP W0 i i (.slice (some ⟨gO,0,none⟩) i cO) gs A wr/\Ap C (tD D) (mD D) i r x (y+1) 0 A):=(⟨A,eV.out,Az.out.Bj yd Dn (Or.inl DP)⟩);clear DP;go_wp2;go_roundw
     ·exact⟨y+1,by go_num,by omega,SB.out⟩
     simp[intOf];omega
    have SB:Hid (∃A,dP W0 i i (.slice (some ⟨gO,0,none⟩) i cO) gs A wr/\Ap C (tD D) (mD D) i r x (y+1) 0 A):=(⟨A,eV.out,Az.out.Bj yd Dn (Or.inr (by omega))⟩);obtain rfl:c=C:=(by omega);go_wp2;go_roundw
    ·exact⟨y+1,by go_num,by omega,SB.out⟩
    simp[intOf];omega
   obtain rfl:y=i:=(by omega);have HNi:Hid (∃A,dP W0 y y (.slice (some ⟨gO,0,none⟩) y cO) gs A wr/\Ap C (tD D) (mD D) y r (x+1) 0 0 A):=by
    obtain⟨A,h1,h2⟩:=HP.out;exact⟨A,h1,h2.IX⟩
   go_wp2;go_roundw
   ·exact⟨x+1,by go_num,by omega,HNi.out⟩
   simp[intOf];omega
  obtain rfl:x=i:=by omega
  have HNr:Hid (∃A,dP W0 x x (.slice (some ⟨gO,0,none⟩) x cO) gs A wr/\Ap C (tD D) (mD D) x (r+1) 0 0 0 A):=by
   obtain⟨A,h1,h2⟩:=HP.out;exact⟨A,h1,h2.JM⟩
  go_wp2;go_roundw
  ·exact⟨r+1,by go_num,by omega,HNr.out⟩
  simp[intOf];omega
 obtain rfl:r=i:=by omega
 have HF:Hid (Wq D C w (.returned (.slice (some ⟨gO,0,none⟩) r cO)) wr):=by
  obtain⟨A,h1,h2⟩:=HP.out;refine⟨_,gs,A,rfl,?_,?_⟩
  ·rw[hN];exact h1.base (by rw[bW.out];exact HB.out.2.1)
  rw[hN];exact h2.done rQ.out
 clear HP;go_wp2;go_ret;exact HF.out
theorem zfJ(D:Dd)(C:Nat)(hR:DR D C)(ET:∀i k,i<D.n->k<i->¬jB C (tD D) (mD D) i k)(AQ:1<D.n->∀i,i<D.n->¬jB C (tD D) (mD D) i D.n)(w:World)(hD:DM w D):
  Calls prog 14 #[.agg D.cD] w fun e w'=>e=.returned (.bool true)/\Below w.heap.size w w':=by
 have HB:=hid (Zz (bz.new hD) (Zz (al w (.cells D.cD 29)) (Zz hR (Zz ET AQ))));have cU:=hR.n2;have da:=hR.n1;clear hD hR ET AQ;go_in;go_upto_region 1 with fail;generalize w.alloc (.cells D.cD 29)=W0 at HB⊢;obtain⟨b0,ay⟩:∃b0,w.heap.size=b0:=⟨_,rfl⟩
 have bW:=hid ay;rw[ay] at HB;rw[ay];have pL:b0<=W0.heap.size:=by have:=HB.out.2.1.size;omega
 clear ay;have Az:=hid (zjO D C HB.out.2.2.1 W0 HB.out.1.dm);go_wp2_with (refine jr (by rfl) 29 _ rfl ⟨b0,0,none⟩ rfl D.cD _ HB.out.1.st.part underlying29 rfl HB.out.1.dm.info ?_);refine Az.out.mono ?_;rintro e w1 ⟨vO,gs,A,rfl,hA,Zf⟩;have H1:=hid (Zz (HB.out.1.ab hA.aP) (HB.out.2.1.trans (hA.aP.mono pL)));have eG:b0<=w1.heap.size:=by have:=hA.aP.size;omega
 obtain⟨gO,cO,rfl,_,_⟩:=hA.out (i:=0) (by omega);have HA:=hid hA;have HE:=hid Zf;have oB:Hid (∀W',Below w1.heap.size w1 W'->Below w.heap.size w W'):=fun W' h=>by
  rw[bW.out];exact H1.out.2.trans (h.mono eG)
 obtain⟨N,hN⟩:∃N,D.n+1=N:=⟨_,rfl⟩
 have HN:=hid hN;have HC:Hid (∀W',Below w1.heap.size w1 W'->∀i k,i<N->k<N->W'.cell? ⟨gO,i,none⟩=some (.slice (some ⟨gs i,0,none⟩) N N)/\W'.cell? ⟨gs i,k,none⟩=some (.bool (A i k))):=fun W' h i k hi hk=>by
  have h9:=HA.out.ab h;rw[HN.out] at h9;exact⟨h9.cells hi,(h9.cell hi hk).1⟩
 have Ep:Hid (∀W',Below w1.heap.size w1 W'->W'.cell? ⟨b0,256,none⟩=some (.slice D.aN D.n D.cN)):=fun W' h=>(H1.out.1.ab h).f1
 have hnN:D.n<N:=by omega
 rw[hN];clear hA Zf Az hN;go_wp2;go_loopw [4,5] (fun v _ wr=>∃(i:Nat),v=.int .i64 i/\i<=D.n/\Hid (Below w1.heap.size w1 wr)) (fun v _ _=>D.n-(intOf v).toNat)
 ·exact⟨0,rfl,by omega,Below.refl _ _⟩
 obtain⟨i,rfl,hi,HL⟩:=hrel;have f1:=Ep.out wr HL.out;by_cases aq:i<D.n
 ·have i1:(i:Int)<(D.n:Int):=by omega
  have i2:(i:Int)<N:=by omega
  go_wp2;go_loopw [5] (fun v wq=>∃(k:Nat),v=.int .i64 k/\k<=i/\wq=wr) (fun v _=>i-(intOf v).toNat)
  ·exact⟨0,rfl,by omega,rfl⟩
  obtain⟨k,rfl,hk,rfl⟩:=hrel;by_cases dE:k<i
  ·obtain⟨c1,c2⟩:=HC.out wr HL.out i k (by omega) (by omega);have hA:A i k=true:=(HE.out i k (by have:=HN.out;omega) (by have:=HN.out;omega)).2 (HB.out.2.2.2.1 i k aq dE);rw[hA] at c2;have i3:(k:Int)<i:=(by omega);have i4:(k:Int)<N:=(by omega);clear hA;go_wp2;go_roundw
   ·exact⟨k+1,by go_num,by omega,by first|trivial|rfl⟩
   simp[intOf];omega
  obtain rfl:k=i:=by omega
  obtain⟨c1,c2⟩:=HC.out wr HL.out k D.n (by omega) hnN;have i4:(D.n:Int)<(N:Int):=by omega
  cases hA:A k D.n
  ·have hn:¬(1<D.n):=fun h=>by
    have:=(HE.out k D.n (by omega) (by omega)).2 (HB.out.2.2.2.2 h k aq);rw[hA] at this;cases this
   rw[hA] at c2;clear hA;have i5:¬((1:Int)<(D.n:Int)):=(by omega);go_wp2_with fail;go_quiet (fail);rename_i nq;have pd:Hid (Below w1.heap.size w1 (wr.drewN nq)):=below_drewN HL.out _;go_wp2;go_roundw
   ·exact⟨k+1,by go_num,by omega,pd.out⟩
   simp[intOf];omega
  rw[hA] at c2;clear hA;go_wp2_with fail;go_quiet (fail);rename_i nq;have pd:Hid (Below w1.heap.size w1 (wr.drewN nq)):=below_drewN HL.out _;go_wp2;go_roundw
  ·exact⟨k+1,by go_num,by omega,pd.out⟩
  simp[intOf];omega
 obtain rfl:i=D.n:=by omega
 have HF:=hid (oB.out wr HL.out);go_wp2;go_ret;exact⟨rfl,HF.out⟩
theorem zjI(hm:D.m=D.n)(i:Int):ka D i=bp D i:=by unfold ka bp;rw[hm]
theorem Mn.Ri(h:Mn X C):∀i k,i<X.n->k<i->¬jB C (tD X) (mD X) i k:=fun i k hi hk he=>by
 rw[Tq h.r,DH hi,DH (by omega)] at he
 have:=h.apart i k hi (by omega) he
 omega
theorem Mn.SN(h:Mn X C):1<X.n->∀i,i<X.n->¬jB C (tD X) (mD X) i X.n:=fun h1 i hi he=>by
 rw[Tq h.r,DH hi,QL] at he
 have key:∀j,1<=j->j<X.n->¬eE X j X (-1):=fun j hj1 hj hb=>by
  have h2:=h.ord.SF h.r hj
  cases h2 with
  | base e=>omega
  | @step x y hx e=>
   obtain⟨hY,c,hc,e2⟩:=e
   rw[h.r.len x hY] at hc
   exact h.Ba x c hY hc (by rw[e2];omega) (by rw[e2];exact hb)
 by_cases e:i=0
 ·subst e
  have h2:=h.ord.SF h.r h1
  have RC:∀y,jA (Ed X) (fun y=>y=0) y->y<X.n->y=0\/∃c,c<C/\X.nx 0 c≠-1:=by
   intro y hy
   induction hy with
   | base e=>exact fun _=>Or.inl e
   | @step x y _ e ih=>
    intro _
    rcases ih e.1 with h3|h3
    ·subst h3
     obtain⟨hY,c,hc,e2⟩:=e
     rw[h.r.len 0 hY] at hc
     exact Or.inr ⟨c,hc,by rw[e2];omega⟩
    ·exact Or.inr h3
  rcases RC 1 h2 h1 with h3|⟨c,hc,hne⟩
  ·omega
  ·obtain⟨b,hb,rfl⟩:=h.r.xu c hc
   have h4:=he.step hb
   rw[tS _ hi,rb] at h4
   exact h.Ba 0 _ hi hc hne h4
 ·exact key i (by omega) hi he
theorem zhE(D:Dd)(Zs:∃C,DR D C)(w:World)(hD:DM w D)(hn:D.n<=32768)(hm:D.m<=32768)(hl:∀i,i<D.n->D.len i<=256):
  Calls prog 9 #[.agg D.cD] w (th (∃C,DR D C) w):=by
 obtain⟨C,hC⟩:=Y4 D.K;have A5:C<=256:=by
  obtain⟨j,hj,e⟩:=hC.2;have:=hD.kl j hj;omega
 have HC:=hid hC;have OA:=hid Zs;clear Zs;have HB:=hid (Zz (bz.new hD) (Zz (al w (.cells D.cD 29)) hl));clear hC hD hl;go_in;go_upto_region 1 with fail;generalize w.alloc (.cells D.cD 29)=W0 at HB⊢;obtain⟨b0,ay⟩:∃b0,w.heap.size=b0:=⟨_,rfl⟩
 rw[ay] at HB;rw[ay];have bW:=hid ay;clear ay;have f1:=HB.out.1.f1;have f2:=HB.out.1.f2;by_cases da:D.n<1
 ·go_wp2;go_ret;exact⟨false,rfl,⟨(fun h=>by cases h),(fun h=>by
   obtain⟨C9,h9⟩:=h
   have:=h9.n1
   omega)⟩,by rw[bW.out];exact HB.out.2.1⟩
 have i1:¬((D.n:Int)<1):=by omega
 have i2:¬((32768:Int)<(D.n:Int)):=by omega
 by_cases iX:D.m=D.n
 rotate_left
 ·have i3:¬((D.m:Int)=(D.n:Int)):=by omega
  go_wp2;go_ret;exact⟨false,rfl,⟨(fun h=>by cases h),(fun h=>by
   obtain⟨C9,h9⟩:=h
   exact absurd h9.m iX)⟩,by rw[bW.out];exact HB.out.2.1⟩
 have Gw:=hid iX;rw[iX] at f2;have HG:=hid (zg8 D C HC.out W0 HB.out.1.dm);clear iX;go_wp2_with (refine jr (by rfl) 29 _ rfl ⟨b0,0,none⟩ rfl D.cD _ HB.out.1.st.part underlying29 rfl HB.out.1.dm.info ?_);refine HG.out.mono ?_;rintro e w1 ⟨bo,rfl,px,b1⟩;have H1:=hid (Zz (HB.out.1.ab b1) (HB.out.2.1.trans (b1.mono (by have:=HB.out.2.1.size;have:=bW.out;omega))));have Qd:=hid px;clear b1 px HG f1 f2;rcases bo with _|_
 ·go_wp2;go_ret;exact⟨false,rfl,⟨(fun h=>by cases h),(fun h=>by
   obtain⟨C9,h9⟩:=h
   have e:=qi.uniq h9.c HC.out
   subst e
   exact Qd.out.2 h9.xu)⟩,by rw[bW.out];exact H1.out.2⟩
 have RB:=hid (Qd.out.1 rfl);clear Qd;obtain⟨W1,pU⟩:∃W1,w1=W1:=⟨_,rfl⟩
 rw[pU] at H1;rw[pU];clear pU;go_wp2;go_loopw [4,5] (fun v _ wr=>∃(i:Nat),v=.int .i64 i/\i<=D.n/\Hid (Below W1.heap.size W1 wr/\∀i',i'<i->Rq D C i')) (fun v _ _=>D.n-(intOf v).toNat)
 ·exact⟨0,rfl,by omega,⟨Below.refl _ _,fun i' h=>by omega⟩⟩
 obtain⟨i,rfl,hi,HX⟩:=hrel;have jX:=hid (H1.out.1.ab HX.out.1);have mL:Hid (∀W',Below wr.heap.size wr W'->Below w.heap.size w W'):=fun W' h=>by
  rw[bW.out];have h1:b0<=W1.heap.size:=by have:=H1.out.2.size;have:=bW.out;omega
  have h2:=HX.out.1.size;exact H1.out.2.trans ((HX.out.1.trans (h.mono h2)).mono h1)
 by_cases aq:i<D.n
 ·obtain⟨gN,oN,eN,km,cN,zN⟩:=jX.out.dm.row i aq;obtain⟨gM,oM,eM,pY,ly⟩:=jX.out.dm.rM (by have:=Gw.out;omega);have cM:=ly i (by have:=Gw.out;omega);clear ly;have f1:=jX.out.f1;have f2:=jX.out.f2;rw[eN] at f1;rw[eM] at f2;have qu:=HB.out.2.2 i aq;have i3:(i:Int)<(D.n:Int):=by omega
  have i4:(i:Int)<(D.m:Int):=by have:=Gw.out;omega
  have KY:Hid (D.len i=C->(-1<=D.q i/\D.q i<32768)->(∀c,c<C->-1<=D.nx i c/\D.nx i c<(D.n:Int))->∀i',i'<i+1->Rq D C i'):=fun h1 h2 h3 i' hi'=>by
   by_cases e:i'=i
   ·subst e;exact⟨h1,h2,h3⟩
   exact HX.out.2 i' (by omega)
  have Gf:Hid ((∃C',DR D C')->D.len i=C/\-1<=D.q i/\D.q i<32768):=fun h=>by
   obtain⟨C9,h9⟩:=h;have e:=qi.uniq h9.c HC.out;subst e;exact⟨h9.len i aq,h9.q i aq⟩
  have qb:Hid ((∃C',DR D C')->∀c,c<C->-1<=D.nx i c/\D.nx i c<(D.n:Int)):=fun h=>by
   obtain⟨C9,h9⟩:=h;have e:=qi.uniq h9.c HC.out;subst e;exact fun c hc=>h9.nx i c aq hc
  have uw:=hid zN;generalize D.len i=ln at cN KY qu uw Gf;generalize D.A i=ai at cN uw;generalize D.Cp i=ci at cN;generalize hy:D.q i=y at cM KY Gf;have dc:Hid (∀W',Below wr.heap.size wr W'->Below wr.heap.size wr W'/\bz W' b0 D/\W'.cell? ⟨b0,256,none⟩=some (.slice (some ⟨gN,oN,none⟩) D.n D.cN)/\W'.cell? ⟨gN,oN+i,none⟩=some (.slice ai ln ci)/\W'.cell? ⟨b0,257,none⟩=some (.slice (some ⟨gM,oM,none⟩) D.m D.cM)/\W'.cell? ⟨gM,oM+i,none⟩=some (.int .i64 y)):=fun W' h=>
   ⟨h,jX.out.ab h,(h.cell (p:=⟨b0,256,none⟩) jX.out.st.lt).trans f1,(h.cell (p:=⟨gN,oN+i,none⟩) km).trans cN,(h.cell (p:=⟨b0,257,none⟩) jX.out.st.lt).trans f2,(h.cell (p:=⟨gM,oM+i,none⟩) pY).trans cM⟩
  have wF:=hid eN;have Nf:=hid eM;have HmM:=hid Gw.out;clear eN eM hy zN km pY f1 f2 cN cM;go_upto_region 7 with fail;by_cases e1:ln=C
  rotate_left
  ·exact absurd (Gf.out OA.out).1 e1
  subst e1;have i7:((ln:Int) != (ln:Int))=false:=by simp
  have zX:=hid (KY.out rfl);clear KY;by_cases e2:y < -1
  ·have:=Gf.out OA.out;omega
  by_cases e3:32768<=y
  ·have:=Gf.out OA.out;omega
  have i5:decide (y < -1)=false:=by simp;omega
  have i6:decide (32768<=y)=false:=by simp;omega
  have HRm:=hid (zX.out ⟨by omega,by omega⟩);clear zX;refine wp_region_held_drew (S:=fun W'=>Below wr.heap.size wr W'/\bz W' b0 D/\W'.cell? ⟨b0,256,none⟩=some (.slice (some ⟨gN,oN,none⟩) D.n D.cN)/\W'.cell? ⟨gN,oN+i,none⟩=some (.slice ai ln ci)/\W'.cell? ⟨b0,257,none⟩=some (.slice (some ⟨gM,oM,none⟩) D.m D.cM)/\W'.cell? ⟨gM,oM+i,none⟩=some (.int .i64 y)) (by kernel_rfl) (dc.out _ (Below.refl _ _).drew) (fun hHeld=>?_)
  (refine an 0 ?_;refine an 1 ?_;refine an 2 ?_;try simp only[Act.put,sA];refine an 3 ?_;refine an 4 ?_;refine an 5 ?_)
  (refine an 6 (v:=.agg D.cD) ?_ (hy:=by intro wz hSw;exact pt (o:=_) (ρ:=_) wz 29 (.tmp 1) rfl ⟨b0,0,none⟩ rfl D.cD _ (bz.st (And.left (And.right hSw))).part underlying29 rfl (bz.dm (And.left (And.right hSw))).info);try simp only[Act.put,sA])
  refine bf 7 (fun K hK=>?_);skip;go_simp;go_at_call 26;refine (Wz D ln HC.out _ hHeld.2.1.dm).mono ?_;rintro e wj ⟨rfl,vj⟩;have bD:Below wr.heap.size wr wj:=hHeld.1.trans (vj.mono hHeld.1.size);clear vj
  try go_wp2_with fail
  refine hK.out _ _ (dc.out _ bD) fun hHeld=>?_;clear hK K bD
  try simp only[Act.put,sA]
  (refine an 8 ?_;refine an 9 ?_;refine an 10 ?_;try simp only[Act.put,sA];refine an 11 ?_;refine an 12 ?_;refine an 13 ?_;try simp only[Act.put,sA];refine an 14 ?_;refine an 15 ?_;refine an 16 ?_;try simp only[Act.put,sA];refine an 17 ?_;refine an 18 ?_;refine an 19 ?_;try simp only[Act.put,sA];refine an 20 ?_;refine an 21 ?_;refine an 22 ?_;try simp only[Act.put,sA];refine an 23 ?_;refine an 24 ?_;try simp only[Act.put,sA])
  refine wpAnyH_done (by kernel_rfl) ?_ _;have Fl:=hid hHeld.1;clear hHeld;obtain⟨W7,Cn⟩:∃W7,wj=W7:=⟨_,rfl⟩
  rw[Cn] at Fl;rw[Cn];clear Cn;have HZ7:=hid (uw.out.below Fl.out);have HS7:=hid (dc.out _ Fl.out);clear dc;go_wp2;go_loopw [5] (fun v wq=>∃(c:Nat),v=.int .i64 c/\c<=ln/\wq=W7/\Hid (∀c',c'<c->-1<=D.nx i c'/\D.nx i c'<(D.n:Int))) (fun v _=>ln-(intOf v).toNat)
  ·exact⟨0,rfl,by omega,rfl,fun c' h=>by omega⟩
  obtain⟨c,rfl,hc,rfl,HY⟩:=hrel;obtain⟨_,_,g1,g2,_,_⟩:=HS7.out;by_cases mj:c<ln
  ·obtain⟨gA,oA,rfl,_,lC⟩:=HZ7.out (by omega);have cA:=lC c mj;clear lC;have i7:(c:Int)<ln:=(by omega);have ZH:Hid ((-1<=D.nx i c/\D.nx i c<(D.n:Int))->∀c',c'<c+1->-1<=D.nx i c'/\D.nx i c'<(D.n:Int)):=fun h c' hc'=>by
    by_cases e:c'=c
    ·subst e;exact h
    exact HY.out c' (by omega)
   have Qz:Hid ((∃C',DR D C')->-1<=D.nx i c/\D.nx i c<(D.n:Int)):=(fun h=>qb.out h c mj);generalize D.nx i c=t at cA ZH Qz;by_cases e4:t < -1
   ·have i8:decide (t < -1)=true:=(by simp;omega);have tF:=hid (mL.out _ Fl.out);go_wp2;go_ret;exact⟨false,rfl,⟨(fun h=>by cases h),(fun h=>by have:=Qz.out h;omega)⟩,tF.out⟩
   by_cases e5:(D.n:Int)<=t
   ·have i8:decide (t < -1)=false:=(by simp;omega);have i9:decide ((D.n:Int)<=t)=true:=(by simp;omega);have tF:=hid (mL.out _ Fl.out);go_wp2;go_ret;exact⟨false,rfl,⟨(fun h=>by cases h),(fun h=>by have:=Qz.out h;omega)⟩,tF.out⟩
   have i8:decide (t < -1)=false:=(by simp;omega);have i9:decide ((D.n:Int)<=t)=false:=(by simp;omega);have HZ:=hid (ZH.out ⟨by omega,by omega⟩);go_wp2;go_roundw
   ·exact⟨c+1,by go_num,by omega,by first|trivial|rfl,HZ⟩
   simp[intOf];omega
  obtain rfl:c=ln:=by omega
  have lG:Hid (Below W1.heap.size W1 wr/\∀i',i'<i+1->Rq D c i'):=⟨HX.out.1.trans (Fl.out.mono HX.out.1.size),HRm.out HY.out⟩
  go_wp2;go_roundw
  ·exact⟨i+1,by go_num,by omega,lG⟩
  simp[intOf];omega
 obtain rfl:i=D.n:=by omega
 have tF:=hid (mL.out wr (Below.refl _ _));have HDR:Hid (∃C,DR D C):=⟨C,HC.out,by omega,by omega,Gw.out,RB.out,fun i h=>(HX.out.2 i h).1,fun i h=>(HX.out.2 i h).2.1,fun i c h1 h2=>(HX.out.2 i h1).2.2 c h2⟩
 go_wp2;go_ret;exact⟨true,rfl,⟨fun _=>HDR.out,fun _=>rfl⟩,tF.out⟩
theorem zdA(K:Nat->Nat)(C:Nat)(hC:qi K C)(hk:∀j,j<256->K j<256)(w:World):
  Calls prog 55 #[.agg (aQ K)] w (th (∀c,c<C->∃j,j<256/\K j=c) w):=by
 have A5:C<=256:=by
  obtain⟨j,hj,e⟩:=hC.2;have:=hk j hj;omega
 have HB:=hid (Zz (St.new w 25 (aQ K)) (Zz (al w (.cells (aQ K) 25)) (Zz hC (Zz hk hk))));have dN:=vt K;clear hC hk;go_in;go_wp2_with fail;generalize w.alloc (.cells (aQ K) 25)=W0 at HB⊢;obtain⟨b0,ay⟩:∃b0,w.heap.size=b0:=⟨_,rfl⟩
 have bW:=hid ay;rw[ay] at HB;rw[ay];clear ay;have tO:=hid (FC K C HB.out.2.2.1 HB.out.2.2.2.1 W0);refine wp_scope_straight (wp_seq (wp_label ?_));go_wp2_with (refine p6 rfl 25 _ rfl ⟨b0,0,none⟩ rfl (aQ K) (.array 256 5) HB.out.1.dG underlying25 rfl dN ?_);refine tO.out.mono ?_;rintro e w1 ⟨rfl,b1⟩;have H1:=hid (Zz (HB.out.1.ab b1) (HB.out.2.1.trans (b1.mono (by have:=HB.out.2.1.size;have:=bW.out;omega))));clear b1 tO;go_wp2;go_loopw [3,5,8,12] (fun _ _ v _ wr=>∃(c:Nat),v=.int .i64 c/\c<=C/\wr=w1/\Hid (∀c',c'<c->∃j,j<256/\K j=c')) (fun _ _ v _ _=>C-(intOf v).toNat)
 ·exact⟨0,rfl,by omega,rfl,fun c' h=>absurd h (by omega)⟩
 obtain⟨c,rfl,hc,rfl,Jm⟩:=hrel;by_cases aq:c<C
 ·have i1:(c:Int)<C:=by omega
  obtain⟨W9,TE⟩:∃W9,W9=wr:=⟨wr,rfl⟩
  have ee:=hid H1.out.1;go_wp2_with (refine p6 rfl 25 _ rfl ⟨b0,0,none⟩ rfl (aQ K) (.array 256 5) ee.out.dG underlying25 rfl dN ?_);go_loopw [5,12] (fun _ v wq=>∃(k:Nat),v=.int .i64 k/\k<=256/\wq=wr/\Hid (∀j,j<k->K j≠c)) (fun _ v _=>256-(intOf v).toNat)
  ·exact⟨0,rfl,by omega,rfl,fun j hj=>by omega⟩
  obtain⟨k,rfl,fm,rfl,HN⟩:=hrel;by_cases dE:k<256
  ·have i2:(k:Int)<256:=(by omega);have hv:=Db K k dE;have Am:=Mr 25 5 256 (aQ K) k _ underlying25 dE (by kernel_rfl) ⟨_,underlying5,rfl⟩ hv wr;have wu:=HB.out.2.2.2.1 k dE;have HS:Hid (K k≠c->∀j,j<k+1->K j≠c):=fun h j hj=>by
    by_cases e:j=k
    ·subst e;exact h
    exact HN.out j (by omega)
   have HY:Hid (K k=c->∀c',c'<c+1->∃j,j<256/\K j=c'):=fun h c' hc'=>by
    by_cases e:c'=c
    ·exact⟨k,dE,by rw[h,e]⟩
    exact Jm.out c' (by omega)
   generalize K k=y at hv Am wu HS HY;by_cases e:y=c
   ·subst e;have HY2:=hid (HY.out rfl);clear HS HY;go_wp2;go_roundw
    ·exact⟨y+1,by go_num,by omega,by first|trivial|rfl,HY2⟩
    simp[intOf];omega
   have HZ:=hid (HS.out e);clear HY;have i3:¬((y:Int)=c):=(by omega);go_wp2;go_roundw
   ·exact⟨k+1,by go_num,by omega,by first|trivial|rfl,HZ⟩
   simp[intOf];omega
  obtain rfl:k=256:=by omega
  have HF:Hid (th (∀c,c<C->∃j,j<256/\K j=c) w (.returned (.bool false)) wr):=⟨false,rfl,⟨(fun h=>by cases h),fun h=>by
   obtain⟨j,hj,e⟩:=h c aq
   exact absurd e (HN.out j hj)⟩,by rw[bW.out];exact H1.out.2⟩
  go_wp2_with fail
  try dsimp only[Exit.noGoto]
  go_ret;exact HF.out
 obtain rfl:c=C:=by omega
 go_wp2_with fail
 try dsimp only[Exit.noGoto]
 go_ret;exact⟨true,rfl,⟨fun _=>Jm.out,fun _=>rfl⟩,by rw[bW.out];exact H1.out.2⟩
theorem zeG(D:Dd)(hm:D.m<=100000)(hn:D.n<=100000)(w:World)(hD:DM w D):
  Calls prog 56 #[.agg D.cD] w (th ((∀i,i<D.m->-1<=D.q i/\D.q i<32768)/\D.m=D.n) w):=by
 have HB:=hid (Zz (bz.new hD) (al w (.cells D.cD 29)));clear hD;go_in;go_upto_region 1 with fail;generalize w.alloc (.cells D.cD 29)=W0 at HB⊢;obtain⟨b0,ay⟩:∃b0,w.heap.size=b0:=⟨_,rfl⟩
 have bW:=hid ay;rw[ay] at HB;rw[ay];clear ay;have f1:=HB.out.1.f1;have f2:=HB.out.1.f2;have Lr:=hid (show Below w.heap.size w W0 by rw[bW.out];exact HB.out.2);go_wp2;go_loopw [4,8] (fun _ v wr=>∃(k:Nat),v=.int .i64 k/\k<=D.m/\wr=W0/\Hid (∀i,i<k->-1<=D.q i/\D.q i<32768)) (fun _ v _=>D.m-(intOf v).toNat)
 ·exact⟨0,rfl,by omega,rfl,fun i h=>absurd h (by omega)⟩
 obtain⟨k,rfl,hk,rfl,HK⟩:=hrel;by_cases aq:k<D.m
 ·obtain⟨gM,oM,eM,_,ly⟩:=HB.out.1.dm.rM (by omega);have cM:=ly k aq;have i1:(k:Int)<(D.m:Int):=by omega
  rw[eM];have Nf:=hid eM;have HS:Hid (-1<=D.q k/\D.q k<32768->∀i,i<k+1->-1<=D.q i/\D.q i<32768):=fun h i hi=>by
   by_cases e:i=k
   ·subst e;exact h
   exact HK.out i (by omega)
  have gJ:Hid ((∀i,i<D.m->-1<=D.q i/\D.q i<32768)->-1<=D.q k/\D.q k<32768):=fun h=>h k aq
  clear ly eM;generalize D.q k=y at cM HS gJ;by_cases h1:y < -1
  ·have i2:decide (y < -1)=true:=(by simp;omega);have HF:Hid (th ((∀i,i<D.m->-1<=D.q i/\D.q i<32768)/\D.m=D.n) w (.returned (.bool false)) wr):=(⟨false,rfl,⟨(fun h=>by cases h),(fun h=>by have:=gJ.out h.1;omega)⟩,Lr.out⟩);clear HS gJ;go_wp2;go_ret;exact HF.out
  have i2:decide (y < -1)=false:=by simp;omega
  by_cases h2:32768<=y
  ·have i3:decide (32768<=y)=true:=(by simp;omega);have HF:Hid (th ((∀i,i<D.m->-1<=D.q i/\D.q i<32768)/\D.m=D.n) w (.returned (.bool false)) wr):=(⟨false,rfl,⟨(fun h=>by cases h),(fun h=>by have:=gJ.out h.1;omega)⟩,Lr.out⟩);clear HS gJ;go_wp2;go_ret;exact HF.out
  have i3:decide (32768<=y)=false:=by simp;omega
  have oJ:=hid (HS.out ⟨by omega,by omega⟩);clear HS gJ;go_wp2;go_roundw
  ·exact⟨k+1,by go_num,by omega,by first|trivial|rfl,oJ⟩
  simp[intOf];omega
 obtain rfl:k=D.m:=by omega
 by_cases iX:D.m=D.n
 ·have HF:Hid (th ((∀i,i<D.m->-1<=D.q i/\D.q i<32768)/\D.m=D.n) w (.returned (.bool true)) wr):=⟨true,rfl,⟨fun _=>⟨HK.out,iX⟩,fun _=>rfl⟩,Lr.out⟩
  have i4:((D.m:Int) == (D.n:Int))=true:=by simp;omega
  go_wp2;go_ret
  first|exact HF.out|(rw[i4];exact HF.out)|(simp only[iX] at *;simpa using HF.out)
 have HF:Hid (th ((∀i,i<D.m->-1<=D.q i/\D.q i<32768)/\D.m=D.n) w (.returned (.bool false)) wr):=⟨false,rfl,⟨(fun h=>by cases h),fun h=>absurd h.2 iX⟩,Lr.out⟩
 have i4:((D.m:Int) == (D.n:Int))=false:=by simp;omega
 go_wp2;go_ret
 first|exact HF.out|(rw[i4];exact HF.out)
theorem zfO(D:Dd)(C:Nat)(hC:qi D.K C)(hn:D.n<=32768)(hl:∀i,i<D.n->D.len i<=100000)(w:World)(hD:DM w D):
  Calls prog 57 #[.agg D.cD] w (th (∀i,i<D.n->D.len i=C/\∀c,c<C->-1<=D.nx i c/\D.nx i c<(D.n:Int)) w):=by
 have tX:C<=256:=by
  obtain⟨j,hj,e⟩:=hC.2;have:=hD.kl j hj;omega
 have HB:=hid (Zz (bz.new hD) (Zz (al w (.cells D.cD 29)) (Zz hC hl)));have dN:=vt D.K;clear hD hC hl;go_in;go_upto_region 1 with fail;generalize w.alloc (.cells D.cD 29)=W0 at HB⊢;obtain⟨b0,ay⟩:∃b0,w.heap.size=b0:=⟨_,rfl⟩
 have bW:=hid ay;rw[ay] at HB;rw[ay];clear ay;have tO:=hid (FC D.K C HB.out.2.2.1 HB.out.1.dm.kl W0);go_wp2_with (refine p6 rfl 25 _ rfl ⟨b0,0,none⟩ rfl (aQ D.K) (.array 256 5) HB.out.1.dG underlying25 rfl dN ?_);refine tO.out.mono ?_;rintro e w1 ⟨rfl,b1⟩;have H1:=hid (Zz (HB.out.1.ab b1) (HB.out.2.1.trans (b1.mono (by have:=HB.out.2.1.size;have:=bW.out;omega))));have xz:Hid (∀W',Below w1.heap.size w1 W'->∀bo:Bool,(bo=true↔(∀i,i<D.n->D.len i=C/\∀c,c<C->-1<=D.nx i c/\D.nx i c<(D.n:Int)))->th (∀i,i<D.n->D.len i=C/\∀c,c<C->-1<=D.nx i c/\D.nx i c<(D.n:Int)) w (.returned (.bool bo)) W'):=fun W' h bo hb=>⟨bo,rfl,hb,by
  rw[bW.out]
  exact H1.out.2.trans (h.mono (by have:=H1.out.2.size;have:=bW.out;omega))⟩
 have f1:=H1.out.1.f1;clear b1 tO;by_cases kH:D.n=0
 ·have HF:=hid (xz.out w1 (Below.refl _ _) true ⟨fun _ i hi=>absurd hi (by omega),fun _=>rfl⟩);rw[kH] at f1;go_wp2;go_loopw [5,7,14,24] (fun _ _ v _ wr=>v=.int .i64 0/\wr=w1) (fun _ _ v _ _=>0)
  ·exact⟨rfl,rfl⟩
  obtain⟨rfl,rfl⟩:=hrel;go_wp2;go_ret;exact HF.out
 obtain⟨gN,oN,eN,km,pC⟩:=H1.out.1.dm.rN (by omega);rw[eN] at f1;have wF:=hid eN;have sj:=hid pC;clear eN pC;go_wp2;go_loopw [5,7,14,24] (fun _ _ v _ wr=>∃(i:Nat),v=.int .i64 i/\i<=D.n/\Hid (Below w1.heap.size w1 wr)/\Hid (∀i',i'<i->D.len i'=C/\∀c,c<C->-1<=D.nx i' c/\D.nx i' c<(D.n:Int))) (fun _ _ v _ _=>D.n-(intOf v).toNat)
 ·exact⟨0,rfl,by omega,Below.refl _ _,fun i' h=>absurd h (by omega)⟩
 obtain⟨i,rfl,hi,HX,HI⟩:=hrel;clear f1;by_cases aq:i<D.n
 ·have cN:=(HX.out.cell (p:=⟨gN,oN+i,none⟩) km).trans (sj.out i aq).1;have uw:=hid (sj.out i aq).2;have qu:=HB.out.2.2.2 i aq;by_cases hlen:D.len i=C
  rotate_left
  ·have HF:=hid (xz.out wr HX.out false ⟨(fun h=>by cases h),(fun h=>absurd (h i aq).1 hlen)⟩);obtain⟨ln,lx⟩:∃ln,D.len i=ln:=(⟨_,rfl⟩);rw[lx] at cN hlen qu;have i1:(i:Int)<(D.n:Int):=(by omega);have i2:((ln:Int) != (C:Int))=true:=by simp;omega
   try dsimp only at cN
   clear lx uw;go_wp2;go_ret;exact HF.out
  have HIs:Hid ((∀c,c<C->-1<=D.nx i c/\D.nx i c<(D.n:Int))->∀i',i'<i+1->D.len i'=C/\∀c,c<C->-1<=D.nx i' c/\D.nx i' c<(D.n:Int)):=fun h i' hi'=>by
   by_cases e:i'=i
   ·subst e;exact⟨hlen,h⟩
   exact HI.out i' (by omega)
  rw[hlen] at cN;rw[hlen] at uw;have i1:(i:Int)<(D.n:Int):=by omega
  try dsimp only at cN
  clear hlen;go_wp2;go_loopw [7,24] (fun _ v wq=>∃(c:Nat),v=.int .i64 c/\c<=C/\Hid (Below w1.heap.size w1 wq)/\Hid (∀c',c'<c->-1<=D.nx i c'/\D.nx i c'<(D.n:Int))) (fun _ v _=>C-(intOf v).toNat)
  ·exact⟨0,rfl,by omega,HX,fun c' h=>absurd h (by omega)⟩
  clear HX cN;obtain⟨c,rfl,hc,HX,Jm⟩:=hrel;by_cases mj:c<C
  ·obtain⟨gA,oA,eA,BT,lC⟩:=uw.out (by omega);have cA:=(HX.out.cell (p:=⟨gA,oA+c,none⟩) BT).trans (lC c mj);have i2:(c:Int)<C:=(by omega);have jX:=hid (H1.out.1.ab HX.out);have HS:Hid (-1<=D.nx i c/\D.nx i c<(D.n:Int)->∀c',c'<c+1->-1<=D.nx i c'/\D.nx i c'<(D.n:Int)):=fun h c' hc'=>by
    by_cases e:c'=c
    ·subst e;exact h
    exact Jm.out c' (by omega)
   have gJ:Hid ((∀i,i<D.n->D.len i=C/\∀c,c<C->-1<=D.nx i c/\D.nx i c<(D.n:Int))->-1<=D.nx i c/\D.nx i c<(D.n:Int)):=(fun h=>(h i aq).2 c mj);rw[eA];have Ib:=hid eA;clear lC eA;generalize D.nx i c=t at cA HS gJ;by_cases ht:t=-1
   ·subst ht;have oJ:=hid (HS.out ⟨by omega,by omega⟩);clear HS gJ;go_wp2;go_roundw
    ·exact⟨c+1,by go_num,by omega,HX,oJ⟩
    simp[intOf];omega
   have Is:(t != (-1:Int))=true:=(by simp[ht]);have mW:=hid (Jd D t wr jX.out.dm);by_cases yO:0<=t/\t<(D.n:Int)
   ·have I9:Hid (decide (0<=t/\t<(D.n:Int))=true):=(by show _=_;simp;omega);have oJ:=hid (HS.out ⟨by omega,by omega⟩);clear HS gJ;go_wp2_with (refine jr (by first|rfl|(simp[ht];done)) 29 _ rfl ⟨b0,0,none⟩ rfl D.cD _ jX.out.st.part underlying29 rfl jX.out.dm.info ?_);refine mW.out.mono ?_;rintro e w5 ⟨rfl,b5⟩;have QR:=hid (HX.out.trans (b5.mono HX.out.size));rw[I9.out];clear b5 mW;go_wp2;go_roundw
    ·exact⟨c+1,by go_num,by omega,QR,oJ⟩
    simp[intOf];omega
   have I9:Hid (decide (0<=t/\t<(D.n:Int))=false):=(by show _=_;simp;omega);have oJ:Hid (¬(∀i,i<D.n->D.len i=C/\∀c,c<C->-1<=D.nx i c/\D.nx i c<(D.n:Int))):=(fun h=>by have:=gJ.out h;omega);clear HS gJ;go_wp2_with (refine jr (by first|rfl|(simp[ht];done)) 29 _ rfl ⟨b0,0,none⟩ rfl D.cD _ jX.out.st.part underlying29 rfl jX.out.dm.info ?_);refine mW.out.mono ?_;rintro e w5 ⟨rfl,b5⟩;have HF:=hid (xz.out w5 (HX.out.trans (b5.mono HX.out.size)) false ⟨(fun h=>by cases h),(fun h=>absurd h oJ.out)⟩);rw[I9.out];clear b5 mW;go_wp2;go_ret;exact HF.out
  obtain rfl:c=C:=by omega
  have oJ:=hid (HIs.out Jm.out);go_wp2;go_roundw
  ·exact⟨i+1,by go_num,by omega,HX,oJ⟩
  simp[intOf];omega
 obtain rfl:i=D.n:=by omega
 have HF:=hid (xz.out wr HX.out true ⟨fun _=>HI.out,fun _=>rfl⟩);go_wp2;go_ret;exact HF.out
theorem Vf{K:Nat->Nat}{C':Nat}(h:qi K C)(h':qi K C'):C=C':=by
 obtain⟨j,hj,e⟩:=h.2;obtain⟨j',Bb,e'⟩:=h'.2;have h1:=h.1 j' Bb;have h2:=h'.1 j hj;omega
theorem zjS(D:Dd)(hn:D.n<=32768)(hm:D.m<=100000)(hl:∀i,i<D.n->D.len i<=100000)(w:World)(hD:DM w D):
  Calls prog 34 #[.agg D.cD] w (th (∃C,DR D C) w):=by
 obtain⟨C,hC⟩:=Y4 D.K;have HB:=hid (Zz (bz.new hD) (Zz (al w (.cells D.cD 29)) (Zz hC hl)));have dN:=vt D.K;clear hD hC hl;go_in;go_upto_region 1 with fail;generalize w.alloc (.cells D.cD 29)=W0 at HB⊢;obtain⟨b0,ay⟩:∃b0,w.heap.size=b0:=⟨_,rfl⟩
 have bW:=hid ay;rw[ay] at HB;rw[ay];clear ay;have f1:=HB.out.1.f1;have pL:b0<=W0.heap.size:=by have:=HB.out.2.1.size;have:=bW.out;omega
 have xz:Hid (∀W',Below W0.heap.size W0 W'->∀bo:Bool,(bo=true↔∃C,DR D C)->th (∃C,DR D C) w (.returned (.bool bo)) W'):=fun W' h bo hb=>⟨bo,rfl,hb,by
  rw[bW.out]
  exact HB.out.2.1.trans (h.mono pL)⟩
 by_cases da:D.n<1
 ·have HF:=hid (xz.out W0 (Below.refl _ _) false ⟨(fun h=>by cases h),(fun h=>by
   obtain⟨C',h⟩:=h
   have:=h.n1
   omega)⟩)
  have i1:((D.n:Int)<1):=by omega
  go_wp2;go_ret;exact HF.out
 have i1:¬((D.n:Int)<1):=by omega
 have i2:¬((32768:Int)<(D.n:Int)):=by omega
 have JX:=hid (zdA D.K C HB.out.2.2.1 HB.out.1.dm.kl W0);go_wp2_with (refine p6 rfl 25 _ rfl ⟨b0,0,none⟩ rfl (aQ D.K) (.array 256 5) HB.out.1.dG underlying25 rfl dN ?_);refine JX.out.mono ?_;rintro e w1 ⟨bo,rfl,px,b1⟩;have Hg:=hid px;have H1:=hid (Zz (HB.out.1.ab b1) b1);have EF:=hid (zeG D hm (by omega) w1 H1.out.1.dm);clear b1 JX px;rcases bo with _|_
 ·have HF:=hid (xz.out w1 H1.out.2 false ⟨(fun h=>by cases h),(fun h=>by
   obtain⟨C',h⟩:=h
   have e:=Vf h.c HB.out.2.2.1
   subst e
   exact Hg.out.2 h.xu)⟩)
  clear f1;go_wp2;go_ret;exact HF.out
 clear f1;go_wp2_with (refine jr (by rfl) 29 _ rfl ⟨b0,0,none⟩ rfl D.cD _ H1.out.1.st.part underlying29 rfl H1.out.1.dm.info ?_);refine EF.out.mono ?_;rintro e w2 ⟨bo,rfl,px,b2⟩;have Hq:=hid px;have H2:=hid (Zz (H1.out.1.ab b2) (H1.out.2.trans (b2.mono H1.out.2.size)));have zG:=hid (zfO D C HB.out.2.2.1 hn HB.out.2.2.2 w2 H2.out.1.dm);clear b2 EF px;rcases bo with _|_
 ·have HF:=hid (xz.out w2 H2.out.2 false ⟨(fun h=>by cases h),(fun h=>by
   obtain⟨C',h⟩:=h
   exact Hq.out.2 ⟨fun i hi=>h.q i (by have:=h.m;omega),h.m⟩)⟩)
  go_wp2;go_ret;exact HF.out
 go_wp2_with (refine jr (by rfl) 29 _ rfl ⟨b0,0,none⟩ rfl D.cD _ H2.out.1.st.part underlying29 rfl H2.out.1.dm.info ?_);refine zG.out.mono ?_;rintro e w3 ⟨bo,rfl,px,b3⟩;have HF:=hid (xz.out w3 (H2.out.2.trans (b3.mono H2.out.2.size)) bo ⟨(fun h=>by
  have h3:=px.1 h
  have h2:=Hq.out.1 (by first|rfl|trivial)
  exact⟨C,HB.out.2.2.1,by omega,hn,h2.2,Hg.out.1 (by first|rfl|trivial),fun i hi=>(h3 i hi).1,fun i hi=>h2.1 i (by have:=h2.2;omega),fun i c hi hc=>(h3 i hi).2 c hc⟩),(fun h=>by
  obtain⟨C',h⟩:=h
  have e:=Vf h.c HB.out.2.2.1
  subst e
  exact px.2 (fun i hi=>⟨h.len i hi,fun c hc=>h.nx i c hi hc⟩))⟩)
 clear b3 zG px;go_wp2;go_ret;exact HF.out
