import Derived.Test.YtiijebameffenaaGreatZClasses
import Derived.Laws.CopyOwn
set_option linter.all false
set_option maxHeartbeats 2000000
set_option maxRecDepth 100000
open Go.Lib (hid)
namespace Go.Proofs.YtiijebameffenaaGreat
open Go.Proofs.Tryz
open List (mem_singleton replicate take_of_length_le)
open Or (inl inr)
open Builtin (clear_ zeroCells)
variable {B e g n t x:Nat}{l lg nm:List Nat}{mk:Nat->Int}{r:Int}{w:World}{xs:List Value}
def bY(f t:Nat):En:=⟨f,t,fun _=>false,true⟩
open Go.RowKit Go.Maps
theorem qg:(prog.info? 186).map (fun i=>(i.zero,i.size,i.bytes))=some (some (.agg #[.int .i64 0,.int .i64 0,.int .u64 0,.int .u64 0,.int .u64 0,.int .u64 0,.bool false]),7,56):=by kernel_rfl
theorem Wt{c0 c1 c2 c3 c4 c5 c6:Value}(h:St w t g #[c0,c1,c2,c3,c4,c5,c6]):w.cell? ⟨g,0,none⟩=some c0/\w.cell? ⟨g,1,none⟩=some c1/\w.cell? ⟨g,2,none⟩=some c2/\w.cell? ⟨g,3,none⟩=some c3/\w.cell? ⟨g,4,none⟩=some c4/\w.cell? ⟨g,5,none⟩=some c5/\w.cell? ⟨g,6,none⟩=some c6:=
 ⟨h.at_ 0,h.at_ 1,h.at_ 2,h.at_ 3,h.at_ 4,h.at_ 5,h.at_ 6⟩
theorem XF{t' size:Nat}{v:Value}{c0 c1 c2 c3:Value}(h:w.ownsRow B t size v n xs)(hs:St w t' g #[c0,c1,c2,c3])(ht:t≠t')(d0 d1 d2 d3:Value):
  ((((w.setCell ⟨g,0,none⟩ d0).setCell ⟨g,1,none⟩ d1).setCell ⟨g,2,none⟩ d2).setCell ⟨g,3,none⟩ d3).ownsRow B t size v n xs:=
 kz (kz (kz (kz h hs ht 0 d0) (hs.set 0 d0) ht 1 d1) ((hs.set 0 d0).set 1 d1) ht 2 d2) (((hs.set 0 d0).set 1 d1).set 2 d2) ht 3 d3
def Src(L:List En)(F T x:Nat):Prop:=x=F\/x=T\/∃e∈L,e.f=x\/e.t=x
theorem UN{s k:Nat}(h:lg=nm\/lg=nm++[s])(hk:nm[k]?=some x):lg[k]?=some x:=by
 rcases h with rfl|rfl
 ·exact hk
 rw[List.getElem?_append_left (List.getElem?_eq_some_iff.1 hk).1];exact hk
theorem XG{L:List En}{F T s:Nat}(h:lg=nm\/lg=nm++[s])(hs:Src L F T s)(hn:∀x∈nm,Src L F T x):∀x∈lg,Src L F T x:=by
 rcases h with rfl|rfl
 ·exact hn
 intro x hx;rcases List.mem_append.1 hx with hx|hx
 ·exact hn x hx
 rw[List.mem_singleton.1 hx];exact hs
theorem zqe{s:Nat}(h:lg=nm\/lg=nm++[s]):nm.length<=lg.length/\lg.length<=nm.length+1:=by
 rcases h with rfl|rfl <;> simp
theorem zqf{s:Nat}(h:lg=nm\/lg=nm++[s]){L':List En}(hb:∀e∈L',e.f<nm.length/\e.t<nm.length):L'.map (En.pC lg)=L'.map (En.pC nm):=by
 refine List.map_congr_left fun e he=>?_
 obtain⟨h1,h2⟩:=hb e he;have g:∀i,i<nm.length->lg.getD i 0=nm.getD i 0:=fun i hi=>by
  rw[List.getD_eq_getElem?_getD,List.getD_eq_getElem?_getD,List.getElem?_eq_getElem hi,UN h (List.getElem?_eq_getElem hi)]
 simp only[En.pC,g _ h1,g _ h2]
theorem Nr{base size:Nat}(h:w.ownsRow base e size (.slice (some ⟨g,0,none⟩) n n) n xs):w.heap[g]?=some (.cells xs.toArray e (0,0))/\base<=g/\n<=maxLen/\xs.length=n*size:=by
 rcases h.2 with ⟨h1,_⟩|⟨g',cap,cur,h1,h2,h3,h4,h5,h6,h7⟩
 ·cases h1
 injection h1 with e1 _ e3;injection e1 with e1;injection e1 with e1;subst e1 e3;have e:cur=xs.toArray:=by
  apply Array.toList_inj.1;rw[<-h7,take_of_length_le (by simp[h6])]
 subst e;exact⟨h3,h2,h5,by simpa using h6⟩
theorem zjT{base size:Nat}{ys:List Value}(h:w.ownsRow base e size (.slice (some ⟨g,0,none⟩) n n) n xs)(hy:ys.length=n*size):(w.setRow g ys.toArray).ownsRow base e size (.slice (some ⟨g,0,none⟩) n n) n ys:=by
 obtain⟨h1,h2,h3,h4⟩:=Nr h;exact⟨hy,inr ⟨g,n,ys.toArray,rfl,h2,setRow_heap w g _ _ e _ h1,Nat.le_refl _,h3,by simpa using hy,by rw[take_of_length_le (by simp[hy])]⟩⟩
theorem znO{base c size:Nat}(h:w.ownsRow base e size (.slice (some ⟨g,0,none⟩) n c) n xs)(j:Nat)(hj:j<n*size)(u:Value):(w.setCell ⟨g,j,none⟩ u).ownsRow base e size (.slice (some ⟨g,0,none⟩) n c) n (xs.set j u):=by
 refine⟨by rw[List.length_set];exact h.1,?_⟩;rcases h.2 with ⟨h1,_⟩|⟨g',cap,cur,h1,h2,h3,h4,h5,h6,h7⟩
 ·cases h1
 injection h1 with e1 _ e3;injection e1 with e1;injection e1 with e1;subst e1 e3;refine inr ⟨g,c,cur.setIfInBounds j u,rfl,h2,heap_setCell_same w g j cur e u h3,h4,h5,by simpa using h6,?_⟩;rw[Array.toList_setIfInBounds,<-h7];rw[List.take_set]
theorem YF(l:List Eg):∀v∈gd l,v.oneCell'=true:=by
 intro v hv;simp only[gd,List.mem_flatMap] at hv;obtain⟨x,_,hx⟩:=hv;simp only[dJ,List.mem_cons,List.not_mem_nil,or_false] at hx;rcases hx with rfl|rfl|rfl|rfl|rfl|rfl|rfl <;> rfl
theorem zeD(P:Program)(w:World)(T ty elem:TypeId)(z:Value)(g m c:Nat)(cur:Array Value)(t:TypeId)(hu:P.underlying T=some (.slice elem))(hz:∀w,(zeroValue elem).run P w=.ok z w)(dc:z.cells=#[z])(ho:z.oneCell'=true)
  (hg:w.heap[g]?=some (.cells cur t (0,0))) (hm:cur.size=m):
  (clear_ #[T] ty #[.slice (some ⟨g,0,none⟩) m c]).run P w=.ok (.tuple #[]) (w.setRow g (replicate m z).toArray):=by
 have cU:=run_storeCells_at P g 0 t (replicate m z) 0 cur w hg (by simp[hm]) (fun v hv=>by rw[List.eq_of_mem_replicate hv];exact ho);have nG:(cur.toList.take (0+0)++replicate m z++cur.toList.drop (0+0+(replicate m z).length)).toArray=(replicate m z).toArray:=by
  rw[List.drop_eq_nil_of_le (by simp[hm])];simp
 rw[nG] at cU;have Sq:(zeroCells z.cells m).toList=replicate m z:=by
  rw[dc];refine List.ext_getElem (by simp[zeroCells]) fun i h1 h2=>?_
  simp[zeroCells,Nat.mod_one]
 match m,cU,hm,Sq with
 | 0,cU,hm,_=>
  have:cur=#[]:=Array.eq_empty_of_size_eq_zero hm;subst this;have h1:=setRow_self w g #[] t (0,0) hg;simp[clear_,run_underlying hu,h1]
 | m+1,cU,_,Sq=>
  simp[clear_,run_underlying hu,hz,Sq,cU]
theorem iL.clear{V wr:World}{bm gI m:Nat}{bs:List Nat}{cs:Array Value}{P:Nat->Bool}{aL:Option Addr}{cL:Nat}(h:iL V B bs bm gI m cs P l (.slice aL n cL) wr)(hn:l.length=n):
  iL V B bs bm gI m cs (fun _=>false) [] (.slice aL 0 cL) ((wr.setRow gI (replicate m (.int .u8 0)).toArray).setCell ⟨bm,262,none⟩ (.slice aL 0 cL)):=by
 obtain⟨jF,Bu,Il,Wu⟩:=Nr h.lW;have hk:Kept [] [gI] wr (wr.setRow gI (replicate m (.int .u8 0)).toArray):=fun k o hk _ hn=>by
  rw[setRow_other _ _ _ _ (by simpa using hn)];exact hk
 have ny:=h.sm.kept hk (by simp) (by simp only[mem_singleton];exact fun e=>eI h.lW h.sm (by decide) gI rfl e.symm);have hl:wr.ownsRow B 3 1 (.slice aL n cL) n (dv l):=by rw[<-hn];have:=h.dg;rwa [hn] at this⊢
 have wJ:=gk hl hk (by simp) (fun g hg e=>by
   simp only[mem_singleton] at e
   subst e
   exact iO hl h.lW (by decide) g hg rfl)
 have PC:=zjT h.lW (ys:=replicate m (.int .u8 0)) (by simp);refine⟨(h.kept.trans (hk.mono (by simp) (fun x hx=>by rw[List.mem_singleton.1 hx];exact h.ko.2))).setCell _ _ (inl h.ko.1),(below_setRow h.below h.lo.2.1 _).setCell (p:=⟨bm,262,none⟩) h.lo.1 _,?_,h.sz,h.cI,?_,kz (zik wJ) ny (by decide) _ _,?_,h.ko,h.lo⟩
 ·have:=ny.set 262 (.slice aL 0 cL);rwa [Array.setIfInBounds_setIfInBounds] at this
 ·rw[PV];exact kz PC ny (by decide) _ _
 intro b e;refine h.loc b ?_;cases aL with
 | none=>simp[Value.ownBlock] at e
 | some ad=>simpa [Value.ownBlock] using e
def zqg(V:World)(B:Nat)(bs:List Nat)(bm gI m M:Nat)(cs:Array Value)(st:List Nat)(e:Ending)(w':World):Prop:=
 ∃l' jN,e=.returned (.tuple #[])/\jq V B bs bm gI m M cs l' jN w'/\∀x,x∈l'↔x∈st
theorem zhz(V:World)(B:Nat)(bs:List Nat)(bm gI m M:Nat)(cs:Array Value)(P:Nat->Bool)(l:List Nat)(vL:Value)(wr:World)(h:iL V B bs bm gI m cs P l vL wr)(hM:M<=100000)(hm:(M+7) / 8=m)(qb:l.length<=1000000)
  (a:Option Addr) (n c:Nat) (st:List Nat) (cU:st.length=n) (hn:n<=100000000000) (aq:∀x∈st,x<M) (hr:∀W,Kept [] bs V W->Cm W W.heap.size a st):
  Calls prog 152 #[.pointer (some ⟨bm,0,none⟩),.slice a n c] wr (zqg V B bs bm gI m M cs st):=by
 obtain⟨aL,cL,rfl⟩:=cy h.dg;obtain⟨c1,c2,c3⟩:=h.cells;obtain⟨q,hq⟩:=Ξ l.length
 rw[hq] at c2 qb;have hc:=h.clear (n:=l.length) rfl;have HC:=hid hc;have HG:=hid (Nr h.lW);have H:=ψ cU aq hr hm;have d1:(wr.setRow gI (replicate m (.int .u8 0)).toArray).cell? ⟨bm,262,none⟩=some (.slice aL q cL):=by
  have hk:Kept [] [gI] wr (wr.setRow gI (replicate m (.int .u8 0)).toArray):=fun k o hk _ hn=>by
   rw[setRow_other _ _ _ _ (by simpa using hn)];exact hk
  have ny:=h.sm.kept hk (by simp) (by simp only[mem_singleton];exact fun e=>eI h.lW h.sm (by decide) gI rfl e.symm);rw[ny.at_,Array.getElem?_setIfInBounds_self_of_lt (by rw[h.sz];decide),hq]
 have d2:(wr.setRow gI (replicate m (.int .u8 0)).toArray).frozen? ⟨bm,262,none⟩=false:=by
  have hk:Kept [] [gI] wr (wr.setRow gI (replicate m (.int .u8 0)).toArray):=fun k o hk _ hn=>by
   rw[setRow_other _ _ _ _ (by simpa using hn)];exact hk
  have ny:=h.sm.kept hk (by simp) (by simp only[mem_singleton];exact fun e=>eI h.lW h.sm (by decide) gI rfl e.symm);exact ny.bE 262
 have hz:=UD;have cZ:=zeD prog wr 76 0 5 (.int .u8 0) gI m m _ 5 underlying76 hz rfl rfl HG.o.1 (by have:=HG.o.2.2.2;simpa using this);generalize wr.setRow gI (replicate m (.int .u8 0)).toArray=W1 at HC d1 d2 cZ;clear h hc cU aq hr hm hq hz;go_in;go_wp2_with fail;generalize W1.setCell ⟨bm,262,none⟩ (.slice aL 0 cL)=W0 at HC⊢;clear c1 c2 c3 d1 d2 HG cZ;go_loopw [5,20] (fun _ v wq=>∃(k:Nat) (l2:List Nat) (rX:Value),v=.int .i64 k/\k<=n/\Hid (jq V B bs bm gI m M cs l2 rX wq)/\Hid (∀x,x∈l2↔x∈st.take k)) (fun _ v _=>n-(intOf v).toNat)
 ·exact⟨0,[],_,rfl,Nat.zero_le _,⟨by simpa using HC.o,List.nodup_nil,by simp⟩,fun x=>by simp⟩
 obtain⟨k,l2,rX,rfl,hk,HB,HD⟩:=hrel;clear HC;by_cases By:k<n
 ·have hkl:k<st.length:=by rw[H.o.1];exact By
  obtain⟨gr,PS,rfl,_,K0⟩:=(H.o.2.2.1 wr HB.o.r.kept) (by omega);have d0:=K0 k hkl;have LH:=H.o.2.1 st[k] (List.getElem_mem _);have wM:Hid (st.take (k+1)=st.take k++[st[k]]):=List.take_succ_eq_append_getElem hkl;generalize st[k]=t at d0 LH wM;have i5:(k:Int)<n:=by omega
  clear K0 hkl;go_wp2_with fail;refine (Zf V B bs bm gI m M cs l2 rX wr HB.o hM H.o.2.2.2 t LH).mono ?_;rintro e w2 ⟨l3,SV,rfl,h3,sK⟩;have HZ:Hid (∀x,x∈l3↔x∈st.take (k+1)):=fun x=>by
   rw[wM.o,sK.mem,HD.o x];simp
  have H3:=hid h3;clear h3 sK d0;go_wp2;go_roundw
  ·exact⟨k+1,l3,SV,by go_num,by omega,H3,HZ⟩
  simp[intOf];omega
 obtain rfl:k=n:=by omega
 have HZ:Hid (∀x,x∈l2↔x∈st):=fun x=>by
  rw[HD.o x,take_of_length_le (by rw[H.o.1];exact Nat.le_refl _)]
 go_wp2_with fail;refine bodyPost_ret (results_none rfl _ _ _) rfl ?_;exact⟨l2,_,rfl,HB.o,HZ.o⟩
def cJ(mk:Nat->Int)(S:Nat->Prop)(r:Int):Prop:=
 (r=-1/\∀x,S x->mk x=-1)\/(0<=r/\(∃x,S x/\mk x=r)/\∀x,S x->mk x=-1\/r<=mk x)
theorem cJ.congr{S S':Nat->Prop}(h:cJ mk S r)(e:∀x,S x↔S' x):cJ mk S' r:=by
 rcases h with ⟨h1,h2⟩|⟨h1,⟨x,hx,h2⟩,h3⟩
 ·exact inl ⟨h1,fun x hx=>h2 x ((e x).2 hx)⟩
 exact inr ⟨h1,⟨x,(e x).1 hx,h2⟩,fun x hx=>h3 x ((e x).2 hx)⟩
theorem cJ.none(mk:Nat->Int):cJ mk (fun x=>x∈([]:List Nat)) (-1):=inl ⟨rfl,fun x hx=>by simp at hx⟩
theorem cJ.skip(h:cJ mk (fun y=>y∈l) r)(hx:mk x=-1\/(r≠-1/\r<=mk x)):cJ mk (fun y=>y∈l++[x]) r:=by
 rcases h with ⟨h1,h2⟩|⟨h1,⟨y,hy,h2⟩,h3⟩
 ·refine inl ⟨h1,fun y hy=>?_⟩;rcases List.mem_append.1 hy with hy|hy
  ·exact h2 y hy
  rw[List.mem_singleton.1 hy];omega
 refine inr ⟨h1,⟨y,List.mem_append.2 (inl hy),h2⟩,fun z hz=>?_⟩;rcases List.mem_append.1 hz with hz|hz
 ·exact h3 z hz
 rw[List.mem_singleton.1 hz];omega
theorem cJ.take(h:cJ mk (fun y=>y∈l) r)(h0:0<=mk x)(hx:r=-1\/mk x<=r):cJ mk (fun y=>y∈l++[x]) (mk x):=by
 refine inr ⟨h0,⟨x,by simp,rfl⟩,fun z hz=>?_⟩;rcases List.mem_append.1 hz with hz|hz
 ·rcases h with ⟨h1,h2⟩|⟨h1,_,h3⟩
  ·exact inl (h2 z hz)
  rcases h3 z hz with h|h
  ·exact inl h
  exact inr (by omega)
 rw[List.mem_singleton.1 hz];exact inr (Int.le_refl _)
structure lq (w:World)(B bn gM M cM:Nat)(mk:Nat->Int):Prop where
 hY:bn<B/\gM<B
 ig:w.cell? ⟨bn,257,none⟩=some (.slice (some ⟨gM,0,none⟩) M cM)
 at_:∀i,i<M->w.cell? ⟨gM,i,none⟩=some (.int .i64 (mk i))
theorem lq.below{w':World}{bn gM M cM:Nat}(h:lq w B bn gM M cM mk)(k:Below B w w'):lq w' B bn gM M cM mk:=
 ⟨h.hY,(k.cell (p:=⟨bn,257,none⟩) h.hY.1).trans h.ig,fun i hi=>(k.cell (p:=⟨gM,i,none⟩) h.hY.2).trans (h.at_ i hi)⟩
theorem zgB(V:World)(B:Nat)(bs:List Nat)(bm gI m M bn gM cM:Nat)(cs:Array Value)(mk:Nat->Int)(HV:lq V B bn gM M cM mk)(gP:∀i,i<M->-1<=mk i)(qO:cs[0]?=some (.pointer (some ⟨bn,0,none⟩)))(hM:M<=100000)
  (l:List Nat) (vL:Value) (wr:World) (h:jq V B bs bm gI m M cs l vL wr):
  Calls prog 173 #[.pointer (some ⟨bm,0,none⟩)] wr fun e w'=>∃r,e=.returned (.int .i64 r)/\cJ mk (fun x=>x∈l) r/\w'=wr:=by
 obtain⟨aL,cL,rfl⟩:=cy h.r.dg;obtain⟨_,c3,_⟩:=h.r.cells;have c0:wr.cell? ⟨bm,0,none⟩=some (.pointer (some ⟨bn,0,none⟩)):=by rw[h.r.sm.at_,Array.getElem?_setIfInBounds_ne (by decide),qO]
 have jR:=HV.below h.r.below;have f0:=jR.ig;obtain⟨q,hq⟩:=Ξ l.length
 have hqM:q<=M:=by rw[<-hq];exact h.len
 rw[hq] at c3;have H:=ψ h jR gP hq;clear h HV jR gP qO hq;go_in;go_wp2;go_loopw [3,5,6,12] (fun v3 _ _ v wq=>∃(k:Nat) (r:Int),v=.int .i64 k/\k<=q/\v3=.int .i64 r/\-1<=r/\wq=wr/\Hid (cJ mk (fun x=>x∈l.take k) r)) (fun _ _ _ v _=>q-(intOf v).toNat)
 ·exact⟨0,-1,rfl,Nat.zero_le _,rfl,Int.le_refl _,rfl,by show cJ _ _ _;simpa using cJ.none mk⟩
 obtain⟨k,r,rfl,hk,rfl,hr,rfl,HL⟩:=hrel;by_cases aq:k<q
 ·have hkl:k<l.length:=by rw[H.o.2.2.2];exact aq
  obtain⟨gl,rfl,_,_,eR⟩:=fG H.o.1.r.dg (by omega);have d0:=(eR k (by omega)).1;rw[Ck l k hkl] at d0;have hs:=H.o.1.lt l[k] (List.getElem_mem _);have d1:=H.o.2.1.at_ l[k] hs;have jD:=H.o.2.2.1 l[k] hs;have wM:Hid (l.take (k+1)=l.take k++[l[k]]):=List.take_succ_eq_append_getElem hkl;generalize l[k]=x at d0 d1 hs jD wM;have HS:Hid (∀r',(mk x=-1\/(r≠-1/\r<=mk x))->r'=r->cJ mk (fun y=>y∈l.take (k+1)) r'):=fun r' h e=>by rw[e,wM.o];exact HL.o.skip h
  have HT:Hid (0<=mk x->(r=-1\/mk x<=r)->∀r',r'=mk x->cJ mk (fun y=>y∈l.take (k+1)) r'):=fun h0 h r' e=>by rw[e,wM.o];exact HL.o.take h0 h
  generalize mk x=y at d1 jD HS HT;have i1:(k:Int)<q:=by omega
  have i2:(x:Int)<M:=by omega
  clear eR hkl wM;by_cases hy:y=-1
  ·subst hy;have HZ:=hid (HS.o r (inl rfl) rfl);go_wp2;go_roundw
   ·exact⟨k+1,r,by go_num,by omega,rfl,hr,trivial,HZ⟩
   simp[intOf];omega
  by_cases Ib:r=-1
  ·subst Ib;have HZ:=hid (HT.o (by omega) (inl rfl) y rfl);go_wp2;go_roundw
   ·exact⟨k+1,y,by go_num,by omega,rfl,by omega,trivial,HZ⟩
   simp[intOf];omega
  rcases Int.lt_or_le y r with hyr|hyr
  ·have HZ:=hid (HT.o (by omega) (inr (by omega)) y rfl);go_wp2;go_roundw
   ·exact⟨k+1,y,by go_num,by omega,rfl,by omega,trivial,HZ⟩
   simp[intOf];omega
  have HZ:=hid (HS.o r (inr ⟨Ib,by omega⟩) rfl);have hyd:decide (y<r)=false:=by simp;omega
  have fT:(y != -1)=true:=by simpa using hy
  have cH:(r == -1)=false:=by simpa using Ib
  go_wp2;go_roundw
  ·exact⟨k+1,r,by go_num,by omega,rfl,hr,trivial,HZ⟩
  simp[intOf];omega
 obtain rfl:k=q:=by omega
 have HZ:Hid (cJ mk (fun x=>x∈l) r):=by
  have:=HL.o;rwa [take_of_length_le (by rw[H.o.2.2.2];exact Nat.le_refl _)] at this
 go_wp2;go_ret;exact⟨r,rfl,HZ.o,rfl⟩
def Found(L:List En)(A:Nat->Prop)(N k:Nat)(f:Nat->Bool)(i:Nat)(ch:Bool):Prop:=
 (ch=false/\ZB L A N k f/\∀j (h:j<L.length),j<i->zr4 f L[j])\/(ch=true/\ZB L A N (k+1) f)
