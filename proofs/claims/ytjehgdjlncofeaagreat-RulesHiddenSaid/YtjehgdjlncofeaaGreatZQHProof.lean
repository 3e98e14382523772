import Derived.Test.YtjehgdjlncofeaaGreatZPRef8
import Derived.Test.YtjehgdjlncofeaaGreatZQMac
import Derived.Test.YtjehgdjlncofeaaGreatZPRun
set_option linter.unusedVariables false
set_option linter.unusedSimpArgs false
set_option maxHeartbeats 0
set_option maxRecDepth 99999
open Go.Lib (hid)
namespace Go.Proofs.YtjehgdjlncofeaaGreat
open Go.RowKit Go.Maps Go.WideElems Go.ChangeMaps Go.MapKept
theorem MapN.again{w:World}{k t e:TypeId}{b n:Nat}{Q:Value->Value->Prop}(h:MapN w k b n Q)(K:Keyed Tryz.prog k)(ht:Tryz.prog.underlying t=some (.map k e))
 {key val:Value}{kl:Lit}(hkey:keyOf Tryz.prog k key=some kl) (hv:Q key val):
 ∃w',(Instr.mapUpdate t (.map (some b)) key val).run Tryz.prog w=.ok () w'/\MapN w' k b n Q/\w.grownBy w' (some b):=by
 obtain⟨es,clock,hb,F,hs,hq,hall⟩:=h
 rcases K.find w hkey es.toList F.keys with⟨h1,h2⟩|⟨j,e0,h1,h2,h3⟩
 ·obtain⟨e1,h4,h5⟩:=hall _ _ hv
  exact absurd h5 (h2 e1 h4)
 ·have hj:es[j]?=some e0:=by simpa using h2
  have hjl:j<es.toList.length:=(List.getElem?_eq_some_iff.1 h2).1
  have hkf:∀e',es[j]?=some e'->({ e' with key:=key,val:=val }:MapEntry).key=e'.key:=fun e' he'=>by rw[hj]at he';cases he';exact h3.symm
  have hli9:(es.modify j (fun e'=>{ e' with key:=key,val:=val })).toList=es.toList.set j { e0 with key:=key,val:=val }:=by rw[Array.toList_modify,modify_eq_set _ _ _ _ h2]
  have who:∀x∈es.toList.set j { e0 with key:=key,val:=val },x={ e0 with key:=key,val:=val }\/x∈es.toList:=by
   intro x hx
   obtain⟨i,hi,ex⟩:=List.getElem_of_mem hx
   rw[List.getElem_set]at ex
   split at ex
   ·exact Or.inl ex.symm
   ·exact Or.inr (ex▸List.getElem_mem _)
  refine⟨setBlock w b (.map (es.modify j (fun e'=>{ e' with key:=key,val:=val })) clock),?_,⟨_,clock,heap_setBlock_same hb _,⟨by simpa using F.size,stamped_modify F.stamped _ _ (fun _ _=>rfl) (fun e' _ he'=>hkf e' he'),fun x hx=>?_⟩,by simpa using hs,fun x hx=>?_,fun x y hx=>?_⟩,⟨rfl,rfl,rfl,by simp[setBlock],fun i _ hi=>heap_setBlock_other hb _ (fun e=>hi (by rw[e]))⟩⟩
  ·simp[Instr.mapUpdate,run_underlying ht,MapKept.run_getObj_map hb,K.check w false hkey,h1,hj,h3,K.stays w hkey,MapKept.run_setObj_map _ hb,Result.andThen,setBlock]
  ·rw[hli9]at hx
   rcases who x hx with rfl|hx'
   ·exact⟨(kl,.held val),by unfold WideElems.rd anyR;rw[hkey];rfl⟩
   ·exact F.reads x hx'
  ·rw[hli9]at hx
   rcases who x hx with rfl|hx'
   ·exact hv
   ·exact hq x hx'
  ·obtain⟨e1,h4,h5⟩:=hall x y hx
   obtain⟨i,hi,ex⟩:=List.getElem_of_mem h4
   rw[hli9]
   by_cases hij:j=i
   ·subst hij
    have:e0=e1:=by rw[<-ex];exact(Option.some.inj ((List.getElem?_eq_getElem hi).symm.trans h2)).symm
    exact⟨{ e0 with key:=key,val:=val },List.mem_of_getElem? (by rw[List.getElem?_set_self hjl]),by show key=x;rw[<-h3,this,h5]⟩
   ·exact⟨e1,by rw[<-ex,<-List.getElem_set_ne hij (by simpa using hi)];exact List.getElem_mem _,h5⟩
def InQ(L:List Nat)(x y:Value):Prop:=∃s:Nat,s∈L/\x=.int .i64 ((s:Nat):Int)/\y=.agg #[]
def SetN(w:World)(b:Nat)(L:List Nat):Prop:=L.Nodup/\MapN w 3 b L.length (InQ L)
theorem SetN.keep{w w':World}{b:Nat}{L:List Nat}(h:SetN w b L)(k:Below w.heap.size w w'):SetN w' b L:=⟨h.1,h.2.same (k.block _ h.2.lt)⟩
theorem SetN.put{w:World}{b x:Nat}{L:List Nat}(h:SetN w b L)(hx:x<=1000000)(hn:L.length<maxLen):
 ∃w' L',(Instr.mapUpdate 81 (.map (some b)) (.int .i64 (x:Int)) (.agg #[])).run Tryz.prog w=.ok () w'/\SetN w' b L'/\(∀y,y∈L'↔y∈L\/y=x)/\L'.length<=L.length+1/\w.grownBy w' (some b):=by
 by_cases e:x∈L
 ·obtain⟨w',h1,h2,h3⟩:=h.2.again zbe Tryz.underlying81 (zbP x (by omega)) (val:=.agg #[]) ⟨x,e,rfl,rfl⟩
  exact⟨w',L,h1,⟨h.1,h2⟩,fun y=>⟨Or.inl,fun hh=>hh.elim id fun hh=>hh▸e⟩,by omega,h3⟩
 ·obtain⟨w',h1,h2,h3⟩:=h.2.update (Q':=InQ (x :: L)) zbe Tryz.underlying81 hn (zbP x (by omega)) (val:=.agg #[]) (by
    rintro y ⟨s,hs,h2,_⟩
    rw[<-zct h2]at hs
    exact e hs) (by
    rintro a b ⟨s,hs,h2,h3⟩
    exact⟨s,List.mem_cons_of_mem _ hs,h2,h3⟩) ⟨x,List.mem_cons_self ..,rfl,rfl⟩ (by
    rintro a b ⟨s,hs,h2,h3⟩ hne
    rcases List.mem_cons.1 hs with rfl|hs
    ·exact absurd h2 hne
    ·exact⟨b,s,hs,h2,h3⟩)
  exact⟨w',x :: L,h1,⟨List.nodup_cons.2 ⟨e,h.1⟩,h2⟩,fun y=>by rw[List.mem_cons];exact or_comm,by simp,h3⟩
theorem zgE(w:World):(zeroValue 83).run Tryz.prog w=.ok (.agg #[]) w:=by kernel_rfl
theorem zim(W:World):(Instr.makeMap 81 none).run Tryz.prog W=.ok (.map (some W.heap.size)) (W.alloc (.map #[] 0)):=by
 kernel_rfl
theorem SetN.made(w:World):SetN (w.alloc (.map #[] 0)) w.heap.size []:=⟨List.nodup_nil,MapN.made w _ (InQ []) fun x y ⟨s,h,_⟩=>by simp at h⟩
theorem SetN.look{w:World}{b x:Nat}{L:List Nat}(h:SetN w b L)(hx:x<=1000000):
  (Instr.lookup 81 (.map (some b)) (.int .i64 (x:Int)) true).run Tryz.prog w=.ok (.tuple #[.agg #[],.bool (decide (x∈L))]) w:=by
 rcases h.2.ex.look2 zbe Tryz.underlying81 (zgE w) (zbP _ (by omega:x<=9223372036854775807)) with⟨hrun,hno⟩|⟨v,⟨s,h1,h2,rfl⟩,hrun⟩
 ·have:¬x∈L:=fun hm=>hno _ ⟨x,hm,rfl,rfl⟩
  simp only[this,decide_false]
  exact hrun
 ·rw[<-zct h2]at h1
  simp only[h1,decide_true]
  exact hrun
theorem SetN.len{w:World}{b:Nat}{L:List Nat}{ty:TypeId}(h:SetN w b L):(Builtin.len_ #[81] ty #[.map (some b)]).run Tryz.prog w=.ok (.int .i64 (L.length:Int)) w:=
 h.2.len (t:=81) (ty:=ty) (by rw[Tryz.underlying81];rfl)
def Mk(D:Dd)(n k:Nat)(L:List Nat):Prop:=∀y,y∈L↔y<n/\∃st,st<k/\RcI D 0 st/\markF D ((st:Nat):Int)=((y:Nat):Int)
def BP(D:Dd)(n:Nat)(w:World)(e:Ending)(w':World):Prop:=∃b L,e=.returned (.map (some b))/\SetN w' b L/\Mk D n D.n L/\Below w.heap.size w w'
structure BelI (D:Dd)(n:Nat)(W1:World)(k:Nat)(f:Nat->Bool)(a:Option Addr)(c:Nat)(w:World)(L:List Nat):Prop where
 set:SetN w W1.heap.size L
 mem:Mk D n k L
 len:L.length<=k
 own:w.ownsRow W1.heap.size 4 1 (.slice a D.n c) D.n (bls f D.n)
 below:Below W1.heap.size W1 w
theorem BelI.keep{D:Dd}{n k c:Nat}{W1 w w':World}{f:Nat->Bool}{a:Option Addr}{L:List Nat}(h:BelI D n W1 k f a c w L)(kk:Below w.heap.size w w'):BelI D n W1 k f a c w' L:=
 ⟨h.set.keep kk,h.mem,h.len,zab h.own kk,h.below.trans (kk.mono h.below.size)⟩
theorem BelI.skip{D:Dd}{n k c:Nat}{W1 w:World}{f:Nat->Bool}{a:Option Addr}{L:List Nat}(h:BelI D n W1 k f a c w L)(hno:¬(RcI D 0 k/\0<=markF D (k:Int)/\markF D (k:Int)<(n:Int))):BelI D n W1 (k+1) f a c w L:=by
 refine⟨h.set,fun y=>?_,by have:=h.len;omega,h.own,h.below⟩
 rw[h.mem y]
 refine⟨fun⟨h1,st,h2,h3⟩=>⟨h1,st,by omega,h3⟩,fun⟨h1,st,h2,h3,h4⟩=>⟨h1,st,?_,h3,h4⟩⟩
 by_cases e:st=k
 ·subst e
  exact absurd ⟨h3,by omega,by omega⟩ hno
 ·omega
theorem BelI.put{D:Dd}{n k c x:Nat}{W1 w:World}{f:Nat->Bool}{a:Option Addr}{L:List Nat}(h:BelI D n W1 k f a c w L)(hk:k<=1000000)(hx:x<=1000000)(hr:RcI D 0 k)(he:markF D (k:Int)=(x:Int))(hn:x<n):
 ∃w' L',(Instr.mapUpdate 81 (.map (some W1.heap.size)) (.int .i64 (x:Int)) (.agg #[])).run Tryz.prog w=.ok () w'/\BelI D n W1 (k+1) f a c w' L':=by
 have hl:=h.len
 obtain⟨w',L',h1,h2,h3,h4,h5⟩:=h.set.put hx (by unfold maxLen;omega)
 refine⟨w',L',h1,h2,fun y=>?_,by omega,zaB h.own h.set.2.ex.of h5,h.below.grown h5 h.below.size (fun g e=>by injection e with e;omega)⟩
 rw[h3,h.mem y]
 constructor
 ·rintro (⟨h1,st,h2,h6⟩|rfl)
  ·exact⟨h1,st,by omega,h6⟩
  ·exact⟨hn,k,by omega,hr,he⟩
 ·rintro⟨h1,st,h2,h6,h7⟩
  by_cases e:st=k
  ·subst e
   rw[he]at h7
   exact Or.inr (Int.ofNat.inj h7).symm
  ·exact Or.inl ⟨h1,st,by omega,h6,h7⟩
theorem zlo{D:Dd}{C:Nat}(hR:DR D C)(st:Int):-1<=markF D st/\markF D st<32768:=by
 unfold markF
 split
 ·exact hR.q _ (by omega)
 ·omega
theorem zjH(D:Dd)(C:Nat)(hR:DR D C)(n:Nat)(hn:n<=1000000)(w:World)(hD:DM w D):
  Calls Tryz.prog 44 #[.agg D.cD,.int .i64 (n:Int)] w (BP D n w):=by
 have hmm:=zim
 have hn2:=hR.n2
 have HB:=hid (And.intro (DBx.new hD) (And.intro (al w (.cells D.cD 39)) hR))
 clear hD hR
 go_enter Tryz.func44,Tryz.ntmps44
 go_upto_region 1 with fail
 generalize w.alloc (.cells D.cD 39)=W0 at HB⊢
 obtain⟨b0,hb0⟩:∃b0,w.heap.size=b0:=⟨_,rfl⟩
 have Hb0:=hid hb0
 rw[hb0]at HB
 rw[hb0]
 clear hb0
 go_upto_region 2 with fail
 have k1:=al W0 (.map #[] 0)
 have HD1:=hid (HB.out.1.keep k1)
 have HRc:=hid (zgZ D C 0 (W0.alloc (.map #[] 0)) HD1.out.dm HB.out.2.2)
 have HI0:=hid (And.intro (SetN.made W0) k1)
 clear k1
 obtain⟨W2,hW2⟩:∃W2,W0.alloc (.map #[] 0)=W2:=⟨_,rfl⟩
 rw[hW2]at HD1 HRc HI0
 rw[hW2]
 obtain⟨bM,hbM⟩:∃bM,W0.heap.size=bM:=⟨_,rfl⟩
 have HbM:Hid (W0.heap.size=bM/\bM<=W2.heap.size):=⟨hbM,by rw[<-hbM,<-hW2];simp⟩
 rw[hbM]
 clear hbM hW2
 have hS:=HD1.out.st.part
 go_wp2_with (first
  | (refine zad (by rfl) 39 _ rfl ⟨b0,0,none⟩ rfl D.cD _ HD1.out.st.part Tryz.underlying39 rfl HD1.out.dm.info ?_)
  | (go_at_call 71;refine HRc.out.mono ?_;rintro e w3 ⟨f,a,c,rfl,hO,hf,b3⟩))
 have HI:Hid (BelI D n W0 0 f a c w3 []):=by
  have h1:=HI0.out.2
  have h2:=HbM.out
  refine⟨HI0.out.1.keep b3,fun y=>⟨fun h=>by simp at h,fun⟨_,st,h,_⟩=>absurd h (by omega)⟩,by simp,zag hO (by omega),h1.trans (b3.mono (by omega))⟩
 have Hf:=hid hf
 clear hO hf b3 HI0 HRc hS
 go_loopw [6,7,8,13] (fun _ _ _ v wr=>∃k:Nat,v=.int .i64 k/\k<=D.n/\Hid (∃L,BelI D n W0 k f a c wr L)) (fun _ _ _ v _=>D.n-(intOf v).toNat)
 case atStart=>exact⟨0,rfl,Nat.zero_le _,_,HI.out⟩
 case round=>
  obtain⟨k,rfl,hk,HL⟩:=hrel
  by_cases hlt:k<D.n
  ·obtain⟨L,hI⟩:=HL.out
   obtain⟨g,off,rfl,hg,hc⟩:=zmg hI.own (by omega)
   have d0:=hc k hlt
   have i1:(k:Int)<(D.n:Int):=by omega
   have HI:=hid hI
   have HDw:=hid (HB.out.1.keep hI.below)
   have HMk:=hid (zf0 D C HB.out.2.2 (k:Int) wr HDw.out.dm)
   have hmb:=zlo HB.out.2.2 (k:Int)
   obtain⟨m,hm⟩:∃m,markF D (k:Int)=m:=⟨_,rfl⟩
   rw[hm]at hmb
   have Hm:=hid hm
   clear hI hg hc HL
   go_upto_region 6 with (first
    | (refine zad (by rfl) 39 _ rfl ⟨b0,0,none⟩ rfl D.cD _ HDw.out.st.part Tryz.underlying39 rfl HDw.out.dm.info ?_)
    | (go_at_call 72;refine HMk.out.mono ?_;rintro e w4 ⟨rfl,b4⟩))
   try rw[hm]
   have HI4:=hid (HI.out.keep b4)
   clear b4 HMk HDw hm HI
   have hrk:=Hf.out k hlt
   by_cases hfk:f k=true
   ·have hR0:=hid (hrk.1 hfk)
    clear hrk
    rw[hfk]
    by_cases hm1:m=-1
    ·subst hm1
     have HN:=hid (HI4.out.skip fun h=>by have h2:=h.2.1;rw[Hm.out]at h2;omega)
     go_wp2_with fail
     go_roundw
     case rel=>exact⟨k+1,by go_num,by omega,L,HN.out⟩
     case measure=>simp[intOf];omega
    ·obtain⟨x,rfl⟩:∃x:Nat,m=(x:Int):=⟨m.toNat,by omega⟩
     have i2:((x:Int) != -1)=true:=by simp
     by_cases hmn:x<n
     ·have i3:(x:Int)<(n:Int):=by omega
      obtain⟨w5,L5,hup,hI5⟩:=HI4.out.put (by omega) (by omega) hR0.out Hm.out hmn
      rw[HbM.out.1]at hup
      have HI5:=hid hI5
      clear hI5
      go_wp2_with fail
      go_roundw
      case rel=>exact⟨k+1,by go_num,by omega,L5,HI5.out⟩
      case measure=>simp[intOf];omega
     ·have i3:¬(x:Int)<(n:Int):=by omega
      have HN:=hid (HI4.out.skip fun h=>by have h2:=h.2.2;rw[Hm.out]at h2;omega)
      go_wp2_with fail
      go_roundw
      case rel=>exact⟨k+1,by go_num,by omega,L,HN.out⟩
      case measure=>simp[intOf];omega
   ·have hR0:Hid (¬RcI D 0 k):=fun h=>hfk (hrk.2 h)
    clear hrk
    rw[Bool.eq_false_iff.2 hfk]
    have HN:=hid (HI4.out.skip fun h=>hR0.out h.1)
    go_wp2_with fail
    go_roundw
    case rel=>exact⟨k+1,by go_num,by omega,L,HN.out⟩
    case measure=>simp[intOf];omega
  ·obtain rfl:k=D.n:=by omega
   obtain⟨L,hI⟩:=HL.out
   have HI:=hid hI
   have HZ:Hid (BP D n w (.returned (.map (some bM))) wr):=by
    have h1:=HbM.out.1
    have h2:=HB.out.2.1
    have h3:=HI.out.below
    have h4:=h2.size
    refine⟨bM,L,rfl,by rw[<-h1];exact HI.out.set,HI.out.mem,?_⟩
    rw[Hb0.out]
    exact h2.trans (h3.mono (by have:=HB.out.1.st.lt;omega))
   clear hI HL
   go_wp2_with fail
   go_ret
   exact HZ.out
theorem zin:∀(n:Nat) (L:List Nat),L.Nodup->(∀y∈L,y<n)->L.length<=n/\(n<=L.length->∀y,y<n->y∈L):=by
 intro n
 induction n with
 | zero=>
  intro L _ h
  cases L with
  | nil=>exact⟨Nat.le_refl _,fun _ y hy=>absurd hy (by omega)⟩
  | cons x l=>exact absurd (h x (List.mem_cons_self ..)) (by omega)
 | succ n ih=>
  intro L hn h
  by_cases e:n∈L
  ·have h1:=ih (L.erase n) (hn.erase n) fun y hy=>by
    have h2:=h y (List.mem_of_mem_erase hy)
    have h3:y≠n:=((List.Nodup.mem_erase_iff hn).1 hy).1
    omega
   have h4:=List.length_erase_of_mem e
   have h5:0<L.length:=List.length_pos_of_mem e
   refine⟨by omega,fun hl y hy=>?_⟩
   by_cases e2:y=n
   ·rw[e2];exact e
   ·exact List.mem_of_mem_erase (h1.2 (by omega) y (by omega))
  ·have h1:=ih L hn fun y hy=>by
    have h2:=h y hy
    have h3:y≠n:=fun e3=>e (e3▸hy)
    omega
   exact⟨by omega,fun hl=>absurd hl (by omega)⟩
def zdV(D:Dd)(y:Nat):Prop:=∃st,st<D.n/\RcI D 0 st/\markF D ((st:Nat):Int)=((y:Nat):Int)
def HP9(D:Dd)(n:Nat)(w:World)(e:Ending)(w':World):Prop:=∃(a:Option Addr) (m c:Nat) (p:Nat->Bool),e=.returned (.slice a m c)/\(∀y,y<n->(p y=true↔¬zdV D y))/\
 w'.ownsRow w.heap.size 3 1 (.slice a m c) m (zai ((List.range n).filter p))/\Below w.heap.size w w'
theorem zei(D:Dd)(C:Nat)(hR:DR D C)(n:Nat)(hn:n<=1000000)(w:World)(hD:DM w D):
  Calls Tryz.prog 24 #[.agg D.cD,.int .i64 (n:Int)] w (HP9 D n w):=by
 have hn2:=hR.n2
 have HB:=hid (And.intro (DBx.new hD) (And.intro (al w (.cells D.cD 39)) hR))
 have hC6:=(hR.c256 hD.kl).2
 clear hD hR
 go_enter Tryz.func24,Tryz.ntmps24
 go_upto_region 1 with fail
 generalize w.alloc (.cells D.cD 39)=W0 at HB⊢
 obtain⟨b0,hb0⟩:∃b0,w.heap.size=b0:=⟨_,rfl⟩
 have Hb0:=hid hb0
 rw[hb0]at HB
 rw[hb0]
 clear hb0
 have HRt:=hid (zii D (by omega) (by rw[HB.out.2.2.m];omega) (fun i hi=>by rw[HB.out.2.2.len i hi];omega) W0 HB.out.1.dm)
 go_upto_region 3 with (first
  | (refine zad (by rfl) 39 _ rfl ⟨b0,0,none⟩ rfl D.cD _ HB.out.1.st.part Tryz.underlying39 rfl HB.out.1.dm.info ?_)
  | (go_at_call 43;refine HRt.out.mono ?_))
 rintro e w1 ⟨bt,rfl,hbt,b1⟩
 obtain rfl:bt=true:=hbt.2 ⟨C,HB.out.2.2⟩
 have H1:=hid (And.intro (HB.out.1.keep b1) (HB.out.2.1.trans (b1.mono (by have:=HB.out.1.st.lt;omega))))
 have HBl:=hid (zjH D C HB.out.2.2 n hn w1 H1.out.1.dm)
 clear hbt b1 HRt
 go_upto_region 4 with (first
  | (refine zad (by rfl) 39 _ rfl ⟨b0,0,none⟩ rfl D.cD _ H1.out.1.st.part Tryz.underlying39 rfl H1.out.1.dm.info ?_)
  | (go_at_call 44;refine HBl.out.mono ?_;rintro e w2 ⟨bL,L,rfl,hSet,hMk,b2⟩))
 have hle:=hSet.len (ty:=3)
 have hcn:=zin n L hSet.1 fun y hy=>((hMk y).1 hy).1
 have H2:=hid (And.intro hSet (And.intro hMk (H1.out.2.trans (b2.mono (by have:=H1.out.1.st.lt;omega)))))
 have hb0:b0<w2.heap.size:=by have:=H1.out.1.st.lt;have:=b2.size;omega
 obtain⟨ln,hln⟩:∃ln,L.length=ln:=⟨_,rfl⟩
 rw[hln]at hle hcn
 have Hcn:=hid hcn.2
 have hcl:=hcn.1
 obtain⟨cnt,hcnt⟩:∃cnt,n-ln=cnt:=⟨_,rfl⟩
 have e1:IntKind.i64.wrap ((n:Int)-(ln:Int))=(cnt:Int):=by
  rw[IntWalk.i64_in _ (by omega)];omega
 clear hSet hMk b2 HBl hcn
 by_cases h0:cnt=0
 ·have HZ:Hid (HP9 D n w (.returned (.slice none 0 0)) w2):=by
   refine⟨none,0,0,fun _=>false,rfl,fun y hy=>⟨fun h=>by simp at h,fun h=>absurd ?_ h⟩,?_,by rw[Hb0.out];exact H2.out.2.2⟩
   ·exact((H2.out.2.1 y).1 (Hcn.out (by omega) y hy)).2
   ·rw[show (List.range n).filter (fun _=>false)=[] by simp]
    exact World.ownsRow_nil _ _ _ _
  subst h0
  have i2:((0:Nat):Int)<=0:=by omega
  go_wp2_with fail
  go_ret
  exact HZ.out
 ·have i2:¬(cnt:Int)<=0:=by omega
  have i3:¬(cnt:Int) > 2147483647:=by omega
  have hmk:=zcQ cnt (by omega)
  have hO:=zby cnt (by omega) w2 b0 (by omega)
  have k2:=al w2 (.cells (madeCells #[.int .i64 0] cnt) 3)
  go_upto_region 8 with fail
  have H3:=hid (And.intro (H2.out.1.keep k2) (And.intro (H2.out.2.2.trans (k2.mono (by omega))) hO))
  generalize w2.alloc (.cells (madeCells #[.int .i64 0] cnt) 3)=W3 at H3⊢
  clear hO k2 hmk e1 i2 i3 hle hcnt hln
  go_wp2_with fail
  go_loopw [7,8,9,10,30] (fun v7 _ _ _ v wr=>∃(k m:Nat) (a:Option Addr) (c:Nat),v=.int .i64 k/\k<=n/\v7=.slice a m c/\m<=k/\Hid (wr.ownsRow b0 3 1 (.slice a m c) m (zai ((List.range k).filter fun y=>!decide (y∈L)))/\SetN wr bL L/\Below b0 w wr)) (fun _ _ _ _ v _=>n-(intOf v).toNat)
  case atStart=>exact⟨0,0,_,_,rfl,Nat.zero_le _,rfl,Nat.le_refl _,H3.out.2.2,H3.out.1,H3.out.2.1⟩
  case round=>
   obtain⟨k,m,a,c,rfl,hk,rfl,hmk,HI⟩:=hrel
   by_cases hlt:k<n
   ·have i1:(k:Int)<(n:Int):=by omega
    have hlk:=HI.out.2.1.look (x:=k) (by omega)
    by_cases hkL:k∈L
    ·simp only[hkL,decide_true]at hlk
     have HK:=hid hkL
     clear hkL
     have k3:=al wr (.cells #[] 83)
     have HN:Hid ((wr.alloc (.cells #[] 83)).ownsRow b0 3 1 (.slice a m c) m (zai ((List.range (k+1)).filter fun y=>!decide (y∈L)))/\SetN (wr.alloc (.cells #[] 83)) bL L/\Below b0 w (wr.alloc (.cells #[] 83))):=by
      refine⟨?_,HI.out.2.1.keep k3,HI.out.2.2.trans (k3.mono (by have:=HI.out.2.2.size;have:=Hb0.out;omega))⟩
      have e:(List.range (k+1)).filter (fun y=>!decide (y∈L))=(List.range k).filter fun y=>!decide (y∈L):=by
       rw[List.range_succ,List.filter_append]
       simp[HK.out]
      rw[e]
      exact zab HI.out.1 k3
     clear k3
     go_wp2_with fail
     go_roundw
     case rel=>exact⟨k+1,m,a,c,by go_num,by omega,rfl,by omega,HN.out⟩
     case measure=>simp[intOf];omega
    ·simp only[hkL,decide_false]at hlk
     have HK:=hid hkL
     clear hkL
     have k3:=al wr (.cells #[] 83)
     have HN:Hid ((wr.alloc (.cells #[] 83)).ownsRow b0 3 1 (.slice a m c) m (zai ((List.range k).filter fun y=>!decide (y∈L)))/\SetN (wr.alloc (.cells #[] 83)) bL L/\Below b0 w (wr.alloc (.cells #[] 83))):=
      ⟨zab HI.out.1 k3,HI.out.2.1.keep k3,HI.out.2.2.trans (k3.mono (by have:=HI.out.2.2.size;have:=Hb0.out;omega))⟩
     clear k3
     go_upto_region 13 with fail
     generalize wr.alloc (.cells #[] 83)=W4 at HN⊢
     obtain⟨i0,hi,hz0,hz1,hz2⟩:=info_parts Tryz.info_int9
     have hsz:b0<=W4.heap.size:=by have:=HN.out.2.2.size;have:=Hb0.out;omega
     go_wp2_with (at_builtin;refine wpList_append_own_at _ rfl _ _ 30 rfl b0 3 i0 (.int .i64 0) 1 8 Tryz.underlying30 hi hz0 hz1 hz2 rfl (by decide) _ _ _ rfl (HN.out.1.alloc _) ⟨W4.heap.size,0,none⟩ 1 1 [.int .i64 (k:Int)] rfl rfl (cell_one_new _ _ _) ?d2 ?d3 ?d4 ?d5 ?_)
     case d2=>first|(intro u hu;simp at hu;subst hu;rfl)|rfl
     case d3=>unfold maxLen;omega
     case d4=>omega
     case d5=>first|(simp;omega)|omega
     intro v' w5 h5o h5g _ hat5
     obtain⟨a5,c5,rfl⟩:=zaa h5o
     have HF:Hid (w5.ownsRow b0 3 1 (.slice a5 (m+1) c5) (m+1) (zai ((List.range (k+1)).filter fun y=>!decide (y∈L)))/\SetN w5 bL L/\Below b0 w w5):=by
      have kA:=al W4 (.cells #[.int .i64 (k:Int)] 3)
      have e:(List.range (k+1)).filter (fun y=>!decide (y∈L))=((List.range k).filter fun y=>!decide (y∈L))++[k]:=by
       rw[List.range_succ,List.filter_append]
       simp[HK.out]
      refine⟨?_,⟨HN.out.2.1.1,(HN.out.2.1.keep kA).2.grown_own (HN.out.1.alloc _) h5g⟩,zac (HN.out.2.2.trans (kA.mono hsz)) (HN.out.1.alloc _) (by have:=kA.size;omega) h5g⟩
      rw[e]
      unfold zai at h5o⊢
      rw[List.map_append]
      exact h5o
     clear h5o h5g hat5
     go_wp2_with fail
     go_roundw
     case rel=>exact⟨k+1,m+1,a5,c5,by go_num,by omega,rfl,by omega,HF.out⟩
     case measure=>simp[intOf];omega
   ·obtain rfl:k=n:=by omega
    have HZ:Hid (HP9 D k w (.returned (.slice a m c)) wr):=by
     refine⟨a,m,c,fun y=>!decide (y∈L),rfl,fun y hy=>?_,by rw[Hb0.out];exact HI.out.1,by rw[Hb0.out];exact HI.out.2.2⟩
     have:=H2.out.2.1 y
     simp only[Bool.not_eq_true',decide_eq_false_iff_not]
     rw[this]
     exact⟨fun h hs=>h ⟨hy,hs⟩,fun h hs=>h hs.2⟩
    go_wp2_with fail
    go_ret
    exact HZ.out
def blZ(j:Nat):Nat:=[32,10,9,13].getD j 0
theorem zde:wd (ofUp blZ 4) 0=4294977024/\wd (ofUp blZ 4) 1=0/\wd (ofUp blZ 4) 2=0/\wd (ofUp blZ 4) 3=0:=by decide
theorem zio(w:World):Calls Tryz.prog 26 #[] w fun e w'=>e=.returned (.agg #[.int .u64 4294977024,.int .u64 0,.int .u64 0,.int .u64 0])/\Below w.heap.size w w':=by
 go_enter Tryz.func26,Tryz.ntmps26
 go_upto_region 1 with fail
 have k1:=al w (.cells #[.int .u64 0,.int .u64 0,.int .u64 0,.int .u64 0] 57)
 have s1:=St.new w 57 #[.int .u64 0,.int .u64 0,.int .u64 0,.int .u64 0]
 generalize w.alloc (.cells #[.int .u64 0,.int .u64 0,.int .u64 0,.int .u64 0] 57)=W1 at k1 s1⊢
 have HW:=hid (And.intro k1 s1)
 have hN:=St.new W1 5 #[.int .u8 32,.int .u8 10,.int .u8 9,.int .u8 13]
 have hE:ElsB (W1.alloc (.cells #[.int .u8 32,.int .u8 10,.int .u8 9,.int .u8 13] 5)) (some ⟨W1.heap.size,0,none⟩) 4 blZ:=fun _=>⟨_,0,rfl,by simp,fun j hj=>by
  match j,hj with
  | 0,_=>exact⟨(hN.at_ 0).trans rfl,by decide⟩
  | 1,_=>exact⟨(hN.at_ 1).trans rfl,by decide⟩
  | 2,_=>exact⟨(hN.at_ 2).trans rfl,by decide⟩
  | 3,_=>exact⟨(hN.at_ 3).trans rfl,by decide⟩⟩
 have HO:Hid (Calls Tryz.prog 46 #[.slice (some ⟨W1.heap.size,0,none⟩) 4 4] (W1.alloc (.cells #[.int .u8 32,.int .u8 10,.int .u8 9,.int .u8 13] 5)) fun e w'=>e=.returned (.agg #[.int .u64 4294977024,.int .u64 0,.int .u64 0,.int .u64 0])/\Below W1.heap.size W1 w'):=by
  refine(zi3 _ 4 4 blZ _ hE (by omega)).mono fun e w' ⟨h1,h2⟩=>⟨?_,(al W1 _).trans (h2.mono (by simp))⟩
  rw[h1,zde.1,zde.2.1,zde.2.2.1,zde.2.2.2]
  rfl
 clear hE k1 s1 hN
 have Hw:Hid (w.heap.size<W1.heap.size):=HW.out.2.lt
 go_wp2_with (go_at_call 46;refine HO.out.mono ?_;rintro e w2 ⟨rfl,b2⟩;obtain⟨x0,x1,x2,x3,g0,g1,g2,g3⟩:=row4 (HW.out.2.keep b2))
 have HF:=hid (And.intro ((HW.out.2.keep b2).set4 (.int .u64 4294977024) (.int .u64 0) (.int .u64 0) (.int .u64 0)) (zbp (HW.out.1.trans (b2.mono (Nat.le_of_lt Hw.out))) (Nat.le_refl _) (.int .u64 4294977024) (.int .u64 0) (.int .u64 0) (.int .u64 0)))
 obtain⟨v0,v1,v2,v3⟩:=HF.out.1.cells4
 exact bodyPost_ret (v:=.agg #[.int .u64 4294977024,.int .u64 0,.int .u64 0,.int .u64 0]) (by simp[results,Tryz.results26,go_sem,v0,v1,v2,v3]) rfl ⟨rfl,HF.out.2⟩
def Ex(D:Dd)(s:Nat):Nat->Nat->Prop
 | 0,x=>x=s
 | k+1,x=>∃y,Ex D s k y/\Ed D y x
def Nx(D:Dd)(f:Nat->Bool)(i c x:Nat):Prop:=∃y d,f y=true/\y<D.n/\d<D.len y/\(y<i\/(y=i/\d<c))/\D.nx y d=((x:Nat):Int)
theorem Nx.zero{D:Dd}{f:Nat->Bool}{x:Nat}:¬Nx D f 0 0 x:=fun⟨y,d,_,_,_,h,_⟩=>by omega
theorem Nx.row{D:Dd}{f:Nat->Bool}{i c:Nat}(h:f i=false\/D.len i<=c)(x:Nat):Nx D f i c x↔Nx D f (i+1) 0 x:=by
 constructor
 ·rintro⟨y,d,h1,h2,h3,h4,h5⟩
  exact⟨y,d,h1,h2,h3,by omega,h5⟩
 ·rintro⟨y,d,h1,h2,h3,h4,h5⟩
  refine⟨y,d,h1,h2,h3,?_,h5⟩
  by_cases e:y=i
  ·subst e
   rcases h with h|h
   ·rw[h]at h1;cases h1
   ·exact Or.inr ⟨rfl,by omega⟩
  ·exact Or.inl (by omega)
theorem Nx.skip{D:Dd}{f:Nat->Bool}{i c:Nat}(h:D.nx i c<0)(x:Nat):Nx D f i c x↔Nx D f i (c+1) x:=by
 constructor
 ·rintro⟨y,d,h1,h2,h3,h4,h5⟩
  exact⟨y,d,h1,h2,h3,by omega,h5⟩
 ·rintro⟨y,d,h1,h2,h3,h4,h5⟩
  refine⟨y,d,h1,h2,h3,?_,h5⟩
  by_cases e:y=i/\d=c
  ·obtain⟨rfl,rfl⟩:=e
   omega
  ·omega
theorem Nx.put{D:Dd}{f:Nat->Bool}{i c u:Nat}(hf:f i=true)(hi:i<D.n)(hc:c<D.len i)(h:D.nx i c=(u:Int))(x:Nat):Nx D f i (c+1) x↔x=u\/Nx D f i c x:=by
 constructor
 ·rintro⟨y,d,h1,h2,h3,h4,h5⟩
  by_cases e:y=i/\d=c
  ·obtain⟨rfl,rfl⟩:=e
   exact Or.inl (by omega)
  ·exact Or.inr ⟨y,d,h1,h2,h3,by omega,h5⟩
 ·rintro (rfl|⟨y,d,h1,h2,h3,h4,h5⟩)
  ·exact⟨i,c,hf,hi,hc,Or.inr ⟨rfl,by omega⟩,h⟩
  ·exact⟨y,d,h1,h2,h3,by omega,h5⟩
theorem Nx.done{D:Dd}{f:Nat->Bool}{s k:Nat}(hf:∀x,x<D.n->(f x=true↔Ex D s k x))(x:Nat):Nx D f D.n 0 x↔Ex D s (k+1) x:=by
 constructor
 ·rintro⟨y,d,h1,h2,h3,h4,h5⟩
  exact⟨y,(hf y h2).1 h1,h2,d,h3,h5⟩
 ·rintro⟨y,h1,h2,d,h3,h5⟩
  exact⟨y,d,(hf y h2).2 h1,h2,h3,by omega,h5⟩
theorem OB.out_{W0 W1 w:World}{g g' n:Nat}{f f':Nat->Bool}(h:OB W0 g n f W1)(h2:OB W1 g' n f' w):OB W0 g' n f' w:=
 ⟨zag h2.own h.bel.size,h.bel.trans (h2.bel.mono h.bel.size),Nat.le_trans h.bel.size h2.lo⟩
def CT(D:Dd)(s k:Nat):Prop:=∃x,x<D.n/\Ex D s k x/\0<=D.q x
theorem zjK(D:Dd)(C:Nat)(hR:DR D C)(s k:Nat)(hs:s<D.n)(hk:k<=1000000)(w:World)(hD:DM w D):
  Calls Tryz.prog 45 #[.agg D.cD,.int .i64 (s:Int),.int .i64 (k:Int)] w (zaV (CT D s k) w):=by
 have hmk:=zgg D.n (by have:=hR.n2;omega)
 have hn2:=hR.n2
 have hn1:=hR.n1
 have hmn:=hR.m
 have HB:=hid (And.intro (DBx.new hD) (And.intro (al w (.cells D.cD 39)) hR))
 clear hD hR
 go_enter Tryz.func45,Tryz.ntmps45
 go_upto_region 1 with fail
 generalize w.alloc (.cells D.cD 39)=W0 at HB⊢
 obtain⟨b0,hb0⟩:∃b0,w.heap.size=b0:=⟨_,rfl⟩
 rw[hb0]at HB
 rw[hb0]
 have Hb0:=hid hb0
 clear hb0
 by_cases hk0:k=0
 ·subst hk0
  have HM:=hid (zcS D (s:Int) W0 HB.out.1.dm (by omega))
  have hm8:mrk8 D (s:Int)=D.q s:=by unfold mrk8;rw[if_pos ⟨by omega,by omega⟩];simp
  rw[hm8]at HM
  have HT:Hid (∀w' b,Below W0.heap.size W0 w'->(b=true↔0<=D.q s)->zaV (CT D s 0) w (.returned (.bool b)) w'):=fun w' b hb hq=>by
   refine⟨b,rfl,?_,?_⟩
   ·rw[hq]
    exact⟨fun h=>⟨s,hs,rfl,h⟩,fun⟨x,h1,h2,h3⟩=>by
     have e:x=s:=h2
     rwa [e]at h3⟩
   ·rw[Hb0.out];exact HB.out.2.1.trans (hb.mono (by have:=HB.out.1.st.lt;omega))
  clear hm8
  generalize D.q s=q at HM HT
  go_wp2_with (first
   | (refine zad (by rfl) 39 _ rfl ⟨b0,0,none⟩ rfl D.cD _ HB.out.1.st.part Tryz.underlying39 rfl HB.out.1.dm.info ?_)
   | (go_at_call 15;refine HM.out.mono ?_;rintro e w4 ⟨rfl,b4⟩))
  go_ret
  exact HT.out _ (decide (0<=q)) b4 decide_eq_true_iff
 ·have hk1:¬(k:Int)=0:=by omega
  have hk2:((k:Int) == 0)=false:=by simp;omega
  have f1:=HB.out.1.f1
  have HO:=hid (OB.made W0 D.n (by unfold maxLen;omega))
  go_upto_region 4 with fail
  obtain⟨g,hg⟩:∃g,W0.heap.size=g:=⟨_,rfl⟩
  have HO2:Hid (∀W1,(W0.alloc (.cells (madeCells #[.bool false] D.n) 4))=W1->OB W0 g D.n (fun _=>false) W1):=fun W1 h=>by rw[<-h,<-hg];exact HO.out
  rw[hg]
  generalize hW1:W0.alloc (.cells (madeCells #[.bool false] D.n) 4)=W1
  have HO:=hid (HO2.out W1 hW1)
  clear HO2 hg hW1 f1
  have i1:(s:Int)<(D.n:Int):=by omega
  obtain⟨y0,y1⟩:=HO.out.cell s hs
  have HA:=hid (HO.out.put s hs true)
  clear HO
  go_upto_region 6 with fail
  generalize W1.setCell ⟨g,s,none⟩ (.bool true)=W2 at HA⊢
  clear y0 y1
  have HA0:Hid (∃f,OB W0 g D.n f W2/\∀x,x<D.n->(f x=true↔Ex D s 0 x)):=⟨_,HA.out,fun x hx=>by
   show (if x=s then true else false)=true↔x=s
   by_cases e:x=s<;>simp[e]⟩
  clear HA
  go_loopw [7,8,9,10,11] (fun v7 v _ _ _ wr=>∃(j g:Nat) (f:Nat->Bool),v=.int .i64 j/\v7=.slice (some ⟨g,0,none⟩) D.n D.n/\j<=k/\Hid (OB W0 g D.n f wr)/\Hid (∀x,x<D.n->(f x=true↔Ex D s j x))) (fun _ v _ _ _ _=>k-(intOf v).toNat)
  case atStart=>
   obtain⟨f,h1,h2⟩:=HA0.out
   exact⟨0,g,f,rfl,rfl,Nat.zero_le _,h1,h2⟩
  case round=>
   clear HA0
   obtain⟨j,g,f,rfl,rfl,hj,HA,HF⟩:=hrel
   by_cases hlt:j<k
   ·have i2:(j:Int)<(k:Int):=by omega
    revert wr
    intro Wk HA
    have HO:=hid (OB.made Wk D.n (by unfold maxLen;omega))
    go_upto_region 9 with fail
    obtain⟨g2,hg2⟩:∃g2,Wk.heap.size=g2:=⟨_,rfl⟩
    have HO2:Hid (∀W1,(Wk.alloc (.cells (madeCells #[.bool false] D.n) 4))=W1->OB Wk g2 D.n (fun _=>false) W1):=fun W1 h=>by rw[<-h,<-hg2];exact HO.out
    rw[hg2]
    generalize hW1:Wk.alloc (.cells (madeCells #[.bool false] D.n) 4)=W1
    have HO:=hid (HO2.out W1 hW1)
    clear HO2 hg2 hW1
    go_wp2_with fail
    go_loopw [10,11] (fun v _ wr=>∃(i:Nat) (h:Nat->Bool),v=.int .i64 i/\i<=D.n/\Hid (OB Wk g2 D.n h wr)/\Hid (∀x,x<D.n->(h x=true↔Nx D f i 0 x))) (fun v _ _=>D.n-(intOf v).toNat)
    case atStart=>exact⟨0,_,rfl,Nat.zero_le _,HO,fun x hx=>⟨fun h=>by simp at h,fun h=>absurd h Nx.zero⟩⟩
    case round=>
     clear HO
     obtain⟨i,h,rfl,hi,HX,HY⟩:=hrel
     by_cases hli:i<D.n
     ·have i3:(i:Int)<(D.n:Int):=by omega
      obtain⟨ln,hln⟩:∃ln,D.len i=ln:=⟨_,rfl⟩
      have HLn:=hid hln
      have hCl:ln<=C:=by rw[<-hln,HB.out.2.2.len i hli];exact Nat.le_refl _
      have hC6:=(HB.out.2.2.c256 HB.out.1.dm.kl).2
      clear hln
      go_wp2_with fail
      go_loopw [11] (fun v wr=>∃(c:Nat) (h:Nat->Bool),v=.int .i64 c/\c<=ln/\Hid (OB Wk g2 D.n h wr)/\Hid (∀x,x<D.n->(h x=true↔Nx D f i c x))) (fun v _=>ln-(intOf v).toNat)
      case atStart=>exact⟨0,h,rfl,Nat.zero_le _,HX,HY⟩
      case round=>
       clear HX HY
       obtain⟨c,h,rfl,hc,HX,HY⟩:=hrel
       have HAt:=hid (HA.out.keep HX.out.bel)
       obtain⟨y0,_⟩:=HAt.out.cell i hli
       have HBx:=hid (HB.out.1.keep HAt.out.bel)
       have f1:=HBx.out.f1
       obtain⟨gN,oN,eN,hgN,cN,zN⟩:=HBx.out.dm.row i hli
       rw[eN]at f1
       rw[HLn.out]at cN zN
       have HZn:=hid zN
       clear zN eN
       rcases hf:f i with _|_
       ·rw[hf]at y0
        have HZ:Hid (∀x,x<D.n->(h x=true↔Nx D f (i+1) 0 x)):=fun x hx=>(HY.out x hx).trans (Nx.row (Or.inl hf) x)
        clear hf
        go_wp2_with fail
        go_roundw
        case rel=>exact⟨i+1,h,by go_num,by omega,HX,HZ⟩
        case measure=>simp[intOf];omega
       ·rw[hf]at y0
        have HV:=hid hf
        clear hf
        by_cases hlc:c<ln
        ·have i4:(c:Int)<(ln:Int):=by omega
         obtain⟨gA,oA,eA,hgA,cA0⟩:=HZn.out (by omega)
         have cA:=cA0 c hlc
         have hb:=HB.out.2.2.nx i c hli (by omega)
         rw[eA]at cN
         have HS:Hid (∀u:Nat,D.nx i c=(u:Int)->∀x,x<D.n->((if x=u then true else h x)=true↔Nx D f i (c+1) x)):=fun u hu x hx=>by
          rw[Nx.put HV.out hli (by rw[HLn.out];exact hlc) hu x,<-HY.out x hx]
          by_cases e:x=u<;>simp[e]
         have HN:Hid (D.nx i c<0->∀x,x<D.n->(h x=true↔Nx D f i (c+1) x)):=fun hu x hx=>(HY.out x hx).trans (Nx.skip hu x)
         clear cA0 eA
         generalize D.nx i c=x at cA hb HS HN
         by_cases hx:x<0
         ·have i5:¬(0<=x):=by omega
          have HZ:=hid (HN.out hx)
          go_wp2_with fail
          go_roundw
          case rel=>exact⟨c+1,h,by go_num,by omega,HX,HZ⟩
          case measure=>simp[intOf];omega
         ·obtain⟨u,rfl⟩:∃u:Nat,x=(u:Int):=⟨x.toNat,by omega⟩
          have hu:u<D.n:=by omega
          have i5:(0:Int)<=(u:Int):=by omega
          have i6:(u:Int)<(D.n:Int):=by omega
          obtain⟨z0,z1⟩:=HX.out.cell u hu
          have HZ:=hid (HS.out u rfl)
          have HX2:=hid (HX.out.put u hu true)
          clear hx HS HN
          go_wp2_with fail
          go_roundw
          case rel=>exact⟨c+1,_,by go_num,by omega,HX2,HZ⟩
          case measure=>simp[intOf];omega
        ·have HZ:Hid (∀x,x<D.n->(h x=true↔Nx D f (i+1) 0 x)):=fun x hx=>(HY.out x hx).trans (Nx.row (Or.inr (by rw[HLn.out];omega)) x)
         have i4:¬((c:Int)<(ln:Int)):=by omega
         go_wp2_with fail
         go_roundw
         case rel=>exact⟨i+1,h,by go_num,by omega,HX,HZ⟩
         case measure=>simp[intOf];omega
     ·obtain rfl:i=D.n:=by omega
      have HZ:Hid (∀x,x<D.n->(h x=true↔Ex D s (j+1) x)):=fun x hx=>(HY.out x hx).trans (Nx.done HF.out x)
      have HX2:=hid (HA.out.out_ HX.out)
      go_wp2_with fail
      go_roundw
      case rel=>exact⟨j+1,g2,h,by go_num,rfl,by omega,HX2,HZ⟩
      case measure=>simp[intOf];omega
   ·obtain rfl:j=k:=by omega
    clear hlt hj
    have HT:Hid (∀w' b,OB W0 g D.n f w'->(b=true↔CT D s j)->zaV (CT D s j) w (.returned (.bool b)) w'):=fun w' b hb hq=>by
     refine⟨b,rfl,hq,?_⟩
     have h1:=HB.out.1.st.lt
     rw[Hb0.out];exact HB.out.2.1.trans (hb.bel.mono (by omega))
    go_wp2_with fail
    go_loopw [12] (fun v wr=>∃i:Nat,v=.int .i64 i/\i<=D.n/\Hid (OB W0 g D.n f wr)/\Hid (∀x,x<i->¬(Ex D s j x/\0<=D.q x))) (fun v _=>D.n-(intOf v).toNat)
    case atStart=>exact⟨0,rfl,Nat.zero_le _,HA,fun x hx=>absurd hx (by omega)⟩
    case round=>
     clear HA
     obtain⟨i,rfl,hi,HA,HQ⟩:=hrel
     by_cases hli:i<D.n
     ·have i3:(i:Int)<(D.n:Int):=by omega
      obtain⟨y0,_⟩:=HA.out.cell i hli
      have HBx:=hid (HB.out.1.keep HA.out.bel)
      have f2:=HBx.out.f2
      obtain⟨gM,oM,eM,_,cM⟩:=HBx.out.dm.rM (by omega)
      have c1:=cM i (by omega)
      rw[eM,hmn]at f2
      clear cM eM
      have hfi:=HF.out i hli
      rcases hf:f i with _|_
      ·rw[hf]at y0
       have HZ:Hid (∀x,x<i+1->¬(Ex D s j x/\0<=D.q x)):=fun x hx hh=>by
        by_cases e:x=i
        ·subst e
         have:=hfi.2 hh.1
         rw[hf]at this;cases this
        ·exact HQ.out x (by omega) hh
       clear hf hfi
       go_wp2_with fail
       go_roundw
       case rel=>exact⟨i+1,by go_num,by omega,HA,HZ⟩
       case measure=>simp[intOf];omega
      ·rw[hf]at y0
       have hE:=hid (hfi.1 hf)
       clear hf hfi
       by_cases hq:0<=D.q i
       ·have HZ:=hid (HT.out wr true HA.out ⟨fun _=>⟨i,hli,hE.out,hq⟩,fun _=>rfl⟩)
        go_wp2_with fail
        go_ret
        exact HZ.out
       ·have HZ:Hid (∀x,x<i+1->¬(Ex D s j x/\0<=D.q x)):=fun x hx hh=>by
         by_cases e:x=i
         ·subst e
          exact hq hh.2
         ·exact HQ.out x (by omega) hh
        go_wp2_with fail
        go_roundw
        case rel=>exact⟨i+1,by go_num,by omega,HA,HZ⟩
        case measure=>simp[intOf];omega
     ·obtain rfl:i=D.n:=by omega
      have HZ:=hid (HT.out wr false HA.out ⟨fun h=>by simp at h,fun⟨x,h1,h2⟩=>absurd h2 (HQ.out x h1)⟩)
      go_wp2_with fail
      go_ret
      exact HZ.out
theorem zej{D:Dd}{C:Nat}(hR:DR D C)(st:Int){b:Nat}(hb:b<256):-1<=stepF D st b/\stepF D st b<(D.n:Int):=by
 unfold stepF
 split
 ·next h=>exact hR.nx st.toNat (D.K b) (by omega) (hR.c.1 b hb)
 ·omega
def ziq(D:Dd):Prop:=∃k,k<=D.n/\CT D 0 k
theorem zjL{D:Dd}{s:Nat}:∀k x,RchN (Ed D) (fun y=>y=s) k x↔∃j,j<=k/\Ex D s j x:=by
 intro k
 induction k with
 | zero=>
  intro x
  exact⟨fun h=>⟨0,Nat.le_refl _,h⟩,fun⟨j,hj,h⟩=>by rw[show j=0 by omega]at h;exact h⟩
 | succ k ih=>
  intro x
  constructor
  ·rintro (h|⟨y,h1,h2⟩)
   ·obtain⟨j,hj,h⟩:=(ih x).1 h
    exact⟨j,by omega,h⟩
   ·obtain⟨j,hj,h⟩:=(ih y).1 h1
    exact⟨j+1,by omega,y,h,h2⟩
  ·rintro⟨j,hj,h⟩
   by_cases e:j<=k
   ·exact Or.inl ((ih x).2 ⟨j,e,h⟩)
   ·rw[show j=k+1 by omega]at h
    obtain⟨y,h1,h2⟩:=h
    exact Or.inr ⟨y,(ih y).2 ⟨k,Nat.le_refl _,h1⟩,h2⟩
theorem zjM{D:Dd}{C:Nat}(hR:DR D C):ziq D↔∃x,x<D.n/\RcI D 0 x/\0<=D.q x:=by
 have hn:=hR.n1
 have key:∀x,Rch (Ed D) (fun y=>y=0) x↔RchN (Ed D) (fun y=>y=0) D.n x:=fun x=>zkw (fun x hx=>by rw[hx];omega) hR.ed x
 have hz:(fun y=>y=Int.toNat 0)=fun y:Nat=>y=0:=rfl
 constructor
 ·rintro⟨k,hk,x,h1,h2,h3⟩
  exact⟨x,h1,⟨Int.le_refl _,by omega,(key x).2 ((zjL D.n x).2 ⟨k,hk,h2⟩)⟩,h3⟩
 ·rintro⟨x,h1,⟨_,_,h2⟩,h3⟩
  obtain⟨k,hk,h4⟩:=(zjL D.n x).1 ((key x).1 h2)
  exact⟨k,hk,x,h1,h4,h3⟩
def SP9(D:Dd)(w:World)(e:Ending)(w':World):Prop:=∃(s:ByteArray) (b:Bool),e=.returned (.tuple #[.string s,.bool b])/\(b=true↔ziq D)/\Below w.heap.size w w'
theorem zgG(D:Dd)(C:Nat)(hR:DR D C)(hn:D.n<=20)(w:World)(hD:DM w D):
  Calls Tryz.prog 25 #[.agg D.cD] w (SP9 D w):=by
 have hn1:=hR.n1
 have hmn:=hR.m
 have hC6:=(hR.c256 hD.kl).2
 have HB:=hid (And.intro (DBx.new hD) (And.intro (al w (.cells D.cD 39)) hR))
 clear hD hR
 go_enter Tryz.func25,Tryz.ntmps25
 go_upto_region 1 with fail
 generalize w.alloc (.cells D.cD 39)=W0 at HB⊢
 obtain⟨b0,hb0⟩:∃b0,w.heap.size=b0:=⟨_,rfl⟩
 rw[hb0]at HB
 rw[hb0]
 have Hb0:=hid hb0
 clear hb0
 have HRt:=hid (zdy D W0 HB.out.1.dm hn (by omega) (fun i hi=>by rw[HB.out.2.2.len i hi];omega))
 go_upto_region 3 with (first
  | (refine zad (by rfl) 39 _ rfl ⟨b0,0,none⟩ rfl D.cD _ HB.out.1.st.part Tryz.underlying39 rfl HB.out.1.dm.info ?_)
  | (go_at_call 14;refine HRt.out.mono ?_))
 rintro e w1 ⟨bt,rfl,hbt,b1⟩
 obtain rfl:bt=true:=hbt.2 ⟨C,HB.out.2.2⟩
 have HW1:Hid (Below W0.heap.size W0 w1):=b1
 clear hbt b1 HRt
 have HFi:Hid (∀(s:ByteArray) (b:Bool) (wr:World),Below W0.heap.size W0 wr->(b=true↔ziq D)->SP9 D w (.returned (.tuple #[.string s,.bool b])) wr):=fun s b wr h h2=>by
  refine⟨s,b,rfl,h2,?_⟩
  have h3:=HB.out.1.st.lt
  rw[Hb0.out];exact HB.out.2.1.trans (h.mono (by omega))
 go_wp2_with fail
 go_loopw [4] (fun v wr=>∃n:Nat,v=.int .i64 n/\n<=D.n+1/\Hid (Below W0.heap.size W0 wr)/\Hid (∀k,k<n->¬CT D 0 k)) (fun v _=>D.n+1-(intOf v).toNat)
 case atStart=>exact⟨0,rfl,Nat.zero_le _,HW1,fun k hk=>absurd hk (by omega)⟩
 case round=>
  clear HW1
  obtain⟨n,rfl,hn2,HW,HC⟩:=hrel
  have HBx:=hid (HB.out.1.keep HW.out)
  have f1:=HBx.out.f1
  by_cases hlt:n<=D.n
  ·have i1:(n:Int)<=(D.n:Int):=by omega
   have HCa:=hid (zjK D C HB.out.2.2 0 n (by omega) (by omega) wr HBx.out.dm)
   go_upto_region 6 with fail
   go_wp2_with (first
    | (refine zad (by rfl) 39 _ rfl ⟨b0,0,none⟩ rfl D.cD _ HBx.out.st.part Tryz.underlying39 rfl HBx.out.dm.info ?_)
    | (go_at_call 45;refine HCa.out.mono ?_))
   rintro e w2 ⟨bt,rfl,hbt,b2⟩
   have HW2:Hid (Below W0.heap.size W0 w2):=HW.out.trans (b2.mono HW.out.size)
   have Hbt:=hid hbt
   clear hbt b2 HCa f1
   cases bt
   ·have HZ:Hid (∀k,k<n+1->¬CT D 0 k):=fun k hk hh=>by
     by_cases e:k=n
     ·subst e
      have:=Hbt.out.2 hh
      cases this
     ·exact HC.out k (by omega) hh
    go_wp2_with fail
    go_roundw
    case rel=>exact⟨n+1,by go_num,by omega,HW2,HZ⟩
    case measure=>simp[intOf];omega
   ·have HY:=hid ((show ziq D from ⟨n,hlt,Hbt.out.1 rfl⟩))
    clear HW HBx Hbt
    go_wp2_with fail
    go_loopw [5,6,7,8,9] (fun v5 v6 v7 _ _ wr=>∃(s:ByteArray) (a k:Nat),v5=.string s/\v6=.int .i64 a/\v7=.int .i64 k/\a<D.n/\k<=n/\s.size+k<=n/\Hid (Below W0.heap.size W0 wr)) (fun _ _ v _ _ _=>(intOf v).toNat)
    case atStart=>exact⟨⟨#[]⟩,0,n,rfl,rfl,rfl,by omega,Nat.le_refl _,by show 0+n<=n;omega,HW2⟩
    case round=>
     clear HW2
     obtain⟨s,a,k,rfl,rfl,rfl,ha,hk,hsz,HW⟩:=hrel
     by_cases hk0:0<k
     ·have i2:(k:Int) > 0:=by omega
      go_wp2_with fail
      go_loopw [5,6,8,9] (fun v5 v6 v _ wr=>∃b:Nat,v5=.string s/\v6=.int .i64 a/\v=.int .i64 b/\b<=256/\Hid (Below W0.heap.size W0 wr)) (fun _ _ v _ _=>256-(intOf v).toNat)
      case atStart=>exact⟨0,rfl,rfl,rfl,Nat.zero_le _,HW⟩
      case round=>
       clear HW
       obtain⟨b,rfl,rfl,rfl,hb,HW⟩:=hrel
       by_cases hbl:b<256
       ·have i3:(b:Int)<256:=by omega
        have HBx:=hid (HB.out.1.keep HW.out)
        have HSt:=hid (zef D C HB.out.2.2 (a:Int) b hbl wr HBx.out.dm)
        have hst:=zej HB.out.2.2 (a:Int) hbl
        generalize stepF D (a:Int) b=tt at HSt hst
        go_upto_region 15 with (first
         | (refine zad (by rfl) 39 _ rfl ⟨b0,0,none⟩ rfl D.cD _ HBx.out.st.part Tryz.underlying39 rfl HBx.out.dm.info ?_)
         | (go_at_call 36;refine HSt.out.mono ?_;rintro e w3 ⟨rfl,b3⟩))
        have HW3:Hid (Below W0.heap.size W0 w3):=HW.out.trans (b3.mono HW.out.size)
        clear b3 HSt HBx HW
        by_cases ht:0<=tt
        ·obtain⟨t,rfl⟩:∃t:Nat,tt=(t:Int):=⟨tt.toNat,by omega⟩
         have ht2:t<D.n:=by omega
         obtain⟨k',hk'⟩:∃k',k-1=k':=⟨_,rfl⟩
         have i4:(k:Int)-1=(k':Int):=by omega
         have HBy:=hid (HB.out.1.keep HW3.out)
         have HCa:=hid (zjK D C HB.out.2.2 t k' ht2 (by omega) w3 HBy.out.dm)
         go_upto_region 16 with (first
          | (refine zad (by rfl) 39 _ rfl ⟨b0,0,none⟩ rfl D.cD _ HBy.out.st.part Tryz.underlying39 rfl HBy.out.dm.info ?_)
          | (go_at_call 45;refine HCa.out.mono ?_))
         rintro e w4 ⟨bt,rfl,hbt,b4⟩
         have HW4:Hid (Below W0.heap.size W0 w4):=HW3.out.trans (b4.mono HW3.out.size)
         clear hbt b4 HCa HBy HW3
         cases bt
         ·go_wp2_with fail
          go_roundw
          case rel=>exact⟨b+1,rfl,rfl,by go_num,by omega,HW4⟩
          case measure=>simp[intOf];omega
         ·have hcv:=fun W g=>zkF W g b
          have hz1:s.size<=20:=by omega
          have hz2:(strOf [b]).size<=1:=by rw[zaY];simp
          have i6:IntKind.u8.wrap (b:Int)=(b:Int):=by rw[IntWalk.u8_in _ (by omega)]
          have HZ:Hid (Below W0.heap.size W0 (w4.alloc (.cells #[.int .u8 (b:Int)] 5))):=HW4.out.alloc HW4.out.size _
          have HS:Hid ((s++strOf [b]).size+k'<=n):=by
           show _<=_
           rw[ByteArray.size_append]
           omega
          go_wp2_with fail
          go_roundw
          case rel=>exact⟨s++strOf [b],t,k',rfl,rfl,by go_num,ht2,by omega,HS.out,HZ.out⟩
          case measure=>simp[intOf];omega
        ·have ht1:¬tt≥0:=ht
         go_wp2_with fail
         go_roundw
         case rel=>exact⟨b+1,rfl,rfl,by go_num,by omega,HW3⟩
         case measure=>simp[intOf];omega
       ·obtain rfl:b=256:=by omega
        go_wp2_with fail
        go_roundw
        case rel=>exact⟨s,a,k-1,rfl,rfl,by congr 1;go_num,ha,by omega,by omega,HW⟩
        case measure=>simp[intOf];omega
     ·have i2:¬(k:Int) > 0:=by omega
      have HZ:=hid (HFi.out s true wr HW.out ⟨fun _=>HY.out,fun _=>rfl⟩)
      go_wp2_with fail
      go_ret2
      exact HZ.out
  ·have i1:¬(n:Int)<=(D.n:Int):=by omega
   have HZ:=hid (HFi.out ⟨#[]⟩ false wr HW.out ⟨fun h=>by simp at h,fun⟨k,h1,h2⟩=>absurd h2 (HC.out k (by omega))⟩)
   go_wp2_with fail
   go_ret2
   exact HZ.out
def exI:Rx:=.bin ⟨2,empP⟩ (.leaf ⟨1,ofUp (fun _=>105) 1⟩) (.leaf ⟨1,ofUp (fun _=>102) 1⟩)
def eK:Nat->Bool:=fun x=>empP x || ival 97 (122+1-97) x
def eZ:Rx:=.un ⟨5,empP⟩ (.leaf ⟨1,eK⟩)
def eS:ByteArray:=⟨#[105,102]⟩
def eD:ByteArray:=⟨#[105,100]⟩
def eJ:ByteArray:=⟨#[91,97,45,122,93,43]⟩
def eR:List Ru:=[⟨eS,0,eS⟩,⟨eD,0,eJ⟩]
theorem zhu:RxOf eS exI:=⟨⟨rfl,by decide +kernel,⟨rfl,by decide +kernel⟩,⟨rfl,by decide +kernel⟩⟩,by kernel_rfl,by decide +kernel⟩
theorem zhv:RxOf eJ eZ:=⟨⟨rfl,by decide +kernel,⟨rfl,by decide +kernel⟩⟩,by kernel_rfl,by decide +kernel⟩
theorem zmr:nB (thE exI 0)<=2:=by decide +kernel
theorem zms:nB (thE eZ 0)<=2:=by decide +kernel
theorem zeU(c:Nat)(hc:c<256)(s:List Nat):Lan (.leaf ⟨1,ofUp (fun _=>c) 1⟩) s↔s=[c]:=by
 rw[zcg,if_pos rfl]
 constructor
 ·rintro⟨b,rfl,_,h⟩
  obtain⟨j,_,e⟩:=(zeD _ _ _).1 h
  rw[<-e]
 ·rintro rfl
  exact⟨c,rfl,hc,(zeD _ _ _).2 ⟨0,by omega,rfl⟩⟩
theorem zjN(s:List Nat):Lan exI s↔s=[105,102]:=by
 unfold exI
 rw[zdI,if_pos rfl]
 constructor
 ·rintro⟨u,v,rfl,h1,h2⟩
  rw[(zeU 105 (by omega) u).1 h1,(zeU 102 (by omega) v).1 h2]
  rfl
 ·rintro rfl
  exact⟨[105],[102],rfl,(zeU 105 (by omega) _).2 rfl,(zeU 102 (by omega) _).2 rfl⟩
theorem zeV(b:Nat)(h1:97<=b)(h2:b<=122):Lan (.leaf ⟨1,eK⟩) [b]:=by
 rw[zcg,if_pos rfl]
 refine⟨b,rfl,by omega,?_⟩
 show (empP b || ival 97 (122+1-97) b)=true
 simp[empP,ival]
 omega
theorem zno:Lan eZ [105,102,115]:=by
 unfold eZ
 rw[zdH,if_neg (by decide),if_pos rfl]
 exact⟨[105],[102,115],rfl,zeV 105 (by omega) (by omega),Star.app (u:=[102]) (zeV 102 (by omega) (by omega)) (Star.one (zeV 115 (by omega) (by omega)))⟩
theorem znp:¬Lan eZ []:=by
 unfold eZ
 rw[zdH,if_neg (by decide),if_pos rfl]
 rintro⟨u,v,h,h1,_⟩
 rw[zcg,if_pos rfl]at h1
 obtain⟨b,rfl,_⟩:=h1
 simp at h
theorem zls:nameT eS=true/\nameT eD=true/\eS≠eD/\kindB 0=true:=by
 refine⟨by decide +kernel,by decide +kernel,fun h=>?_,by decide⟩
 have:eS.data=eD.data:=by rw[h]
 revert this
 decide
theorem zhw{pre:List Ru}{x:Ru}{er:Int}(h:RuE pre x er)(h1:nameT x.nm=true)(h2:∀y∈pre,y.nm≠x.nm)(h3:kindB x.k=true){t:Rx}(ht:RxOf x.rx t)(hn:nB (thE t 0)<=2)(he:¬Lan t []):er=0:=by
 rcases h with⟨h4,_⟩|⟨_,⟨⟨y,hy,e⟩,_⟩|⟨_,⟨h4,_⟩|⟨_,⟨e5,h4,_⟩|⟨t',ht',h5⟩⟩⟩⟩
 ·rw[h1]at h4;cases h4
 ·exact absurd e (h2 y hy)
 ·rw[h3]at h4;cases h4
 ·exact(ht.no_err h4).elim
 ·have hf:=ht'.flat ht
  have hE:=zcE ht'.1 ht.1 hf
  rcases h5 with⟨h6,_⟩|⟨h6,_⟩|⟨_,h6⟩
  ·rw[hE]at h6
   have:2 ^ nB (thE t 0)<=2 ^ 2:=Nat.pow_le_pow_right (by omega) hn
   omega
  ·refine absurd ?_ he
   have:=(zeZ ht'.1 ht.1 hf (fun _=>0) (fun _=>by omega) 0).1
   exact this h6
  ·exact h6
theorem zlt{D:Dd}{C:Nat}(hR:DR D C)(z:Nat->Nat)(hz:∀j,z j<256):∀m,0<=runF D 0 z m->runF D 0 z m<(D.n:Int)/\RcI D 0 (runF D 0 z m).toNat:=by
 intro m
 have hn:=hR.n1
 induction m with
 | zero=>exact fun _=>⟨by show (0:Int)<_;omega,Int.le_refl _,by omega,Rch.base rfl⟩
 | succ m ih=>
  intro h
  have h1:runF D 0 z (m+1)=stepF D (runF D 0 z m) (z m):=rfl
  have h2:=zej hR (runF D 0 z m) (hz m)
  rw[h1]at h⊢
  by_cases e:0<=runF D 0 z m/\runF D 0 z m<(D.n:Int)
  ·obtain⟨h3,h4,h5,h6⟩:=ih e.1
   refine⟨h2.2,h4,h5,?_⟩
   refine h6.step ⟨by omega,D.K (z m),?_,?_⟩
   ·rw[hR.len _ (by omega)];exact hR.c.1 _ (hz m)
   ·have e2:stepF D (runF D 0 z m) (z m)=D.nx (runF D 0 z m).toNat (D.K (z m)):=by unfold stepF;rw[if_pos e]
    rw[<-e2]
    omega
  ·unfold stepF at h
   rw[if_neg e]at h
   omega
theorem zfJ{D:Dd}{C:Nat}(hR:DR D C)(z:Nat->Nat)(hz:∀j,z j<256)(m y:Nat)(h:markF D (runF D 0 z m)=(y:Int)):zdV D y:=by
 have h0:0<=runF D 0 z m:=by
  by_cases e:0<=runF D 0 z m
  ·exact e
  ·unfold markF at h
   rw[if_neg (by omega)]at h
   omega
 obtain⟨h1,h2⟩:=zlt hR z hz m h0
 refine⟨(runF D 0 z m).toNat,by omega,h2,?_⟩
 rw[show (((runF D 0 z m).toNat:Nat):Int)=runF D 0 z m by omega]
 exact h
def eF:ByteArray:=⟨#[105,102,115]⟩
theorem znq{w w':World}{e:Ending}(h:zlB eR w e w'):∃(X:Dd) (C:Nat),e=.returned (.tuple #[.agg X.cD,.int .i64 0])/\DM w' X/\Mn X C/\markF X (runF X 0 (zof eS) 2)=0/\markF X (runF X 0 (zof eF) 3)=1/\zdV X 0/\zdV X 1/\Below w.heap.size w w':=by
 obtain⟨hn1,hn2,hn3,hn4⟩:=zls
 have hne:eR.length=2:=rfl
 have hr0:∀er,RuE (eR.take 0) eR[0] er->er=0:=fun er hr=>zhw hr hn1 (fun y hy=>by simp at hy) hn4 zhu zmr (fun hh=>by have:=(zjN []).1 hh;simp at this)
 have hr1:∀er,RuE (eR.take 1) eR[1] er->er=0:=fun er hr=>zhw hr hn2 (fun y hy=>by
  have:y=eR[0]:=by simpa [eR] using hy
  rw[this];exact hn3) hn4 zhv zms znp
 obtain⟨hb,⟨i,hi,er,he,_,hr,_⟩|⟨_,T,hT,h1⟩⟩:=h
 ·exfalso
  have hi2:i=0\/i=1:=by omega
  rcases hi2 with rfl|rfl
  ·exact he (hr0 er hr)
  ·exact he (hr1 er hr)
 ·have hT0:RxOf eS (T 0):=hT 0 (by omega)
  have hT1:RxOf eJ (T 1):=hT 1 (by omega)
  have hf0:=hT0.flat zhu
  have hf1:=hT1.flat zhv
  rcases h1 with⟨h1,_⟩|⟨X,C,rfl,hX,hMn,hL⟩
  ·exfalso
   rw[hne]at h1
   have:=zoe (fun j=>nfT (T j)) 2 2 (fun k hk=>by
    have hk2:k=0\/k=1:=by omega
    rcases hk2 with rfl|rfl
    ·show nB (thE (T 0) 0)<=2
     rw[zcE hT0.1 zhu.1 hf0];exact zmr
    ·show nB (thE (T 1) 0)<=2
     rw[zcE hT1.1 zhv.1 hf1];exact zms)
   have h2:2 ^ nB (uE (fun j=>nfT (T j)) 2)<=2 ^ (2*2):=Nat.pow_le_pow_right (by omega) this
   omega
  ·have hl0:∀(z:Nat->Nat) (m:Nat),(∀j,z j<256)->(Lan (T 0) ((List.range m).map z)↔(List.range m).map z=[105,102]):=fun z m hz=>by
    rw[zeZ hT0.1 zhu.1 hf0 z hz m,zjN]
   have hl1:∀(z:Nat->Nat) (m:Nat),(∀j,z j<256)->(Lan (T 1) ((List.range m).map z)↔Lan eZ ((List.range m).map z)):=fun z m hz=>zeZ hT1.1 zhv.1 hf1 z hz m
   have e2:(List.range 2).map (zof eS)=[105,102]:=by decide +kernel
   have e3:(List.range 3).map (zof eF)=[105,102,115]:=by decide +kernel
   have m0:markF X (runF X 0 (zof eS) 2)=0:=by
    rcases hL (zof eS) 2 (fun j=>zb5 _ j) with⟨_,h2⟩|⟨i,hi,h2,_,h4⟩
    ·exact absurd ((hl0 _ _ (fun j=>zb5 _ j)).2 e2) (h2 0 (by omega))
    ·by_cases e:i=0
     ·rw[h2,e];rfl
     ·exact absurd ((hl0 _ _ (fun j=>zb5 _ j)).2 e2) (h4 0 (by omega))
   have m1:markF X (runF X 0 (zof eF) 3)=1:=by
    have hn0:¬Lan (T 0) ((List.range 3).map (zof eF)):=fun hh=>by
     have:=(hl0 _ _ (fun j=>zb5 _ j)).1 hh
     rw[e3]at this
     simp at this
    have hy1:Lan (T 1) ((List.range 3).map (zof eF)):=(hl1 _ _ (fun j=>zb5 _ j)).2 (by rw[e3];exact zno)
    rcases hL (zof eF) 3 (fun j=>zb5 _ j) with⟨_,h2⟩|⟨i,hi,h2,h3,h4⟩
    ·exact absurd hy1 (h2 1 (by omega))
    ·have hi2:i=0\/i=1:=by omega
     rcases hi2 with rfl|rfl
     ·exact absurd h3 hn0
     ·rw[h2];rfl
   exact⟨X,C,rfl,hX,hMn,m0,m1,zfJ hMn.r (zof eS) (fun j=>zb5 _ j) 2 0 m0,zfJ hMn.r (zof eF) (fun j=>zb5 _ j) 3 1 m1,hb⟩
theorem zln{D:Dd}{n:Nat}(h:∀y,y<n->zdV D y){w w':World}{e:Ending}(hp:HP9 D n w e w'):∃a c,e=.returned (.slice a 0 c)/\Below w.heap.size w w':=by
 obtain⟨a,m,c,p,rfl,h1,h2,h3⟩:=hp
 have hf:(List.range n).filter p=[]:=by
  rw[List.filter_eq_nil_iff]
  intro y hy hp
  have:=List.mem_range.1 hy
  exact((h1 y this).1 hp) (h y this)
 have hl:=h2.1
 rw[hf]at hl
 have:m=0:=by simpa [zai] using hl.symm
 subst this
 exact⟨a,c,rfl,h3⟩
theorem zfH{D:Dd}{C:Nat}(hR:DR D C)(st:Int):mrk8 D st=markF D st:=by
 unfold mrk8 markF
 rw[hR.m]
theorem zgD(w:World):Calls Tryz.prog 7 #[] w fun e w'=>e=.returned (.bool true)/\Below w.heap.size w w':=by
 have kb:=al w (.cells #[.string eS,.int .i64 0,.string eS,.string eD,.int .i64 0,.string eJ] 33)
 have sb:=St.new w 33 #[.string eS,.int .i64 0,.string eS,.string eD,.int .i64 0,.string eJ]
 have hRu:RuAt (w.alloc (.cells #[.string eS,.int .i64 0,.string eS,.string eD,.int .i64 0,.string eJ] 33)) (some ⟨w.heap.size,0,none⟩) eR:=fun _=>⟨_,0,rfl,by simp,fun j hj=>by rw[Nat.zero_add,sb.at_,show rus eR=[.string eS,.int .i64 0,.string eS,.string eD,.int .i64 0,.string eJ] from rfl,List.getElem?_toArray]⟩
 have HM:Hid (Calls Tryz.prog 13 #[.slice (some ⟨w.heap.size,0,none⟩) 2 2] (w.alloc (.cells #[.string eS,.int .i64 0,.string eS,.string eD,.int .i64 0,.string eJ] 33)) fun e w'=>∃(X:Dd) (C:Nat),e=.returned (.tuple #[.agg X.cD,.int .i64 0])/\DM w' X/\(Mn X C/\markF X (runF X 0 (zof eS) 2)=0/\markF X (runF X 0 (zof eF) 3)=1/\zdV X 0/\zdV X 1)/\Below w.heap.size w w'):=by
  refine(zgN 2 2 _ eR rfl (by omega) (by omega) (fun j hj=>?_) _ hRu).mono fun e w' h=>?_
  ·have hj2:j=0\/j=1:=by have:j<2:=hj;omega
   rcases hj2 with rfl|rfl
   ·exact⟨by show (2:Nat)<=_;decide,by show (2:Nat)<=40;omega⟩
   ·exact⟨by show (2:Nat)<=_;decide,by show (6:Nat)<=40;omega⟩
  ·obtain⟨X,C,h1,h2,h3,h4,h5,h6,h7,h8⟩:=znq h
   exact⟨X,C,h1,h2,⟨h3,h4,h5,h6,h7⟩,kb.trans (h8.mono kb.size)⟩
 clear kb sb hRu
 go_enter Tryz.func7,Tryz.ntmps7
 go_upto_region 1 with fail
 go_wp2_with (first
  | (go_at_call 13;refine HM.out.mono ?_))
 rintro e w1 ⟨X,C',rfl,hdX,hx,b1⟩
 have HX:=hid hx
 have HdX:=hid hdX
 have HSt:=hid (St.new w1 39 (zC 39))
 have H5:Hid (DBx ((w1.alloc (.cells (zC 39) 39)).setRow w1.heap.size X.cD) w1.heap.size X/\Below w.heap.size w ((w1.alloc (.cells (zC 39) 39)).setRow w1.heap.size X.cD)):=
  ⟨DBx.stored hx.1.r (hdX.below (al _ _)) (St.new _ _ _),b1.trans ((zaj (al _ _) (Nat.le_refl _) _).mono b1.size)⟩
 clear hdX hx b1 HM
 go_upto_region 2 with (first
  | (refine zap rfl 39 rfl (zC 39) (zat _) ?_)
  | (refine zaf rfl 39 _ _ rfl w1.heap.size 39 (zC 39) X.cD rfl rfl HSt.out (by rw[zak,HdX.out.sz]) (by rw[zah,HdX.out.sz]) HdX.out.one ?_))
 try simp only[Act.put,sA,sB,sC]
 obtain⟨b5,hb5⟩:∃b5,w1.heap.size=b5:=⟨_,rfl⟩
 rw[hb5]at H5
 try rw[hb5]
 generalize (w1.alloc (.cells (zC 39) 39)).setRow b5 X.cD=V at H5⊢
 clear hb5 HSt
 have HSo:Hid (∀W',Below V.heap.size V W'->Below V.heap.size V W'/\DBx W' b5 X):=fun W' h=>⟨h,H5.out.1.keep h⟩
 have HFw:Hid (∀W',Below V.heap.size V W'->Below w.heap.size w W'):=fun W' h=>H5.out.2.trans (h.mono H5.out.2.size)
 have Hm0:Hid (mrk8 X (runF X 0 (zof eS) 2)=0):=(zfH HX.out.1.r _).trans HX.out.2.1
 have Hm1:Hid (mrk8 X (runF X 0 (zof eF) 3)=1):=(zfH HX.out.1.r _).trans HX.out.2.2.1
 refine wp_region_held_drew (S:=fun W'=>Below V.heap.size V W'/\DBx W' b5 X) (by kernel_rfl) (HSo.out _ (Below.refl _ _).drew) (fun hH=>?_)
 (refine tkA 0 ?_;refine tkA 1 ?_;refine tkA 2 ?_)
 (refine tkA 3 (v:=.agg X.cD) ?_ (hy:=by intro wz hSw;exact zar (o:=_) (ρ:=_) wz 39 (.tmp 1) rfl ⟨b5,0,none⟩ rfl X.cD _ (DBx.st (And.right hSw)).part Tryz.underlying39 rfl (DBx.dm (And.right hSw)).info))
 (refine tkA 4 (v:=.agg X.cD) ?_ (hy:=by intro wz hSw;exact zar (o:=_) (ρ:=_) wz 39 (.tmp 1) rfl ⟨b5,0,none⟩ rfl X.cD _ (DBx.st (And.right hSw)).part Tryz.underlying39 rfl (DBx.dm (And.right hSw)).info);try simp only[Act.put,sA,sB,sC])
 refine rd1 5 (fun K hK=>?_)
 ·skip
  go_simp
  go_at_call 16
  refine(zfE X C' HX.out.1.r 0 eS 2 rfl (by omega) _ hH.2.dm).mono ?_
  rintro e w5 ⟨rfl,vv⟩
  have hbn:Below V.heap.size V w5:=hH.1.trans (vv.mono hH.1.size)
  clear vv
  try go_wp2_with fail
  refine hK.out _ _ (HSo.out _ hbn) (fun hH=>?_)
  clear hK K
  try simp only[Act.put,sA,sB,sC]
  clear hbn
  refine rd1 6 (fun K hK=>?_)
  ·skip
   go_simp
   go_at_call 15
   refine(zcS X _ _ hH.2.dm (by have:=HX.out.1.r.m;have:=HX.out.1.r.n2;omega)).mono ?_
   rintro e w6 ⟨rfl,vv⟩
   rw[Hm0.out]
   have hbn:Below V.heap.size V w6:=hH.1.trans (vv.mono hH.1.size)
   clear vv
   try go_wp2_with fail
   refine hK.out _ _ (HSo.out _ hbn) (fun hH=>?_)
   clear hK K
   try simp only[Act.put,sA,sB,sC]
   clear hbn
   (refine tkA 7 ?_;refine tkA 8 ?_;refine tkA 9 ?_)
   (refine tkA 10 (v:=.agg X.cD) ?_ (hy:=by intro wz hSw;exact zar (o:=_) (ρ:=_) wz 39 (.tmp 1) rfl ⟨b5,0,none⟩ rfl X.cD _ (DBx.st (And.right hSw)).part Tryz.underlying39 rfl (DBx.dm (And.right hSw)).info))
   (refine tkA 11 (v:=.agg X.cD) ?_ (hy:=by intro wz hSw;exact zar (o:=_) (ρ:=_) wz 39 (.tmp 1) rfl ⟨b5,0,none⟩ rfl X.cD _ (DBx.st (And.right hSw)).part Tryz.underlying39 rfl (DBx.dm (And.right hSw)).info);try simp only[Act.put,sA,sB,sC])
   refine rd1 12 (fun K hK=>?_)
   ·skip
    go_simp
    go_at_call 16
    refine(zfE X C' HX.out.1.r 0 eF 3 rfl (by omega) _ hH.2.dm).mono ?_
    rintro e w7 ⟨rfl,vv⟩
    have hbn:Below V.heap.size V w7:=hH.1.trans (vv.mono hH.1.size)
    clear vv
    try go_wp2_with fail
    refine hK.out _ _ (HSo.out _ hbn) (fun hH=>?_)
    clear hK K
    try simp only[Act.put,sA,sB,sC]
    clear hbn
    refine rd1 13 (fun K hK=>?_)
    ·skip
     go_simp
     go_at_call 15
     refine(zcS X _ _ hH.2.dm (by have:=HX.out.1.r.m;have:=HX.out.1.r.n2;omega)).mono ?_
     rintro e w8 ⟨rfl,vv⟩
     rw[Hm1.out]
     have hbn:Below V.heap.size V w8:=hH.1.trans (vv.mono hH.1.size)
     clear vv
     try go_wp2_with fail
     refine hK.out _ _ (HSo.out _ hbn) (fun hH=>?_)
     clear hK K
     try simp only[Act.put,sA,sB,sC]
     clear hbn
     (refine tkA 14 ?_;refine tkA 15 ?_;refine tkA 16 ?_)
     (refine tkA 17 (v:=.agg X.cD) ?_ (hy:=by intro wz hSw;exact zar (o:=_) (ρ:=_) wz 39 (.tmp 1) rfl ⟨b5,0,none⟩ rfl X.cD _ (DBx.st (And.right hSw)).part Tryz.underlying39 rfl (DBx.dm (And.right hSw)).info);try simp only[Act.put,sA,sB,sC])
     refine rd1 18 (fun K hK=>?_)
     ·skip
      go_simp
      go_at_call 24
      refine(zei X C' HX.out.1.r 2 (by omega) _ hH.2.dm).mono ?_
      intro e w9 hp
      obtain⟨a9,c9,rfl,vv⟩:=zln (fun y hy=>by
       have hy2:y=0\/y=1:=by omega
       rcases hy2 with rfl|rfl
       ·exact HX.out.2.2.2.1
       ·exact HX.out.2.2.2.2) hp
      clear hp
      have hbn:Below V.heap.size V w9:=hH.1.trans (vv.mono hH.1.size)
      clear vv
      try go_wp2_with fail
      refine hK.out _ _ (HSo.out _ hbn) (fun hH=>?_)
      clear hK K
      try simp only[Act.put,sA,sB,sC]
      clear hbn
      (refine tkA 19 ?_;refine tkA 20 ?_;refine tkA 21 ?_;refine tkA 22 ?_;try simp only[Act.put,sA,sB,sC])
      refine wpAnyH_done (by kernel_rfl) ?_ _
      have HF:=hid (HFw.out _ hH.1)
      clear hH
      go_wp2_with fail
      go_ret
      exact⟨rfl,HF.out⟩
theorem zgH(K:Nat->Nat)(a:Option Addr)(n c:Nat)(W:World):(Instr.build 39 #[(0,.agg (clsOf K)),(1,.slice a n c)]).run Tryz.prog W=.ok (.agg (dfC K (.slice a n c) (.slice none 0 0))) W:=by
 have e:Tryz.prog.built 39 [(0,.agg (clsOf K)),(1,.slice a n c)]=Instr.fill (fun i=>#[(0,256),(256,1),(257,1)][i]?) (zC 39) [(0,.agg (clsOf K)),(1,.slice a n c)]:=by kernel_rfl
 have hz:=zak
 have hs:=zbF K
 obtain⟨p1,p2⟩:=zaT (zC 39) (clsOf K) 0 (by rw[hz];omega)
 rw[za5 _ _ 0 0 256 (.agg (clsOf K)) _ (by rfl) hs (by rw[hz];omega)]at e
 obtain⟨d1,d2⟩:=zbs
 have e2:putAt (zC 39) (clsOf K) 0=dfC K (.slice none 0 0) (.slice none 0 0):=zbW _ _ _ _ (by rw[p1,hz]) (fun j hj=>by rw[p2,if_pos ⟨by omega,by omega⟩];exact zbx K j hj) (by rw[p2,if_neg (by omega),d1]) (by rw[p2,if_neg (by omega),d2])
 have e3:(Value.agg (clsOf K)).cells=clsOf K:=rfl
 rw[e3,e2]at e
 have hd:=zay K (.slice none 0 0) (.slice none 0 0)
 obtain⟨q1,q2⟩:=zaT (dfC K (.slice none 0 0) (.slice none 0 0)) #[.slice a n c] 256 (by rw[hd];simp)
 rw[za5 _ _ 1 256 1 (.slice a n c) [] (by rfl) (by rfl) (by rw[hd];omega)]at e
 have e4:putAt (dfC K (.slice none 0 0) (.slice none 0 0)) #[.slice a n c] 256=dfC K (.slice a n c) (.slice none 0 0):=by
  simp only[List.size_toArray,List.length_cons,List.length_nil]at q2
  refine zbW _ _ _ _ (by rw[q1,hd]) (fun j hj=>by rw[q2,if_neg (by omega),zb7 _ _ _ j hj]) (by rw[q2,if_pos (by omega)];rfl) (by rw[q2,if_neg (by omega),zci])
 rw[show (Value.slice a n c).cells=#[.slice a n c] from rfl,e4]at e
 exact run_build W _ _ _ e
def oQ(D:Dd)(m i:Nat):Int:=if D.q i=((m:Nat):Int) then 0 else -1
def oX(D:Dd)(m:Nat)(a:Option Addr)(c:Nat):Dd:=⟨dfC D.K (.slice D.aN D.n D.cN) (.slice a D.n c),D.K,D.aN,D.n,D.cN,D.A,D.Cp,D.len,D.nx,a,D.n,c,oQ D m⟩
theorem znu{w:World}{D:Dd}{m B c:Nat}{a:Option Addr}(hD:DM w D)(h:w.ownsRow B 3 1 (.slice a D.n c) D.n (ints ((List.range D.n).map (oQ D m)))):DM w (oX D m a c):=
 ⟨zay _ _ _,zba _ _ _ _ _ _ _,fun j hj=>zb7 _ _ _ j hj,hD.kl,zbV _ _ _,zci _ _ _,hD.rN,zmw h⟩
theorem zjQ{D:Dd}{C m c:Nat}{a:Option Addr}(h:DR D C):DR (oX D m a c) C:=
 ⟨h.c,h.n1,h.n2,rfl,h.gap,h.len,fun i hi=>by show -1<=oQ D m i/\oQ D m i<32768;unfold oQ;split<;>omega,h.nx⟩
theorem zjR{D:Dd}{C m c:Nat}{a:Option Addr}(h:DR D C):ziq (oX D m a c)↔zdV D m:=by
 rw[zjM (zjQ (m:=m) (a:=a) (c:=c) h)]
 constructor
 ·rintro⟨x,h1,h2,h3⟩
  refine⟨x,h1,h2,?_⟩
  rw[za0 D h1]
  have h4:0<=oQ D m x:=h3
  unfold oQ at h4
  split at h4
  ·assumption
  ·omega
 ·rintro⟨x,h1,h2,h3⟩
  refine⟨x,h1,h2,?_⟩
  rw[za0 D h1]at h3
  show 0<=oQ D m x
  unfold oQ
  rw[if_pos h3]
  omega
theorem zfO(D:Dd)(m i:Nat):ints ((List.range (i+1)).map (oQ D m))=ints ((List.range i).map (oQ D m))++[.int .i64 (oQ D m i)]:=by
 rw[List.range_succ,List.map_append]
 simp[ints]
theorem znv(p:Nat->Bool){n m:Nat}(hm:m<n)(hp:p m=true):((List.range n).filter p)[((List.range m).filter p).length]?=some m:=by
 induction n with
 | zero=>omega
 | succ n ih=>
  rw[List.range_succ,List.filter_append]
  by_cases e:m=n
  ·subst e
   rw[List.getElem?_append_right (Nat.le_refl _)]
   simp[hp]
  ·have h1:=ih (by omega)
   rw[List.getElem?_append_left (List.getElem?_eq_some_iff.1 h1).1]
   exact h1
theorem zjS(p:Nat->Bool)(m:Nat):((List.range (m+1)).filter p).length=((List.range m).filter p).length+if p m=true then 1 else 0:=by
 rw[List.range_succ,List.filter_append,List.length_append]
 by_cases e:p m=true<;>simp[e]
theorem zdF(D:Dd)(x0:Nat)(hx0:x0<256)(hn:D.n<=9223372036854775807)(hm:D.m<=9223372036854775807)(hl:∀i,i<D.n->D.len i<=9223372036854775807)(w:World)(hD:DM w D):
  Calls Tryz.prog 6 #[.agg D.cD,.int .u8 (x0:Int)] w fun e w'=>e=.returned (.bool true)/\Below w.heap.size w w':=by
 have HB:=hid (And.intro (DBx.new hD) (al w (.cells D.cD 39)))
 have HSm:=hid (fun (W:World) (h:DM W D)=>zku D hn hm hl W h)
 obtain⟨iI,hI,hI0,hI1,hI2⟩:=info_parts Tryz.info_int9
 clear hD hn hm hl
 go_enter Tryz.func6,Tryz.ntmps6
 go_upto_region 1 with fail
 generalize w.alloc (.cells D.cD 39)=W0 at HB⊢
 obtain⟨b0,hb0⟩:∃b0,w.heap.size=b0:=⟨_,rfl⟩
 have Hb0:=hid hb0
 rw[hb0]at HB
 rw[hb0]
 clear hb0
 have HAw:=hid (zgD W0)
 go_upto_region 3 with (go_at_call 7;refine HAw.out.mono ?_;rintro e w1 ⟨rfl,b1⟩)
 have H1:=hid (And.intro (HB.out.1.keep b1) (And.intro (HB.out.2.trans (b1.mono (by have:=HB.out.2.size;have:=Hb0.out;omega))) (show b0<=w1.heap.size by have:=HB.out.2.size;have:=Hb0.out;have:=b1.size;omega)))
 clear b1 HAw
 have HSm1:=hid (HSm.out w1 H1.out.1.dm)
 clear HSm
 go_wp2_with (first
  | (refine zad (by rfl) 39 _ rfl ⟨b0,0,none⟩ rfl D.cD _ H1.out.1.st.part Tryz.underlying39 rfl H1.out.1.dm.info ?_)
  | (go_at_call 18;refine HSm1.out.mono ?_))
 rintro e w2 ⟨bo,rfl,hbo,b2⟩
 have H2:=hid (And.intro (H1.out.1.keep b2) (And.intro (H1.out.2.1.trans (b2.mono (by have:=H1.out.2.2;omega))) (show b0<=w2.heap.size by have:=H1.out.2.2;have:=b2.size;omega)))
 have HF2:Hid (Below w.heap.size w w2):=by rw[Hb0.out];exact H2.out.2.1
 clear b2 HSm1
 rcases bo with _|_
 ·clear hbo
  go_wp2_with fail
  go_ret
  exact⟨rfl,HF2.out⟩
 obtain⟨s1,s2,s3⟩:=hbo rfl
 have HS:=hid (And.intro s1 (And.intro s2 s3))
 have HRt:=hid (zdy D w2 H2.out.1.dm s1 s2 s3)
 clear hbo s1 s2 s3 HF2
 go_wp2_with (first
  | (refine zad (by rfl) 39 _ rfl ⟨b0,0,none⟩ rfl D.cD _ H2.out.1.st.part Tryz.underlying39 rfl H2.out.1.dm.info ?_)
  | (go_at_call 14;refine HRt.out.mono ?_))
 rintro e w3 ⟨bo,rfl,hbo,b3⟩
 have H3:=hid (And.intro (H2.out.1.keep b3) (And.intro (H2.out.2.1.trans (b3.mono (by have:=H2.out.2.2;omega))) (show b0<=w3.heap.size by have:=H2.out.2.2;have:=b3.size;omega)))
 have HF3:Hid (Below w.heap.size w w3):=by rw[Hb0.out];exact H3.out.2.1
 clear b3 HRt
 rcases bo with _|_
 ·clear hbo
  go_wp2_with fail
  go_ret
  exact⟨rfl,HF3.out⟩
 obtain⟨C,hR⟩:=hbo.1 rfl
 have HR:=hid hR
 have hn1:=hR.n1
 have hn2:=HS.out.1
 have hmn:=hR.m
 clear hbo hR HF3
 obtain⟨n,hnn⟩:∃n,x0 % 20=n:=⟨_,rfl⟩
 have hn20:n<20:=by omega
 have hrem:Int.tmod (x0:Int) 20=(n:Int):=by rw[Int.tmod_eq_emod_of_nonneg (by omega)];omega
 have hw1:IntKind.u8.wrap (n:Int)=(n:Int):=IntWalk.u8_in _ (by omega)
 have hw2:IntKind.i64.wrap (n:Int)=(n:Int):=IntWalk.i64_in _ (by omega)
 have hw3:IntKind.u8.wrap (Int.tmod (x0:Int) 20)=(n:Int):=by rw[hrem];exact hw1
 have HHd:=hid (zei D C HR.out n (by omega) w3 H3.out.1.dm)
 clear hnn
 go_upto_region 6 with (first
  | (refine zad (by rfl) 39 _ rfl ⟨b0,0,none⟩ rfl D.cD _ H3.out.1.st.part Tryz.underlying39 rfl H3.out.1.dm.info ?_)
  | (go_at_call 24;refine HHd.out.mono ?_))
 rintro e w4 ⟨aH,ml,cH,p,rfl,hp,hO,b4⟩
 have hle:((List.range n).filter p).length=ml:=by
  have:=hO.1
  rw[Nat.mul_one]at this
  rw[<-this]
  simp[zai]
 have hmle:ml<=n:=by
  have:=List.length_filter_le p (List.range n)
  rw[hle,List.length_range]at this
  exact this
 have hz3:w3.heap.size<=w4.heap.size:=b4.size
 have HL:=hid (And.intro hp (And.intro hO hle))
 have HFw:Hid (∀W',Below w4.heap.size w4 W'->Below w.heap.size w W'):=fun W' h=>by
  rw[Hb0.out]
  exact(H3.out.2.1.trans (b4.mono H3.out.2.2)).trans (h.mono (Nat.le_trans H3.out.2.2 hz3))
 have HD4:=hid (H3.out.1.keep b4)
 clear hp hO b4 HHd H3 H2 H1 HB
 go_wp2_with fail
 go_loopw [6,7,8,9,10,11,12] (fun v6 v7 _ _ _ _ _ wr=>∃(m k:Nat),v7=.int .i64 m/\v6=.int .i64 k/\m<=n/\((List.range m).filter p).length=k/\Hid (Below w4.heap.size w4 wr)) (fun _ v _ _ _ _ _ _=>n-(intOf v).toNat)
 case atStart=>exact⟨0,0,rfl,rfl,Nat.zero_le _,rfl,Below.refl _ _⟩
 case round=>
  obtain⟨m,k,rfl,rfl,hmn',hk,HW⟩:=hrel
  by_cases hlt:m<n
  ·have i1:(m:Int)<(n:Int):=by omega
   have HD:=hid (HD4.out.keep HW.out)
   have f1:=HD.out.f1
   go_upto_region 9 with fail
   go_upto_region 10 with (first
    | (refine zad (by rfl) 36 _ rfl ⟨b0,0,none⟩ rfl (clsOf D.K) _ HD.out.clsPart Tryz.underlying36 rfl (zaK D.K) ?_)
    | (refine zaF rfl 39 _ rfl #[(0,.agg (clsOf D.K)),(1,.slice D.aN D.n D.cN)] (by first|rfl|kernel_rfl|(go_simp;done)) (.agg (dfC D.K (.slice D.aN D.n D.cN) (.slice none 0 0))) (zgH _ _ _ _ _) ?_)
    | (refine zap rfl 39 rfl (zC 39) (zat _) ?_)
    | (refine zaf rfl 39 _ _ rfl wr.heap.size 39 (zC 39) (dfC D.K (.slice D.aN D.n D.cN) (.slice none 0 0)) rfl rfl (St.new wr _ _) (by rw[zak,zay]) (by rw[zah,zay]) (zba _ _ _ _ _ _ _) ?_))
   try simp only[Act.put,sA,sB,sC]
   obtain⟨b8,hb8⟩:∃b8,wr.heap.size=b8:=⟨_,rfl⟩
   have H5:Hid (St ((wr.alloc (.cells (zC 39) 39)).setRow b8 (dfC D.K (.slice D.aN D.n D.cN) (.slice none 0 0))) 39 b8 (dfC D.K (.slice D.aN D.n D.cN) (.slice none 0 0))/\Below w4.heap.size w4 ((wr.alloc (.cells (zC 39) 39)).setRow b8 (dfC D.K (.slice D.aN D.n D.cN) (.slice none 0 0)))/\w4.heap.size<=b8):=by
    rw[<-hb8]
    exact⟨(St.new wr _ _).setRow,HW.out.trans ((zaj (al _ _) (Nat.le_refl _) _).mono HW.out.size),HW.out.size⟩
   try rw[hb8]
   generalize (wr.alloc (.cells (zC 39) 39)).setRow b8 (dfC D.K (.slice D.aN D.n D.cN) (.slice none 0 0))=W5 at H5⊢
   clear hb8 f1 HD HW
   go_wp2_with fail
   go_loopw [9,10] (fun v _ wr=>∃(i:Nat) (aM:Option Addr) (cM:Nat),v=.int .i64 i/\i<=D.n/\Hid (St wr 39 b8 (dfC D.K (.slice D.aN D.n D.cN) (.slice aM i cM))/\wr.ownsRow w4.heap.size 3 1 (.slice aM i cM) i (ints ((List.range i).map (oQ D m)))/\Below w4.heap.size w4 wr)) (fun v _ _=>D.n-(intOf v).toNat)
   case atStart=>exact⟨0,none,0,rfl,Nat.zero_le _,H5.out.1,World.ownsRow_nil _ _ _ _,H5.out.2.1⟩
   case round=>
    obtain⟨i,aM,cM,rfl,hi,HI⟩:=hrel
    have HD:=hid (HD4.out.keep HI.out.2.2)
    have f2:=HD.out.f2
    rw[hmn]at f2
    by_cases hli:i<D.n
    ·have i3:(i:Int)<(D.n:Int):=by omega
     obtain⟨gM,oM,eM,_,cM1⟩:=HD.out.dm.rM (by omega)
     have c1:=cM1 i (by omega)
     rw[eM]at f2
     clear cM1 eM
     have hq:oQ D m i=if D.q i=(m:Int) then 0 else -1:=rfl
     obtain⟨qm,hqm⟩:∃qm,oQ D m i=qm:=⟨_,rfl⟩
     have HQm:=hid hqm
     rw[hqm]at hq
     clear hqm
     generalize D.q i=qi at c1 hq
     have hz8:=HI.out.1.lt
     have hz4:=HI.out.2.2.size
     by_cases he:qi=(m:Int)
     ·rw[if_pos he]at hq
      subst he
      subst hq
      go_upto_region 16 with fail
      have hqv:oQ D m i=0:=HQm.out
      have c57:wr.cell? ⟨b8,257,none⟩=some (.slice aM i cM):=by rw[HI.out.1.at_,zci]
      have kk:=al wr (.cells #[.int .i64 0] 3)
      go_wp2_with (at_builtin;refine wpList_append_own_at _ rfl _ _ 30 rfl w4.heap.size 3 iI (.int .i64 0) 1 8 Tryz.underlying30 hI hI0 hI1 hI2 rfl (by decide) _ _ _ rfl (HI.out.2.1.alloc _) ⟨wr.heap.size,0,none⟩ 1 1 [.int .i64 0] rfl rfl (cell_one_new _ _ _) ?d2 ?d3 ?d4 ?d5 ?_)
      case d2=>first|(intro u hu;simp at hu;subst hu;rfl)|rfl
      case d3=>unfold maxLen;omega
      case d4=>omega
      case d5=>first|(simp;omega)|omega
      intro v' w8 h8o h8g _ _
      obtain⟨a8,c8,rfl⟩:=zaa h8o
      have hkp:Kept [3] [] (wr.alloc (.cells #[.int .i64 0] 3)) w8:=(Kept.refl _ _ _).grown_own (HI.out.2.1.alloc _) (by simp) h8g
      have s8:=(HI.out.1.keep kk).kept hkp (by decide) (by simp)
      have z1:=s8.at_ 257
      rw[zci]at z1
      have z2:=s8.thaw_ 257
      have HF:Hid (St (w8.setCell ⟨b8,257,none⟩ (.slice a8 (i+1) c8)) 39 b8 (dfC D.K (.slice D.aN D.n D.cN) (.slice a8 (i+1) c8))/\(w8.setCell ⟨b8,257,none⟩ (.slice a8 (i+1) c8)).ownsRow w4.heap.size 3 1 (.slice a8 (i+1) c8) (i+1) (ints ((List.range (i+1)).map (oQ D m)))/\Below w4.heap.size w4 (w8.setCell ⟨b8,257,none⟩ (.slice a8 (i+1) c8))):=by
       refine⟨by rw[<-zfd D.K (.slice D.aN D.n D.cN) (.slice aM i cM)];exact s8.set 257 _,zau ?_ s8 (by decide) 257 _,(zac (HI.out.2.2.trans (kk.mono HI.out.2.2.size)) (HI.out.2.1.alloc _) (Nat.le_trans HI.out.2.2.size kk.size) h8g).setCell (p:=⟨b8,257,none⟩) H5.out.2.2 _⟩
       rw[zfO,hqv]
       exact h8o
      clear h8o h8g hkp s8 kk c57
      go_wp2_with fail
      go_roundw
      case rel=>exact⟨i+1,a8,c8,by go_num,by omega,HF⟩
      case measure=>simp[intOf];omega
     ·rw[if_neg he]at hq
      have he':(qi == (m:Int))=false:=by simp[he]
      subst hq
      go_upto_region 16 with fail
      have hqv:oQ D m i=(-1):=HQm.out
      have c57:wr.cell? ⟨b8,257,none⟩=some (.slice aM i cM):=by rw[HI.out.1.at_,zci]
      have kk:=al wr (.cells #[.int .i64 (-1)] 3)
      go_wp2_with (at_builtin;refine wpList_append_own_at _ rfl _ _ 30 rfl w4.heap.size 3 iI (.int .i64 0) 1 8 Tryz.underlying30 hI hI0 hI1 hI2 rfl (by decide) _ _ _ rfl (HI.out.2.1.alloc _) ⟨wr.heap.size,0,none⟩ 1 1 [.int .i64 (-1)] rfl rfl (cell_one_new _ _ _) ?d2 ?d3 ?d4 ?d5 ?_)
      case d2=>first|(intro u hu;simp at hu;subst hu;rfl)|rfl
      case d3=>unfold maxLen;omega
      case d4=>omega
      case d5=>first|(simp;omega)|omega
      intro v' w8 h8o h8g _ _
      obtain⟨a8,c8,rfl⟩:=zaa h8o
      have hkp:Kept [3] [] (wr.alloc (.cells #[.int .i64 (-1)] 3)) w8:=(Kept.refl _ _ _).grown_own (HI.out.2.1.alloc _) (by simp) h8g
      have s8:=(HI.out.1.keep kk).kept hkp (by decide) (by simp)
      have z1:=s8.at_ 257
      rw[zci]at z1
      have z2:=s8.thaw_ 257
      have HF:Hid (St (w8.setCell ⟨b8,257,none⟩ (.slice a8 (i+1) c8)) 39 b8 (dfC D.K (.slice D.aN D.n D.cN) (.slice a8 (i+1) c8))/\(w8.setCell ⟨b8,257,none⟩ (.slice a8 (i+1) c8)).ownsRow w4.heap.size 3 1 (.slice a8 (i+1) c8) (i+1) (ints ((List.range (i+1)).map (oQ D m)))/\Below w4.heap.size w4 (w8.setCell ⟨b8,257,none⟩ (.slice a8 (i+1) c8))):=by
       refine⟨by rw[<-zfd D.K (.slice D.aN D.n D.cN) (.slice aM i cM)];exact s8.set 257 _,zau ?_ s8 (by decide) 257 _,(zac (HI.out.2.2.trans (kk.mono HI.out.2.2.size)) (HI.out.2.1.alloc _) (Nat.le_trans HI.out.2.2.size kk.size) h8g).setCell (p:=⟨b8,257,none⟩) H5.out.2.2 _⟩
       rw[zfO,hqv]
       exact h8o
      clear h8o h8g hkp s8 kk c57
      go_wp2_with fail
      go_roundw
      case rel=>exact⟨i+1,a8,c8,by go_num,by omega,HF⟩
      case measure=>simp[intOf];omega
    ·obtain rfl:i=D.n:=by omega
     obtain⟨X,hX⟩:∃X,oX D m aM cM=X:=⟨_,rfl⟩
     have HX:Hid (DBx wr b8 X/\DR X C/\X.n<=20/\(ziq X↔zdV D m)):=by
      rw[<-hX]
      exact⟨⟨HI.out.1,znu HD.out.dm HI.out.2.1⟩,zjQ HR.out,hn2,zjR HR.out⟩
     have HW9:Hid (Below w4.heap.size w4 wr):=HI.out.2.2
     have HSh:=hid (zgG X C HX.out.2.1 HX.out.2.2.1 wr HX.out.1.dm)
     clear hX HI HD
     go_upto_region 17 with fail
     go_upto_region 18 with (first
      | (refine zad (by rfl) 39 _ rfl ⟨b8,0,none⟩ rfl X.cD _ HX.out.1.st.part Tryz.underlying39 rfl HX.out.1.dm.info ?_)
      | (go_at_call 25;refine HSh.out.mono ?_;rintro e w9 ⟨sx,bx,rfl,hbx,b9⟩))
     have HWn:Hid (Below w4.heap.size w4 w9):=HW9.out.trans (b9.mono HW9.out.size)
     have Hbx:Hid (bx=true↔zdV D m):=hbx.trans HX.out.2.2.2
     have hpm:=HL.out.1 m hlt
     have hfs:=zjS p m
     clear hbx b9 HSh HX HW9
     rcases bx with _|_
     ·have hpt:p m=true:=hpm.2 (fun hs=>by have:=Hbx.out.2 hs;cases this)
      have hat:=znv p hlt hpt
      rw[hk]at hat
      have hkl:k<ml:=by
       have:=(List.getElem?_eq_some_iff.1 hat).1
       have:=HL.out.2.2
       omega
      rw[hpt]at hfs
      have hk2:((List.range (m+1)).filter p).length=k+1:=by rw[hfs,hk];rfl
      obtain⟨gH,eH,_,_,hcH⟩:=zae (zab HL.out.2.1 HWn.out) (by omega)
      have c1:=(hcH k (by omega)).1
      rw[show (zai ((List.range n).filter p))[k]?=some (.int .i64 (m:Int)) by simp[zai,hat]]at c1
      subst eH
      have i4:¬(k:Int)≥(ml:Int):=by omega
      have i5:((m:Int) != (m:Int))=false:=by simp
      have i6:(k:Int)<(ml:Int):=by omega
      clear hcH hat hfs hpt hpm
      go_wp2_with fail
      go_roundw
      case rel=>exact⟨m+1,k+1,by go_num,by go_num,by omega,hk2,HWn⟩
      case measure=>simp[intOf];omega
     ·have hpf:p m=false:=by
       cases e:p m
       ·rfl
       ·exact absurd (Hbx.out.1 rfl) (hpm.1 e)
      rw[hpf]at hfs
      have hk2:((List.range (m+1)).filter p).length=k:=by rw[hfs,hk];rfl
      clear hfs hpf hpm
      go_wp2_with fail
      go_roundw
      case rel=>exact⟨m+1,k,by go_num,rfl,by omega,hk2,HWn⟩
      case measure=>simp[intOf];omega
  ·obtain rfl:m=n:=by omega
   have hkm:k=ml:=by have:=HL.out.2.2;omega
   subst hkm
   have HBk:=hid (zio wr)
   have heq:=zd7
   go_upto_region 22 with fail
   go_upto_region 23 with (go_at_call 26;refine HBk.out.mono ?_;rintro e w9 ⟨rfl,b9⟩)
   have k9:=al w9 (.cells #[.int .u64 4294977024,.int .u64 0,.int .u64 0,.int .u64 0] 57)
   have HF:Hid (Below w.heap.size w (w9.alloc (.cells #[.int .u64 4294977024,.int .u64 0,.int .u64 0,.int .u64 0] 57))):=HFw.out _ ((HW.out.trans (b9.mono HW.out.size)).trans (k9.mono (by have:=HW.out.size;have:=b9.size;omega)))
   obtain⟨v0,v1,v2,v3⟩:=(St.new w9 57 #[.int .u64 4294977024,.int .u64 0,.int .u64 0,.int .u64 0]).cells4
   clear k9 b9 HBk
   go_wp2_with fail
   go_ret
   exact⟨rfl,HF.out⟩
end Go.Proofs.YtjehgdjlncofeaaGreat
namespace Go.Proofs.YtjehgdjlncofeaaGreat.rulesHidden
open Go.ChangeShapes Go.WideShapes Go.ChangeAt Go.RowKit Go.Deep
theorem lif(os:Os)(started:os.Started)(H:Type)(enc:TypeId × Value->H):
  ReturnsInHanded {} Tryz.checked os 6 .any (Rows.rulesHiddenSpec.pre6 enc Tryz.prog Tryz.f6 Rows.rulesHiddenRow.domain false) (Rows.rulesHiddenSpec.post enc Tryz.prog Tryz.f6 false true false false):=by
 refine returnsInHanded_of_change (C:=Tryz.checked) own started (by kernel_rfl) Tryz.func6
  (ChangeSpec.witness6 (enc:=enc) (C:=Tryz.checked) false ⟨#[],#[.agg ((List.replicate 256 (Value.int .u8 0))++[Value.slice none 0 0,Value.slice none 0 0]).toArray,.int .u8 0],[]⟩ 8 (by kernel_rfl) (by kernel_rfl) (by kernel_rfl) (by kernel_rfl)) ?_
 intro W base args ds gs before hv0 hW hcnd _
 have hval:∀(j:Nat) t v,Tryz.f6.params[j]?=some t->args[j]?=some v->Value.okWide Tryz.prog W .any base t v:=hv0
 have hW':=hW
 obtain⟨p,q,hA0,hV,rfl,hfz,hnd⟩:=hW
 have hA:DataW.TrodAll enc Tryz.prog W 0 (fun _=>true) true Tryz.f6.params.toList args.toList ds p:=hA0
 rw[Tryz.params6]at hA hval
 obtain⟨v0,vs0,d0,ds0,p0,q0,hargs,rfl,rfl,h0,r0⟩:=trodAll_cons hA
 obtain⟨v1,vs1,d1,ds1,p1,q1,rfl,rfl,rfl,h1,r1⟩:=trodAll_cons r0
 obtain⟨rfl,rfl,rfl⟩:=trodAll_nil r1
 obtain rfl:args=#[v0,v1]:=by cases args;simp_all
 obtain⟨rfl,rfl⟩:=trodVars_none hV
 have k0:=h0
 have lt0:∀x∈p0,x.block<W.heap.size:=by obtain⟨m,hm⟩:=k0;exact DataW.trod_lt m _ _ _ hm
 have k1:=h1
 have lt1:∀x∈p1,x.block<W.heap.size:=by obtain⟨m,hm⟩:=k1;exact DataW.trod_lt m _ _ _ hm
 obtain⟨D,rfl,hD,hn,hm,hl⟩:=zfY (hval 0 39 v0 rfl rfl) (by obtain⟨fuel,hf⟩:=h0;exact⟨fuel,_,hf⟩)
 obtain⟨y1,rfl,rfl,rfl,w1⟩:=open_int Tryz.underlying5 (hval 1 5 v1 rfl rfl) h1
 have hb1:=bounds_u8 w1
 obtain⟨x0,rfl⟩:∃x0:Nat,y1=(x0:Int):=⟨y1.toNat,by omega⟩
 have hx0:x0<256:=by omega
 clear hA0 hv0
 unfold maxLen at hn hm hl
 refine(zdF D x0 hx0 (by omega) (by omega) (fun i hi=>Nat.le_trans (hl i hi) (by omega)) W hD).mono fun e W' ⟨he,bel⟩=>?_
 subst he
 exact⟨_,rfl,_,_,_,[],_,[],hW',trodAll_mk1 (shut_bool Tryz.underlying4 _),(trodAll_cons_mk (Below.trod laidOut (by kernel_rfl) (of_decide_eq_true (by kernel_rfl)) k0 bel lt0) (trodAll_cons_mk (shut_int Tryz.underlying5 w1) trodAll_mk0)),rfl,bel.frame _,fun h=>by cases h⟩
theorem ov:Rows.rulesHiddenRow.holds Tryz.pinned (OpenSpec.ofChange Rows.rulesHiddenSpec):=
 OpenClaim.holds_of_wide 6 Tryz.f6 rfl rfl rfl rfl rfl rfl rfl ⟨rfl,rfl,rfl,rfl,rfl⟩ rfl rfl rfl rfl rfl (by kernel_rfl) Tryz.func6 (by kernel_rfl)
  (of_decide_eq_true (by kernel_rfl)) (by unfold Func.isWrapper;first|(rw[if_pos (by decide +kernel)];kernel_rfl)|(rw[if_neg (by decide +kernel)];exact⟨rfl,rfl⟩))
  (fun os started H enc _=>lif os started H enc)
theorem proved:Rows.RulesHiddenSaid:=ov
end Go.Proofs.YtjehgdjlncofeaaGreat.rulesHidden
