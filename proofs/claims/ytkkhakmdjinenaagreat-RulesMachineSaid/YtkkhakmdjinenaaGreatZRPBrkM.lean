import Derived.Test.YtkkhakmdjinenaaGreatZRPApp
set_option linter.all false
set_option maxHeartbeats 4000000
set_option maxRecDepth 100000
open Go.Lib (hid)
namespace Go.Proofs.YtkkhakmdjinenaaGreat
open Go.RowKit Go.Proofs.Tryz
open ByteArray (toList_eq)
open Or (inl inr)
theorem zkr(w:World):
  Calls prog 148 #[.string ⟨#[]⟩] w fun e w'=>e=.returned (.tuple #[.int .u8 0,.int .i64 0,.bool false])/\w=w':=by
 go_in;go_wp2_with fail
 go_ret3
 exact⟨rfl,rfl⟩
theorem zih(s:ByteArray)(h:0<s.size)(h0:s[0].toNat≠92)(w:World):
  Calls prog 148 #[.string s] w fun e w'=>e=.returned (.tuple #[.int .u8 s[0].toNat,.int .i64 1,.bool true])/\w=w':=by
 have hne:s.toList.isEmpty=false:=by
  rw[toList_eq];have:0<s.data.size:=h;simp;intro e;rw[e] at this;simp at this
 have kW:(!s.toList.isEmpty)=true:=by rw[hne];rfl
 have e1:((s[0].toNat:Int) != 92)=true:=by simp;omega
 clear h0;go_in;go_wp2_with fail
 go_ret3
 exact⟨rfl,rfl⟩
def SA(s:ByteArray)(c:Nat):Bool:=((c == 10 || c == 9) || c == 13) && (decide (1<s.size) && ((s.extract 0 2).toList == (strOf (dY c false)).toList))
def OU(s:ByteArray)(c:Nat):Bool:=decide (3<s.size) && ((s.extract 0 4).toList == (strOf [92,120,iZ (c / 16),iZ (c % 16)]).toList)
def Ej(s:ByteArray):Nat->Option (Nat × Nat)
 | 0=>none
 | k+1=>match Ej s k with
  | some x=>some x
  | none=>if SA s k then some (k,2) else if OU s k then some (k,4) else none
theorem znV{a b:ByteArray}(h:aa a=aa b):a=b:=by rw[<-Uy a,<-Uy b,h]
theorem JC(a b:ByteArray):(a.toList == b.toList)=decide (aa a=aa b):=by
 rw[toList_eq,toList_eq,Bool.eq_iff_iff,beq_iff_eq,decide_eq_true_iff];constructor
 ·intro e;unfold aa;rw[e]
 intro e;rw[znV e]
theorem Gi(s:ByteArray)(b:Nat):aa (s.extract 0 b)=(aa s).take b:=by
 unfold aa;rw[Lib.extract_data,List.map_take];simp
theorem Kb(l:List Nat)(hl:∀n∈l,n<256):aa (strOf l)=l:=by
 unfold aa;rw[yU,List.map_map]
 conv=>rhs;rw[<-List.map_id l]
 refine List.map_congr_left fun n hn=>?_
 simp[Nat.mod_eq_of_lt (hl n hn)]
theorem Nu(d:Nat)(h:d<16):iZ d<256:=by unfold iZ;split <;> omega
theorem YD(c:Nat)(o:Bool)(hc:c<256):∀n∈dY c o,n<256:=by
 unfold dY iZ;intro n hn
 repeat' split at hn
 all_goals
  simp at hn
  omega
def pK(l:List Nat)(c:Nat):Prop:=c=10\/c=9\/c=13->l.take 2≠dY c false
def tT(l:List Nat)(c:Nat):Prop:=l.take 4≠[92,120,iZ (c / 16),iZ (c % 16)]
def nr(l:List Nat)(k:Nat):Prop:=∀c,c<k->pK l c/\tT l c
theorem CC{l:List Nat}{k:Nat}(h:nr l k)(ha:pK l k)(hb:tT l k):Hid (nr l (k+1)):=by
 intro c hc;by_cases e:c=k
 ·subst e;exact⟨ha,hb⟩
 exact h c (by omega)
theorem zjm(k:Nat)(h:k=10\/k=9\/k=13):∃x,dY k false=[92,x]/\x≠92:=by
 rcases h with h|h|h <;> subst h
 ·exact⟨110,rfl,by decide⟩
 ·exact⟨116,rfl,by decide⟩
 exact⟨114,rfl,by decide⟩
theorem zks(l:List Nat)(k:Nat)(T:ByteArray)(hT:T=strOf (dY k false))(hz:¬T.size=2):Hid (pK l k):=by
 intro h;obtain⟨x,hx,_⟩:=zjm k h;rw[hT,zg,hx] at hz;exact absurd rfl hz
theorem zkt(l:List Nat)(k:Nat)(T:ByteArray)(hT:T=strOf (dY k false))(h1:1<T.size)(hn:((T[1].toNat:Int) != 92)=false):Hid (pK l k):=by
 intro h;exfalso;subst hT;rcases h with h|h|h <;> subst h
 ·have e:(strOf (dY 10 false))[1].toNat=110:=rfl;rw[e] at hn;exact absurd hn (by decide)
 ·have e:(strOf (dY 9 false))[1].toNat=116:=rfl;rw[e] at hn;exact absurd hn (by decide)
 have e:(strOf (dY 13 false))[1].toNat=114:=rfl;rw[e] at hn;exact absurd hn (by decide)
theorem zii(s:ByteArray)(k:Nat)(h1:¬1<s.size):Hid (pK (aa s) k):=by
 intro h e;obtain⟨x,hx,_⟩:=zjm k h;rw[hx] at e;have:=congrArg List.length e;rw[List.length_take,od] at this;simp at this;omega
theorem zku(s:ByteArray)(k:Nat)(hk:k<256)(T:ByteArray)(hT:T=strOf (dY k false))(hE:((s.extract 0 2).toList == T.toList)=false):Hid (pK (aa s) k):=by
 intro h e;rw[JC,Gi,hT,Kb _ (YD k false hk)] at hE;simp[e] at hE
theorem Tk(s:ByteArray)(k:Nat)(h:ByteArray)(hh:h=strOf [92,120,iZ (k / 16),iZ (k % 16)])(hE:((s.extract 0 4).toList == h.toList)=false):tT (aa s) k:=by
 intro e;by_cases hk:k / 16<16
 ·rw[JC,Gi,hh,Kb _ (by
   intro n hn
   have h1:=Nu (k / 16) hk
   have h2:=Nu (k % 16) (by omega)
   simp at hn
   omega)] at hE
  simp[e] at hE
 have hs:∀n∈aa s,n<256:=A7 s;have:=congrArg (fun l=>aa (strOf l)) e;have FQ:=hE;rw[JC,Gi,hh,e] at FQ;simp only[decide_eq_false_iff_not] at FQ;exact FQ (by
  rw[Kb]
  intro n hn
  exact hs n (List.mem_of_mem_take (e ▸ hn)))
theorem Ol(s:ByteArray)(k:Nat)(h3:¬3<s.size):tT (aa s) k:=by
 intro e;have:=congrArg List.length e;rw[List.length_take,od] at this;simp at this;omega
theorem zp6(s:ByteArray)(k:Nat)(hk:k<256)(T:ByteArray)(hT:T=strOf (dY k false))(hz:T.size=2)(hE:((s.extract 0 2).toList == T.toList)=true):rd (aa s)=(k,2,true):=by
 rw[JC,Gi,hT,Kb _ (YD k false hk),decide_eq_true_iff] at hE;rw[<-List.take_append_drop 2 (aa s),hE,zoh k hk false (by simp)];rw[hT,zg] at hz;rw[hz]
theorem Qe(s:ByteArray)(k:Nat)(hk:k<256)(h:ByteArray)(hh:h=strOf [92,120,iZ (k / 16),iZ (k % 16)])(_:3<s.size)(hE:((s.extract 0 4).toList == h.toList)=true):rd (aa s)=(k,4,true):=by
 have e1:=Oq (k / 16) (by omega);have e2:=Oq (k % 16) (by omega);have hm:k / 16<16/\k % 16<16:=⟨by omega,by omega⟩
 rw[JC,Gi,hh,Kb _ (by
   intro n hn
   have h1:=Nu (k / 16) hm.1
   have h2:=Nu (k % 16) hm.2
   simp at hn
   omega),decide_eq_true_iff] at hE
 rw[<-List.take_append_drop 4 (aa s),hE];simp[rd,uS,qe,e1,e2,hm];omega
def M4:List Nat->Nat × Nat × Bool
 | []=>iz
 | d :: _=>if cj d && !isWord d then (d,2,true) else iz
theorem Ot(d:Nat)(t:List Nat):M4 (d :: t)=if cj d && !isWord d then (d,2,true) else iz:=rfl
theorem zma(l:List Nat)(h:nr (92 :: l) 256):uS l=M4 l:=by
 match l,h with
 | [],_=>rfl
 | d :: u,h=>
  have a10:d≠110:=fun e=>(h 10 (by decide)).1 (inl rfl) (by rw[e];rfl)
  have a9:d≠116:=fun e=>(h 9 (by decide)).1 (inr (inl rfl)) (by rw[e];rfl)
  have a13:d≠114:=fun e=>(h 13 (by decide)).1 (inr (inr rfl)) (by rw[e];rfl)
  show (if d=110 then _ else if d=116 then _ else if d=114 then _ else if d=120 then qe u else if cj d && !isWord d then (d,2,true) else iz)=M4 (d :: u);rw[if_neg a10,if_neg a9,if_neg a13];by_cases hd:d=120
  ·subst hd;have hx:qe u=iz:=by
    match u,h with
    | [],_=>rfl
    | [_],_=>rfl
    | x :: y :: v,h=>
     by_cases hh:hv x<16/\hv y<16
     ·exfalso;refine (h (16*hv x+hv y) (by omega)).2 ?_;have e1:(16*hv x+hv y) / 16=hv x:=(by omega);have e2:(16*hv x+hv y) % 16=hv y:=(by omega);rw[e1,e2,X7 x hh.1,X7 y hh.2];rfl
     show (if hv x<16/\hv y<16 then _ else _)=_;rw[if_neg hh]
   rw[if_pos rfl,hx];rfl
  rw[if_neg hd];rfl
theorem znW(s:ByteArray)(h:0<s.size)(h0:s[0].toNat=92)(hm:nr (aa s) 256):rd (aa s)=M4 ((aa s).drop 1):=by
 have e:=OP s h;rw[h0] at e;rw[Yk s h h0];refine zma _ ?_;rw[<-e];exact hm
theorem zkv(s:ByteArray)(h:0<s.size)(hs:s.size<=maxLen)(h0:s[0].toNat=92)(w:World):
  Calls prog 148 #[.string s] w fun e w'=>e=.returned (ml (rd (aa s)))/\Below w.heap.size w w':=by
 unfold maxLen at hs;have hne:s.toList.isEmpty=false:=yS s h;have kW:(!s.toList.isEmpty)=true:=by rw[hne];rfl
 have e1:((s[0].toNat:Int) != 92)=false:=by simp;omega
 have H0:=hid h0;clear h0;go_in;go_wp2;go_loopw [5] (fun i wr=>∃k:Nat,i=.int .i64 k/\k<=256/\Hid (nr (aa s) k)/\Below w.heap.size w wr) (fun i _=>256-(intOf i).toNat)
 ·exact⟨0,rfl,Nat.zero_le _,fun c hc=>absurd hc (by omega),Below.refl _ _⟩
 obtain⟨k,rfl,hk,HM,bp⟩:=hrel;by_cases aq:k<256
 ·have HE:Hid (fV ⟨#[]⟩ k=false):=rfl;have hx:=X0 k aq;unfold C7 at hx;have HX:=hid hx;clear hx;go_wp2_with fail;refine (zk1 k aq ⟨#[]⟩ (by decide) _).mono ?_;rintro e w3 ⟨rfl,b3⟩;rw[HE.out];have dM:=bp.trans (b3.mono bp.size);clear b3 bp;obtain⟨T,hT⟩:∃T,T=strOf (dY k false):=⟨_,rfl⟩
  rw[<-hT];have HT:=hid hT;clear hT;by_cases hz:T.size=2
  ·have cP:((T.size:Int) == 2)=true:=(by simp;omega);have cG:1<T.size:=(by omega);have sR:=hid hz;clear hz;rcases hn:((T[1].toNat:Int) != 92) with _|_
   ·have MA:=zkt (aa s) k T HT.out cG hn;go_wp2_with fail;go_quiet (fail);generalize (⟨#[92,120]⟩:ByteArray)++(⟨#[48,49,50,51,52,53,54,55,56,57,97,98,99,100,101,102]⟩:ByteArray).extract (k / 16) (k / 16+1)++(⟨#[48,49,50,51,52,53,54,55,56,57,97,98,99,100,101,102]⟩:ByteArray).extract (k % 16) (k % 16+1)=h at HX⊢;by_cases h3:3<s.size
    ·rcases wD:((s.extract 0 4).toList == h.toList) with _|_
     ·have HN:=CC HM.out MA.out (Tk s k h HX.out wD);have tx:=hid wD;clear HX HM;go_wp2;go_roundw
      ·exact⟨k+1,by go_num,by omega,HN,dM.trans ((vp _ _).mono dM.size)⟩
      simp[intOf];omega
     have HR:Hid (rd (aa s)=(k,4,true)):=Qe s k aq h HX.out h3 wD;clear HX HM;go_wp2_with fail
     go_ret3
     exact⟨by rw[HR.out];rfl,dM.trans ((vp _ _).mono dM.size)⟩
    have HN:=CC HM.out MA.out (Ol s k h3);clear HX HM;go_wp2;go_roundw
    ·exact⟨k+1,by go_num,by omega,HN,dM.trans ((vp _ _).mono dM.size)⟩
    simp[intOf];omega
   by_cases h1:1<s.size
   ·rcases hE:((s.extract 0 2).toList == T.toList) with _|_
    ·have MA:=zku s k aq T HT.out hE;go_wp2_with fail;go_quiet (fail);generalize (⟨#[92,120]⟩:ByteArray)++(⟨#[48,49,50,51,52,53,54,55,56,57,97,98,99,100,101,102]⟩:ByteArray).extract (k / 16) (k / 16+1)++(⟨#[48,49,50,51,52,53,54,55,56,57,97,98,99,100,101,102]⟩:ByteArray).extract (k % 16) (k % 16+1)=h at HX⊢;by_cases h3:3<s.size
     ·rcases wD:((s.extract 0 4).toList == h.toList) with _|_
      ·have HN:=CC HM.out MA.out (Tk s k h HX.out wD);have tx:=hid wD;clear HX HM;go_wp2;go_roundw
       ·exact⟨k+1,by go_num,by omega,HN,dM.trans ((vp _ _).mono dM.size)⟩
       simp[intOf];omega
      have HR:Hid (rd (aa s)=(k,4,true)):=Qe s k aq h HX.out h3 wD;clear HX HM;go_wp2_with fail
      go_ret3
      exact⟨by rw[HR.out];rfl,dM.trans ((vp _ _).mono dM.size)⟩
     have HN:=CC HM.out MA.out (Ol s k h3);clear HX HM;go_wp2;go_roundw
     ·exact⟨k+1,by go_num,by omega,HN,dM.trans ((vp _ _).mono dM.size)⟩
     simp[intOf];omega
    have HR:Hid (rd (aa s)=(k,2,true)):=zp6 s k aq T HT.out sR.out hE;clear HX HM;go_wp2_with fail
    go_ret3
    exact⟨by rw[HR.out];rfl,dM⟩
   have MA:=zii s k h1;go_wp2_with fail;go_quiet (fail);generalize (⟨#[92,120]⟩:ByteArray)++(⟨#[48,49,50,51,52,53,54,55,56,57,97,98,99,100,101,102]⟩:ByteArray).extract (k / 16) (k / 16+1)++(⟨#[48,49,50,51,52,53,54,55,56,57,97,98,99,100,101,102]⟩:ByteArray).extract (k % 16) (k % 16+1)=h at HX⊢;by_cases h3:3<s.size
   ·exact absurd h3 (by omega)
   have HN:=CC HM.out MA.out (Ol s k h3);clear HX HM;go_wp2;go_roundw
   ·exact⟨k+1,by go_num,by omega,HN,dM.trans ((vp _ _).mono dM.size)⟩
   simp[intOf];omega
  have cP:((T.size:Int) == 2)=false:=by simp;omega
  have MA:=zks (aa s) k T HT.out hz;clear hz;go_wp2_with fail;go_quiet (fail);generalize (⟨#[92,120]⟩:ByteArray)++(⟨#[48,49,50,51,52,53,54,55,56,57,97,98,99,100,101,102]⟩:ByteArray).extract (k / 16) (k / 16+1)++(⟨#[48,49,50,51,52,53,54,55,56,57,97,98,99,100,101,102]⟩:ByteArray).extract (k % 16) (k % 16+1)=h at HX⊢;by_cases h3:3<s.size
  ·rcases wD:((s.extract 0 4).toList == h.toList) with _|_
   ·have HN:=CC HM.out MA.out (Tk s k h HX.out wD);have tx:=hid wD;clear HX HM;go_wp2;go_roundw
    ·exact⟨k+1,by go_num,by omega,HN,dM.trans ((vp _ _).mono dM.size)⟩
    simp[intOf];omega
   have HR:Hid (rd (aa s)=(k,4,true)):=Qe s k aq h HX.out h3 wD;clear HX HM;go_wp2_with fail
   go_ret3
   exact⟨by rw[HR.out];rfl,dM.trans ((vp _ _).mono dM.size)⟩
  have HN:=CC HM.out MA.out (Ol s k h3);clear HX HM;go_wp2;go_roundw
  ·exact⟨k+1,by go_num,by omega,HN,dM.trans ((vp _ _).mono dM.size)⟩
  simp[intOf];omega
 obtain rfl:k=256:=by omega
 have HF:=hid (znW s h H0.out HM.out);clear HM;by_cases h1:1<s.size
 ·have HD:=hid (FU s 1 h1);have hc:=UInt8.toNat_lt s[1];rcases (by omega:s[1].toNat<32\/(32<=s[1].toNat/\s[1].toNat<=126)\/126<s[1].toNat) with h2|⟨h2,h3⟩|h2
  ·have HZ:Hid (ml (rd (aa s))=.tuple #[.int .u8 0,.int .i64 0,.bool false]):=by
    show _=_;rw[HF.out,HD.out,Ot,show cj s[1].toNat=false by unfold cj;simp;omega];rfl
   go_wp2_with fail
   go_ret3
   exact⟨by rw[HZ.out];rfl,bp⟩
  ·rcases hw:isWord s[1].toNat with _|_
   ·have HW:=hid hw;have HZ:Hid (ml (rd (aa s))=.tuple #[.int .u8 ((s[1].toNat:Nat):Int),.int .i64 2,.bool true]):=by
     show _=_;rw[HF.out,HD.out,Ot,show cj s[1].toNat=true by unfold cj;simp;omega,hw];rfl
    clear hw;go_wp2_with fail;refine (PN s[1].toNat hc _).mono ?_;rintro e w3 ⟨rfl,rfl⟩;rw[HW.out];go_wp2_with fail
    go_ret3
    exact⟨by rw[HZ.out];rfl,bp⟩
   have HW:=hid hw;have HZ:Hid (ml (rd (aa s))=.tuple #[.int .u8 0,.int .i64 0,.bool false]):=by
    show _=_;rw[HF.out,HD.out,Ot,hw];simp;rfl
   clear hw;go_wp2_with fail;refine (PN s[1].toNat hc _).mono ?_;rintro e w3 ⟨rfl,rfl⟩;rw[HW.out];go_wp2_with fail
   go_ret3
   exact⟨by rw[HZ.out];rfl,bp⟩
  have HZ:Hid (ml (rd (aa s))=.tuple #[.int .u8 0,.int .i64 0,.bool false]):=by
   show _=_;rw[HF.out,HD.out,Ot,show cj s[1].toNat=false by unfold cj;simp;omega];rfl
  go_wp2_with fail
  go_ret3
  exact⟨by rw[HZ.out];rfl,bp⟩
 have HZ:Hid (ml (rd (aa s))=.tuple #[.int .u8 0,.int .i64 0,.bool false]):=by
  show _=_;rw[HF.out,VA s 1 (by omega)];rfl
 go_wp2_with fail
 go_ret3
 exact⟨by rw[HZ.out];rfl,bp⟩
theorem SL(s:ByteArray)(hs:s.size<=maxLen)(w:World):
  Calls prog 148 #[.string s] w fun e w'=>e=.returned (ml (rd (aa s)))/\Below w.heap.size w w':=by
 rcases Nat.eq_zero_or_pos s.size with hz|hp
 ·have he:s=⟨#[]⟩:=IZ (List.eq_nil_of_length_eq_zero (by simpa using hz));subst he;refine (zkr w).mono ?_;rintro e w' ⟨rfl,rfl⟩;exact⟨rfl,Below.refl _ _⟩
 by_cases h0:s[0].toNat=92
 ·exact zkv s hp hs h0 w
 refine (zih s hp h0 w).mono ?_;rintro e w' ⟨rfl,rfl⟩;exact⟨by rw[VM s hp h0];rfl,Below.refl _ _⟩
theorem zp7(c:Nat):fV du c=(fV ⟨#[94,45,47,34]⟩ c || c == 93):=by
 unfold du fV;rw[Bool.eq_iff_iff];simp;omega
theorem zp8(c:Nat):fV du c=fV ⟨#[93,94,45,47,34]⟩ c:=by
 unfold du fV;rw[Bool.eq_iff_iff];simp;omega
theorem zq0(t:List Nat)(h:(rd (92 :: t)).2.2=true):2<=(rd (92 :: t)).2.1:=by
 rw[L4,if_pos rfl] at h⊢;exact ((TA t).2 h).1
theorem Ma(sp:ByteArray)(bt:Nat)(t:List Nat):aI sp (bt :: t)=if (rd (bt :: t)).2.2=true/\(bt=92\/fV sp bt=false) then some ((rd (bt :: t)).1,(bt :: t).drop (rd (bt :: t)).2.1) else none:=by
 unfold aI;by_cases h:bt=92
 ·subst h;by_cases ho:(rd (92 :: t)).2.2=true
  ·have:=zq0 t ho;rw[if_pos ⟨ho,fun e=>by omega⟩,if_pos ⟨ho,inl rfl⟩]
  rw[if_neg (fun e=>ho e.1),if_neg (fun e=>ho e.1)]
 have e:rd (bt :: t)=(bt,1,true):=by rw[L4,if_neg h]
 rw[e];simp only[h,false_or,true_and];cases fV sp bt <;> simp
theorem zkw(bt:Nat)(t:List Nat)(h:bt≠93):aI du (bt :: t)=if (rd (bt :: t)).2.2=true/\fV ⟨#[94,45,47,34]⟩ bt=false then some ((rd (bt :: t)).1,(bt :: t).drop (rd (bt :: t)).2.1) else none:=by
 rw[Ma];have e:(bt=92\/fV du bt=false)↔fV ⟨#[94,45,47,34]⟩ bt=false:=by
  rw[zp7,show (bt == 93)=false by simp[h],Bool.or_false];constructor
  ·rintro (rfl|h)
   ·rfl
   exact h
  exact inr
 simp only[e]
theorem zkx(bt:Nat)(t:List Nat):aI du (bt :: t)=if (rd (bt :: t)).2.2=true/\fV ⟨#[93,94,45,47,34]⟩ bt=false then some ((rd (bt :: t)).1,(bt :: t).drop (rd (bt :: t)).2.1) else none:=by
 rw[Ma];have e:(bt=92\/fV du bt=false)↔fV ⟨#[93,94,45,47,34]⟩ bt=false:=by
  rw[zp8];constructor
  ·rintro (rfl|h)
   ·rfl
   exact h
  exact inr
 simp only[e]
theorem Xm(sp:ByteArray):aI sp []=none:=by
 unfold aI rd iz;simp
theorem OS(p:Nat->Bool)(a b:Nat)(h:a<=b):(fun x=>p x || ar a (b+1-a) x)=ins (fun x=>p x || ar a (b-a) x) b:=by
 rw[show b+1-a=(b-a)+1 by omega,T7,show a+(b-a)=b by omega];funext x;simp[ins,Bool.or_assoc]
