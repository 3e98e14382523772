import Derived.Test.YtiijebameffenaaGreatZRPApp
set_option linter.all false
set_option maxHeartbeats 4000000
set_option maxRecDepth 100000
open Go.Lib (hid)
namespace Go.Proofs.YtiijebameffenaaGreat
open Go.RowKit Go.Proofs.Tryz
open ByteArray (toList_eq)
open Or (inl inr)
theorem zkp(w:World):
  Calls prog 185 #[.string ⟨#[]⟩] w fun e w'=>e=.returned (.tuple #[.int .u8 0,.int .i64 0,.bool false])/\w=w':=by
 go_in;go_wp2_with fail
 go_ret3
 exact⟨rfl,rfl⟩
theorem zh2(s:ByteArray)(h:0<s.size)(h0:s[0].toNat≠92)(w:World):
  Calls prog 185 #[.string s] w fun e w'=>e=.returned (.tuple #[.int .u8 s[0].toNat,.int .i64 1,.bool true])/\w=w':=by
 have hne:s.toList.isEmpty=false:=by
  rw[toList_eq];have:0<s.data.size:=h;simp;intro e;rw[e] at this;simp at this
 have kO:(!s.toList.isEmpty)=true:=by rw[hne];rfl
 have e1:((s[0].toNat:Int) != 92)=true:=by simp;omega
 clear h0;go_in;go_wp2_with fail
 go_ret3
 exact⟨rfl,rfl⟩
def Pn(s:ByteArray)(c:Nat):Bool:=((c == 10 || c == 9) || c == 13) && (decide (1<s.size) && ((s.extract 0 2).toList == (strOf (eo c false)).toList))
def RH(s:ByteArray)(c:Nat):Bool:=decide (3<s.size) && ((s.extract 0 4).toList == (strOf [92,120,je (c / 16),je (c % 16)]).toList)
def EJ(s:ByteArray):Nat->Option (Nat × Nat)
 | 0=>none
 | k+1=>match EJ s k with
  | some x=>some x
  | none=>if Pn s k then some (k,2) else if RH s k then some (k,4) else none
theorem zor{a b:ByteArray}(h:aa a=aa b):a=b:=by rw[<-MY a,<-MY b,h]
theorem IC(a b:ByteArray):(a.toList == b.toList)=decide (aa a=aa b):=by
 rw[toList_eq,toList_eq,Bool.eq_iff_iff,beq_iff_eq,decide_eq_true_iff];constructor
 ·intro e;unfold aa;rw[e]
 intro e;rw[zor e]
theorem Jx(s:ByteArray)(b:Nat):aa (s.extract 0 b)=(aa s).take b:=by
 unfold aa;rw[Lib.extract_data,List.map_take];simp
theorem Jr(l:List Nat)(hl:∀n∈l,n<256):aa (strOf l)=l:=by
 unfold aa;rw[xW,List.map_map]
 conv=>rhs;rw[<-List.map_id l]
 refine List.map_congr_left fun n hn=>?_
 simp[Nat.mod_eq_of_lt (hl n hn)]
theorem OL(d:Nat)(h:d<16):je d<256:=by unfold je;split <;> omega
theorem zi9(c:Nat)(o:Bool)(hc:c<256):∀n∈eo c o,n<256:=by
 unfold eo je;intro n hn
 repeat' split at hn
 all_goals
  simp at hn
  omega
def p6(l:List Nat)(c:Nat):Prop:=c=10\/c=9\/c=13->l.take 2≠eo c false
def uQ(l:List Nat)(c:Nat):Prop:=l.take 4≠[92,120,je (c / 16),je (c % 16)]
def oU(l:List Nat)(k:Nat):Prop:=∀c,c<k->p6 l c/\uQ l c
theorem E0{l:List Nat}{k:Nat}(h:oU l k)(ha:p6 l k)(hb:uQ l k):Hid (oU l (k+1)):=by
 intro c hc;by_cases e:c=k
 ·subst e;exact⟨ha,hb⟩
 exact h c (by omega)
theorem VF(k:Nat)(h:k=10\/k=9\/k=13):∃x,eo k false=[92,x]/\x≠92:=by
 rcases h with h|h|h <;> subst h
 ·exact⟨110,rfl,by decide⟩
 ·exact⟨116,rfl,by decide⟩
 exact⟨114,rfl,by decide⟩
theorem zkq(l:List Nat)(k:Nat)(T:ByteArray)(hT:T=strOf (eo k false))(hz:¬T.size=2):Hid (p6 l k):=by
 intro h;obtain⟨x,hx,_⟩:=VF k h;rw[hT,yu,hx] at hz;exact absurd rfl hz
theorem zkr(l:List Nat)(k:Nat)(T:ByteArray)(hT:T=strOf (eo k false))(h1:1<T.size)(hn:((T[1].toNat:Int) != 92)=false):Hid (p6 l k):=by
 intro h;exfalso;subst hT;rcases h with h|h|h <;> subst h
 ·have e:(strOf (eo 10 false))[1].toNat=110:=rfl;rw[e] at hn;exact absurd hn (by decide)
 ·have e:(strOf (eo 9 false))[1].toNat=116:=rfl;rw[e] at hn;exact absurd hn (by decide)
 have e:(strOf (eo 13 false))[1].toNat=114:=rfl;rw[e] at hn;exact absurd hn (by decide)
theorem zh3(s:ByteArray)(k:Nat)(h1:¬1<s.size):Hid (p6 (aa s) k):=by
 intro h e;obtain⟨x,hx,_⟩:=VF k h;rw[hx] at e;have:=congrArg List.length e;rw[List.length_take,o0] at this;simp at this;omega
theorem zks(s:ByteArray)(k:Nat)(hk:k<256)(T:ByteArray)(hT:T=strOf (eo k false))(hE:((s.extract 0 2).toList == T.toList)=false):Hid (p6 (aa s) k):=by
 intro h e;rw[IC,Jx,hT,Jr _ (zi9 k false hk)] at hE;simp[e] at hE
theorem Qw(s:ByteArray)(k:Nat)(h:ByteArray)(hh:h=strOf [92,120,je (k / 16),je (k % 16)])(hE:((s.extract 0 4).toList == h.toList)=false):uQ (aa s) k:=by
 intro e;by_cases hk:k / 16<16
 ·rw[IC,Jx,hh,Jr _ (by
   intro n hn
   have h1:=OL (k / 16) hk
   have h2:=OL (k % 16) (by omega)
   simp at hn
   omega)] at hE
  simp[e] at hE
 have hs:∀n∈aa s,n<256:=Al s;have:=congrArg (fun l=>aa (strOf l)) e;have GN:=hE;rw[IC,Jx,hh,e] at GN;simp only[decide_eq_false_iff_not] at GN;exact GN (by
  rw[Jr]
  intro n hn
  exact hs n (List.mem_of_mem_take (e ▸ hn)))
theorem Nl(s:ByteArray)(k:Nat)(h3:¬3<s.size):uQ (aa s) k:=by
 intro e;have:=congrArg List.length e;rw[List.length_take,o0] at this;simp at this;omega
theorem zqF(s:ByteArray)(k:Nat)(hk:k<256)(T:ByteArray)(hT:T=strOf (eo k false))(hz:T.size=2)(hE:((s.extract 0 2).toList == T.toList)=true):rd (aa s)=(k,2,true):=by
 rw[IC,Jx,hT,Jr _ (zi9 k false hk),decide_eq_true_iff] at hE;rw[<-List.take_append_drop 2 (aa s),hE,zoM k hk false (by simp)];rw[hT,yu] at hz;rw[hz]
theorem QF(s:ByteArray)(k:Nat)(hk:k<256)(h:ByteArray)(hh:h=strOf [92,120,je (k / 16),je (k % 16)])(_:3<s.size)(hE:((s.extract 0 4).toList == h.toList)=true):rd (aa s)=(k,4,true):=by
 have e1:=NV (k / 16) (by omega);have e2:=NV (k % 16) (by omega);have hm:k / 16<16/\k % 16<16:=⟨by omega,by omega⟩
 rw[IC,Jx,hh,Jr _ (by
   intro n hn
   have h1:=OL (k / 16) hm.1
   have h2:=OL (k % 16) hm.2
   simp at hn
   omega),decide_eq_true_iff] at hE
 rw[<-List.take_append_drop 4 (aa s),hE];simp[rd,vD,qN,e1,e2,hm];omega
def M5:List Nat->Nat × Nat × Bool
 | []=>iD
 | d :: _=>if cj d && !isWord d then (d,2,true) else iD
theorem NQ(d:Nat)(t:List Nat):M5 (d :: t)=if cj d && !isWord d then (d,2,true) else iD:=rfl
theorem zmp(l:List Nat)(h:oU (92 :: l) 256):vD l=M5 l:=by
 match l,h with
 | [],_=>rfl
 | d :: u,h=>
  have a10:d≠110:=fun e=>(h 10 (by decide)).1 (inl rfl) (by rw[e];rfl)
  have a9:d≠116:=fun e=>(h 9 (by decide)).1 (inr (inl rfl)) (by rw[e];rfl)
  have a13:d≠114:=fun e=>(h 13 (by decide)).1 (inr (inr rfl)) (by rw[e];rfl)
  show (if d=110 then _ else if d=116 then _ else if d=114 then _ else if d=120 then qN u else if cj d && !isWord d then (d,2,true) else iD)=M5 (d :: u);rw[if_neg a10,if_neg a9,if_neg a13];by_cases hd:d=120
  ·subst hd;have hx:qN u=iD:=by
    match u,h with
    | [],_=>rfl
    | [_],_=>rfl
    | x :: y :: v,h=>
     by_cases hh:hv x<16/\hv y<16
     ·exfalso;refine (h (16*hv x+hv y) (by omega)).2 ?_;have e1:(16*hv x+hv y) / 16=hv x:=(by omega);have e2:(16*hv x+hv y) % 16=hv y:=(by omega);rw[e1,e2,Vm x hh.1,Vm y hh.2];rfl
     show (if hv x<16/\hv y<16 then _ else _)=_;rw[if_neg hh]
   rw[if_pos rfl,hx];rfl
  rw[if_neg hd];rfl
theorem zos(s:ByteArray)(h:0<s.size)(h0:s[0].toNat=92)(hm:oU (aa s) 256):rd (aa s)=M5 ((aa s).drop 1):=by
 have e:=PO s h;rw[h0] at e;rw[Yu s h h0];refine zmp _ ?_;rw[<-e];exact hm
theorem zkt(s:ByteArray)(h:0<s.size)(hs:s.size<=maxLen)(h0:s[0].toNat=92)(w:World):
  Calls prog 185 #[.string s] w fun e w'=>e=.returned (mG (rd (aa s)))/\ϐ w w':=by
 unfold maxLen at hs;have hne:s.toList.isEmpty=false:=AL s h;have kO:(!s.toList.isEmpty)=true:=by rw[hne];rfl
 have e1:((s[0].toNat:Int) != 92)=false:=by simp;omega
 have H0:=hid h0;clear h0;go_in;go_wp2;go_loopw [5] (fun i wr=>∃k:Nat,i=.int .i64 k/\k<=256/\Hid (oU (aa s) k)/\ϐ w wr) (fun i _=>256-(intOf i).toNat)
 ·exact⟨0,rfl,Nat.zero_le _,fun c hc=>absurd hc (by omega),Below.refl _ _⟩
 obtain⟨k,rfl,hk,HM,bg⟩:=hrel;by_cases aq:k<256
 ·have HE:Hid (fZ ⟨#[]⟩ k=false):=rfl;have hx:=zio k aq;unfold EU at hx;have HX:=hid hx;clear hx;go_wp2_with fail;refine (zk4 k aq ⟨#[]⟩ (by decide) _).mono ?_;rintro e w3 ⟨rfl,b3⟩;rw[HE.o];have dY:=bg.trans (b3.mono bg.size);clear b3 bg;obtain⟨T,hT⟩:∃T,T=strOf (eo k false):=⟨_,rfl⟩
  rw[<-hT];have HT:=hid hT;clear hT;by_cases hz:T.size=2
  ·have dc:((T.size:Int) == 2)=true:=(by simp;omega);have db:1<T.size:=(by omega);have zD:=hid hz;clear hz;rcases hn:((T[1].toNat:Int) != 92) with _|_
   ·have MA:=zkr (aa s) k T HT.o db hn;go_wp2_with fail;go_quiet (fail);generalize (⟨#[92,120]⟩:ByteArray)++(⟨#[48,49,50,51,52,53,54,55,56,57,97,98,99,100,101,102]⟩:ByteArray).extract (k / 16) (k / 16+1)++(⟨#[48,49,50,51,52,53,54,55,56,57,97,98,99,100,101,102]⟩:ByteArray).extract (k % 16) (k % 16+1)=h at HX⊢;by_cases h3:3<s.size
    ·rcases yg:((s.extract 0 4).toList == h.toList) with _|_
     ·have HN:=E0 HM.o MA.o (Qw s k h HX.o yg);have um:=hid yg;clear HX HM;go_wp2;go_roundw
      ·exact⟨k+1,by go_num,by omega,HN,dY.trans ((wR _ _).mono dY.size)⟩
      simp[intOf];omega
     have HR:Hid (rd (aa s)=(k,4,true)):=QF s k aq h HX.o h3 yg;clear HX HM;go_wp2_with fail
     go_ret3
     exact⟨by rw[HR.o];rfl,dY.trans ((wR _ _).mono dY.size)⟩
    have HN:=E0 HM.o MA.o (Nl s k h3);clear HX HM;go_wp2;go_roundw
    ·exact⟨k+1,by go_num,by omega,HN,dY.trans ((wR _ _).mono dY.size)⟩
    simp[intOf];omega
   by_cases h1:1<s.size
   ·rcases hE:((s.extract 0 2).toList == T.toList) with _|_
    ·have MA:=zks s k aq T HT.o hE;go_wp2_with fail;go_quiet (fail);generalize (⟨#[92,120]⟩:ByteArray)++(⟨#[48,49,50,51,52,53,54,55,56,57,97,98,99,100,101,102]⟩:ByteArray).extract (k / 16) (k / 16+1)++(⟨#[48,49,50,51,52,53,54,55,56,57,97,98,99,100,101,102]⟩:ByteArray).extract (k % 16) (k % 16+1)=h at HX⊢;by_cases h3:3<s.size
     ·rcases yg:((s.extract 0 4).toList == h.toList) with _|_
      ·have HN:=E0 HM.o MA.o (Qw s k h HX.o yg);have um:=hid yg;clear HX HM;go_wp2;go_roundw
       ·exact⟨k+1,by go_num,by omega,HN,dY.trans ((wR _ _).mono dY.size)⟩
       simp[intOf];omega
      have HR:Hid (rd (aa s)=(k,4,true)):=QF s k aq h HX.o h3 yg;clear HX HM;go_wp2_with fail
      go_ret3
      exact⟨by rw[HR.o];rfl,dY.trans ((wR _ _).mono dY.size)⟩
     have HN:=E0 HM.o MA.o (Nl s k h3);clear HX HM;go_wp2;go_roundw
     ·exact⟨k+1,by go_num,by omega,HN,dY.trans ((wR _ _).mono dY.size)⟩
     simp[intOf];omega
    have HR:Hid (rd (aa s)=(k,2,true)):=zqF s k aq T HT.o zD.o hE;clear HX HM;go_wp2_with fail
    go_ret3
    exact⟨by rw[HR.o];rfl,dY⟩
   have MA:=zh3 s k h1;go_wp2_with fail;go_quiet (fail);generalize (⟨#[92,120]⟩:ByteArray)++(⟨#[48,49,50,51,52,53,54,55,56,57,97,98,99,100,101,102]⟩:ByteArray).extract (k / 16) (k / 16+1)++(⟨#[48,49,50,51,52,53,54,55,56,57,97,98,99,100,101,102]⟩:ByteArray).extract (k % 16) (k % 16+1)=h at HX⊢;by_cases h3:3<s.size
   ·exact absurd h3 (by omega)
   have HN:=E0 HM.o MA.o (Nl s k h3);clear HX HM;go_wp2;go_roundw
   ·exact⟨k+1,by go_num,by omega,HN,dY.trans ((wR _ _).mono dY.size)⟩
   simp[intOf];omega
  have dc:((T.size:Int) == 2)=false:=by simp;omega
  have MA:=zkq (aa s) k T HT.o hz;clear hz;go_wp2_with fail;go_quiet (fail);generalize (⟨#[92,120]⟩:ByteArray)++(⟨#[48,49,50,51,52,53,54,55,56,57,97,98,99,100,101,102]⟩:ByteArray).extract (k / 16) (k / 16+1)++(⟨#[48,49,50,51,52,53,54,55,56,57,97,98,99,100,101,102]⟩:ByteArray).extract (k % 16) (k % 16+1)=h at HX⊢;by_cases h3:3<s.size
  ·rcases yg:((s.extract 0 4).toList == h.toList) with _|_
   ·have HN:=E0 HM.o MA.o (Qw s k h HX.o yg);have um:=hid yg;clear HX HM;go_wp2;go_roundw
    ·exact⟨k+1,by go_num,by omega,HN,dY.trans ((wR _ _).mono dY.size)⟩
    simp[intOf];omega
   have HR:Hid (rd (aa s)=(k,4,true)):=QF s k aq h HX.o h3 yg;clear HX HM;go_wp2_with fail
   go_ret3
   exact⟨by rw[HR.o];rfl,dY.trans ((wR _ _).mono dY.size)⟩
  have HN:=E0 HM.o MA.o (Nl s k h3);clear HX HM;go_wp2;go_roundw
  ·exact⟨k+1,by go_num,by omega,HN,dY.trans ((wR _ _).mono dY.size)⟩
  simp[intOf];omega
 obtain rfl:k=256:=by omega
 have HF:=hid (zos s h H0.o HM.o);clear HM;by_cases h1:1<s.size
 ·have HD:=hid (Im s 1 h1);have hc:=UInt8.toNat_lt s[1];rcases (by omega:s[1].toNat<32\/(32<=s[1].toNat/\s[1].toNat<=126)\/126<s[1].toNat) with h2|⟨h2,h3⟩|h2
  ·have HZ:Hid (mG (rd (aa s))=.tuple #[.int .u8 0,.int .i64 0,.bool false]):=by
    show _=_;rw[HF.o,HD.o,NQ,show cj s[1].toNat=false by unfold cj;simp;omega];rfl
   go_wp2_with fail
   go_ret3
   exact⟨by rw[HZ.o];rfl,bg⟩
  ·rcases hw:isWord s[1].toNat with _|_
   ·have HW:=hid hw;have HZ:Hid (mG (rd (aa s))=.tuple #[.int .u8 ((s[1].toNat:Nat):Int),.int .i64 2,.bool true]):=by
     show _=_;rw[HF.o,HD.o,NQ,show cj s[1].toNat=true by unfold cj;simp;omega,hw];rfl
    clear hw;go_wp2_with fail;refine (QI s[1].toNat hc _).mono ?_;rintro e w3 ⟨rfl,rfl⟩;rw[HW.o];go_wp2_with fail
    go_ret3
    exact⟨by rw[HZ.o];rfl,bg⟩
   have HW:=hid hw;have HZ:Hid (mG (rd (aa s))=.tuple #[.int .u8 0,.int .i64 0,.bool false]):=by
    show _=_;rw[HF.o,HD.o,NQ,hw];simp;rfl
   clear hw;go_wp2_with fail;refine (QI s[1].toNat hc _).mono ?_;rintro e w3 ⟨rfl,rfl⟩;rw[HW.o];go_wp2_with fail
   go_ret3
   exact⟨by rw[HZ.o];rfl,bg⟩
  have HZ:Hid (mG (rd (aa s))=.tuple #[.int .u8 0,.int .i64 0,.bool false]):=by
   show _=_;rw[HF.o,HD.o,NQ,show cj s[1].toNat=false by unfold cj;simp;omega];rfl
  go_wp2_with fail
  go_ret3
  exact⟨by rw[HZ.o];rfl,bg⟩
 have HZ:Hid (mG (rd (aa s))=.tuple #[.int .u8 0,.int .i64 0,.bool false]):=by
  show _=_;rw[HF.o,zjg s 1 (by omega)];rfl
 go_wp2_with fail
 go_ret3
 exact⟨by rw[HZ.o];rfl,bg⟩
theorem RQ(s:ByteArray)(hs:s.size<=maxLen)(w:World):
  Calls prog 185 #[.string s] w fun e w'=>e=.returned (mG (rd (aa s)))/\ϐ w w':=by
 rcases Nat.eq_zero_or_pos s.size with hz|hp
 ·have he:s=⟨#[]⟩:=D6 (List.eq_nil_of_length_eq_zero (by simpa using hz));subst he;refine (zkp w).mono ?_;rintro e w' ⟨rfl,rfl⟩;exact⟨rfl,Below.refl _ _⟩
 by_cases h0:s[0].toNat=92
 ·exact zkt s hp hs h0 w
 refine (zh2 s hp h0 w).mono ?_;rintro e w' ⟨rfl,rfl⟩;exact⟨by rw[zi0 s hp h0];rfl,Below.refl _ _⟩
theorem zqG(c:Nat):fZ du c=(fZ ⟨#[94,45,47,34]⟩ c || c == 93):=by
 unfold du fZ;rw[Bool.eq_iff_iff];simp;omega
theorem zqH(c:Nat):fZ du c=fZ ⟨#[93,94,45,47,34]⟩ c:=by
 unfold du fZ;rw[Bool.eq_iff_iff];simp;omega
theorem zrJ(t:List Nat)(h:(rd (92 :: t)).2.2=true):2<=(rd (92 :: t)).2.1:=by
 rw[Ob,if_pos rfl] at h⊢;exact ((SC t).2 h).1
theorem NS(sp:ByteArray)(bt:Nat)(t:List Nat):aI sp (bt :: t)=if (rd (bt :: t)).2.2=true/\(bt=92\/fZ sp bt=false) then some ((rd (bt :: t)).1,(bt :: t).drop (rd (bt :: t)).2.1) else none:=by
 unfold aI;by_cases h:bt=92
 ·subst h;by_cases ho:(rd (92 :: t)).2.2=true
  ·have:=zrJ t ho;rw[if_pos ⟨ho,fun e=>by omega⟩,if_pos ⟨ho,inl rfl⟩]
  rw[if_neg (fun e=>ho e.1),if_neg (fun e=>ho e.1)]
 have e:rd (bt :: t)=(bt,1,true):=by rw[Ob,if_neg h]
 rw[e];simp only[h,false_or,true_and];cases fZ sp bt <;> simp
theorem zku(bt:Nat)(t:List Nat)(h:bt≠93):aI du (bt :: t)=if (rd (bt :: t)).2.2=true/\fZ ⟨#[94,45,47,34]⟩ bt=false then some ((rd (bt :: t)).1,(bt :: t).drop (rd (bt :: t)).2.1) else none:=by
 rw[NS];have e:(bt=92\/fZ du bt=false)↔fZ ⟨#[94,45,47,34]⟩ bt=false:=by
  rw[zqG,show (bt == 93)=false by simp[h],Bool.or_false];constructor
  ·rintro (rfl|h)
   ·rfl
   exact h
  exact inr
 simp only[e]
theorem zkv(bt:Nat)(t:List Nat):aI du (bt :: t)=if (rd (bt :: t)).2.2=true/\fZ ⟨#[93,94,45,47,34]⟩ bt=false then some ((rd (bt :: t)).1,(bt :: t).drop (rd (bt :: t)).2.1) else none:=by
 rw[NS];have e:(bt=92\/fZ du bt=false)↔fZ ⟨#[93,94,45,47,34]⟩ bt=false:=by
  rw[zqH];constructor
  ·rintro (rfl|h)
   ·rfl
   exact h
  exact inr
 simp only[e]
theorem Zo(sp:ByteArray):aI sp []=none:=by
 unfold aI rd iD;simp
theorem SI(p:Nat->Bool)(a b:Nat)(h:a<=b):(fun x=>p x || av a (b+1-a) x)=ins (fun x=>p x || av a (b-a) x) b:=by
 rw[show b+1-a=(b-a)+1 by omega,PK,show a+(b-a)=b by omega];funext x;simp[ins,Bool.or_assoc]
