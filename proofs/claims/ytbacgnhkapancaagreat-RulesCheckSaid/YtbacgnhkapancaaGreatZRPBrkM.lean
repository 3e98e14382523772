import Derived.Test.YtbacgnhkapancaaGreatZRPApp
set_option linter.all false
set_option maxHeartbeats 4000000
set_option maxRecDepth 100000
open Go.Lib (hid)
namespace Go.Proofs.YtbacgnhkapancaaGreat
open Go.RowKit Go.Proofs.Tryz
open Or (inl inr)
open ByteArray (toList_eq)
theorem zj9(w:World):
  Calls prog 157 #[.string ⟨#[]⟩] w fun e w'=>e=.returned (.tuple #[.int .u8 0,.int .i64 0,.bool false])/\w=w':=by
 go_enter func157,ntmps157;go_wp2_with fail
 go_ret3
 exact⟨rfl,rfl⟩
theorem zh2(s:ByteArray)(h:0<s.size)(h0:s[0].toNat≠92)(w:World):
  Calls prog 157 #[.string s] w fun e w'=>e=.returned (.tuple #[.int .u8 s[0].toNat,.int .i64 1,.bool true])/\w=w':=by
 have hne:s.toList.isEmpty=false:=by
  rw[toList_eq];have:0<s.data.size:=h;simp;intro e;rw[e] at this;simp at this
 have km:(!s.toList.isEmpty)=true:=by rw[hne];rfl
 have e1:((s[0].toNat:Int) != 92)=true:=by simp;omega
 clear h0;go_enter func157,ntmps157;go_wp2_with fail
 go_ret3
 exact⟨rfl,rfl⟩
def Pr(s:ByteArray)(c:Nat):Bool:=((c == 10 || c == 9) || c == 13) && (decide (1<s.size) && ((s.extract 0 2).toList == (strOf (dV c false)).toList))
def Qu(s:ByteArray)(c:Nat):Bool:=decide (3<s.size) && ((s.extract 0 4).toList == (strOf [92,120,iH (c / 16),iH (c % 16)]).toList)
def DG(s:ByteArray):Nat->Option (Nat × Nat)
 | 0=>none
 | k+1=>match DG s k with
  | some x=>some x
  | none=>if Pr s k then some (k,2) else if Qu s k then some (k,4) else none
theorem znF{a b:ByteArray}(h:aa a=aa b):a=b:=by rw[<-VU a,<-VU b,h]
theorem Jf(a b:ByteArray):(a.toList == b.toList)=decide (aa a=aa b):=by
 rw[toList_eq,toList_eq,Bool.eq_iff_iff,beq_iff_eq,decide_eq_true_iff];constructor
 ·intro e;unfold aa;rw[e]
 intro e;rw[znF e]
theorem G4(s:ByteArray)(b:Nat):aa (s.extract 0 b)=(aa s).take b:=by
 unfold aa;rw[Lib.extract_data,List.map_take];simp
theorem JV(l:List Nat)(hl:∀n∈l,n<256):aa (strOf l)=l:=by
 unfold aa;rw[yD,List.map_map]
 conv=>rhs;rw[<-List.map_id l]
 refine List.map_congr_left fun n hn=>?_
 simp[Nat.mod_eq_of_lt (hl n hn)]
theorem Mw(d:Nat)(h:d<16):iH d<256:=by unfold iH;split <;> omega
theorem WK(c:Nat)(o:Bool)(hc:c<256):∀n∈dV c o,n<256:=by
 unfold dV iH;intro n hn
 repeat' split at hn
 all_goals
  simp at hn
  omega
def pj(l:List Nat)(c:Nat):Prop:=c=10\/c=9\/c=13->l.take 2≠dV c false
def tb(l:List Nat)(c:Nat):Prop:=l.take 4≠[92,120,iH (c / 16),iH (c % 16)]
def mY(l:List Nat)(k:Nat):Prop:=∀c,c<k->pj l c/\tb l c
theorem B2{l:List Nat}{k:Nat}(h:mY l k)(ha:pj l k)(hb:tb l k):Hid (mY l (k+1)):=by
 intro c hc;by_cases e:c=k
 ·subst e;exact⟨ha,hb⟩
 exact h c (by omega)
theorem Yj(k:Nat)(h:k=10\/k=9\/k=13):∃x,dV k false=[92,x]/\x≠92:=by
 rcases h with h|h|h <;> subst h
 ·exact⟨110,rfl,by decide⟩
 ·exact⟨116,rfl,by decide⟩
 exact⟨114,rfl,by decide⟩
theorem zka(l:List Nat)(k:Nat)(T:ByteArray)(hT:T=strOf (dV k false))(hz:¬T.size=2):Hid (pj l k):=by
 intro h;obtain⟨x,hx,_⟩:=Yj k h;rw[hT,yM,hx] at hz;exact absurd rfl hz
theorem zkb(l:List Nat)(k:Nat)(T:ByteArray)(hT:T=strOf (dV k false))(h1:1<T.size)(hn:((T[1].toNat:Int) != 92)=false):Hid (pj l k):=by
 intro h;exfalso;subst hT;rcases h with h|h|h <;> subst h
 ·have e:(strOf (dV 10 false))[1].toNat=110:=rfl;rw[e] at hn;exact absurd hn (by decide)
 ·have e:(strOf (dV 9 false))[1].toNat=116:=rfl;rw[e] at hn;exact absurd hn (by decide)
 have e:(strOf (dV 13 false))[1].toNat=114:=rfl;rw[e] at hn;exact absurd hn (by decide)
theorem zh3(s:ByteArray)(k:Nat)(h1:¬1<s.size):Hid (pj (aa s) k):=by
 intro h e;obtain⟨x,hx,_⟩:=Yj k h;rw[hx] at e;have:=congrArg List.length e;rw[List.length_take,nY] at this;simp at this;omega
theorem zkc(s:ByteArray)(k:Nat)(hk:k<256)(T:ByteArray)(hT:T=strOf (dV k false))(hE:((s.extract 0 2).toList == T.toList)=false):Hid (pj (aa s) k):=by
 intro h e;rw[Jf,G4,hT,JV _ (WK k false hk)] at hE;simp[e] at hE
theorem OT(s:ByteArray)(k:Nat)(h:ByteArray)(hh:h=strOf [92,120,iH (k / 16),iH (k % 16)])(hE:((s.extract 0 4).toList == h.toList)=false):tb (aa s) k:=by
 intro e;by_cases hk:k / 16<16
 ·rw[Jf,G4,hh,JV _ (by
   intro n hn
   have h1:=Mw (k / 16) hk
   have h2:=Mw (k % 16) (by omega)
   simp at hn
   omega)] at hE
  simp[e] at hE
 have hs:∀n∈aa s,n<256:=Bk s;have:=congrArg (fun l=>aa (strOf l)) e;have Em:=hE;rw[Jf,G4,hh,e] at Em;simp only[decide_eq_false_iff_not] at Em;exact Em (by
  rw[JV]
  intro n hn
  exact hs n (List.mem_of_mem_take (e ▸ hn)))
theorem Ny(s:ByteArray)(k:Nat)(h3:¬3<s.size):tb (aa s) k:=by
 intro e;have:=congrArg List.length e;rw[List.length_take,nY] at this;simp at this;omega
theorem zpL(s:ByteArray)(k:Nat)(hk:k<256)(T:ByteArray)(hT:T=strOf (dV k false))(hz:T.size=2)(hE:((s.extract 0 2).toList == T.toList)=true):rd (aa s)=(k,2,true):=by
 rw[Jf,G4,hT,JV _ (WK k false hk),decide_eq_true_iff] at hE;rw[<-List.take_append_drop 2 (aa s),hE,zn0 k hk false (by simp)];rw[hT,yM] at hz;rw[hz]
theorem O4(s:ByteArray)(k:Nat)(hk:k<256)(h:ByteArray)(hh:h=strOf [92,120,iH (k / 16),iH (k % 16)])(_:3<s.size)(hE:((s.extract 0 4).toList == h.toList)=true):rd (aa s)=(k,4,true):=by
 have e1:=Lz (k / 16) (by omega);have e2:=Lz (k % 16) (by omega);have hm:k / 16<16/\k % 16<16:=⟨by omega,by omega⟩
 rw[Jf,G4,hh,JV _ (by
   intro n hn
   have h1:=Mw (k / 16) hm.1
   have h2:=Mw (k % 16) hm.2
   simp at hn
   omega),decide_eq_true_iff] at hE
 rw[<-List.take_append_drop 4 (aa s),hE];simp[rd,uv,pS,e1,e2,hm];omega
def Lg:List Nat->Nat × Nat × Bool
 | []=>im
 | d :: _=>if bW d && !isWord d then (d,2,true) else im
theorem LU(d:Nat)(t:List Nat):Lg (d :: t)=if bW d && !isWord d then (d,2,true) else im:=rfl
theorem zlW(l:List Nat)(h:mY (92 :: l) 256):uv l=Lg l:=by
 match l,h with
 | [],_=>rfl
 | d :: u,h=>
  have a10:d≠110:=fun e=>(h 10 (by decide)).1 (inl rfl) (by rw[e];rfl)
  have a9:d≠116:=fun e=>(h 9 (by decide)).1 (inr (inl rfl)) (by rw[e];rfl)
  have a13:d≠114:=fun e=>(h 13 (by decide)).1 (inr (inr rfl)) (by rw[e];rfl)
  show (if d=110 then _ else if d=116 then _ else if d=114 then _ else if d=120 then pS u else if bW d && !isWord d then (d,2,true) else im)=Lg (d :: u);rw[if_neg a10,if_neg a9,if_neg a13];by_cases hd:d=120
  ·subst hd;have hx:pS u=im:=by
    match u,h with
    | [],_=>rfl
    | [_],_=>rfl
    | x :: y :: v,h=>
     by_cases hh:hv x<16/\hv y<16
     ·exfalso;refine (h (16*hv x+hv y) (by omega)).2 ?_;have e1:(16*hv x+hv y) / 16=hv x:=(by omega);have e2:(16*hv x+hv y) % 16=hv y:=(by omega);rw[e1,e2,Zq x hh.1,Zq y hh.2];rfl
     show (if hv x<16/\hv y<16 then _ else _)=_;rw[if_neg hh]
   rw[if_pos rfl,hx];rfl
  rw[if_neg hd];rfl
theorem znG(s:ByteArray)(h:0<s.size)(h0:s[0].toNat=92)(hm:mY (aa s) 256):rd (aa s)=Lg ((aa s).drop 1):=by
 have e:=Pk s h;rw[h0] at e;rw[UG s h h0];refine zlW _ ?_;rw[<-e];exact hm
theorem zkd(s:ByteArray)(h:0<s.size)(hs:s.size<=maxLen)(h0:s[0].toNat=92)(w:World):
  Calls prog 157 #[.string s] w fun e w'=>e=.returned (lT (rd (aa s)))/\Below w.heap.size w w':=by
 unfold maxLen at hs;have hne:s.toList.isEmpty=false:=yi s h;have km:(!s.toList.isEmpty)=true:=by rw[hne];rfl
 have e1:((s[0].toNat:Int) != 92)=false:=by simp;omega
 have H0:=hid h0;clear h0;go_enter func157,ntmps157;go_wp2_with fail;go_loopw [5] (fun i wr=>∃k:Nat,i=.int .i64 k/\k<=256/\Hid (mY (aa s) k)/\Below w.heap.size w wr) (fun i _=>256-(intOf i).toNat)
 ·exact⟨0,rfl,Nat.zero_le _,fun c hc=>absurd hc (by omega),Below.refl _ _⟩
 obtain⟨k,rfl,hk,HM,bg⟩:=hrel;by_cases an:k<256
 ·have HE:Hid (fE ⟨#[]⟩ k=false):=rfl;have hx:=Z3 k an;unfold BW at hx;have HX:=hid hx;clear hx;go_wp2_with fail;refine (zkL k an ⟨#[]⟩ (by decide) _).mono ?_;rintro e w3 ⟨rfl,b3⟩;rw[HE.out];have dH:=bg.trans (b3.mono bg.size);clear b3 bg;obtain⟨T,hT⟩:∃T,T=strOf (dV k false):=⟨_,rfl⟩
  rw[<-hT];have HT:=hid hT;clear hT;by_cases hz:T.size=2
  ·have cH:((T.size:Int) == 2)=true:=(by simp;omega);have ct:1<T.size:=(by omega);have we:=hid hz;clear hz;rcases hn:((T[1].toNat:Int) != 92) with _|_
   ·have MA:=zkb (aa s) k T HT.out ct hn;go_wp2_with fail;go_quiet (fail);generalize (⟨#[92,120]⟩:ByteArray)++(⟨#[48,49,50,51,52,53,54,55,56,57,97,98,99,100,101,102]⟩:ByteArray).extract (k / 16) (k / 16+1)++(⟨#[48,49,50,51,52,53,54,55,56,57,97,98,99,100,101,102]⟩:ByteArray).extract (k % 16) (k % 16+1)=h at HX⊢;by_cases h3:3<s.size
    ·rcases vp:((s.extract 0 4).toList == h.toList) with _|_
     ·have HN:=B2 HM.out MA.out (OT s k h HX.out vp);have sE:=hid vp;clear HX HM;go_wp2;go_roundw
      ·exact⟨k+1,by go_num,by omega,HN,dH.trans ((uc _ _).mono dH.size)⟩
      simp[intOf];omega
     have HR:Hid (rd (aa s)=(k,4,true)):=O4 s k an h HX.out h3 vp;clear HX HM;go_wp2_with fail
     go_ret3
     exact⟨by rw[HR.out];rfl,dH.trans ((uc _ _).mono dH.size)⟩
    have HN:=B2 HM.out MA.out (Ny s k h3);clear HX HM;go_wp2;go_roundw
    ·exact⟨k+1,by go_num,by omega,HN,dH.trans ((uc _ _).mono dH.size)⟩
    simp[intOf];omega
   by_cases h1:1<s.size
   ·rcases hE:((s.extract 0 2).toList == T.toList) with _|_
    ·have MA:=zkc s k an T HT.out hE;go_wp2_with fail;go_quiet (fail);generalize (⟨#[92,120]⟩:ByteArray)++(⟨#[48,49,50,51,52,53,54,55,56,57,97,98,99,100,101,102]⟩:ByteArray).extract (k / 16) (k / 16+1)++(⟨#[48,49,50,51,52,53,54,55,56,57,97,98,99,100,101,102]⟩:ByteArray).extract (k % 16) (k % 16+1)=h at HX⊢;by_cases h3:3<s.size
     ·rcases vp:((s.extract 0 4).toList == h.toList) with _|_
      ·have HN:=B2 HM.out MA.out (OT s k h HX.out vp);have sE:=hid vp;clear HX HM;go_wp2;go_roundw
       ·exact⟨k+1,by go_num,by omega,HN,dH.trans ((uc _ _).mono dH.size)⟩
       simp[intOf];omega
      have HR:Hid (rd (aa s)=(k,4,true)):=O4 s k an h HX.out h3 vp;clear HX HM;go_wp2_with fail
      go_ret3
      exact⟨by rw[HR.out];rfl,dH.trans ((uc _ _).mono dH.size)⟩
     have HN:=B2 HM.out MA.out (Ny s k h3);clear HX HM;go_wp2;go_roundw
     ·exact⟨k+1,by go_num,by omega,HN,dH.trans ((uc _ _).mono dH.size)⟩
     simp[intOf];omega
    have HR:Hid (rd (aa s)=(k,2,true)):=zpL s k an T HT.out we.out hE;clear HX HM;go_wp2_with fail
    go_ret3
    exact⟨by rw[HR.out];rfl,dH⟩
   have MA:=zh3 s k h1;go_wp2_with fail;go_quiet (fail);generalize (⟨#[92,120]⟩:ByteArray)++(⟨#[48,49,50,51,52,53,54,55,56,57,97,98,99,100,101,102]⟩:ByteArray).extract (k / 16) (k / 16+1)++(⟨#[48,49,50,51,52,53,54,55,56,57,97,98,99,100,101,102]⟩:ByteArray).extract (k % 16) (k % 16+1)=h at HX⊢;by_cases h3:3<s.size
   ·exact absurd h3 (by omega)
   have HN:=B2 HM.out MA.out (Ny s k h3);clear HX HM;go_wp2;go_roundw
   ·exact⟨k+1,by go_num,by omega,HN,dH.trans ((uc _ _).mono dH.size)⟩
   simp[intOf];omega
  have cH:((T.size:Int) == 2)=false:=by simp;omega
  have MA:=zka (aa s) k T HT.out hz;clear hz;go_wp2_with fail;go_quiet (fail);generalize (⟨#[92,120]⟩:ByteArray)++(⟨#[48,49,50,51,52,53,54,55,56,57,97,98,99,100,101,102]⟩:ByteArray).extract (k / 16) (k / 16+1)++(⟨#[48,49,50,51,52,53,54,55,56,57,97,98,99,100,101,102]⟩:ByteArray).extract (k % 16) (k % 16+1)=h at HX⊢;by_cases h3:3<s.size
  ·rcases vp:((s.extract 0 4).toList == h.toList) with _|_
   ·have HN:=B2 HM.out MA.out (OT s k h HX.out vp);have sE:=hid vp;clear HX HM;go_wp2;go_roundw
    ·exact⟨k+1,by go_num,by omega,HN,dH.trans ((uc _ _).mono dH.size)⟩
    simp[intOf];omega
   have HR:Hid (rd (aa s)=(k,4,true)):=O4 s k an h HX.out h3 vp;clear HX HM;go_wp2_with fail
   go_ret3
   exact⟨by rw[HR.out];rfl,dH.trans ((uc _ _).mono dH.size)⟩
  have HN:=B2 HM.out MA.out (Ny s k h3);clear HX HM;go_wp2;go_roundw
  ·exact⟨k+1,by go_num,by omega,HN,dH.trans ((uc _ _).mono dH.size)⟩
  simp[intOf];omega
 obtain rfl:k=256:=by omega
 have HF:=hid (znG s h H0.out HM.out);clear HM;by_cases h1:1<s.size
 ·have HD:=hid (Fl s 1 h1);have hc:=UInt8.toNat_lt s[1];rcases (by omega:s[1].toNat<32\/(32<=s[1].toNat/\s[1].toNat<=126)\/126<s[1].toNat) with h2|⟨h2,h3⟩|h2
  ·have HZ:Hid (lT (rd (aa s))=.tuple #[.int .u8 0,.int .i64 0,.bool false]):=by
    show _=_;rw[HF.out,HD.out,LU,show bW s[1].toNat=false by unfold bW;simp;omega];rfl
   go_wp2_with fail
   go_ret3
   exact⟨by rw[HZ.out];rfl,bg⟩
  ·rcases hw:isWord s[1].toNat with _|_
   ·have HW:=hid hw;have HZ:Hid (lT (rd (aa s))=.tuple #[.int .u8 ((s[1].toNat:Nat):Int),.int .i64 2,.bool true]):=by
     show _=_;rw[HF.out,HD.out,LU,show bW s[1].toNat=true by unfold bW;simp;omega,hw];rfl
    clear hw;go_wp2_with fail;refine (OC s[1].toNat hc _).mono ?_;rintro e w3 ⟨rfl,rfl⟩;rw[HW.out];go_wp2_with fail
    go_ret3
    exact⟨by rw[HZ.out];rfl,bg⟩
   have HW:=hid hw;have HZ:Hid (lT (rd (aa s))=.tuple #[.int .u8 0,.int .i64 0,.bool false]):=by
    show _=_;rw[HF.out,HD.out,LU,hw];simp;rfl
   clear hw;go_wp2_with fail;refine (OC s[1].toNat hc _).mono ?_;rintro e w3 ⟨rfl,rfl⟩;rw[HW.out];go_wp2_with fail
   go_ret3
   exact⟨by rw[HZ.out];rfl,bg⟩
  have HZ:Hid (lT (rd (aa s))=.tuple #[.int .u8 0,.int .i64 0,.bool false]):=by
   show _=_;rw[HF.out,HD.out,LU,show bW s[1].toNat=false by unfold bW;simp;omega];rfl
  go_wp2_with fail
  go_ret3
  exact⟨by rw[HZ.out];rfl,bg⟩
 have HZ:Hid (lT (rd (aa s))=.tuple #[.int .u8 0,.int .i64 0,.bool false]):=by
  show _=_;rw[HF.out,ZH s 1 (by omega)];rfl
 go_wp2_with fail
 go_ret3
 exact⟨by rw[HZ.out];rfl,bg⟩
theorem SE(s:ByteArray)(hs:s.size<=maxLen)(w:World):
  Calls prog 157 #[.string s] w fun e w'=>e=.returned (lT (rd (aa s)))/\Below w.heap.size w w':=by
 rcases Nat.eq_zero_or_pos s.size with hz|hp
 ·have he:s=⟨#[]⟩:=Il (List.eq_nil_of_length_eq_zero (by simpa using hz));subst he;refine (zj9 w).mono ?_;rintro e w' ⟨rfl,rfl⟩;exact⟨rfl,Below.refl _ _⟩
 by_cases h0:s[0].toNat=92
 ·exact zkd s hp hs h0 w
 refine (zh2 s hp h0 w).mono ?_;rintro e w' ⟨rfl,rfl⟩;exact⟨by rw[ZB s hp h0];rfl,Below.refl _ _⟩
theorem zpM(c:Nat):fE dq c=(fE ⟨#[94,45,47,34]⟩ c || c == 93):=by
 unfold dq fE;rw[Bool.eq_iff_iff];simp;omega
theorem zpN(c:Nat):fE dq c=fE ⟨#[93,94,45,47,34]⟩ c:=by
 unfold dq fE;rw[Bool.eq_iff_iff];simp;omega
theorem zqE(t:List Nat)(h:(rd (92 :: t)).2.2=true):2<=(rd (92 :: t)).2.1:=by
 rw[Lh,if_pos rfl] at h⊢;exact ((Sj t).2 h).1
theorem KH(sp:ByteArray)(bt:Nat)(t:List Nat):aI sp (bt :: t)=if (rd (bt :: t)).2.2=true/\(bt=92\/fE sp bt=false) then some ((rd (bt :: t)).1,(bt :: t).drop (rd (bt :: t)).2.1) else none:=by
 unfold aI;by_cases h:bt=92
 ·subst h;by_cases ho:(rd (92 :: t)).2.2=true
  ·have:=zqE t ho;rw[if_pos ⟨ho,fun e=>by omega⟩,if_pos ⟨ho,inl rfl⟩]
  rw[if_neg (fun e=>ho e.1),if_neg (fun e=>ho e.1)]
 have e:rd (bt :: t)=(bt,1,true):=by rw[Lh,if_neg h]
 rw[e];simp only[h,false_or,true_and];cases fE sp bt <;> simp
theorem zke(bt:Nat)(t:List Nat)(h:bt≠93):aI dq (bt :: t)=if (rd (bt :: t)).2.2=true/\fE ⟨#[94,45,47,34]⟩ bt=false then some ((rd (bt :: t)).1,(bt :: t).drop (rd (bt :: t)).2.1) else none:=by
 rw[KH];have e:(bt=92\/fE dq bt=false)↔fE ⟨#[94,45,47,34]⟩ bt=false:=by
  rw[zpM,show (bt == 93)=false by simp[h],Bool.or_false];constructor
  ·rintro (rfl|h)
   ·rfl
   exact h
  exact inr
 simp only[e]
theorem zkf(bt:Nat)(t:List Nat):aI dq (bt :: t)=if (rd (bt :: t)).2.2=true/\fE ⟨#[93,94,45,47,34]⟩ bt=false then some ((rd (bt :: t)).1,(bt :: t).drop (rd (bt :: t)).2.1) else none:=by
 rw[KH];have e:(bt=92\/fE dq bt=false)↔fE ⟨#[93,94,45,47,34]⟩ bt=false:=by
  rw[zpN];constructor
  ·rintro (rfl|h)
   ·rfl
   exact h
  exact inr
 simp only[e]
theorem Tz(sp:ByteArray):aI sp []=none:=by
 unfold aI rd im;simp
theorem OA(p:Nat->Bool)(a b:Nat)(h:a<=b):(fun x=>p x || aq a (b+1-a) x)=ins (fun x=>p x || aq a (b-a) x) b:=by
 rw[show b+1-a=(b-a)+1 by omega,PV,show a+(b-a)=b by omega];funext x;simp[ins,Bool.or_assoc]
end Go.Proofs.YtbacgnhkapancaaGreat
