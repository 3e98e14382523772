import Derived.Test.YtiijebameffenaaGreatZClasses
set_option linter.all false
set_option maxHeartbeats 1000000
set_option maxRecDepth 100000
open Go.Lib (hid)
namespace Go.Proofs.YtiijebameffenaaGreat
open Go.RowKit Go.Proofs.Tryz
def oC(s:ByteArray)(c k:Nat):Bool:=(s.data.toList.take k).any fun x=>x.toNat == c
def fZ(s:ByteArray)(c:Nat):Bool:=s.data.toList.any fun x=>x.toNat == c
theorem zgi(s:ByteArray)(c k:Nat)(h:k<s.size):oC s c (k+1)=(oC s c k || (s[k].toNat == c)):=by
 unfold oC;rw[List.take_succ_eq_append_getElem (by simpa using h),List.any_append];simp;rfl
theorem ZW(s:ByteArray)(c:Nat):oC s c s.size=fZ s c:=by
 unfold oC fZ;rw[List.take_of_length_le (by simp)]
theorem zk2(s:ByteArray)(c k:Nat)(h:k<s.size)(e:s[k].toNat=c):fZ s c=true:=by
 unfold fZ;rw[List.any_eq_true];exact⟨s[k],by simp[ByteArray.getElem_eq_getElem_data],by simp[e]⟩
theorem My(s:ByteArray)(c:Nat)(w:World)(hs:s.size<=maxLen):
  Calls prog 91 #[.string s,.int .u8 c] w fun e w'=>e=.returned (.bool (fZ s c))/\w=w':=by
 unfold maxLen at hs;go_in;go_wp2_with fail
 go_loop [5] (fun i=>∃k:Nat,k<=s.size/\i=.int .i64 k/\Hid (oC s c k=false)) (fun i=>s.size-(intOf i).toNat)
 ·exact⟨0,Nat.zero_le _,rfl,by simp[Hid,oC]⟩
 obtain⟨k,hk,rfl,HF⟩:=hrel;by_cases aq:k<s.size
 ·have hn:=zgi s c k aq;have hy:=zk2 s c k aq;have HN:=hid hn;have HY:=hid hy;clear hn hy;by_cases e:s[k].toNat=c
  ·have e1:((s[k].toNat:Int) == (c:Int))=true:=(by simp[e]);have HE:=hid e;clear e;go_wp2;go_ret;exact⟨by rw[HY.o HE.o];rfl,rfl⟩
  have e1:((s[k].toNat:Int) == (c:Int))=false:=by simp;omega
  have HE:=hid e;clear e;go_wp2_with fail;go_round
  ·exact⟨k+1,by omega,by go_num,by show oC s c (k+1)=false;rw[HN.o,HF.o];simp[HE.o]⟩
  simp[intOf];omega
 obtain rfl:k=s.size:=by omega
 have HR:=hid (ZW s c);go_wp2;go_ret;exact⟨by rw[<-HR.o,HF.o];rfl,rfl⟩
def gV(c:Nat):Bool:=decide (48<=c) && decide (c<=57)
def isWord(c:Nat):Bool:=gV c || (decide (97<=c) && decide (c<=122)) || (decide (65<=c) && decide (c<=90))
def sJ(c:Nat):Bool:=c == 32 || c == 9 || c == 10 || c == 13
def bU(c:Nat):Nat:=if sJ c then 1 else if gV c then 2 else if isWord c || c == 95 then 3 else if 32<c/\c<127 then 4 else 0
theorem znj:∀c,c<256->fZ ⟨#[48,49,50,51,52,53,54,55,56,57,97,98,99,100,101,102,103,104,105,106,107,108,109,110,111,112,113,114,115,116,117,118,119,120,121,122,65,66,67,68,69,70,71,72,73,74,75,76,77,78,79,80,81,82,83,84,85,86,87,88,89,90]⟩ c=isWord c:=by decide +kernel
theorem zpH:∀c,c<256->fZ ⟨#[48,49,50,51,52,53,54,55,56,57]⟩ c=gV c:=by decide +kernel
theorem zpI:∀c,c<256->fZ ⟨#[32,9,10,13]⟩ c=sJ c:=by decide +kernel
theorem QI(c:Nat)(hc:c<256)(w:World):
  Calls prog 92 #[.int .u8 c] w fun e w'=>e=.returned (.bool (isWord c))/\w=w':=by
 have hl:=hid (znj c hc);go_in;go_wp2_with fail;refine (My _ c _ (by decide)).mono ?_;rintro e w1 ⟨rfl,rfl⟩;rw[hl.o];go_wp2;go_ret;exact⟨rfl,rfl⟩
theorem zjz(c:Nat)(hc:c<256)(w:World):
  Calls prog 79 #[.int .u8 c] w fun e w'=>e=.returned (.int .i64 (bU c))/\w=w':=by
 have h1:=hid (zpI c hc);have h2:=hid (zpH c hc);have HT:Hid (bU c=if sJ c then 1 else if gV c then 2 else if isWord c || c == 95 then 3 else if 32<c/\c<127 then 4 else 0):=rfl;go_in;go_wp2_with fail;refine (My _ c _ (by decide)).mono ?_;rintro e w1 ⟨rfl,rfl⟩;rw[h1.o];rcases hs:sJ c with _|_
 ·have HS:=hid hs;clear hs;go_wp2_with fail;refine (My _ c _ (by decide)).mono ?_;rintro e w1 ⟨rfl,rfl⟩;rw[h2.o];rcases hd:gV c with _|_
  ·have HD:=hid hd;clear hd;go_wp2_with fail;refine (QI c hc _).mono ?_;rintro e w1 ⟨rfl,rfl⟩;rcases hw:isWord c with _|_
   ·have HW:=hid hw;clear hw;rcases (by omega:c=95\/(c≠95/\c<=32)\/(c≠95/\32<c/\c<127)\/(c≠95/\127<=c)) with h|⟨h,h'⟩|⟨h,h',ON⟩|⟨h,h'⟩
    ·subst h;go_wp2;go_ret;exact⟨by rw[HT.o,HS.o,HD.o,HW.o];rfl,rfl⟩
    ·have e1:((c:Int) == 95)=false:=(by simp;omega);have HC:Hid (bU c=0):=by
      show _=_;rw[HT.o,HS.o,HD.o,HW.o,show (c == 95)=false by simp;omega];simp only[Bool.false_or,Bool.false_eq_true,if_false];rw[if_neg (by omega)]
     clear h;go_wp2;go_ret;exact⟨by rw[HC.o];rfl,rfl⟩
    ·have e1:((c:Int) == 95)=false:=(by simp;omega);have HC:Hid (bU c=4):=by
      show _=_;rw[HT.o,HS.o,HD.o,HW.o,show (c == 95)=false by simp;omega];simp only[Bool.false_or,Bool.false_eq_true,if_false];rw[if_pos ⟨h',ON⟩]
     clear h;go_wp2;go_ret;exact⟨by rw[HC.o];rfl,rfl⟩
    have e1:((c:Int) == 95)=false:=(by simp;omega);have HC:Hid (bU c=0):=by
     show _=_;rw[HT.o,HS.o,HD.o,HW.o,show (c == 95)=false by simp;omega];simp only[Bool.false_or,Bool.false_eq_true,if_false];rw[if_neg (by omega)]
    clear h;go_wp2;go_ret;exact⟨by rw[HC.o];rfl,rfl⟩
   have HW:=hid hw;clear hw;go_wp2;go_ret;exact⟨by rw[HT.o,HS.o,HD.o,HW.o];rfl,rfl⟩
  have HD:=hid hd;clear hd;go_wp2;go_ret;exact⟨by rw[HT.o,HS.o,HD.o];rfl,rfl⟩
 have HS:=hid hs;clear hs;go_wp2;go_ret;exact⟨by rw[HT.o,HS.o];rfl,rfl⟩
def nameAt(i c:Nat):Bool:=bU c == 3 || (bU c == 2 && decide (i≠0))
def ee(s:ByteArray)(k:Nat):Bool:=(List.range k).all fun i=>nameAt i (s.data.toList.getD i 0).toNat
theorem P6(s:ByteArray)(k:Nat)(h:k<s.size):ee s (k+1)=(ee s k && nameAt k s[k].toNat):=by
 unfold ee;rw[List.range_succ,List.all_append];have e:s.data[k]?=some s[k]:=Array.getElem?_eq_getElem h;simp[e]
theorem Qf(s:ByteArray)(k n:Nat)(h:k<=n)(hf:ee s k=false):ee s n=false:=by
 induction n with
 | zero=>
  have:k=0:=by omega
  subst this;exact hf
 | succ n ih=>
  by_cases e:k=n+1
  ·subst e;exact hf
  have:=ih (by omega);unfold ee at this⊢;rw[List.range_succ,List.all_append,this];rfl
def bG(s:ByteArray):Bool:=ee s s.size && decide (1<=s.size) && decide (s.size<=40)
theorem Q9(s:ByteArray)(w:World)(hs:s.size<=maxLen):
  Calls prog 59 #[.string s] w fun e w'=>e=.returned (.bool (bG s))/\w=w':=by
 unfold maxLen at hs;have HT:Hid (bG s=(ee s s.size && decide (1<=s.size) && decide (s.size<=40))):=rfl;go_in;go_wp2_with fail
 go_loop [3] (fun i=>∃k:Nat,k<=s.size/\i=.int .i64 k/\Hid (ee s k=true)) (fun i=>s.size-(intOf i).toNat)
 ·exact⟨0,Nat.zero_le _,rfl,by simp[Hid,ee]⟩
 obtain⟨k,hk,rfl,HF⟩:=hrel;by_cases aq:k<s.size
 ·have HN:=hid (P6 s k aq);have HS:=hid (fun h=>Qf s (k+1) s.size aq h);have HA:Hid (nameAt k s[k].toNat=(bU s[k].toNat == 3 || (bU s[k].toNat == 2 && decide (k≠0)))):=rfl;have hb:=UInt8.toNat_lt s[k];go_wp2_with fail;refine (zjz s[k].toNat hb _).mono ?_;rintro e w1 ⟨rfl,rfl⟩;generalize bU s[k].toNat=q at HA⊢;rcases (by omega:q=3\/(q=2/\k=0)\/(q=2/\0<k)\/(q≠3/\q≠2)) with h|⟨h,h'⟩|⟨h,h'⟩|⟨h,h'⟩
  ·subst h;have HK:Hid (ee s (k+1)=true):=(by show _=_;rw[HN.o,HF.o,HA.o];rfl);clear HN HS HA;go_wp2_with fail;go_round
   ·exact⟨k+1,by omega,by go_num,HK⟩
   simp[intOf];omega
  ·subst h h';have HK:Hid (bG s=false):=(by show _=_;rw[HT.o,HS.o (by rw[HN.o,HF.o,HA.o];rfl)];rfl);clear HN HS HA;go_wp2;go_ret;exact⟨by rw[HK.o];rfl,rfl⟩
  ·subst h;have HK:Hid (ee s (k+1)=true):=(by show _=_;rw[HN.o,HF.o,HA.o];simp;omega);have e0:((k:Int) == 0)=false:=(by simp;omega);clear HN HS HA;go_wp2_with fail;go_round
   ·exact⟨k+1,by omega,by go_num,HK⟩
   simp[intOf];omega
  have HK:Hid (bG s=false):=by show _=_;rw[HT.o,HS.o (by rw[HN.o,HF.o,HA.o];simp[h,h'])];rfl
  have e3:((q:Int) != 3)=true:=by simp;omega
  have e2:((q:Int) != 2)=true:=by simp;omega
  clear HN HS HA h h';go_wp2;go_ret;exact⟨by rw[HK.o];rfl,rfl⟩
 obtain rfl:k=s.size:=by omega
 rcases (by omega:s.size=0\/(1<=s.size/\s.size<=40)\/40<s.size) with h|⟨h,h'⟩|h
 ·have HK:Hid (bG s=false):=by show _=_;rw[HT.o,h];simp
  go_wp2;go_ret;exact⟨by rw[HK.o];rfl,rfl⟩
 ·have HK:Hid (bG s=true):=by show _=_;rw[HT.o,HF.o];simp[h,h']
  go_wp2;go_ret;exact⟨congrArg (fun b=>Ending.returned (.bool b)) (by rw[HK.o];simp;omega),rfl⟩
 have HK:Hid (bG s=false):=by show _=_;rw[HT.o];simp;omega
 go_wp2;go_ret;exact⟨congrArg (fun b=>Ending.returned (.bool b)) (by rw[HK.o];simp;omega),rfl⟩
def je(d:Nat):Nat:=if d<10 then 48+d else 87+d
def eo(c:Nat)(o:Bool):List Nat:=
 if c=10 then [92,110] else if c=9 then [92,116] else if c=13 then [92,114] else if c<32\/126<c then [92,120,je (c / 16),je (c % 16)] else if c=92\/o=true then [92,c] else [c]
def EU:ByteArray:=⟨#[48,49,50,51,52,53,54,55,56,57,97,98,99,100,101,102]⟩
theorem zio:∀c,c<256->(⟨#[92,120]⟩:ByteArray)++EU.extract (c / 16) (c / 16+1)++EU.extract (c % 16) (c % 16+1)=strOf [92,120,je (c / 16),je (c % 16)]:=by decide +kernel
theorem zgj(c:Nat):(⟨#[92]⟩:ByteArray)++strOf [c]=strOf [92,c]:=zga [92] [c]
theorem zk3(c:Nat)(o:Bool)(h1:c≠10)(h2:c≠9)(h3:c≠13)(h:c<32\/126<c):eo c o=[92,120,je (c / 16),je (c % 16)]:=by
 unfold eo;rw[if_neg h1,if_neg h2,if_neg h3,if_pos h]
theorem Xw(c:Nat)(o:Bool)(h1:32<=c)(h2:c<=126)(h:c=92\/o=true):eo c o=[92,c]:=by
 unfold eo;rw[if_neg (by omega),if_neg (by omega),if_neg (by omega),if_neg (by omega),if_pos h]
theorem zjA(c:Nat)(h1:32<=c)(h2:c<=126)(h:c≠92):eo c false=[c]:=by
 unfold eo;rw[if_neg (by omega),if_neg (by omega),if_neg (by omega),if_neg (by omega),if_neg (by simp[h])]
theorem zk4(c:Nat)(hc:c<256)(o:ByteArray)(ho:o.size<=maxLen)(w:World):
  Calls prog 193 #[.int .u8 c,.string o] w fun e w'=>e=.returned (.string (strOf (eo c (fZ o c))))/\ϐ w w':=by
 have hcv:=fun W g=>zm5 W g c
 rcases (by omega:c=10\/c=9\/c=13\/(c≠10/\c≠9/\c≠13/\(c<32\/126<c))\/c=92\/(c≠92/\32<=c/\c<=126)) with h|h|h|⟨h1,h2,h3,h4⟩|h|⟨h1,h2,h3⟩
 ·subst h;go_in;go_wp2;go_ret;exact⟨rfl,Below.refl _ _⟩
 ·subst h;go_in;go_wp2;go_ret;exact⟨rfl,Below.refl _ _⟩
 ·subst h;go_in;go_wp2;go_ret;exact⟨rfl,Below.refl _ _⟩
 ·have e1:((c:Int) == 10)=false:=by simp;omega
  have e2:((c:Int) == 9)=false:=by simp;omega
  have e3:((c:Int) == 13)=false:=by simp;omega
  have HX:=hid (zio c hc);have HB:=hid (zk3 c (fZ o c) h1 h2 h3 h4);rcases h4 with h4|h4
  all_goals
   go_in
   go_wp2_with fail
   go_quiet (fail)
   go_wp2
   go_ret
   exact⟨by rw[HB.o,<-HX.o];rfl,⟨rfl,rfl,rfl,Nat.le_refl _,fun _ _=>rfl⟩⟩
 ·subst h;have HB:=hid (Xw 92 (fZ o 92) (by decide) (by decide) (Or.inl rfl));have HX:=hid (zgj 92);go_in;go_wp2;go_ret;exact⟨by rw[HB.o,<-HX.o];rfl,(Below.refl _ _).alloc (Nat.le_refl _) _⟩
 have e1:((c:Int) == 10)=false:=by simp;omega
 have e2:((c:Int) == 9)=false:=by simp;omega
 have e3:((c:Int) == 13)=false:=by simp;omega
 have e4:((c:Int) == 92)=false:=by simp;omega
 have HX:=hid (zgj c);have HB:=hid (Xw c true h2 h3 (Or.inr rfl));have HS:=hid (zjA c h2 h3 h1);clear h1;go_in;go_wp2_with fail;refine (My o c _ ho).mono ?_;rintro e w1 ⟨rfl,rfl⟩;rcases hi:fZ o c with _|_
 ·go_wp2;go_ret;exact⟨by rw[hi,HS.o];rfl,(Below.refl _ _).alloc (Nat.le_refl _) _⟩
 go_wp2;go_ret;exact⟨by rw[hi,HB.o,<-HX.o];rfl,(Below.refl _ _).alloc (Nat.le_refl _) _⟩
def cj(c:Nat):Bool:=decide (32<=c) && decide (c<=126)
theorem JV(c:Nat)(w:World):
  Calls prog 105 #[.int .u8 c] w fun e w'=>e=.returned (.bool (cj c))/\w=w':=by
 have HP:Hid (cj c=(decide (32<=c) && decide (c<=126))):=rfl;rcases (by omega:c<32\/(32<=c/\c<=126)\/(32<=c/\126<c)) with h|⟨h,h'⟩|⟨h,h'⟩
 all_goals
  go_in
  go_wp2
  go_ret
  exact⟨congrArg (fun b=>Ending.returned (.bool b)) (by rw[HP.o,Bool.eq_iff_iff];simp <;> omega),rfl⟩
