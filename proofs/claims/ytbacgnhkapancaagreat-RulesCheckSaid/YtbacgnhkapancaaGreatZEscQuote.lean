import Derived.Test.YtbacgnhkapancaaGreatZClasses
set_option linter.all false
set_option maxHeartbeats 1000000
set_option maxRecDepth 100000
open Go.Lib (hid)
namespace Go.Proofs.YtbacgnhkapancaaGreat
open Go.RowKit Go.Proofs.Tryz
def mX(s:ByteArray)(c k:Nat):Bool:=(s.data.toList.take k).any fun x=>x.toNat == c
def fE(s:ByteArray)(c:Nat):Bool:=s.data.toList.any fun x=>x.toNat == c
theorem Zh(s:ByteArray)(c k:Nat)(h:k<s.size):mX s c (k+1)=(mX s c k || (s[k].toNat == c)):=by
 unfold mX;rw[List.take_succ_eq_append_getElem (by simpa using h),List.any_append];simp;rfl
theorem U3(s:ByteArray)(c:Nat):mX s c s.size=fE s c:=by
 unfold mX fE;rw[List.take_of_length_le (by simp)]
theorem Yu(s:ByteArray)(c k:Nat)(h:k<s.size)(e:s[k].toNat=c):fE s c=true:=by
 unfold fE;rw[List.any_eq_true];exact⟨s[k],by simp[ByteArray.getElem_eq_getElem_data],by simp[e]⟩
theorem KG(s:ByteArray)(c:Nat)(w:World)(hs:s.size<=maxLen):
  Calls prog 109 #[.string s,.int .u8 c] w fun e w'=>e=.returned (.bool (fE s c))/\w=w':=by
 unfold maxLen at hs;go_enter func109,ntmps109;go_wp2_with fail
 go_loop [5] (fun i=>∃k:Nat,k<=s.size/\i=.int .i64 k/\Hid (mX s c k=false)) (fun i=>s.size-(intOf i).toNat)
 ·exact⟨0,Nat.zero_le _,rfl,by simp[Hid,mX]⟩
 obtain⟨k,hk,rfl,HF⟩:=hrel;by_cases an:k<s.size
 ·have hn:=Zh s c k an;have hy:=Yu s c k an;have HN:=hid hn;have HY:=hid hy;clear hn hy;by_cases e:s[k].toNat=c
  ·have e1:((s[k].toNat:Int) == (c:Int))=true:=(by simp[e]);have HE:=hid e;clear e;go_wp2;go_ret;exact⟨by rw[HY.out HE.out];rfl,rfl⟩
  have e1:((s[k].toNat:Int) == (c:Int))=false:=by simp;omega
  have HE:=hid e;clear e;go_wp2_with fail;go_round
  ·exact⟨k+1,by omega,by go_num,by show mX s c (k+1)=false;rw[HN.out,HF.out];simp[HE.out]⟩
  simp[intOf];omega
 obtain rfl:k=s.size:=by omega
 have HR:=hid (U3 s c);go_wp2;go_ret;exact⟨by rw[<-HR.out,HF.out];rfl,rfl⟩
def gp(c:Nat):Bool:=decide (48<=c) && decide (c<=57)
def isWord(c:Nat):Bool:=gp c || (decide (97<=c) && decide (c<=122)) || (decide (65<=c) && decide (c<=90))
def qI(c:Nat):Bool:=c == 32 || c == 9 || c == 10 || c == 13
def bP(c:Nat):Nat:=if qI c then 1 else if gp c then 2 else if isWord c || c == 95 then 3 else if 32<c/\c<127 then 4 else 0
theorem zmM:∀c,c<256->fE ⟨#[48,49,50,51,52,53,54,55,56,57,97,98,99,100,101,102,103,104,105,106,107,108,109,110,111,112,113,114,115,116,117,118,119,120,121,122,65,66,67,68,69,70,71,72,73,74,75,76,77,78,79,80,81,82,83,84,85,86,87,88,89,90]⟩ c=isWord c:=by decide +kernel
theorem zo0:∀c,c<256->fE ⟨#[48,49,50,51,52,53,54,55,56,57]⟩ c=gp c:=by decide +kernel
theorem zo1:∀c,c<256->fE ⟨#[32,9,10,13]⟩ c=qI c:=by decide +kernel
theorem OC(c:Nat)(hc:c<256)(w:World):
  Calls prog 110 #[.int .u8 c] w fun e w'=>e=.returned (.bool (isWord c))/\w=w':=by
 have hl:=hid (zmM c hc);go_enter func110,ntmps110;go_wp2_with fail;refine (KG _ c _ (by decide)).mono ?_;rintro e w1 ⟨rfl,rfl⟩;rw[hl.out];go_wp2;go_ret;exact⟨rfl,rfl⟩
theorem zju(c:Nat)(hc:c<256)(w:World):
  Calls prog 76 #[.int .u8 c] w fun e w'=>e=.returned (.int .i64 ((bP c:Nat):Int))/\w=w':=by
 have h1:=hid (zo1 c hc);have h2:=hid (zo0 c hc);have HT:Hid (bP c=if qI c then 1 else if gp c then 2 else if isWord c || c == 95 then 3 else if 32<c/\c<127 then 4 else 0):=rfl;go_enter func76,ntmps76;go_wp2_with fail;refine (KG _ c _ (by decide)).mono ?_;rintro e w1 ⟨rfl,rfl⟩;rw[h1.out];rcases hs:qI c with _|_
 ·have HS:=hid hs;clear hs;go_wp2_with fail;refine (KG _ c _ (by decide)).mono ?_;rintro e w1 ⟨rfl,rfl⟩;rw[h2.out];rcases hd:gp c with _|_
  ·have HD:=hid hd;clear hd;go_wp2_with fail;refine (OC c hc _).mono ?_;rintro e w1 ⟨rfl,rfl⟩;rcases hw:isWord c with _|_
   ·have HW:=hid hw;clear hw;rcases (by omega:c=95\/(c≠95/\c<=32)\/(c≠95/\32<c/\c<127)\/(c≠95/\127<=c)) with h|⟨h,h'⟩|⟨h,h',KP⟩|⟨h,h'⟩
    ·subst h;go_wp2;go_ret;exact⟨by rw[HT.out,HS.out,HD.out,HW.out];rfl,rfl⟩
    ·have e1:((c:Int) == 95)=false:=(by simp;omega);have HC:Hid (bP c=0):=by
      show _=_;rw[HT.out,HS.out,HD.out,HW.out,show (c == 95)=false by simp;omega];simp only[Bool.false_or,Bool.false_eq_true,if_false];rw[if_neg (by omega)]
     clear h;go_wp2;go_ret;exact⟨by rw[HC.out];rfl,rfl⟩
    ·have e1:((c:Int) == 95)=false:=(by simp;omega);have HC:Hid (bP c=4):=by
      show _=_;rw[HT.out,HS.out,HD.out,HW.out,show (c == 95)=false by simp;omega];simp only[Bool.false_or,Bool.false_eq_true,if_false];rw[if_pos ⟨h',KP⟩]
     clear h;go_wp2;go_ret;exact⟨by rw[HC.out];rfl,rfl⟩
    have e1:((c:Int) == 95)=false:=(by simp;omega);have HC:Hid (bP c=0):=by
     show _=_;rw[HT.out,HS.out,HD.out,HW.out,show (c == 95)=false by simp;omega];simp only[Bool.false_or,Bool.false_eq_true,if_false];rw[if_neg (by omega)]
    clear h;go_wp2;go_ret;exact⟨by rw[HC.out];rfl,rfl⟩
   have HW:=hid hw;clear hw;go_wp2;go_ret;exact⟨by rw[HT.out,HS.out,HD.out,HW.out];rfl,rfl⟩
  have HD:=hid hd;clear hd;go_wp2;go_ret;exact⟨by rw[HT.out,HS.out,HD.out];rfl,rfl⟩
 have HS:=hid hs;clear hs;go_wp2;go_ret;exact⟨by rw[HT.out,HS.out];rfl,rfl⟩
def iH(d:Nat):Nat:=if d<10 then 48+d else 87+d
def dV(c:Nat)(o:Bool):List Nat:=
 if c=10 then [92,110] else if c=9 then [92,116] else if c=13 then [92,114] else if c<32\/126<c then [92,120,iH (c / 16),iH (c % 16)] else if c=92\/o=true then [92,c] else [c]
def BW:ByteArray:=⟨#[48,49,50,51,52,53,54,55,56,57,97,98,99,100,101,102]⟩
theorem Z3:∀c,c<256->(⟨#[92,120]⟩:ByteArray)++BW.extract (c / 16) (c / 16+1)++BW.extract (c % 16) (c % 16+1)=strOf [92,120,iH (c / 16),iH (c % 16)]:=by decide +kernel
theorem TQ(c:Nat):(⟨#[92]⟩:ByteArray)++strOf [c]=strOf [92,c]:=zgc [92] [c]
theorem zkK(c:Nat)(o:Bool)(h1:c≠10)(h2:c≠9)(h3:c≠13)(h:c<32\/126<c):dV c o=[92,120,iH (c / 16),iH (c % 16)]:=by
 unfold dV;rw[if_neg h1,if_neg h2,if_neg h3,if_pos h]
theorem Zi(c:Nat)(o:Bool)(h1:32<=c)(h2:c<=126)(h:c=92\/o=true):dV c o=[92,c]:=by
 unfold dV;rw[if_neg (by omega),if_neg (by omega),if_neg (by omega),if_neg (by omega),if_pos h]
theorem zjv(c:Nat)(h1:32<=c)(h2:c<=126)(h:c≠92):dV c false=[c]:=by
 unfold dV;rw[if_neg (by omega),if_neg (by omega),if_neg (by omega),if_neg (by omega),if_neg (by simp[h])]
theorem zkL(c:Nat)(hc:c<256)(o:ByteArray)(ho:o.size<=maxLen)(w:World):
  Calls prog 164 #[.int .u8 c,.string o] w fun e w'=>e=.returned (.string (strOf (dV c (fE o c))))/\Below w.heap.size w w':=by
 have hcv:=fun W g=>zmA W g c
 rcases (by omega:c=10\/c=9\/c=13\/(c≠10/\c≠9/\c≠13/\(c<32\/126<c))\/c=92\/(c≠92/\32<=c/\c<=126)) with h|h|h|⟨h1,h2,h3,h4⟩|h|⟨h1,h2,h3⟩
 ·subst h;go_enter func164,ntmps164;go_wp2;go_ret;exact⟨rfl,Below.refl _ _⟩
 ·subst h;go_enter func164,ntmps164;go_wp2;go_ret;exact⟨rfl,Below.refl _ _⟩
 ·subst h;go_enter func164,ntmps164;go_wp2;go_ret;exact⟨rfl,Below.refl _ _⟩
 ·have e1:((c:Int) == 10)=false:=by simp;omega
  have e2:((c:Int) == 9)=false:=by simp;omega
  have e3:((c:Int) == 13)=false:=by simp;omega
  have HX:=hid (Z3 c hc);have HB:=hid (zkK c (fE o c) h1 h2 h3 h4);rcases h4 with h4|h4
  all_goals
   go_enter func164,ntmps164
   go_wp2_with fail
   go_quiet (fail)
   go_wp2_with fail
   go_ret
   exact⟨by rw[HB.out,<-HX.out];rfl,⟨rfl,rfl,rfl,Nat.le_refl _,fun _ _=>rfl⟩⟩
 ·subst h;have HB:=hid (Zi 92 (fE o 92) (by decide) (by decide) (Or.inl rfl));have HX:=hid (TQ 92);go_enter func164,ntmps164;go_wp2;go_ret;exact⟨by rw[HB.out,<-HX.out];rfl,(Below.refl _ _).alloc (Nat.le_refl _) _⟩
 have e1:((c:Int) == 10)=false:=by simp;omega
 have e2:((c:Int) == 9)=false:=by simp;omega
 have e3:((c:Int) == 13)=false:=by simp;omega
 have e4:((c:Int) == 92)=false:=by simp;omega
 have HX:=hid (TQ c);have HB:=hid (Zi c true h2 h3 (Or.inr rfl));have HS:=hid (zjv c h2 h3 h1);clear h1;go_enter func164,ntmps164;go_wp2_with fail;refine (KG o c _ ho).mono ?_;rintro e w1 ⟨rfl,rfl⟩;rcases hi:fE o c with _|_
 ·go_wp2;go_ret;exact⟨by rw[hi,HS.out];rfl,(Below.refl _ _).alloc (Nat.le_refl _) _⟩
 go_wp2;go_ret;exact⟨by rw[hi,HB.out,<-HX.out];rfl,(Below.refl _ _).alloc (Nat.le_refl _) _⟩
def nameAt(i c:Nat):Bool:=bP c == 3 || (bP c == 2 && decide (i≠0))
def dR(s:ByteArray)(k:Nat):Bool:=(List.range k).all fun i=>nameAt i (s.data.toList.getD i 0).toNat
theorem Ql(s:ByteArray)(k:Nat)(h:k<s.size):dR s (k+1)=(dR s k && nameAt k s[k].toNat):=by
 unfold dR;rw[List.range_succ,List.all_append];have e:s.data[k]?=some s[k]:=Array.getElem?_eq_getElem h;simp[e]
theorem Ti(s:ByteArray)(k n:Nat)(h:k<=n)(hf:dR s k=false):dR s n=false:=by
 induction n with
 | zero=>
  have:k=0:=by omega
  subst this;exact hf
 | succ n ih=>
  by_cases e:k=n+1
  ·subst e;exact hf
  have:=ih (by omega);unfold dR at this⊢;rw[List.range_succ,List.all_append,this];rfl
def dI(s:ByteArray):Bool:=dR s s.size && decide (1<=s.size) && decide (s.size<=40)
theorem zkM(s:ByteArray)(w:World)(hs:s.size<=maxLen):
  Calls prog 50 #[.string s] w fun e w'=>e=.returned (.bool (dI s))/\w=w':=by
 unfold maxLen at hs;have HT:Hid (dI s=(dR s s.size && decide (1<=s.size) && decide (s.size<=40))):=rfl;go_enter func50,ntmps50;go_wp2_with fail
 go_loop [3] (fun i=>∃k:Nat,k<=s.size/\i=.int .i64 k/\Hid (dR s k=true)) (fun i=>s.size-(intOf i).toNat)
 ·exact⟨0,Nat.zero_le _,rfl,by simp[Hid,dR]⟩
 obtain⟨k,hk,rfl,HF⟩:=hrel;by_cases an:k<s.size
 ·have HN:=hid (Ql s k an);have HS:=hid (fun h=>Ti s (k+1) s.size an h);have HA:Hid (nameAt k s[k].toNat=(bP s[k].toNat == 3 || (bP s[k].toNat == 2 && decide (k≠0)))):=rfl;have hb:=UInt8.toNat_lt s[k];go_wp2_with fail;refine (zju s[k].toNat hb _).mono ?_;rintro e w1 ⟨rfl,rfl⟩;generalize bP s[k].toNat=q at HA⊢;rcases (by omega:q=3\/(q=2/\k=0)\/(q=2/\0<k)\/(q≠3/\q≠2)) with h|⟨h,h'⟩|⟨h,h'⟩|⟨h,h'⟩
  ·subst h;have HK:Hid (dR s (k+1)=true):=(by show _=_;rw[HN.out,HF.out,HA.out];rfl);clear HN HS HA;go_wp2_with fail;go_round
   ·exact⟨k+1,by omega,by go_num,HK⟩
   simp[intOf];omega
  ·subst h h';have HK:Hid (dI s=false):=(by show _=_;rw[HT.out,HS.out (by rw[HN.out,HF.out,HA.out];rfl)];rfl);clear HN HS HA;go_wp2;go_ret;exact⟨by rw[HK.out];rfl,rfl⟩
  ·subst h;have HK:Hid (dR s (k+1)=true):=(by show _=_;rw[HN.out,HF.out,HA.out];simp;omega);have e0:((k:Int) == 0)=false:=(by simp;omega);clear HN HS HA;go_wp2_with fail;go_round
   ·exact⟨k+1,by omega,by go_num,HK⟩
   simp[intOf];omega
  have HK:Hid (dI s=false):=by show _=_;rw[HT.out,HS.out (by rw[HN.out,HF.out,HA.out];simp[h,h'])];rfl
  have e3:((q:Int) != 3)=true:=by simp;omega
  have e2:((q:Int) != 2)=true:=by simp;omega
  clear HN HS HA h h';go_wp2;go_ret;exact⟨by rw[HK.out];rfl,rfl⟩
 obtain rfl:k=s.size:=by omega
 rcases (by omega:s.size=0\/(1<=s.size/\s.size<=40)\/40<s.size) with h|⟨h,h'⟩|h
 ·have HK:Hid (dI s=false):=by show _=_;rw[HT.out,h];simp
  go_wp2;go_ret;exact⟨by rw[HK.out];rfl,rfl⟩
 ·have HK:Hid (dI s=true):=by show _=_;rw[HT.out,HF.out];simp[h,h']
  go_wp2;go_ret;exact⟨congrArg (fun b=>Ending.returned (.bool b)) (by rw[HK.out];simp;omega),rfl⟩
 have HK:Hid (dI s=false):=by show _=_;rw[HT.out];simp;omega
 go_wp2;go_ret;exact⟨congrArg (fun b=>Ending.returned (.bool b)) (by rw[HK.out];simp;omega),rfl⟩
end Go.Proofs.YtbacgnhkapancaaGreat
