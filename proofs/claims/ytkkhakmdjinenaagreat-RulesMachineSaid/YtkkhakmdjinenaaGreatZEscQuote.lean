import Derived.Test.YtkkhakmdjinenaaGreatZClasses
set_option linter.all false
set_option maxHeartbeats 1000000
set_option maxRecDepth 100000
open Go.Lib (hid)
namespace Go.Proofs.YtkkhakmdjinenaaGreat
open Go.RowKit Go.Proofs.Tryz
def nA(s:ByteArray)(c k:Nat):Bool:=(s.data.toList.take k).any fun x=>x.toNat == c
def fV(s:ByteArray)(c:Nat):Bool:=s.data.toList.any fun x=>x.toNat == c
theorem Yi(s:ByteArray)(c k:Nat)(h:k<s.size):nA s c (k+1)=(nA s c k || (s[k].toNat == c)):=by
 unfold nA;rw[List.take_succ_eq_append_getElem (by simpa using h),List.any_append];simp;rfl
theorem ziC(s:ByteArray)(c:Nat):nA s c s.size=fV s c:=by
 unfold nA fV;rw[List.take_of_length_le (by simp)]
theorem Yo(s:ByteArray)(c k:Nat)(h:k<s.size)(e:s[k].toNat=c):fV s c=true:=by
 unfold fV;rw[List.any_eq_true];exact⟨s[k],by simp[ByteArray.getElem_eq_getElem_data],by simp[e]⟩
theorem Nk(s:ByteArray)(c:Nat)(w:World)(hs:s.size<=maxLen):
  Calls prog 118 #[.string s,.int .u8 c] w fun e w'=>e=.returned (.bool (fV s c))/\w=w':=by
 unfold maxLen at hs;go_in;go_wp2_with fail
 go_loop [5] (fun i=>∃k:Nat,k<=s.size/\i=.int .i64 k/\Hid (nA s c k=false)) (fun i=>s.size-(intOf i).toNat)
 ·exact⟨0,Nat.zero_le _,rfl,by simp[Hid,nA]⟩
 obtain⟨k,hk,rfl,HF⟩:=hrel;by_cases aq:k<s.size
 ·have hn:=Yi s c k aq;have hy:=Yo s c k aq;have HN:=hid hn;have HY:=hid hy;clear hn hy;by_cases e:s[k].toNat=c
  ·have e1:((s[k].toNat:Int) == (c:Int))=true:=(by simp[e]);have HE:=hid e;clear e;go_wp2;go_ret;exact⟨by rw[HY.out HE.out];rfl,rfl⟩
  have e1:((s[k].toNat:Int) == (c:Int))=false:=by simp;omega
  have HE:=hid e;clear e;go_wp2_with fail;go_round
  ·exact⟨k+1,by omega,by go_num,by show nA s c (k+1)=false;rw[HN.out,HF.out];simp[HE.out]⟩
  simp[intOf];omega
 obtain rfl:k=s.size:=by omega
 have HR:=hid (ziC s c);go_wp2;go_ret;exact⟨by rw[<-HR.out,HF.out];rfl,rfl⟩
def gH(c:Nat):Bool:=decide (48<=c) && decide (c<=57)
def isWord(c:Nat):Bool:=gH c || (decide (97<=c) && decide (c<=122)) || (decide (65<=c) && decide (c<=90))
def qM(c:Nat):Bool:=c == 32 || c == 9 || c == 10 || c == 13
def bS(c:Nat):Nat:=if qM c then 1 else if gH c then 2 else if isWord c || c == 95 then 3 else if 32<c/\c<127 then 4 else 0
theorem zm0:∀c,c<256->fV ⟨#[48,49,50,51,52,53,54,55,56,57,97,98,99,100,101,102,103,104,105,106,107,108,109,110,111,112,113,114,115,116,117,118,119,120,121,122,65,66,67,68,69,70,71,72,73,74,75,76,77,78,79,80,81,82,83,84,85,86,87,88,89,90]⟩ c=isWord c:=by decide +kernel
theorem zpk:∀c,c<256->fV ⟨#[48,49,50,51,52,53,54,55,56,57]⟩ c=gH c:=by decide +kernel
theorem zpl:∀c,c<256->fV ⟨#[32,9,10,13]⟩ c=qM c:=by decide +kernel
theorem PN(c:Nat)(hc:c<256)(w:World):
  Calls prog 119 #[.int .u8 c] w fun e w'=>e=.returned (.bool (isWord c))/\w=w':=by
 have hl:=hid (zm0 c hc);go_in;go_wp2_with fail;refine (Nk _ c _ (by decide)).mono ?_;rintro e w1 ⟨rfl,rfl⟩;rw[hl.out];go_wp2;go_ret;exact⟨rfl,rfl⟩
theorem zjK(c:Nat)(hc:c<256)(w:World):
  Calls prog 82 #[.int .u8 c] w fun e w'=>e=.returned (.int .i64 (bS c))/\w=w':=by
 have h1:=hid (zpl c hc);have h2:=hid (zpk c hc);have HT:Hid (bS c=if qM c then 1 else if gH c then 2 else if isWord c || c == 95 then 3 else if 32<c/\c<127 then 4 else 0):=rfl;go_in;go_wp2_with fail;refine (Nk _ c _ (by decide)).mono ?_;rintro e w1 ⟨rfl,rfl⟩;rw[h1.out];rcases hs:qM c with _|_
 ·have HS:=hid hs;clear hs;go_wp2_with fail;refine (Nk _ c _ (by decide)).mono ?_;rintro e w1 ⟨rfl,rfl⟩;rw[h2.out];rcases hd:gH c with _|_
  ·have HD:=hid hd;clear hd;go_wp2_with fail;refine (PN c hc _).mono ?_;rintro e w1 ⟨rfl,rfl⟩;rcases hw:isWord c with _|_
   ·have HW:=hid hw;clear hw;rcases (by omega:c=95\/(c≠95/\c<=32)\/(c≠95/\32<c/\c<127)\/(c≠95/\127<=c)) with h|⟨h,h'⟩|⟨h,h',N6⟩|⟨h,h'⟩
    ·subst h;go_wp2;go_ret;exact⟨by rw[HT.out,HS.out,HD.out,HW.out];rfl,rfl⟩
    ·have e1:((c:Int) == 95)=false:=(by simp;omega);have HC:Hid (bS c=0):=by
      show _=_;rw[HT.out,HS.out,HD.out,HW.out,show (c == 95)=false by simp;omega];simp only[Bool.false_or,Bool.false_eq_true,if_false];rw[if_neg (by omega)]
     clear h;go_wp2;go_ret;exact⟨by rw[HC.out];rfl,rfl⟩
    ·have e1:((c:Int) == 95)=false:=(by simp;omega);have HC:Hid (bS c=4):=by
      show _=_;rw[HT.out,HS.out,HD.out,HW.out,show (c == 95)=false by simp;omega];simp only[Bool.false_or,Bool.false_eq_true,if_false];rw[if_pos ⟨h',N6⟩]
     clear h;go_wp2;go_ret;exact⟨by rw[HC.out];rfl,rfl⟩
    have e1:((c:Int) == 95)=false:=(by simp;omega);have HC:Hid (bS c=0):=by
     show _=_;rw[HT.out,HS.out,HD.out,HW.out,show (c == 95)=false by simp;omega];simp only[Bool.false_or,Bool.false_eq_true,if_false];rw[if_neg (by omega)]
    clear h;go_wp2;go_ret;exact⟨by rw[HC.out];rfl,rfl⟩
   have HW:=hid hw;clear hw;go_wp2;go_ret;exact⟨by rw[HT.out,HS.out,HD.out,HW.out];rfl,rfl⟩
  have HD:=hid hd;clear hd;go_wp2;go_ret;exact⟨by rw[HT.out,HS.out,HD.out];rfl,rfl⟩
 have HS:=hid hs;clear hs;go_wp2;go_ret;exact⟨by rw[HT.out,HS.out];rfl,rfl⟩
def iZ(d:Nat):Nat:=if d<10 then 48+d else 87+d
def dY(c:Nat)(o:Bool):List Nat:=
 if c=10 then [92,110] else if c=9 then [92,116] else if c=13 then [92,114] else if c<32\/126<c then [92,120,iZ (c / 16),iZ (c % 16)] else if c=92\/o=true then [92,c] else [c]
def C7:ByteArray:=⟨#[48,49,50,51,52,53,54,55,56,57,97,98,99,100,101,102]⟩
theorem X0:∀c,c<256->(⟨#[92,120]⟩:ByteArray)++C7.extract (c / 16) (c / 16+1)++C7.extract (c % 16) (c % 16+1)=strOf [92,120,iZ (c / 16),iZ (c % 16)]:=by decide +kernel
theorem YW(c:Nat):(⟨#[92]⟩:ByteArray)++strOf [c]=strOf [92,c]:=zgk [92] [c]
theorem zk0(c:Nat)(o:Bool)(h1:c≠10)(h2:c≠9)(h3:c≠13)(h:c<32\/126<c):dY c o=[92,120,iZ (c / 16),iZ (c % 16)]:=by
 unfold dY;rw[if_neg h1,if_neg h2,if_neg h3,if_pos h]
theorem U0(c:Nat)(o:Bool)(h1:32<=c)(h2:c<=126)(h:c=92\/o=true):dY c o=[92,c]:=by
 unfold dY;rw[if_neg (by omega),if_neg (by omega),if_neg (by omega),if_neg (by omega),if_pos h]
theorem zjL(c:Nat)(h1:32<=c)(h2:c<=126)(h:c≠92):dY c false=[c]:=by
 unfold dY;rw[if_neg (by omega),if_neg (by omega),if_neg (by omega),if_neg (by omega),if_neg (by simp[h])]
theorem zk1(c:Nat)(hc:c<256)(o:ByteArray)(ho:o.size<=maxLen)(w:World):
  Calls prog 156 #[.int .u8 c,.string o] w fun e w'=>e=.returned (.string (strOf (dY c (fV o c))))/\Below w.heap.size w w':=by
 have hcv:=fun W g=>zmP W g c
 rcases (by omega:c=10\/c=9\/c=13\/(c≠10/\c≠9/\c≠13/\(c<32\/126<c))\/c=92\/(c≠92/\32<=c/\c<=126)) with h|h|h|⟨h1,h2,h3,h4⟩|h|⟨h1,h2,h3⟩
 ·subst h;go_in;go_wp2;go_ret;exact⟨rfl,Below.refl _ _⟩
 ·subst h;go_in;go_wp2;go_ret;exact⟨rfl,Below.refl _ _⟩
 ·subst h;go_in;go_wp2;go_ret;exact⟨rfl,Below.refl _ _⟩
 ·have e1:((c:Int) == 10)=false:=by simp;omega
  have e2:((c:Int) == 9)=false:=by simp;omega
  have e3:((c:Int) == 13)=false:=by simp;omega
  have HX:=hid (X0 c hc);have HB:=hid (zk0 c (fV o c) h1 h2 h3 h4);rcases h4 with h4|h4
  all_goals
   go_in
   go_wp2_with fail
   go_quiet (fail)
   go_wp2
   go_ret
   exact⟨by rw[HB.out,<-HX.out];rfl,⟨rfl,rfl,rfl,Nat.le_refl _,fun _ _=>rfl⟩⟩
 ·subst h;have HB:=hid (U0 92 (fV o 92) (by decide) (by decide) (Or.inl rfl));have HX:=hid (YW 92);go_in;go_wp2;go_ret;exact⟨by rw[HB.out,<-HX.out];rfl,(Below.refl _ _).alloc (Nat.le_refl _) _⟩
 have e1:((c:Int) == 10)=false:=by simp;omega
 have e2:((c:Int) == 9)=false:=by simp;omega
 have e3:((c:Int) == 13)=false:=by simp;omega
 have e4:((c:Int) == 92)=false:=by simp;omega
 have HX:=hid (YW c);have HB:=hid (U0 c true h2 h3 (Or.inr rfl));have HS:=hid (zjL c h2 h3 h1);clear h1;go_in;go_wp2_with fail;refine (Nk o c _ ho).mono ?_;rintro e w1 ⟨rfl,rfl⟩;rcases hi:fV o c with _|_
 ·go_wp2;go_ret;exact⟨by rw[hi,HS.out];rfl,(Below.refl _ _).alloc (Nat.le_refl _) _⟩
 go_wp2;go_ret;exact⟨by rw[hi,HB.out,<-HX.out];rfl,(Below.refl _ _).alloc (Nat.le_refl _) _⟩
def nameAt(i c:Nat):Bool:=bS c == 3 || (bS c == 2 && decide (i≠0))
def dX(s:ByteArray)(k:Nat):Bool:=(List.range k).all fun i=>nameAt i (s.data.toList.getD i 0).toNat
theorem SX(s:ByteArray)(k:Nat)(h:k<s.size):dX s (k+1)=(dX s k && nameAt k s[k].toNat):=by
 unfold dX;rw[List.range_succ,List.all_append];have e:s.data[k]?=some s[k]:=Array.getElem?_eq_getElem h;simp[e]
theorem TW(s:ByteArray)(k n:Nat)(h:k<=n)(hf:dX s k=false):dX s n=false:=by
 induction n with
 | zero=>
  have:k=0:=by omega
  subst this;exact hf
 | succ n ih=>
  by_cases e:k=n+1
  ·subst e;exact hf
  have:=ih (by omega);unfold dX at this⊢;rw[List.range_succ,List.all_append,this];rfl
def dN(s:ByteArray):Bool:=dX s s.size && decide (1<=s.size) && decide (s.size<=40)
theorem zk2(s:ByteArray)(w:World)(hs:s.size<=maxLen):
  Calls prog 46 #[.string s] w fun e w'=>e=.returned (.bool (dN s))/\w=w':=by
 unfold maxLen at hs;have HT:Hid (dN s=(dX s s.size && decide (1<=s.size) && decide (s.size<=40))):=rfl;go_in;go_wp2_with fail
 go_loop [3] (fun i=>∃k:Nat,k<=s.size/\i=.int .i64 k/\Hid (dX s k=true)) (fun i=>s.size-(intOf i).toNat)
 ·exact⟨0,Nat.zero_le _,rfl,by simp[Hid,dX]⟩
 obtain⟨k,hk,rfl,HF⟩:=hrel;by_cases aq:k<s.size
 ·have HN:=hid (SX s k aq);have HS:=hid (fun h=>TW s (k+1) s.size aq h);have HA:Hid (nameAt k s[k].toNat=(bS s[k].toNat == 3 || (bS s[k].toNat == 2 && decide (k≠0)))):=rfl;have hb:=UInt8.toNat_lt s[k];go_wp2_with fail;refine (zjK s[k].toNat hb _).mono ?_;rintro e w1 ⟨rfl,rfl⟩;generalize bS s[k].toNat=q at HA⊢;rcases (by omega:q=3\/(q=2/\k=0)\/(q=2/\0<k)\/(q≠3/\q≠2)) with h|⟨h,h'⟩|⟨h,h'⟩|⟨h,h'⟩
  ·subst h;have HK:Hid (dX s (k+1)=true):=(by show _=_;rw[HN.out,HF.out,HA.out];rfl);clear HN HS HA;go_wp2_with fail;go_round
   ·exact⟨k+1,by omega,by go_num,HK⟩
   simp[intOf];omega
  ·subst h h';have HK:Hid (dN s=false):=(by show _=_;rw[HT.out,HS.out (by rw[HN.out,HF.out,HA.out];rfl)];rfl);clear HN HS HA;go_wp2;go_ret;exact⟨by rw[HK.out];rfl,rfl⟩
  ·subst h;have HK:Hid (dX s (k+1)=true):=(by show _=_;rw[HN.out,HF.out,HA.out];simp;omega);have e0:((k:Int) == 0)=false:=(by simp;omega);clear HN HS HA;go_wp2_with fail;go_round
   ·exact⟨k+1,by omega,by go_num,HK⟩
   simp[intOf];omega
  have HK:Hid (dN s=false):=by show _=_;rw[HT.out,HS.out (by rw[HN.out,HF.out,HA.out];simp[h,h'])];rfl
  have e3:((q:Int) != 3)=true:=by simp;omega
  have e2:((q:Int) != 2)=true:=by simp;omega
  clear HN HS HA h h';go_wp2;go_ret;exact⟨by rw[HK.out];rfl,rfl⟩
 obtain rfl:k=s.size:=by omega
 rcases (by omega:s.size=0\/(1<=s.size/\s.size<=40)\/40<s.size) with h|⟨h,h'⟩|h
 ·have HK:Hid (dN s=false):=by show _=_;rw[HT.out,h];simp
  go_wp2;go_ret;exact⟨by rw[HK.out];rfl,rfl⟩
 ·have HK:Hid (dN s=true):=by show _=_;rw[HT.out,HF.out];simp[h,h']
  go_wp2;go_ret;exact⟨congrArg (fun b=>Ending.returned (.bool b)) (by rw[HK.out];simp;omega),rfl⟩
 have HK:Hid (dN s=false):=by show _=_;rw[HT.out];simp;omega
 go_wp2;go_ret;exact⟨congrArg (fun b=>Ending.returned (.bool b)) (by rw[HK.out];simp;omega),rfl⟩
