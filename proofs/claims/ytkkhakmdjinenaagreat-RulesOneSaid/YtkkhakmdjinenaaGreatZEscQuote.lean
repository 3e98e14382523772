import Derived.Test.YtkkhakmdjinenaaGreatZClasses
set_option linter.all false
set_option maxHeartbeats 1000000
set_option maxRecDepth 100000
open Go.Lib (hid)
namespace Go.Proofs.YtkkhakmdjinenaaGreat
open Go.RowKit Go.Proofs.Tryz
def nv(s:ByteArray)(c k:Nat):Bool:=(s.data.toList.take k).any fun x=>x.toNat == c
def fW(s:ByteArray)(c:Nat):Bool:=s.data.toList.any fun x=>x.toNat == c
theorem Xz(s:ByteArray)(c k:Nat)(h:k<s.size):nv s c (k+1)=(nv s c k || (s[k].toNat == c)):=by
 unfold nv;rw[List.take_succ_eq_append_getElem (by simpa using h),List.any_append];simp;rfl
theorem zip(s:ByteArray)(c:Nat):nv s c s.size=fW s c:=by
 unfold nv fW;rw[List.take_of_length_le (by simp)]
theorem T4(s:ByteArray)(c k:Nat)(h:k<s.size)(e:s[k].toNat=c):fW s c=true:=by
 unfold fW;rw[List.any_eq_true];exact⟨s[k],by simp[ByteArray.getElem_eq_getElem_data],by simp[e]⟩
theorem zol(s:ByteArray)(c:Nat)(w:World)(hs:s.size<=maxLen):
  Calls prog 118 #[.string s,.int .u8 c] w fun e w'=>e=.returned (.bool (fW s c))/\w=w':=by
 unfold maxLen at hs;go_in;go_wp2_with fail
 go_loop [5] (fun i=>∃k:Nat,k<=s.size/\i=.int .i64 k/\Hid (nv s c k=false)) (fun i=>s.size-(intOf i).toNat)
 ·exact⟨0,Nat.zero_le _,rfl,by simp[Hid,nv]⟩
 obtain⟨k,hk,rfl,HF⟩:=hrel;by_cases aq:k<s.size
 ·have hn:=Xz s c k aq;have hy:=T4 s c k aq;have HN:=hid hn;have HY:=hid hy;clear hn hy;by_cases e:s[k].toNat=c
  ·have e1:((s[k].toNat:Int) == (c:Int))=true:=(by simp[e]);have HE:=hid e;clear e;go_wp2;go_ret;exact⟨by rw[HY.out HE.out];rfl,rfl⟩
  have e1:((s[k].toNat:Int) == (c:Int))=false:=by simp;omega
  have HE:=hid e;clear e;go_wp2_with fail;go_round
  ·exact⟨k+1,by omega,by go_num,by show nv s c (k+1)=false;rw[HN.out,HF.out];simp[HE.out]⟩
  simp[intOf];omega
 obtain rfl:k=s.size:=by omega
 have HR:=hid (zip s c);go_wp2;go_ret;exact⟨by rw[<-HR.out,HF.out];rfl,rfl⟩
def jq(c:Nat):Bool:=decide (48<=c) && decide (c<=57)
def isWord(c:Nat):Bool:=jq c || (decide (97<=c) && decide (c<=122)) || (decide (65<=c) && decide (c<=90))
def BF(c:Nat):Bool:=c == 32 || c == 9 || c == 10 || c == 13
def dA(c:Nat):Nat:=if BF c then 1 else if jq c then 2 else if isWord c || c == 95 then 3 else if 32<c/\c<127 then 4 else 0
theorem zmN:∀c,c<256->fW ⟨#[48,49,50,51,52,53,54,55,56,57,97,98,99,100,101,102,103,104,105,106,107,108,109,110,111,112,113,114,115,116,117,118,119,120,121,122,65,66,67,68,69,70,71,72,73,74,75,76,77,78,79,80,81,82,83,84,85,86,87,88,89,90]⟩ c=isWord c:=by decide +kernel
theorem U8(c:Nat)(hc:c<256)(w:World):
  Calls prog 119 #[.int .u8 c] w fun e w'=>e=.returned (.bool (isWord c))/\w=w':=by
 have hl:=hid (zmN c hc);go_in;go_wp2_with fail;refine (zol _ c _ (by decide)).mono ?_;rintro e w1 ⟨rfl,rfl⟩;rw[hl.out];go_wp2;go_ret;exact⟨rfl,rfl⟩
def iE(d:Nat):Nat:=if d<10 then 48+d else 87+d
def dX(c:Nat)(o:Bool):List Nat:=
 if c=10 then [92,110] else if c=9 then [92,116] else if c=13 then [92,114] else if c<32\/126<c then [92,120,iE (c / 16),iE (c % 16)] else if c=92\/o=true then [92,c] else [c]
def CT:ByteArray:=⟨#[48,49,50,51,52,53,54,55,56,57,97,98,99,100,101,102]⟩
theorem zir:∀c,c<256->(⟨#[92,120]⟩:ByteArray)++CT.extract (c / 16) (c / 16+1)++CT.extract (c % 16) (c % 16+1)=strOf [92,120,iE (c / 16),iE (c % 16)]:=by decide +kernel
theorem YF(c:Nat):(⟨#[92]⟩:ByteArray)++strOf [c]=strOf [92,c]:=zgd [92] [c]
theorem zkO(c:Nat)(o:Bool)(h1:c≠10)(h2:c≠9)(h3:c≠13)(h:c<32\/126<c):dX c o=[92,120,iE (c / 16),iE (c % 16)]:=by
 unfold dX;rw[if_neg h1,if_neg h2,if_neg h3,if_pos h]
theorem YG(c:Nat)(o:Bool)(h1:32<=c)(h2:c<=126)(h:c=92\/o=true):dX c o=[92,c]:=by
 unfold dX;rw[if_neg (by omega),if_neg (by omega),if_neg (by omega),if_neg (by omega),if_pos h]
theorem zjy(c:Nat)(h1:32<=c)(h2:c<=126)(h:c≠92):dX c false=[c]:=by
 unfold dX;rw[if_neg (by omega),if_neg (by omega),if_neg (by omega),if_neg (by omega),if_neg (by simp[h])]
theorem zkP(c:Nat)(hc:c<256)(o:ByteArray)(ho:o.size<=maxLen)(w:World):
  Calls prog 156 #[.int .u8 c,.string o] w fun e w'=>e=.returned (.string (strOf (dX c (fW o c))))/\Below w.heap.size w w':=by
 have hcv:=fun W g=>zmB W g c
 rcases (by omega:c=10\/c=9\/c=13\/(c≠10/\c≠9/\c≠13/\(c<32\/126<c))\/c=92\/(c≠92/\32<=c/\c<=126)) with h|h|h|⟨h1,h2,h3,h4⟩|h|⟨h1,h2,h3⟩
 ·subst h;go_in;go_wp2;go_ret;exact⟨rfl,Below.refl _ _⟩
 ·subst h;go_in;go_wp2;go_ret;exact⟨rfl,Below.refl _ _⟩
 ·subst h;go_in;go_wp2;go_ret;exact⟨rfl,Below.refl _ _⟩
 ·have e1:((c:Int) == 10)=false:=by simp;omega
  have e2:((c:Int) == 9)=false:=by simp;omega
  have e3:((c:Int) == 13)=false:=by simp;omega
  have HX:=hid (zir c hc);have HB:=hid (zkO c (fW o c) h1 h2 h3 h4);rcases h4 with h4|h4
  all_goals
   go_in
   go_wp2_with fail
   go_quiet (fail)
   go_wp2
   go_ret
   exact⟨by rw[HB.out,<-HX.out];rfl,⟨rfl,rfl,rfl,Nat.le_refl _,fun _ _=>rfl⟩⟩
 ·subst h;have HB:=hid (YG 92 (fW o 92) (by decide) (by decide) (Or.inl rfl));have HX:=hid (YF 92);go_in;go_wp2;go_ret;exact⟨by rw[HB.out,<-HX.out];rfl,(Below.refl _ _).alloc (Nat.le_refl _) _⟩
 have e1:((c:Int) == 10)=false:=by simp;omega
 have e2:((c:Int) == 9)=false:=by simp;omega
 have e3:((c:Int) == 13)=false:=by simp;omega
 have e4:((c:Int) == 92)=false:=by simp;omega
 have HX:=hid (YF c);have HB:=hid (YG c true h2 h3 (Or.inr rfl));have HS:=hid (zjy c h2 h3 h1);clear h1;go_in;go_wp2_with fail;refine (zol o c _ ho).mono ?_;rintro e w1 ⟨rfl,rfl⟩;rcases hi:fW o c with _|_
 ·go_wp2;go_ret;exact⟨by rw[hi,HS.out];rfl,(Below.refl _ _).alloc (Nat.le_refl _) _⟩
 go_wp2;go_ret;exact⟨by rw[hi,HB.out,<-HX.out];rfl,(Below.refl _ _).alloc (Nat.le_refl _) _⟩
def nameAt(i c:Nat):Bool:=dA c == 3 || (dA c == 2 && decide (i≠0))
def fI(s:ByteArray)(k:Nat):Bool:=(List.range k).all fun i=>nameAt i (s.data.toList.getD i 0).toNat
theorem Xf(s:ByteArray)(k:Nat)(h:k<s.size):fI s (k+1)=(fI s k && nameAt k s[k].toNat):=by
 unfold fI;rw[List.range_succ,List.all_append];have e:s.data[k]?=some s[k]:=Array.getElem?_eq_getElem h;simp[e]
theorem VC(s:ByteArray)(k n:Nat)(h:k<=n)(hf:fI s k=false):fI s n=false:=by
 induction n with
 | zero=>
  have:k=0:=by omega
  subst this;exact hf
 | succ n ih=>
  by_cases e:k=n+1
  ·subst e;exact hf
  have:=ih (by omega);unfold fI at this⊢;rw[List.range_succ,List.all_append,this];rfl
def gk(s:ByteArray):Bool:=fI s s.size && decide (1<=s.size) && decide (s.size<=40)
