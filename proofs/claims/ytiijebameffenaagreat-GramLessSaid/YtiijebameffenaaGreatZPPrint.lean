import Derived.Test.YtiijebameffenaaGreatZClasses
set_option linter.all false
namespace Go.Proofs.YtiijebameffenaaGreat
open Go.RowKit Go.Proofs.Tryz
def Bx(s:ByteArray)(c:Nat):Bool:=s.data.toList.any fun x=>x.toNat == c
def iK(c:Nat):Bool:=decide (48<=c) && decide (c<=57)
def isWord(c:Nat):Bool:=iK c || (decide (97<=c) && decide (c<=122)) || (decide (65<=c) && decide (c<=90))
def Bm(c:Nat):Bool:=c == 32 || c == 9 || c == 10 || c == 13
def cO(c:Nat):Nat:=if Bm c then 1 else if iK c then 2 else if isWord c || c == 95 then 3 else if 32<c/\c<127 then 4 else 0
def nameAt(i c:Nat):Bool:=cO c == 3 || (cO c == 2 && decide (i≠0))
def fo(s:ByteArray)(k:Nat):Bool:=(List.range k).all fun i=>nameAt i (s.data.toList.getD i 0).toNat
theorem S4(s:ByteArray)(k:Nat)(h:k<s.size):fo s (k+1)=(fo s k && nameAt k s[k].toNat):=by
 unfold fo;rw[List.range_succ,List.all_append];have e:s.data[k]?=some s[k]:=Array.getElem?_eq_getElem h;simp[e]
theorem WU(s:ByteArray)(k n:Nat)(h:k<=n)(hf:fo s k=false):fo s n=false:=by
 induction n with
 | zero=>
  have:k=0:=by omega
  subst this;exact hf
 | succ n ih=>
  by_cases e:k=n+1
  ·subst e;exact hf
  have:=ih (by omega);unfold fo at this⊢;rw[List.range_succ,List.all_append,this];rfl
def bD(s:ByteArray):Bool:=fo s s.size && decide (1<=s.size) && decide (s.size<=40)
def ep(c:Nat):Bool:=decide (32<=c) && decide (c<=126)
theorem Ix(c:Nat)(w:World):
  Calls prog 105 #[.int .u8 c] w fun e w'=>e=.returned (.bool (ep c))/\w=w':=by
 have HP:Hid (ep c=(decide (32<=c) && decide (c<=126))):=rfl;rcases (by omega:c<32\/(32<=c/\c<=126)\/(32<=c/\126<c)) with h|⟨h,h'⟩|⟨h,h'⟩
 all_goals
  go_enter func105,ntmps105
  go_wp2
  go_ret
  exact⟨congrArg (fun b=>Ending.returned (.bool b)) (by rw[HP.out,Bool.eq_iff_iff];simp <;> omega),rfl⟩
end Go.Proofs.YtiijebameffenaaGreat
