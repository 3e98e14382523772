import Derived.Test.YtjehgdjlncofeaaGreatZBldB
import Derived.Test.YtjehgdjlncofeaaGreatZEscQuote
import Derived.Test.YtjehgdjlncofeaaGreatZFirst
import Derived.Lib.IndexAny
set_option linter.unusedVariables false
set_option linter.unusedSimpArgs false
namespace Go.Proofs.YtjehgdjlncofeaaGreat
open Go.RowKit
def insS:ByteArray:=⟨#[47,93,94,45,34]⟩
def outS:ByteArray:=⟨#[47,40,41,91,93,124,42,43,63,46,34,126]⟩
def isPrint (c:Nat):Bool:=decide (32<=c) && decide (c<=126)
theorem zb4 (c:Nat) (w:World):
  Calls Tryz.prog 140 #[.int .u8 c] w fun e w'=>e=.returned (.bool (isPrint c))/\w=w':=by
 have HP:Hid (isPrint c=(decide (32<=c) && decide (c<=126))):=rfl
 rcases (by omega:c<32\/(32<=c/\c<=126)\/(32<=c/\126<c)) with h|⟨h,h'⟩|⟨h,h'⟩
 all_goals
  go_enter Tryz.func140,Tryz.ntmps140
  go_wp2_with fail
  go_ret
  exact⟨congrArg (fun b=>Ending.returned (.bool b)) (by rw[HP.out,Bool.eq_iff_iff];simp <;> omega),rfl⟩
def whereB (s:ByteArray) (c:Nat):Int:=Lib.indexByte s.data.toList c.toUInt8
theorem zdJ (s:ByteArray) (c:Nat) (hc:c<256):decide (0<=whereB s c)=inB s c:=by
 unfold whereB
 rw[<-Lib.contains_iff_indexByte,Bool.eq_iff_iff]
 unfold inB
 rw[List.contains_iff_mem,List.any_eq_true]
 constructor
 ·intro h
  exact⟨_,h,by simp[Nat.mod_eq_of_lt hc]⟩
 ·rintro⟨x,hx,e⟩
  have e:=eq_of_beq e
  rw[show c.toUInt8=x by rw[<-e];simp]
  exact hx
theorem zcK (s:ByteArray) (c:Nat) (w:World):
  Calls Tryz.prog 163 #[.string s,.int .u8 c] w fun e w'=>e=.returned (.int .i64 (whereB s c))/\w=w':=by
 refine (Tryz.strings_IndexByte s c w).mono ?_
 rintro e w' ⟨rfl,rfl⟩
 exact⟨rfl,rfl⟩
def hv (c:Nat):Nat:=if 48<=c/\c<=57 then c-48 else if 97<=c/\c<=102 then c-87 else 16
def rdNo:Nat × Nat × Bool:=(0,0,false)
def rdX:List Nat->Nat × Nat × Bool
 | x :: y :: _=>if hv x<16/\hv y<16 then (16*hv x+hv y,4,true) else rdNo
 | _=>rdNo
def rdB:List Nat->Nat × Nat × Bool
 | []=>rdNo
 | d :: u=>if d=110 then (10,2,true) else if d=116 then (9,2,true) else if d=114 then (13,2,true) else if d=120 then rdX u
   else if isPrint d && !isWord d then (d,2,true) else rdNo
def rd:List Nat->Nat × Nat × Bool
 | []=>rdNo
 | c :: t=>if c=92 then rdB t else (c,1,true)
def rdV (r:Nat × Nat × Bool):Value:=.tuple #[.int .u8 ((r.1:Nat):Int),.int .i64 ((r.2.1:Nat):Int),.bool r.2.2]
theorem zfS (a b:Nat) (o:Bool):rdV (a,b,o)=.tuple #[.int .u8 (a:Int),.int .i64 (b:Int),.bool o]:=rfl
theorem zom (l:List Nat):(rdX l).1<256/\(rdX l).2.1<=4/\((rdX l).2.2=true->(rdX l).2.1=4/\2<=l.length):=by
 unfold rdX
 split
 ·split
  ·refine⟨?_,by simp,by simp⟩
   simp;omega
  ·simp[rdNo]
 ·simp[rdNo]
theorem zmy (l:List Nat):(rdB l).1<256/\((rdB l).2.2=true->2<=(rdB l).2.1/\(rdB l).2.1<=l.length+1):=by
 unfold rdB
 split
 ·simp[rdNo]
 ·rename_i d u
  have h:=zom u
  repeat' split
  all_goals first
   | simp[rdNo];done
   | (
    refine⟨h.1,fun e=>?_⟩
    have:=h.2.2 e
    simp;omega)
   | (
    rename_i hd
    simp[isPrint] at hd⊢
    omega)
theorem znC (l:List Nat) (hl:∀n∈l,n<256):(rd l).1<256/\((rd l).2.2=true->1<=(rd l).2.1/\(rd l).2.1<=l.length):=by
 unfold rd
 split
 ·simp[rdNo]
 ·rename_i c t
  split
  ·have h:=zmy t
   refine⟨h.1,fun e=>?_⟩
   have:=h.2 e
   simp;omega
  ·simp
   exact hl c (by simp)
theorem zdK (s:ByteArray) (k:Nat) (h:k<s.size):(numsOf s).drop k=s[k].toNat :: (numsOf s).drop (k+1):=by
 have hl:k<(numsOf s).length:=by simpa [numsOf] using h
 rw[List.drop_eq_getElem_cons hl]
 simp[numsOf]
 rfl
theorem zaA (s:ByteArray):(numsOf s).length=s.size:=by simp[numsOf]
theorem zlN (s:ByteArray) (k:Nat) (h:s.size<=k):(numsOf s).drop k=[]:=List.drop_eq_nil_of_le (by rw[zaA];exact h)
theorem zdL (s:ByteArray) (a:Nat):numsOf (s.extract a s.size)=(numsOf s).drop a:=by
 unfold numsOf
 rw[Lib.extract_to_end,List.map_drop]
end Go.Proofs.YtjehgdjlncofeaaGreat
