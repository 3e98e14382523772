import Derived.Test.YtkkhakmdjinenaaGreatZDRLan
import Derived.Test.YtkkhakmdjinenaaGreatZQAwk
import Derived.Test.YtkkhakmdjinenaaGreatZRPParse
set_option linter.all false
namespace Go.Proofs.YtkkhakmdjinenaaGreat
open Go.RowKit Go.Maps Go.WideElems Go.ChangeMaps Go.MapKept
theorem znA{s:ByteArray}{a b:Nat}(h:nu s a)(k:nu s b):a=b:=by
 rcases h with ⟨rfl,h⟩|⟨rfl,l,h,_⟩ <;> rcases k with ⟨rfl,k⟩|⟨rfl,l',k,_⟩
 ·rfl
 ·exact absurd k (h l')
 ·exact absurd h (k l)
 rfl
theorem Y0{s:ByteArray}{l:List Pc}(h:eQ (aa s)=some l)(hl:l.length<=400):∃t,fU s t/\t.flat=l:=by
 have h2:bh (dB 99) ([],aa s)=some (l,[]):=by
  unfold eQ at h;rcases ho:bh (dB 99) ([],aa s) with _|⟨l',r⟩
  ·rw[ho] at h;cases h
  rw[ho] at h;cases r with
  | nil=>simp at h;rw[h]
  | cons a r=>simp at h
 obtain⟨t,hw,hf⟩:=WI (BH s) h2;exact⟨t,⟨hw,by rw[hf];exact h2,by rw[hf];exact hl⟩,hf⟩
theorem UU{s:ByteArray}(hs:s.size<=1600){k:Int}(h:(1600<s.size/\k=6)\/(s.size<=1600/\eQ (aa s)=none/\k=5)\/(s.size<=1600/\k=6/\∃l,eQ (aa s)=some l/\400<l.length)):∃e5:Nat,nu s e5/\k=(e5:Int)/\k≠0:=by
 rcases h with ⟨h,_⟩|⟨_,h,rfl⟩|⟨_,rfl,l,h,hl⟩
 ·omega
 ·refine⟨5,Or.inl ⟨rfl,fun l hl=>?_⟩,rfl,by decide⟩;unfold eQ at h;rw[hl] at h;simp at h
 refine⟨6,Or.inr ⟨rfl,l,?_,hl⟩,rfl,by decide⟩;unfold eQ at h;rcases ho:bh (dB 99) ([],aa s) with _|⟨l',r⟩
 ·rw[ho] at h;cases h
 rw[ho] at h;cases r with
 | nil=>simp at h;rw[h]
 | cons a r=>simp at h
