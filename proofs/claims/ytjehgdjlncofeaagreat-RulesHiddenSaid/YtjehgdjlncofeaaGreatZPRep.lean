import Derived.Test.YtjehgdjlncofeaaGreatZPWhole
set_option linter.unusedVariables false
set_option linter.unusedSimpArgs false
set_option maxHeartbeats 2000000
set_option maxRecDepth 100000
open Go.Lib (hid)
namespace Go.Proofs.YtjehgdjlncofeaaGreat
open Go.RowKit Go.Maps Go.WideElems Go.ChangeMaps Go.MapKept
theorem zfD (x:Nat) (h:x<18446744073709551616):IntKind.u64.wrap (x:Int)=(x:Int):=by
 simp only[IntKind.wrap,IntKind.bits,IntKind.signed]
 simp
 omega
theorem zdz (N:Nat) (hN:N<4294967296):bits .and .u64 (N:Int) 4294967295=(N:Int):=by
 have h:=u64_and_nat N 4294967295 (by omega) (by omega)
 have e:N &&& 4294967295=N:=by
  rw[show (4294967295:Nat)=2 ^ 32-1 from rfl,Nat.and_two_pow_sub_one_eq_mod,Nat.mod_eq_of_lt hN]
 rw[e] at h
 exact h
theorem zjD (N:Nat) (hN:N<=100000) (w:World):Calls Tryz.prog 122 #[.int .u64 1,.int .u64 (N:Int)] w fun e w'=>e=.returned (.tuple #[.int .u64 0,.int .u64 (N:Int)])/\w=w':=by
 have h1:(N:Int) % 4294967296=(N:Int):=by omega
 have h2:(N:Int) / 4294967296=0:=by omega
 have h3:=zdz N (by omega)
 have h4:bits .and .u64 1 4294967295=1:=zdz 1 (by omega)
 have h5:bits .and .u64 0 4294967295=0:=zdz 0 (by omega)
 have h6:IntKind.u64.wrap (N:Int)=(N:Int):=zfD N (by omega)
 have h7:IntKind.u64.wrap 0=0:=by decide
 go_enter Tryz.func122,Tryz.ntmps122
 go_wp2_with fail
 go_ret2
 exact⟨rfl,rfl⟩
theorem zlk (N:Nat) (hN:N<=100000) (w:World):Calls Tryz.prog 84 #[.int .u64 1,.int .u64 (N:Int)] w fun e w'=>e=.returned (.tuple #[.int .u64 0,.int .u64 (N:Int)])/\w=w':=by
 have HM:=hid (zjD N hN w)
 go_enter Tryz.func84,Tryz.ntmps84
 go_wp2_with fail
 refine HM.out.mono ?_
 rintro e w2 ⟨rfl,rfl⟩
 go_wp2_with fail
 go_ret2
 exact⟨rfl,rfl⟩
def zeS (N:Nat) (w:World) (e:Ending) (w':World):Prop:=
 ∃g,e=.returned (.slice (some ⟨g,0,none⟩) N N)/\w'.ownsRow w.heap.size 3 1 (.slice (some ⟨g,0,none⟩) N N) N (ints (List.replicate N (-1)))/\Below w.heap.size w w'
def repC (N n:Nat):List Value:=List.replicate n (.int .i64 (-1))++List.replicate (N-n) (.int .i64 0)
theorem zeT (N n:Nat) (h:n<=N):(repC N n).length=N:=by simp[repC];omega
theorem zgB (N n m:Nat) (h:n+m<=N):splice (repC N n) n (List.replicate m (.int .i64 (-1)))=repC N (n+m):=by
 unfold splice repC
 rw[List.take_append_of_le_length (by simp),List.take_of_length_le (by simp),List.length_replicate,List.drop_append]
 simp only[List.length_replicate,List.drop_replicate]
 rw[show n-(n+m)=0 by omega,List.replicate_zero,List.nil_append,<-List.append_assoc,List.replicate_append_replicate,show N-n-(n+m-n)=N-(n+m) by omega]
theorem zll (N:Nat):splice (List.replicate N (Value.int .i64 0)) 0 [.int .i64 (-1)]=repC N 1\/N=0:=by
 rcases Nat.eq_zero_or_pos N with h|h
 ·exact Or.inr h
 ·left
  unfold splice repC
  simp
theorem zee (N:Nat) (hN0:1<=N) (hN:N<=100000) (g:Nat) (w:World) (hc:w.cell? ⟨g,0,none⟩=some (.int .i64 (-1))) (hg:g<w.heap.size):
  Calls Tryz.prog 54 #[.slice (some ⟨g,0,none⟩) 1 1,.int .i64 (N:Int)] w (zeS N w):=by
 have HM:=hid (zlk N hN w)
 have hm:=zbI N (by omega)
 have i1:¬((N:Int)<0):=by omega
 have i2:IntKind.u64.wrap (N:Int)=(N:Int):=zfD N (by omega)
 have i3:¬((N:Int) > 9223372036854775807):=by omega
 have i4:IntKind.i64.wrap (N:Int)=(N:Int):=IntWalk.i64_in _ (by omega)
 have i5:IntKind.u64.wrap 1=1:=by decide
 have iI:=Tryz.info_int9
 go_enter Tryz.func54,Tryz.ntmps54
 go_wp2_with fail
 refine HM.out.mono ?_
 rintro e w2 ⟨rfl,rfl⟩
 go_upto_region 7 with fail
 have HG:Hid ((w.alloc (.cells (madeCells #[.int .i64 0] N) 3)).heap[w.heap.size]?=some (.cells (List.replicate N (.int .i64 0)).toArray 3 (0,0))/\Below w.heap.size w (w.alloc (.cells (madeCells #[.int .i64 0] N) 3))):=by
  refine⟨?_,al w _⟩
  have:=(zbf (zbO w w.heap.size N 3 (.int .i64 0) (Nat.le_refl _) (by unfold maxLen;omega))).1
  exact this
 have hc2:(w.alloc (.cells (madeCells #[.int .i64 0] N) 3)).cell? ⟨g,0,none⟩=some (.int .i64 (-1)):=((al w _).cell (p:=⟨g,0,none⟩) hg).trans hc
 obtain⟨gN,hgN⟩:∃gN,w.heap.size=gN:=⟨_,rfl⟩
 rw[hgN] at HG⊢
 generalize w.alloc (.cells (madeCells #[.int .i64 0] N) 3)=W1 at HG hc2⊢
 have hmin:Nat.min 1 N=1:=Nat.min_eq_left hN0
 have HgN:=hid hgN
 clear hgN hm hc HM
 have hsrc:∀j v,([Value.int .i64 (-1)]:List Value)[j]?=some v->W1.cell? ((⟨g,0,none⟩:Addr).add j)=some v:=fun j v hj=>by
  have:j=0:=by
   have:=(List.getElem?_eq_some_iff.1 hj).1
   simpa using this
  subst this
  simp at hj
  rw[<-hj]
  exact hc2
 have Hsrc:=hid hsrc
 clear hsrc
 have hsz1:(Tryz.prog.info? 3).map (·.size)=some 1:=by kernel_rfl
 have hP1:0<([Value.int .i64 (-1)]:List Value).length->(some ⟨gN,0,none⟩:Option Addr)=some ⟨gN,0,none⟩/\∃ad,(some ⟨g,0,none⟩:Option Addr)=some ad/\∀j v,([Value.int .i64 (-1)]:List Value)[j]?=some v->W1.cell? (ad.add j)=some v:=fun _=>⟨rfl,⟨g,0,none⟩,rfl,Hsrc.out⟩
 have hP2:0+([Value.int .i64 (-1)]:List Value).length<=(List.replicate N (Value.int .i64 0)).length:=by rw[List.length_replicate];show 0+1<=N;omega
 have hP3:∀v∈([Value.int .i64 (-1)]:List Value),v.oneCell'=true:=by intro v hv;rw[List.mem_singleton.1 hv];rfl
 have HP:=hid (And.intro hP1 (And.intro hP2 hP3))
 have Hmin:=hid hmin
 clear hP1 hP2 hP3 hmin
 go_wp2_with (refine wpList_copy_splice rfl _ _ _ _ rfl 3 Tryz.underlying30 hsz1 (some ⟨gN,0,none⟩) (some ⟨g,0,none⟩) N N 1 1 rfl rfl gN 0 (List.replicate N (.int .i64 0)) 3 HG.out.1 [.int .i64 (-1)] Hmin.out.symm HP.out.1 HP.out.2.1 HP.out.2.2 gN w HG.out.2 (Nat.le_refl _) ?_)
 intro W2 hG2 hB2
 have H2:Hid (W2.heap[gN]?=some (.cells (repC N 1).toArray 3 (0,0))/\Below gN w W2):=by
  refine⟨?_,hB2⟩
  have h:=hG2.out
  rcases zll N with e|e
  ·rw[e] at h;exact h
  ·omega
 clear hG2 hB2 HG hc2
 go_wp2_with fail
 go_loopw [8] (fun v wr=>∃n:Nat,v=.int .i64 n/\1<=n/\n<=N/\Hid (wr.heap[gN]?=some (.cells (repC N n).toArray 3 (0,0))/\Below gN w wr)) (fun v _=>N-(intOf v).toNat)
 case atStart=>exact⟨1,rfl,Nat.le_refl _,hN0,H2.out⟩
 case round=>
  clear H2
  obtain⟨n,rfl,hn1,hn,HL⟩:=hrel
  by_cases hlt:n<N
  ·have j1:(n:Int)<(N:Int):=by omega
   have j2:(n:Int)<=(N:Int):=by omega
   obtain⟨m,hmm⟩:∃m,min n (N-n)=m:=⟨_,rfl⟩
   have hm1:1<=m/\n+m<=N/\m<=n:=by omega
   have hmm2:Nat.min n (N-n)=m:=hmm
   have hP0:(List.replicate m (Value.int .i64 (-1))).length=Nat.min n (N-n):=by rw[List.length_replicate,hmm2]
   have hP1:0<(List.replicate m (Value.int .i64 (-1))).length->(some ⟨gN,n,none⟩:Option Addr)=some ⟨gN,n,none⟩/\∃ad,(some ⟨gN,0,none⟩:Option Addr)=some ad/\∀j v,(List.replicate m (Value.int .i64 (-1)))[j]?=some v->wr.drew.cell? (ad.add j)=some v:=fun _=>⟨rfl,⟨gN,0,none⟩,rfl,fun j v hj=>by
    have hj2:j<m:=by simpa using (List.getElem?_eq_some_iff.1 hj).1
    have hv:v=.int .i64 (-1):=by
     have:=(List.getElem?_eq_some_iff.1 hj).2
     simpa using this.symm
    have hc:wr.cell? ⟨gN,j,none⟩=(repC N n).toArray[j]?:=cell_of_row wr gN j _ _ _ HL.out.1
    have e:(⟨gN,0,none⟩:Addr).add j=⟨gN,j,none⟩:=by unfold Addr.add;split <;> simp_all
    rw[e]
    show wr.cell? ⟨gN,j,none⟩=some v
    rw[hc,hv]
    simp[repC,List.getElem?_append,show j<n by omega]⟩
   have hP2:n+(List.replicate m (Value.int .i64 (-1))).length<=(repC N n).length:=by rw[List.length_replicate,zeT N n hn];omega
   have hP3:∀v∈List.replicate m (Value.int .i64 (-1)),v.oneCell'=true:=by intro v hv;rw[List.eq_of_mem_replicate hv];rfl
   have HP:=hid (And.intro hP0 (And.intro hP1 (And.intro hP2 hP3)))
   have HG9:Hid (wr.drew.heap[gN]?=some (.cells (repC N n).toArray 3 (0,0))/\Below gN w wr.drew):=⟨HL.out.1,HL.out.2.drew⟩
   have HS:Hid (splice (repC N n) n (List.replicate m (Value.int .i64 (-1)))=repC N (n+m)):=zgB N n m hm1.2.1
   have Hm:=hid (And.intro hmm hm1)
   clear hP0 hP1 hP2 hP3 hmm hmm2 hm1
   have hne:¬(N=n):=by omega
   go_upto_region 9 with fail
   refine wp_region_held_drew (S:=fun W'=>Below gN w W') (by kernel_rfl) HG9.out.2 (fun hHeld=>?_)
   (refine tkA 0 ?_;refine tkA 1 ?_;refine tkA 2 ?_;refine tkA 3 ?_;refine tkA 4 ?_;refine tkA 5 ?_;refine tkA 6 ?_;try simp only[Act.put,sA,sB,sC])
   refine rd1 7 (fun K hK=>?_)
   ·skip
    refine step_copy_splice (by rfl) _ _ _ _ (by rfl) 3 Tryz.underlying30 hsz1 (some ⟨gN,n,none⟩) (some ⟨gN,0,none⟩) (N-n) (N-n) n N (by rfl) (by rfl) gN n (repC N n) 3 HG9.out.1 (List.replicate m (Value.int .i64 (-1))) HP.out.1 HP.out.2.1 HP.out.2.2.1 HP.out.2.2.2 gN w HG9.out.2 (Nat.le_refl _) ?_
    intro W5 hG5 hB5
    have H5:Hid (W5.heap[gN]?=some (.cells (repC N (n+m)).toArray 3 (0,0))/\Below gN w W5):=by
     have h:=hG5.out
     rw[HS.out] at h
     exact⟨h,hB5⟩
    have hlen:(List.replicate m (Value.int .i64 (-1))).length=m:=List.length_replicate
    rw[hlen]
    refine hK.out _ _ (hB5) (fun hHeld=>?_)
    clear hK K
    try simp only[Act.put,sA,sB,sC]
    have w1:(n:Int)+(m:Int)<=100000:=by have:=Hm.out.2;omega
    have w2:IntKind.i64.wrap ((n:Int)+(m:Int))=(n:Int)+(m:Int):=IntWalk.i64_in _ (by omega)
    (refine tkA 8 ?_;refine tkA 9 ?_;try simp only[Act.put,sA,sB,sC])
    refine wpAnyH_done (by kernel_rfl) ?_ _
    clear hG5 hB5 HG9 HP HL HS hHeld
    go_wp2_with fail
    go_roundw
    case rel=>exact⟨n+m,by go_num,by have:=Hm.out.2;omega,by have:=Hm.out.2;omega,H5.out⟩
    case measure=>(have h8:=Hm.out.2;have h9:((n:Int)+(m:Int)).toNat=n+m:=(by omega);simp[intOf];omega)
  ·obtain rfl:n=N:=by omega
   have HF:Hid (zeS n w (.returned (.slice (some ⟨gN,0,none⟩) n n)) wr):=by
    refine⟨gN,rfl,?_,by rw[HgN.out];exact HL.out.2⟩
    rw[HgN.out]
    have e:repC n n=ints (List.replicate n (-1)):=by simp[repC,ints]
    refine⟨by simp[ints],Or.inr ⟨gN,n,_,rfl,Nat.le_refl _,HL.out.1,Nat.le_refl _,by unfold maxLen;omega,by simp[zeT n n (Nat.le_refl _)],?_⟩⟩
    rw[<-e]
    simp[List.take_of_length_le,zeT n n (Nat.le_refl _)]
   clear HL
   go_wp2_with fail
   go_ret
   exact HF.out
end Go.Proofs.YtjehgdjlncofeaaGreat
