import Derived.Test.YtjehgdjlncofeaaGreatZPAdd
set_option linter.unusedVariables false
set_option linter.unusedSimpArgs false
set_option maxHeartbeats 4000000
set_option maxRecDepth 100000
open Go.Lib (hid)
namespace Go.Proofs.YtjehgdjlncofeaaGreat
open Go.RowKit
theorem zb0 (s:ByteArray) (h:0<s.size):numsOf s=s[0].toNat :: (numsOf s).drop 1:=by
 have:=zdK s 0 h
 simpa using this
theorem zdc (s:ByteArray) (h:s.size=0):numsOf s=[]:=by
 have:=zaA s
 exact List.length_eq_zero_iff.1 (by omega)
theorem zbE (s:ByteArray) (h:s.size=0):s.toList=[]:=by rw[ByteArray.toList_eq];exact List.eq_nil_of_length_eq_zero (by simpa using h)
theorem zaM (base b:Nat) (acc:List Pc) (s:ByteArray) (d c:Nat) (w:World) (h:Prs base b acc s d w) (hc:skipT c (numsOf s)=none):
  Calls Tryz.prog 131 #[.pointer (some ⟨b,0,none⟩),.int .u8 c] w fun e w'=>e=.returned (.bool false)/\w=w':=by
 obtain⟨c0,-⟩:=h.rest
 clear h
 rcases Nat.eq_zero_or_pos s.size with hz|hp
 ·have hl:s.toList=[]:=zbE s hz
  have hl2:s.toList.isEmpty=true:=by rw[hl];rfl
  clear hc hz
  go_enter Tryz.func131,Tryz.ntmps131
  go_wp2_with fail
  go_ret
  exact⟨rfl,rfl⟩
 ·have hl:s.toList.isEmpty=false:=zbm s hp
  have hl2:(!s.toList.isEmpty)=true:=by rw[hl];rfl
  have hne:s[0].toNat≠c:=by
   intro e
   rw[zb0 s hp] at hc
   simp[skipT,e] at hc
  have e0:((s[0].toNat:Int) != (c:Int))=true:=by simp;omega
  clear hc hne
  go_enter Tryz.func131,Tryz.ntmps131
  go_wp2_with fail
  go_ret
  exact⟨rfl,rfl⟩
theorem za3 (base b:Nat) (acc:List Pc) (s:ByteArray) (d c:Nat) (r:List Nat) (w:World) (h:Prs base b acc s d w) (hc:skipT c (numsOf s)=some r) (hs:s.size<=10000):
  Calls Tryz.prog 131 #[.pointer (some ⟨b,0,none⟩),.int .u8 c] w fun e w'=>e=.returned (.bool true)/\KeptP base b w w'/\∃s',numsOf s'=r/\s'.size+1=s.size/\Prs base b acc s' d w':=by
 obtain⟨c0,f0⟩:=h.rest
 have HP:=hid h
 clear h
 have e:=zaS hc
 have hsz:=zaA s
 rw[e] at hsz
 simp at hsz
 have hp:0<s.size:=by omega
 have hl:s.toList.isEmpty=false:=zbm s hp
 have hl2:(!s.toList.isEmpty)=true:=by rw[hl];rfl
 have h2:=zb0 s hp
 rw[e] at h2
 simp at h2
 have e0:((s[0].toNat:Int) != (c:Int))=false:=by simp;omega
 have HR:Hid (numsOf (s.extract 1 s.size)=r):=by show _=_;rw[zdL,e];rfl
 have HZ:Hid ((s.extract 1 s.size).size+1=s.size):=by show _=_;rw[ByteArray.size_extract];omega
 clear hc e hsz h2
 go_enter Tryz.func131,Tryz.ntmps131
 go_wp2_with fail
 go_ret
 exact⟨rfl,(KeptP.refl base b w).set HP.out.1 0 _,_,HR.out,HZ.out,HP.out.setRest _⟩
theorem zgu (base b:Nat) (acc:List Pc) (s sp:ByteArray) (d:Nat) (w:World) (h:Prs base b acc s d w) (hs:s.size<=10000) (hc:prRead sp (numsOf s)=none):
  Calls Tryz.prog 171 #[.pointer (some ⟨b,0,none⟩),.string sp] w fun e w'=>e=.returned (.tuple #[.int .u8 0,.bool false])/\Below w.heap.size w w':=by
 obtain⟨c0,f0⟩:=h.rest
 clear h
 unfold prRead at hc
 have hlt:=znC (numsOf s) (zdk s)
 rcases hr:rd (numsOf s) with ⟨a,n,o⟩
 rw[hr] at hc hlt
 simp only at hc hlt
 have HR:=hid hr
 have HM:Hid (s.size<=maxLen):=by show _<=_;unfold maxLen;omega
 clear hr
 rcases o with _|_
 ·clear hc
  go_enter Tryz.func171,Tryz.ntmps171
  go_wp2_with fail
  refine (zcA s HM.out _).mono ?_
  rintro e w1 ⟨rfl,b1⟩
  rw[HR.out,zfS]
  go_wp2_with fail
  go_ret2
  exact⟨rfl,b1⟩
 ·have hc2:n=1/\inB sp a=true:=by simpa using hc
  obtain⟨rfl,h2⟩:=hc2
  have h3:=zdJ sp a hlt.1
  rw[h2] at h3
  have h4:0<=whereB sp a:=by simpa using h3
  clear hc h2 h3 hlt
  go_enter Tryz.func171,Tryz.ntmps171
  go_wp2_with fail
  refine (zcA s HM.out _).mono ?_
  rintro e w1 ⟨rfl,b1⟩
  rw[HR.out,zfS]
  go_wp2_with fail
  refine (zcK sp a _).mono ?_
  rintro e w2 ⟨rfl,rfl⟩
  go_wp2_with fail
  go_ret2
  exact⟨rfl,b1⟩
theorem zbR (base b:Nat) (acc:List Pc) (s sp:ByteArray) (d c:Nat) (r:List Nat) (w:World) (h:Prs base b acc s d w) (hs:s.size<=10000) (hc:prRead sp (numsOf s)=some (c,r)):
  Calls Tryz.prog 171 #[.pointer (some ⟨b,0,none⟩),.string sp] w fun e w'=>e=.returned (.tuple #[.int .u8 c,.bool true])/\c<256/\KeptP base b w w'/\∃s',numsOf s'=r/\s'.size<s.size/\Prs base b acc s' d w':=by
 obtain⟨c0,f0⟩:=h.rest
 have HP:=hid h
 have hlow:=h.low
 have hbl:=h.lt
 have hlen:=zcf hc
 clear h
 unfold prRead at hc
 have hlt:=znC (numsOf s) (zdk s)
 rcases hr:rd (numsOf s) with ⟨a,n,o⟩
 rw[hr] at hc hlt
 simp only at hc hlt
 have HR:=hid hr
 have HM:Hid (s.size<=maxLen):=by show _<=_;unfold maxLen;omega
 clear hr
 split at hc
 ·rename_i hcc
  obtain⟨rfl,hcc⟩:=hcc
  simp only[Option.some.injEq,Prod.mk.injEq] at hc
  obtain⟨rfl,hc⟩:=hc
  have hn:=hlt.2 rfl
  rw[zaA] at hn
  have ha:=hlt.1
  have HRR:Hid (numsOf (s.extract n s.size)=r):=by show _=_;rw[zdL,hc]
  have HZ:Hid ((s.extract n s.size).size<s.size):=by show _<_;rw[ByteArray.size_extract];omega
  have h3:=zdJ sp a ha
  have h4:n≠1\/whereB sp a<0:=by
   by_cases h1:n=1
   ·right
    have:inB sp a=false:=by
     rcases h5:inB sp a with _|_
     ·rfl
     ·exact absurd ⟨h1,h5⟩ hcc
    rw[this] at h3
    simpa using h3
   ·left;exact h1
  clear hc hlt hcc hlen h3
  rcases h4 with h4|h4
  ·have e1:((n:Int) == 1)=false:=by simp;omega
   go_enter Tryz.func171,Tryz.ntmps171
   go_wp2_with fail
   refine (zcA s HM.out _).mono ?_
   rintro e w1 ⟨rfl,b1⟩
   rw[HR.out,zfS]
   have HP1:=hid (HP.out.keep b1)
   obtain⟨d0,g0⟩:=HP1.out.rest
   have HK:=hid ((KeptP.refl base b w).below hlow b1)
   go_wp2_with fail
   go_ret2
   exact⟨rfl,ha,HK.out.set HP.out.1 0 _,_,HRR.out,HZ.out,HP1.out.setRest _⟩
  ·by_cases h5:n=1
   ·subst h5
    go_enter Tryz.func171,Tryz.ntmps171
    go_wp2_with fail
    refine (zcA s HM.out _).mono ?_
    rintro e w1 ⟨rfl,b1⟩
    rw[HR.out,zfS]
    have HP1:=hid (HP.out.keep b1)
    obtain⟨d0,g0⟩:=HP1.out.rest
    have HK:=hid ((KeptP.refl base b w).below hlow b1)
    go_wp2_with fail
    refine (zcK sp a _).mono ?_
    rintro e w2 ⟨rfl,rfl⟩
    go_wp2_with fail
    go_ret2
    exact⟨rfl,ha,HK.out.set HP.out.1 0 _,_,HRR.out,HZ.out,HP1.out.setRest _⟩
   ·have e1:((n:Int) == 1)=false:=by simp;omega
    go_enter Tryz.func171,Tryz.ntmps171
    go_wp2_with fail
    refine (zcA s HM.out _).mono ?_
    rintro e w1 ⟨rfl,b1⟩
    rw[HR.out,zfS]
    have HP1:=hid (HP.out.keep b1)
    obtain⟨d0,g0⟩:=HP1.out.rest
    have HK:=hid ((KeptP.refl base b w).below hlow b1)
    go_wp2_with fail
    go_ret2
    exact⟨rfl,ha,HK.out.set HP.out.1 0 _,_,HRR.out,HZ.out,HP1.out.setRest _⟩
 ·simp at hc
theorem KeptP.set4_ {base b:Nat}{w0 w:World}{g:Nat}(h:KeptP base b w0 w) (hg:base<=g) (hs:∃cs fz,w.heap[g]?=some (.cells cs 57 fz)) (hgn:w0.heap.size<=g) (d0 d1 d2 d3:Value):
  KeptP base b w0 ((((w.setCell ⟨g,0,none⟩ d0).setCell ⟨g,1,none⟩ d1).setCell ⟨g,2,none⟩ d2).setCell ⟨g,3,none⟩ d3):=by
 refine⟨zbp h.1 hg _ _ _ _,?_⟩
 intro k o hk hb ho
 have hlt:=(Array.getElem?_eq_some_iff.1 hk).1
 have h1:=h.2 k o hk hb ho
 rw[Below.heap_setCell _ _ _ _ (by show k≠g;omega),Below.heap_setCell _ _ _ _ (by show k≠g;omega),Below.heap_setCell _ _ _ _ (by show k≠g;omega),Below.heap_setCell _ _ _ _ (by show k≠g;omega)]
 exact h1
theorem Prs.set4_ {base b:Nat}{acc:List Pc}{s:ByteArray}{d:Nat}{w:World}{g:Nat}(h:Prs base b acc s d w) (hg:g≠b) (hs:∃cs fz,w.heap[g]?=some (.cells cs 57 fz)) (d0 d1 d2 d3:Value):
  Prs base b acc s d ((((w.setCell ⟨g,0,none⟩ d0).setCell ⟨g,1,none⟩ d1).setCell ⟨g,2,none⟩ d2).setCell ⟨g,3,none⟩ d3):=by
 obtain⟨h1,v,h2,h3,h4⟩:=h
 have hv:v.ownBlock≠some g:=by
  intro e
  obtain⟨c,fz,hc⟩:=Lib.ownsRow_kind h3 g e
  obtain⟨cs,fz',hs⟩:=hs
  rw[hs] at hc
  simp at hc
 refine⟨h1,v,?_,?_,h4⟩
 ·rw[Below.heap_setCell _ _ _ _ (by show b≠g;omega),Below.heap_setCell _ _ _ _ (by show b≠g;omega),Below.heap_setCell _ _ _ _ (by show b≠g;omega),Below.heap_setCell _ _ _ _ (by show b≠g;omega)]
  exact h2
 ·have step:∀(W:World) (j:Nat) (u:Value),W.ownsRow base 104 5 v acc.length (pcs acc)->(W.setCell ⟨g,j,none⟩ u).ownsRow base 104 5 v acc.length (pcs acc):=fun W j u ho=>ho.kept (row:=some g) ⟨rfl,rfl,rfl,by simp[World.setCell],fun k _ hk=>Below.heap_setCell _ _ _ _ (fun e=>hk (by simp[e]))⟩ (Or.inr hv)
  exact step _ _ _ (step _ _ _ (step _ _ _ (step _ _ _ h3)))
theorem St.is {w:World}{t g:Nat}{cs:Array Value}(h:St w t g cs):∃cs fz,w.heap[g]?=some (.cells cs t fz):=⟨cs,(0,0),h⟩
theorem zk9 (base b:Nat) (acc:List Pc) (s:ByteArray) (d:Nat) (w:World) (h:Prs base b acc s d w) (hs:s.size<=10000) (h1:prRead insS (numsOf s)=none):
  Calls Tryz.prog 185 #[.pointer (some ⟨b,0,none⟩)] w fun e w'=>(∃q:Nat->Bool,e=.returned (.tuple #[(.agg #[.int .u64 ((wd q 0:Nat):Int),.int .u64 ((wd q 1:Nat):Int),.int .u64 ((wd q 2:Nat):Int),.int .u64 ((wd q 3:Nat):Int)]),.bool false]))/\KeptP base b w w':=by
 have hbl:=h.lt
 have hlow:=h.low
 have HB:=h.1
 have HS0:=hid (St.new w 57 #[.int .u64 0,.int .u64 0,.int .u64 0,.int .u64 0])
 have k0:KeptP base b w (w.alloc (.cells #[.int .u64 0,.int .u64 0,.int .u64 0,.int .u64 0] 57)):=(KeptP.refl base b w).below hlow ((Below.refl _ w).alloc (Nat.le_refl _) _)
 have HP0:=hid (h.keep ((Below.refl _ w).alloc (Nat.le_refl _) (.cells #[.int .u64 0,.int .u64 0,.int .u64 0,.int .u64 0] 57)))
 have HK0:=hid k0
 clear h k0
 go_enter Tryz.func185,Tryz.ntmps185
 go_wp2_with fail
 refine (zgu base b acc s insS d _ HP0.out hs h1).mono ?_
 rintro e w1 ⟨rfl,b1⟩
 have HK1:=hid (HK0.out.below HP0.out.low b1)
 have HS1:=hid (HS0.out.keep b1)
 clear b1 HP0 HK0 HS0
 go_wp2_with fail
 refine (zb3 0 0 (by decide) (by decide) _).mono ?_
 rintro e w9 ⟨rfl,b9⟩
 have HK9:=hid (HK1.out.below (Nat.le_trans hlow HK1.out.size) b9)
 obtain⟨q0,q1,q2,q3,q4,q5,q6,q7⟩:=row4 (HS1.out.keep b9)
 have hsz9:=HK9.out.size
 have HS9:=hid (HS1.out.keep b9)
 clear b9
 go_wp2_with fail
 exact bodyPost_ret (v:=.tuple #[(.agg #[.int .u64 ((wd (ival 0 (0+1-0)) 0:Nat):Int),.int .u64 ((wd (ival 0 (0+1-0)) 1:Nat):Int),.int .u64 ((wd (ival 0 (0+1-0)) 2:Nat):Int),.int .u64 ((wd (ival 0 (0+1-0)) 3:Nat):Int)]),.bool false]) (by first|(simp[results,Tryz.results185,go_sem,q0,q1,q2,q3];done)|(simp[results,Tryz.results185,go_sem,q0,q1,q2,q3];omega)) rfl ⟨⟨_,rfl⟩,(HK9.out.set4_ hlow (HS9.out.is) (Nat.le_refl _) _ _ _ _)⟩
theorem zla (base b:Nat) (acc:List Pc) (s:ByteArray) (d:Nat) (a:Nat) (r r1:List Nat) (w:World) (h:Prs base b acc s d w) (hs:s.size<=10000) (h1:prRead insS (numsOf s)=some (a,r)) (h2:skipT 45 r=some r1) (h3:prRead insS r1=none):
  Calls Tryz.prog 185 #[.pointer (some ⟨b,0,none⟩)] w fun e w'=>(∃q:Nat->Bool,e=.returned (.tuple #[(.agg #[.int .u64 ((wd q 0:Nat):Int),.int .u64 ((wd q 1:Nat):Int),.int .u64 ((wd q 2:Nat):Int),.int .u64 ((wd q 3:Nat):Int)]),.bool false]))/\KeptP base b w w':=by
 have hbl:=h.lt
 have hlow:=h.low
 have HB:=h.1
 have HS0:=hid (St.new w 57 #[.int .u64 0,.int .u64 0,.int .u64 0,.int .u64 0])
 have k0:KeptP base b w (w.alloc (.cells #[.int .u64 0,.int .u64 0,.int .u64 0,.int .u64 0] 57)):=(KeptP.refl base b w).below hlow ((Below.refl _ w).alloc (Nat.le_refl _) _)
 have HP0:=hid (h.keep ((Below.refl _ w).alloc (Nat.le_refl _) (.cells #[.int .u64 0,.int .u64 0,.int .u64 0,.int .u64 0] 57)))
 have HK0:=hid k0
 clear h k0
 go_enter Tryz.func185,Tryz.ntmps185
 go_wp2_with fail
 refine (zbR base b acc s insS d a r _ HP0.out hs h1).mono ?_
 rintro e w1 ⟨rfl,hc1,k1,s1,hn1,hz1,hp1⟩
 have HK1:=hid (HK0.out.trans k1)
 have HS1:=hid (HS0.out.keptP k1 (by omega) (by decide))
 have HP1:=hid hp1
 have HN1:=hid hn1
 clear k1 hp1 hn1 HP0 HK0 HS0
 go_wp2_with fail
 refine (za3 base b acc s1 d 45 r1 _ HP1.out (by rw[HN1.out];exact h2) (by omega)).mono ?_
 rintro e w2 ⟨rfl,k2,s2,hn2,hz2,hp2⟩
 have HK2:=hid (HK1.out.trans k2)
 have HS2:=hid (HS1.out.keptP k2 (by omega) (by decide))
 have HP2:=hid hp2
 have HN2:=hid hn2
 clear k2 hp2 hn2 HP1 HK1 HS1
 go_wp2_with fail
 refine (zgu base b acc s2 insS d _ HP2.out (by omega) (by rw[HN2.out];exact h3)).mono ?_
 rintro e w3 ⟨rfl,b3⟩
 have HK3:=hid (HK2.out.below HP2.out.low b3)
 have HS3:=hid (HS2.out.keep b3)
 clear b3 HP2 HK2 HS2
 go_wp2_with fail
 refine (zb3 a 0 hc1 (by decide) _).mono ?_
 rintro e w9 ⟨rfl,b9⟩
 have HK9:=hid (HK3.out.below (Nat.le_trans hlow HK3.out.size) b9)
 obtain⟨q0,q1,q2,q3,q4,q5,q6,q7⟩:=row4 (HS3.out.keep b9)
 have hsz9:=HK9.out.size
 have HS9:=hid (HS3.out.keep b9)
 clear b9
 go_wp2_with fail
 exact bodyPost_ret (v:=.tuple #[(.agg #[.int .u64 ((wd (ival a (0+1-a)) 0:Nat):Int),.int .u64 ((wd (ival a (0+1-a)) 1:Nat):Int),.int .u64 ((wd (ival a (0+1-a)) 2:Nat):Int),.int .u64 ((wd (ival a (0+1-a)) 3:Nat):Int)]),.bool false]) (by first|(simp[results,Tryz.results185,go_sem,q0,q1,q2,q3];done)|(simp[results,Tryz.results185,go_sem,q0,q1,q2,q3];omega)) rfl ⟨⟨_,rfl⟩,(HK9.out.set4_ hlow (HS9.out.is) (Nat.le_refl _) _ _ _ _)⟩
theorem zlb (base b:Nat) (acc:List Pc) (s:ByteArray) (d:Nat) (a c:Nat) (r r1 r2:List Nat) (w:World) (h:Prs base b acc s d w) (hs:s.size<=10000) (h1:prRead insS (numsOf s)=some (a,r)) (h2:skipT 45 r=some r1) (h3:prRead insS r1=some (c,r2)) (h4:c<a):
  Calls Tryz.prog 185 #[.pointer (some ⟨b,0,none⟩)] w fun e w'=>(∃q:Nat->Bool,e=.returned (.tuple #[(.agg #[.int .u64 ((wd q 0:Nat):Int),.int .u64 ((wd q 1:Nat):Int),.int .u64 ((wd q 2:Nat):Int),.int .u64 ((wd q 3:Nat):Int)]),.bool false]))/\KeptP base b w w':=by
 have hbl:=h.lt
 have hlow:=h.low
 have HB:=h.1
 have HS0:=hid (St.new w 57 #[.int .u64 0,.int .u64 0,.int .u64 0,.int .u64 0])
 have k0:KeptP base b w (w.alloc (.cells #[.int .u64 0,.int .u64 0,.int .u64 0,.int .u64 0] 57)):=(KeptP.refl base b w).below hlow ((Below.refl _ w).alloc (Nat.le_refl _) _)
 have HP0:=hid (h.keep ((Below.refl _ w).alloc (Nat.le_refl _) (.cells #[.int .u64 0,.int .u64 0,.int .u64 0,.int .u64 0] 57)))
 have HK0:=hid k0
 clear h k0
 go_enter Tryz.func185,Tryz.ntmps185
 go_wp2_with fail
 refine (zbR base b acc s insS d a r _ HP0.out hs h1).mono ?_
 rintro e w1 ⟨rfl,hc1,k1,s1,hn1,hz1,hp1⟩
 have HK1:=hid (HK0.out.trans k1)
 have HS1:=hid (HS0.out.keptP k1 (by omega) (by decide))
 have HP1:=hid hp1
 have HN1:=hid hn1
 clear k1 hp1 hn1 HP0 HK0 HS0
 go_wp2_with fail
 refine (za3 base b acc s1 d 45 r1 _ HP1.out (by rw[HN1.out];exact h2) (by omega)).mono ?_
 rintro e w2 ⟨rfl,k2,s2,hn2,hz2,hp2⟩
 have HK2:=hid (HK1.out.trans k2)
 have HS2:=hid (HS1.out.keptP k2 (by omega) (by decide))
 have HP2:=hid hp2
 have HN2:=hid hn2
 clear k2 hp2 hn2 HP1 HK1 HS1
 go_wp2_with fail
 refine (zbR base b acc s2 insS d c r2 _ HP2.out (by omega) (by rw[HN2.out];exact h3)).mono ?_
 rintro e w3 ⟨rfl,hc3,k3,s3,hn3,hz3,hp3⟩
 have HK3:=hid (HK2.out.trans k3)
 have HS3:=hid (HS2.out.keptP k3 (by omega) (by decide))
 have HP3:=hid hp3
 have HN3:=hid hn3
 clear k3 hp3 hn3 HP2 HK2 HS2
 go_wp2_with fail
 refine (zb3 a c hc1 hc3 _).mono ?_
 rintro e w9 ⟨rfl,b9⟩
 have HK9:=hid (HK3.out.below HP3.out.low b9)
 have HP9:=hid (HP3.out.keep b9)
 obtain⟨q0,q1,q2,q3,q4,q5,q6,q7⟩:=row4 (HS3.out.keep b9)
 have hsz9:=HK9.out.size
 have HS9:=hid (HS3.out.keep b9)
 clear b9
 go_wp2_with fail
 exact bodyPost_ret (v:=.tuple #[(.agg #[.int .u64 ((wd (ival a (c+1-a)) 0:Nat):Int),.int .u64 ((wd (ival a (c+1-a)) 1:Nat):Int),.int .u64 ((wd (ival a (c+1-a)) 2:Nat):Int),.int .u64 ((wd (ival a (c+1-a)) 3:Nat):Int)]),.bool false]) (by first|(simp[results,Tryz.results185,go_sem,q0,q1,q2,q3];done)|(simp[results,Tryz.results185,go_sem,q0,q1,q2,q3];omega)) rfl ⟨⟨_,rfl⟩,(HK9.out.set4_ hlow (HS9.out.is) (Nat.le_refl _) _ _ _ _)⟩
theorem zjt (base b:Nat) (acc:List Pc) (s:ByteArray) (d:Nat) (a:Nat) (r:List Nat) (w:World) (h:Prs base b acc s d w) (hs:s.size<=10000) (h1:prRead insS (numsOf s)=some (a,r)) (h2:skipT 45 r=none):
  Calls Tryz.prog 185 #[.pointer (some ⟨b,0,none⟩)] w fun e w'=>e=.returned (.tuple #[(.agg #[.int .u64 ((wd (ival a (a+1-a)) 0:Nat):Int),.int .u64 ((wd (ival a (a+1-a)) 1:Nat):Int),.int .u64 ((wd (ival a (a+1-a)) 2:Nat):Int),.int .u64 ((wd (ival a (a+1-a)) 3:Nat):Int)]),.bool true])/\KeptP base b w w'/\∃s',numsOf s'=r/\s'.size<s.size/\Prs base b acc s' d w':=by
 have hbl:=h.lt
 have hlow:=h.low
 have HB:=h.1
 have HS0:=hid (St.new w 57 #[.int .u64 0,.int .u64 0,.int .u64 0,.int .u64 0])
 have k0:KeptP base b w (w.alloc (.cells #[.int .u64 0,.int .u64 0,.int .u64 0,.int .u64 0] 57)):=(KeptP.refl base b w).below hlow ((Below.refl _ w).alloc (Nat.le_refl _) _)
 have HP0:=hid (h.keep ((Below.refl _ w).alloc (Nat.le_refl _) (.cells #[.int .u64 0,.int .u64 0,.int .u64 0,.int .u64 0] 57)))
 have HK0:=hid k0
 clear h k0
 go_enter Tryz.func185,Tryz.ntmps185
 go_wp2_with fail
 refine (zbR base b acc s insS d a r _ HP0.out hs h1).mono ?_
 rintro e w1 ⟨rfl,hc1,k1,s1,hn1,hz1,hp1⟩
 have HK1:=hid (HK0.out.trans k1)
 have HS1:=hid (HS0.out.keptP k1 (by omega) (by decide))
 have HP1:=hid hp1
 have HN1:=hid hn1
 clear k1 hp1 hn1 HP0 HK0 HS0
 go_wp2_with fail
 refine (zaM base b acc s1 d 45 _ HP1.out (by rw[HN1.out];exact h2)).mono ?_
 rintro e w2 ⟨rfl,rfl⟩
 go_wp2_with fail
 refine (zb3 a a hc1 hc1 _).mono ?_
 rintro e w9 ⟨rfl,b9⟩
 have HK9:=hid (HK1.out.below HP1.out.low b9)
 have HP9:=hid (HP1.out.keep b9)
 obtain⟨q0,q1,q2,q3,q4,q5,q6,q7⟩:=row4 (HS1.out.keep b9)
 have hsz9:=HK9.out.size
 have HS9:=hid (HS1.out.keep b9)
 clear b9
 go_wp2_with fail
 exact bodyPost_ret (v:=.tuple #[(.agg #[.int .u64 ((wd (ival a (a+1-a)) 0:Nat):Int),.int .u64 ((wd (ival a (a+1-a)) 1:Nat):Int),.int .u64 ((wd (ival a (a+1-a)) 2:Nat):Int),.int .u64 ((wd (ival a (a+1-a)) 3:Nat):Int)]),.bool true]) (by first|(simp[results,Tryz.results185,go_sem,q0,q1,q2,q3];done)|(simp[results,Tryz.results185,go_sem,q0,q1,q2,q3];omega)) rfl ⟨rfl,(HK9.out.set4_ hlow (HS9.out.is) (Nat.le_refl _) _ _ _ _),s1,HN1.out,hz1,HP9.out.set4_ (by omega) (HS9.out.is) _ _ _ _⟩
theorem zju (base b:Nat) (acc:List Pc) (s:ByteArray) (d:Nat) (a c:Nat) (r r1 r2:List Nat) (w:World) (h:Prs base b acc s d w) (hs:s.size<=10000) (h1:prRead insS (numsOf s)=some (a,r)) (h2:skipT 45 r=some r1) (h3:prRead insS r1=some (c,r2)) (h4:a<=c):
  Calls Tryz.prog 185 #[.pointer (some ⟨b,0,none⟩)] w fun e w'=>e=.returned (.tuple #[(.agg #[.int .u64 ((wd (ival a (c+1-a)) 0:Nat):Int),.int .u64 ((wd (ival a (c+1-a)) 1:Nat):Int),.int .u64 ((wd (ival a (c+1-a)) 2:Nat):Int),.int .u64 ((wd (ival a (c+1-a)) 3:Nat):Int)]),.bool true])/\KeptP base b w w'/\∃s',numsOf s'=r2/\s'.size<s.size/\Prs base b acc s' d w':=by
 have hbl:=h.lt
 have hlow:=h.low
 have HB:=h.1
 have HS0:=hid (St.new w 57 #[.int .u64 0,.int .u64 0,.int .u64 0,.int .u64 0])
 have k0:KeptP base b w (w.alloc (.cells #[.int .u64 0,.int .u64 0,.int .u64 0,.int .u64 0] 57)):=(KeptP.refl base b w).below hlow ((Below.refl _ w).alloc (Nat.le_refl _) _)
 have HP0:=hid (h.keep ((Below.refl _ w).alloc (Nat.le_refl _) (.cells #[.int .u64 0,.int .u64 0,.int .u64 0,.int .u64 0] 57)))
 have HK0:=hid k0
 clear h k0
 go_enter Tryz.func185,Tryz.ntmps185
 go_wp2_with fail
 refine (zbR base b acc s insS d a r _ HP0.out hs h1).mono ?_
 rintro e w1 ⟨rfl,hc1,k1,s1,hn1,hz1,hp1⟩
 have HK1:=hid (HK0.out.trans k1)
 have HS1:=hid (HS0.out.keptP k1 (by omega) (by decide))
 have HP1:=hid hp1
 have HN1:=hid hn1
 clear k1 hp1 hn1 HP0 HK0 HS0
 go_wp2_with fail
 refine (za3 base b acc s1 d 45 r1 _ HP1.out (by rw[HN1.out];exact h2) (by omega)).mono ?_
 rintro e w2 ⟨rfl,k2,s2,hn2,hz2,hp2⟩
 have HK2:=hid (HK1.out.trans k2)
 have HS2:=hid (HS1.out.keptP k2 (by omega) (by decide))
 have HP2:=hid hp2
 have HN2:=hid hn2
 clear k2 hp2 hn2 HP1 HK1 HS1
 go_wp2_with fail
 refine (zbR base b acc s2 insS d c r2 _ HP2.out (by omega) (by rw[HN2.out];exact h3)).mono ?_
 rintro e w3 ⟨rfl,hc3,k3,s3,hn3,hz3,hp3⟩
 have HK3:=hid (HK2.out.trans k3)
 have HS3:=hid (HS2.out.keptP k3 (by omega) (by decide))
 have HP3:=hid hp3
 have HN3:=hid hn3
 clear k3 hp3 hn3 HP2 HK2 HS2
 go_wp2_with fail
 refine (zb3 a c hc1 hc3 _).mono ?_
 rintro e w9 ⟨rfl,b9⟩
 have HK9:=hid (HK3.out.below HP3.out.low b9)
 have HP9:=hid (HP3.out.keep b9)
 obtain⟨q0,q1,q2,q3,q4,q5,q6,q7⟩:=row4 (HS3.out.keep b9)
 have hsz9:=HK9.out.size
 have HS9:=hid (HS3.out.keep b9)
 clear b9
 go_wp2_with fail
 exact bodyPost_ret (v:=.tuple #[(.agg #[.int .u64 ((wd (ival a (c+1-a)) 0:Nat):Int),.int .u64 ((wd (ival a (c+1-a)) 1:Nat):Int),.int .u64 ((wd (ival a (c+1-a)) 2:Nat):Int),.int .u64 ((wd (ival a (c+1-a)) 3:Nat):Int)]),.bool true]) (by first|(simp[results,Tryz.results185,go_sem,q0,q1,q2,q3];done)|(simp[results,Tryz.results185,go_sem,q0,q1,q2,q3];omega)) rfl ⟨rfl,(HK9.out.set4_ hlow (HS9.out.is) (Nat.le_refl _) _ _ _ _),s3,HN3.out,by omega,HP9.out.set4_ (by omega) (HS9.out.is) _ _ _ _⟩
theorem zjv (base b:Nat) (acc:List Pc) (s:ByteArray) (d:Nat) (w:World) (h:Prs base b acc s d w) (hs:s.size<=10000) (hc:prSpan (numsOf s)=none):
  Calls Tryz.prog 185 #[.pointer (some ⟨b,0,none⟩)] w fun e w'=>(∃q:Nat->Bool,e=.returned (.tuple #[(.agg #[.int .u64 ((wd q 0:Nat):Int),.int .u64 ((wd q 1:Nat):Int),.int .u64 ((wd q 2:Nat):Int),.int .u64 ((wd q 3:Nat):Int)]),.bool false]))/\KeptP base b w w':=by
 unfold prSpan at hc
 rcases h1:prRead insS (numsOf s) with _|⟨a,r⟩
 ·exact zk9 base b acc s d w h hs h1
 ·rw[h1] at hc
  simp only at hc
  rcases h2:skipT 45 r with _|r1
  ·simp[h2] at hc
  ·rw[h2] at hc
   simp only at hc
   rcases h3:prRead insS r1 with _|⟨c,r2⟩
   ·exact zla base b acc s d a r r1 w h hs h1 h2 h3
   ·rw[h3] at hc
    simp only at hc
    exact zlb base b acc s d a c r r1 r2 w h hs h1 h2 h3 (by
     rcases Nat.lt_or_ge c a with h|h
     ·exact h
     ·simp[h] at hc)
theorem zhs (base b:Nat) (acc:List Pc) (s:ByteArray) (d a c:Nat) (r:List Nat) (w:World) (h:Prs base b acc s d w) (hs:s.size<=10000) (hc:prSpan (numsOf s)=some (a,c,r)):
  Calls Tryz.prog 185 #[.pointer (some ⟨b,0,none⟩)] w fun e w'=>e=.returned (.tuple #[(.agg #[.int .u64 ((wd (ival a (c+1-a)) 0:Nat):Int),.int .u64 ((wd (ival a (c+1-a)) 1:Nat):Int),.int .u64 ((wd (ival a (c+1-a)) 2:Nat):Int),.int .u64 ((wd (ival a (c+1-a)) 3:Nat):Int)]),.bool true])/\KeptP base b w w'/\∃s',numsOf s'=r/\s'.size<s.size/\Prs base b acc s' d w':=by
 unfold prSpan at hc
 rcases h1:prRead insS (numsOf s) with _|⟨a1,r1⟩
 ·simp[h1] at hc
 ·rw[h1] at hc
  simp only at hc
  rcases h2:skipT 45 r1 with _|r2
  ·simp[h2] at hc
   obtain⟨rfl,rfl,rfl⟩:=hc
   exact zjt base b acc s d a1 r1 w h hs h1 h2
  ·rw[h2] at hc
   simp only at hc
   rcases h3:prRead insS r2 with _|⟨c1,r3⟩
   ·simp[h3] at hc
   ·rw[h3] at hc
    simp only at hc
    split at hc
    ·rename_i hle
     simp at hc
     obtain⟨rfl,rfl,rfl⟩:=hc
     exact zju base b acc s d a1 c1 r1 r2 r3 w h hs h1 h2 h3 hle
    ·simp at hc
def strAt (w:World) (a:Addr):Nat:=match w.cell? a with
 | some (.string s)=>s.size
 | _=>0
theorem Prs.strAt {base b:Nat}{acc:List Pc}{s:ByteArray}{d:Nat}{w:World}(h:Prs base b acc s d w):strAt w ⟨b,0,none⟩=s.size:=by
 unfold Go.Proofs.YtjehgdjlncofeaaGreat.strAt
 rw[h.rest.1]
theorem zcY (f:Nat) (q:Nat->Bool) (s:List Nat) (a c:Nat) (r:List Nat) (hf:s.length<f) (h1:skipT 93 s=none) (h2:prSpan s=some (a,c,r)):
  ∃g,r.length<g/\prSpans f q s=prSpans g (fun x=>q x || ival a (c+1-a) x) r:=by
 match f,hf with
 | f+1,hf=>
  have:=(zeg h2).1
  exact⟨f,by omega,by simp only[prSpans,h1,h2]⟩
theorem zdx (f:Nat) (q:Nat->Bool) (s r:List Nat) (hf:s.length<f) (h1:skipT 93 s=some r):prSpans f q s=some (q,r):=by
 match f,hf with
 | f+1,hf=>simp only[prSpans,h1]
theorem zed (f:Nat) (q:Nat->Bool) (s:List Nat) (hf:s.length<f) (h1:skipT 93 s=none) (h2:prSpan s=none):prSpans f q s=none:=by
 match f,hf with
 | f+1,hf=>simp only[prSpans,h1,h2]
theorem zb1 (t:Nat):(#[.int .u64 0,.int .u64 0,.int .u64 0,.int .u64 0]:Array Value)=#[.int .u64 ((wd empP 0:Nat):Int),.int .u64 ((wd empP 1:Nat):Int),.int .u64 ((wd empP 2:Nat):Int),.int .u64 ((wd empP 3:Nat):Int)]:=by
 have e:∀j,((wd empP j:Nat):Int)=0:=fun j=>by unfold empP;rw[zbN];rfl
 simp only[e]
def zcy (base b:Nat) (acc:List Pc) (d:Nat) (o:Option ((Nat->Bool) × List Nat)) (w:World) (e:Ending) (w':World):Prop:=
 KeptP base b w w'/\(o=none->e=.returned (.bool false))/\∀q r,o=some (q,r)->e=.returned (.bool true)/\∃s',numsOf s'=r/\Prs base b (acc++[⟨1,q⟩]) s' d w'
theorem znf (base b:Nat) (acc:List Pc) (s:ByteArray) (d:Nat) (h0:skipT 94 (numsOf s)=none) (w:World) (h:Prs base b acc s d w) (hs:s.size<=10000) (hacc:acc.length<=10000):
  Calls Tryz.prog 170 #[.pointer (some ⟨b,0,none⟩)] w (zcy base b acc d (prSet (numsOf s)) w):=by
 have HX:Hid (prSet (numsOf s)=match prSpans ((numsOf s).length+1) empP (numsOf s) with
  | none=>none
  | some (q,r1)=>if noneB q=true then none else some (q,r1)):=by
  show _=_
  simp only[prSet,h0]
  rfl
 generalize prSet (numsOf s)=O at HX⊢
 have hbl:=h.lt
 have hlow:=h.low
 have hB:=h.1
 unfold zcy
 go_enter Tryz.func170,Tryz.ntmps170
 go_wp2_with fail
 refine (zaM base b acc s d 94 _ h h0).mono ?_
 rintro e w1 ⟨rfl,rfl⟩
 obtain⟨s1,hn1,hz1,hp1⟩:∃s1,numsOf s1=numsOf s/\s1.size<=s.size/\Prs base b acc s1 d w:=⟨s,rfl,Nat.le_refl _,h⟩
 have k1:KeptP base b w w:=KeptP.refl _ _ _
 obtain⟨R,hR⟩:∃R,prSpans ((numsOf s).length+1) empP (numsOf s)=R:=⟨_,rfl⟩
 rw[hR] at HX
 have HR0:=hid hR
 have K1:=hid (k1.below (Nat.le_trans hlow k1.size) ((Below.refl _ w).alloc (Nat.le_refl _) (.cells #[.int .u64 0,.int .u64 0,.int .u64 0,.int .u64 0] 57)))
 have P1:=hid (hp1.keep ((Below.refl _ w).alloc (Nat.le_refl _) (.cells #[.int .u64 0,.int .u64 0,.int .u64 0,.int .u64 0] 57)))
 have S1:Hid (St (w.alloc (.cells #[.int .u64 0,.int .u64 0,.int .u64 0,.int .u64 0] 57)) 57 w.heap.size #[.int .u64 ((wd empP 0:Nat):Int),.int .u64 ((wd empP 1:Nat):Int),.int .u64 ((wd empP 2:Nat):Int),.int .u64 ((wd empP 3:Nat):Int)]):=by
  have:=St.new w 57 #[.int .u64 0,.int .u64 0,.int .u64 0,.int .u64 0]
  rw[zb1 57] at this
  rw[zb1 57]
  exact this
 have hbl1:=hp1.lt
 have hw1:=k1.size
 have HN1:=hid hn1
 have hbg:w.heap.size≠b:=by omega
 clear hR h k1 hp1 hn1 h0
 go_wp2_with fail
 go_loopw [9] (fun _ wr=>∃(f:Nat) (q:Nat->Bool) (s':ByteArray),(numsOf s').length<f/\Hid (prSpans f q (numsOf s')=R)/\s'.size<=s.size/\Hid (Prs base b acc s' d wr)/\Hid (St wr 57 w.heap.size #[.int .u64 ((wd q 0:Nat):Int),.int .u64 ((wd q 1:Nat):Int),.int .u64 ((wd q 2:Nat):Int),.int .u64 ((wd q 3:Nat):Int)])/\Hid (KeptP base b w wr)/\w.heap.size<wr.heap.size) (fun _ wr=>strAt wr ⟨b,0,none⟩)
 case atStart=>exact⟨_,empP,s1,Nat.lt_succ_self _,by show prSpans _ _ _=_;rw[HN1.out];exact HR0.out,by omega,P1,S1,K1,by simp⟩
 case round=>
  clear P1 S1 K1 HR0
  obtain⟨f,q,s',hf,HQ,hsz,P2,S2,K2,hgl⟩:=hrel
  rcases h1:skipT 93 (numsOf s') with _|r
  ·have HK:=hid h1
   rcases h2:prSpan (numsOf s') with _|⟨a,c,r⟩
   ·have HZ:Hid (O=none):=by
     have:=HQ.out
     rw[zed f q _ hf h1 h2] at this
     show _=_
     rw[HX.out,<-this]
    have H2:=hid h2
    clear h1 h2 HX HQ
    go_wp2_with fail
    refine (zaM base b acc s' d 93 _ P2.out HK.out).mono ?_
    rintro e w2 ⟨rfl,rfl⟩
    go_wp2_with fail
    refine (zjv base b acc s' d _ P2.out (by omega) H2.out).mono ?_
    rintro e w3 ⟨⟨q3,rfl⟩,k3⟩
    have K3:=K2.out.trans k3
    have hs3:=K3.size
    clear k3
    go_wp2_with fail
    go_ret
    exact⟨K3.below (Nat.le_trans hlow hs3) ((Below.refl _ w3).alloc (Nat.le_refl _) _),fun _=>rfl,fun q r e=>by rw[HZ.out] at e;simp at e⟩
   ·obtain⟨f2,hf2,hstep⟩:=zcY f q _ a c r hf h1 h2
    have HQ2:Hid (prSpans f2 (fun x=>q x || ival a (c+1-a) x) r=R):=by show _=_;rw[<-hstep];exact HQ.out
    have H2:=hid h2
    have hstr:=P2.out.strAt
    clear h1 h2 HQ hstep
    go_wp2_with fail
    refine (zaM base b acc s' d 93 _ P2.out HK.out).mono ?_
    rintro e w2 ⟨rfl,rfl⟩
    go_wp2_with fail
    refine (zhs base b acc s' d a c r _ P2.out (by omega) H2.out).mono ?_
    rintro e w3 ⟨rfl,k3,s3,hn3,hz3,hp3⟩
    have s3_:=S2.out.keptP k3 hbg (by decide)
    have hs3:=k3.size
    have K3:=hid ((K2.out.trans k3).below (Nat.le_trans hlow (K2.out.trans k3).size) ((Below.refl _ w3).alloc (Nat.le_refl _) (.cells #[.int .u64 ((wd (ival a (c+1-a)) 0:Nat):Int),.int .u64 ((wd (ival a (c+1-a)) 1:Nat):Int),.int .u64 ((wd (ival a (c+1-a)) 2:Nat):Int),.int .u64 ((wd (ival a (c+1-a)) 3:Nat):Int)] 57)))
    have P3:=hid (hp3.keep ((Below.refl _ w3).alloc (Nat.le_refl _) (.cells #[.int .u64 ((wd (ival a (c+1-a)) 0:Nat):Int),.int .u64 ((wd (ival a (c+1-a)) 1:Nat):Int),.int .u64 ((wd (ival a (c+1-a)) 2:Nat):Int),.int .u64 ((wd (ival a (c+1-a)) 3:Nat):Int)] 57)))
    have S3:=hid (s3_.alloc (.cells #[.int .u64 ((wd (ival a (c+1-a)) 0:Nat):Int),.int .u64 ((wd (ival a (c+1-a)) 1:Nat):Int),.int .u64 ((wd (ival a (c+1-a)) 2:Nat):Int),.int .u64 ((wd (ival a (c+1-a)) 3:Nat):Int)] 57))
    have T3:=hid (St.new w3 57 #[.int .u64 ((wd (ival a (c+1-a)) 0:Nat):Int),.int .u64 ((wd (ival a (c+1-a)) 1:Nat):Int),.int .u64 ((wd (ival a (c+1-a)) 2:Nat):Int),.int .u64 ((wd (ival a (c+1-a)) 3:Nat):Int)])
    obtain⟨c0,c1,c2,c3,-⟩:=row4 S3.out
    obtain⟨d0,d1,d2,d3,-⟩:=row4 T3.out
    have HN3:=hid hn3
    clear k3 hp3 hn3 s3_ P2 S2 K2
    go_wp2_with fail
    refine (zmj q (ival a (c+1-a)) _).mono ?_
    rintro e w5 ⟨rfl,b5⟩
    have s5:=S3.out.keep b5
    have hs5:=b5.size
    simp at hs5
    obtain⟨r0,r1_,r2_,r3_,r4_,r5_,r6_,r7_⟩:=row4 s5
    have KK:=hid ((K3.out.below (Nat.le_trans hlow K3.out.size) b5).set4_ (g:=w.heap.size) (by omega) (s5.is) (by omega) (.int .u64 ((wd (fun x=>q x || ival a (c+1-a) x) 0:Nat):Int)) (.int .u64 ((wd (fun x=>q x || ival a (c+1-a) x) 1:Nat):Int)) (.int .u64 ((wd (fun x=>q x || ival a (c+1-a) x) 2:Nat):Int)) (.int .u64 ((wd (fun x=>q x || ival a (c+1-a) x) 3:Nat):Int)))
    have PP:=hid ((P3.out.keep b5).set4_ (g:=w.heap.size) (by omega) (s5.is) (.int .u64 ((wd (fun x=>q x || ival a (c+1-a) x) 0:Nat):Int)) (.int .u64 ((wd (fun x=>q x || ival a (c+1-a) x) 1:Nat):Int)) (.int .u64 ((wd (fun x=>q x || ival a (c+1-a) x) 2:Nat):Int)) (.int .u64 ((wd (fun x=>q x || ival a (c+1-a) x) 3:Nat):Int)))
    have SS:=hid (s5.set4 (.int .u64 ((wd (fun x=>q x || ival a (c+1-a) x) 0:Nat):Int)) (.int .u64 ((wd (fun x=>q x || ival a (c+1-a) x) 1:Nat):Int)) (.int .u64 ((wd (fun x=>q x || ival a (c+1-a) x) 2:Nat):Int)) (.int .u64 ((wd (fun x=>q x || ival a (c+1-a) x) 3:Nat):Int)))
    have hstr2:=PP.out.strAt
    clear b5 s5 S3 T3 K3 P3 c0 c1 c2 c3 d0 d1 d2 d3
    go_wp2_with fail
    go_roundw
    case rel=>exact⟨f2,fun x=>q x || ival a (c+1-a) x,s3,by rw[HN3.out];exact hf2,by show prSpans _ _ _=_;rw[HN3.out];exact HQ2.out,by omega,PP,SS,KK,by rw[znV];omega⟩
    case measure=>first|(simp only[hstr,hstr2];omega)|(rw[hstr,hstr2];omega)
  ·have HY:Hid (O=if noneB q=true then none else some (q,r)):=by
    have:=HQ.out
    rw[zdx f q _ r hf h1] at this
    show _=_
    rw[HX.out,<-this]
   have HK:=hid h1
   clear h1 HX HQ
   go_wp2_with fail
   refine (za3 base b acc s' d 93 r _ P2.out HK.out (by omega)).mono ?_
   rintro e w2 ⟨rfl,k2,s2,hn2,hz2,hp2⟩
   have S3:=hid (S2.out.keptP k2 hbg (by decide))
   have K3:=hid (K2.out.trans k2)
   have P3:=hid hp2
   have HN2:=hid hn2
   obtain⟨c0,c1,c2,c3,-⟩:=row4 S3.out
   have hsz2:=k2.size
   clear k2 hp2 hn2 S2 K2 P2
   go_wp2_with fail
   have KK:=K3
   have PP:=P3
   have SS:=S3
   clear K3 P3 S3
   obtain⟨c0,c1,c2,c3,-⟩:=row4 SS.out
   go_wp2_with fail
   refine (zcP base b acc s2 d 1 q _ PP.out hacc).mono ?_
   rintro e w7 ⟨rfl,hp7,k7⟩
   have s7:=SS.out.keptP k7 hbg (by decide)
   have K7:=hid (KK.out.trans k7)
   have P7:=hid hp7
   clear c0 c1 c2 c3 k7 hp7 KK PP SS
   obtain⟨c0,c1,c2,c3,-⟩:=row4 s7
   obtain⟨o,ho⟩:∃o,noneB q=o:=⟨_,rfl⟩
   have HO:=hid ho
   clear ho
   go_wp2_with fail
   refine (zew q o HO.out _).mono ?_
   rintro e w8 ⟨rfl,b8⟩
   have K8:=K7.out.below (Nat.le_trans hlow K7.out.size) b8
   have P8:=P7.out.keep b8
   rcases o with _|_
   ·have HZ:Hid (O=some (q,r)):=by show _=_;rw[HY.out,HO.out];rfl
    go_wp2_with fail
    go_ret
    refine⟨K8,fun e=>by rw[HZ.out] at e;simp at e,fun q' r' e=>?_⟩
    rw[HZ.out] at e
    simp only[Option.some.injEq,Prod.mk.injEq] at e
    obtain⟨rfl,rfl⟩:=e
    exact⟨rfl,s2,HN2.out,P8⟩
   ·have HZ:Hid (O=none):=by show _=_;rw[HY.out,HO.out];rfl
    go_wp2_with fail
    go_ret
    exact⟨K8,fun _=>rfl,fun q' r' e=>by rw[HZ.out] at e;simp at e⟩
theorem zng (base b:Nat) (acc:List Pc) (s:ByteArray) (d:Nat) (rr:List Nat) (h0:skipT 94 (numsOf s)=some rr) (w:World) (h:Prs base b acc s d w) (hs:s.size<=10000) (hacc:acc.length<=10000):
  Calls Tryz.prog 170 #[.pointer (some ⟨b,0,none⟩)] w (zcy base b acc d (prSet (numsOf s)) w):=by
 have HX:Hid (prSet (numsOf s)=match prSpans (rr.length+1) empP rr with
  | none=>none
  | some (q,r1)=>if noneB (fun x=>!q x)=true then none else some ((fun x=>!q x),r1)):=by
  show _=_
  simp only[prSet,h0]
  rfl
 generalize prSet (numsOf s)=O at HX⊢
 have hbl:=h.lt
 have hlow:=h.low
 have hB:=h.1
 unfold zcy
 go_enter Tryz.func170,Tryz.ntmps170
 go_wp2_with fail
 refine (za3 base b acc s d 94 rr _ h h0 hs).mono ?_
 rintro e w1 ⟨rfl,k1,s1,hn1,hz1,hp1⟩
 obtain⟨R,hR⟩:∃R,prSpans (rr.length+1) empP rr=R:=⟨_,rfl⟩
 rw[hR] at HX
 have HR0:=hid hR
 have K1:=hid (k1.below (Nat.le_trans hlow k1.size) ((Below.refl _ w1).alloc (Nat.le_refl _) (.cells #[.int .u64 0,.int .u64 0,.int .u64 0,.int .u64 0] 57)))
 have P1:=hid (hp1.keep ((Below.refl _ w1).alloc (Nat.le_refl _) (.cells #[.int .u64 0,.int .u64 0,.int .u64 0,.int .u64 0] 57)))
 have S1:Hid (St (w1.alloc (.cells #[.int .u64 0,.int .u64 0,.int .u64 0,.int .u64 0] 57)) 57 w1.heap.size #[.int .u64 ((wd empP 0:Nat):Int),.int .u64 ((wd empP 1:Nat):Int),.int .u64 ((wd empP 2:Nat):Int),.int .u64 ((wd empP 3:Nat):Int)]):=by
  have:=St.new w1 57 #[.int .u64 0,.int .u64 0,.int .u64 0,.int .u64 0]
  rw[zb1 57] at this
  rw[zb1 57]
  exact this
 have hbl1:=hp1.lt
 have hw1:=k1.size
 have HN1:=hid hn1
 have hbg:w1.heap.size≠b:=by omega
 clear hR h k1 hp1 hn1 h0
 go_wp2_with fail
 go_loopw [9] (fun _ wr=>∃(f:Nat) (q:Nat->Bool) (s':ByteArray),(numsOf s').length<f/\Hid (prSpans f q (numsOf s')=R)/\s'.size<=s.size/\Hid (Prs base b acc s' d wr)/\Hid (St wr 57 w1.heap.size #[.int .u64 ((wd q 0:Nat):Int),.int .u64 ((wd q 1:Nat):Int),.int .u64 ((wd q 2:Nat):Int),.int .u64 ((wd q 3:Nat):Int)])/\Hid (KeptP base b w wr)/\w1.heap.size<wr.heap.size) (fun _ wr=>strAt wr ⟨b,0,none⟩)
 case atStart=>exact⟨_,empP,s1,Nat.lt_succ_self _,by show prSpans _ _ _=_;rw[HN1.out];exact HR0.out,by omega,P1,S1,K1,by simp⟩
 case round=>
  clear P1 S1 K1 HR0
  obtain⟨f,q,s',hf,HQ,hsz,P2,S2,K2,hgl⟩:=hrel
  rcases h1:skipT 93 (numsOf s') with _|r
  ·have HK:=hid h1
   rcases h2:prSpan (numsOf s') with _|⟨a,c,r⟩
   ·have HZ:Hid (O=none):=by
     have:=HQ.out
     rw[zed f q _ hf h1 h2] at this
     show _=_
     rw[HX.out,<-this]
    have H2:=hid h2
    clear h1 h2 HX HQ
    go_wp2_with fail
    refine (zaM base b acc s' d 93 _ P2.out HK.out).mono ?_
    rintro e w2 ⟨rfl,rfl⟩
    go_wp2_with fail
    refine (zjv base b acc s' d _ P2.out (by omega) H2.out).mono ?_
    rintro e w3 ⟨⟨q3,rfl⟩,k3⟩
    have K3:=K2.out.trans k3
    have hs3:=K3.size
    clear k3
    go_wp2_with fail
    go_ret
    exact⟨K3.below (Nat.le_trans hlow hs3) ((Below.refl _ w3).alloc (Nat.le_refl _) _),fun _=>rfl,fun q r e=>by rw[HZ.out] at e;simp at e⟩
   ·obtain⟨f2,hf2,hstep⟩:=zcY f q _ a c r hf h1 h2
    have HQ2:Hid (prSpans f2 (fun x=>q x || ival a (c+1-a) x) r=R):=by show _=_;rw[<-hstep];exact HQ.out
    have H2:=hid h2
    have hstr:=P2.out.strAt
    clear h1 h2 HQ hstep
    go_wp2_with fail
    refine (zaM base b acc s' d 93 _ P2.out HK.out).mono ?_
    rintro e w2 ⟨rfl,rfl⟩
    go_wp2_with fail
    refine (zhs base b acc s' d a c r _ P2.out (by omega) H2.out).mono ?_
    rintro e w3 ⟨rfl,k3,s3,hn3,hz3,hp3⟩
    have s3_:=S2.out.keptP k3 hbg (by decide)
    have hs3:=k3.size
    have K3:=hid ((K2.out.trans k3).below (Nat.le_trans hlow (K2.out.trans k3).size) ((Below.refl _ w3).alloc (Nat.le_refl _) (.cells #[.int .u64 ((wd (ival a (c+1-a)) 0:Nat):Int),.int .u64 ((wd (ival a (c+1-a)) 1:Nat):Int),.int .u64 ((wd (ival a (c+1-a)) 2:Nat):Int),.int .u64 ((wd (ival a (c+1-a)) 3:Nat):Int)] 57)))
    have P3:=hid (hp3.keep ((Below.refl _ w3).alloc (Nat.le_refl _) (.cells #[.int .u64 ((wd (ival a (c+1-a)) 0:Nat):Int),.int .u64 ((wd (ival a (c+1-a)) 1:Nat):Int),.int .u64 ((wd (ival a (c+1-a)) 2:Nat):Int),.int .u64 ((wd (ival a (c+1-a)) 3:Nat):Int)] 57)))
    have S3:=hid (s3_.alloc (.cells #[.int .u64 ((wd (ival a (c+1-a)) 0:Nat):Int),.int .u64 ((wd (ival a (c+1-a)) 1:Nat):Int),.int .u64 ((wd (ival a (c+1-a)) 2:Nat):Int),.int .u64 ((wd (ival a (c+1-a)) 3:Nat):Int)] 57))
    have T3:=hid (St.new w3 57 #[.int .u64 ((wd (ival a (c+1-a)) 0:Nat):Int),.int .u64 ((wd (ival a (c+1-a)) 1:Nat):Int),.int .u64 ((wd (ival a (c+1-a)) 2:Nat):Int),.int .u64 ((wd (ival a (c+1-a)) 3:Nat):Int)])
    obtain⟨c0,c1,c2,c3,-⟩:=row4 S3.out
    obtain⟨d0,d1,d2,d3,-⟩:=row4 T3.out
    have HN3:=hid hn3
    clear k3 hp3 hn3 s3_ P2 S2 K2
    go_wp2_with fail
    refine (zmj q (ival a (c+1-a)) _).mono ?_
    rintro e w5 ⟨rfl,b5⟩
    have s5:=S3.out.keep b5
    have hs5:=b5.size
    simp at hs5
    obtain⟨r0,r1_,r2_,r3_,r4_,r5_,r6_,r7_⟩:=row4 s5
    have KK:=hid ((K3.out.below (Nat.le_trans hlow K3.out.size) b5).set4_ (g:=w1.heap.size) (by omega) (s5.is) (by omega) (.int .u64 ((wd (fun x=>q x || ival a (c+1-a) x) 0:Nat):Int)) (.int .u64 ((wd (fun x=>q x || ival a (c+1-a) x) 1:Nat):Int)) (.int .u64 ((wd (fun x=>q x || ival a (c+1-a) x) 2:Nat):Int)) (.int .u64 ((wd (fun x=>q x || ival a (c+1-a) x) 3:Nat):Int)))
    have PP:=hid ((P3.out.keep b5).set4_ (g:=w1.heap.size) (by omega) (s5.is) (.int .u64 ((wd (fun x=>q x || ival a (c+1-a) x) 0:Nat):Int)) (.int .u64 ((wd (fun x=>q x || ival a (c+1-a) x) 1:Nat):Int)) (.int .u64 ((wd (fun x=>q x || ival a (c+1-a) x) 2:Nat):Int)) (.int .u64 ((wd (fun x=>q x || ival a (c+1-a) x) 3:Nat):Int)))
    have SS:=hid (s5.set4 (.int .u64 ((wd (fun x=>q x || ival a (c+1-a) x) 0:Nat):Int)) (.int .u64 ((wd (fun x=>q x || ival a (c+1-a) x) 1:Nat):Int)) (.int .u64 ((wd (fun x=>q x || ival a (c+1-a) x) 2:Nat):Int)) (.int .u64 ((wd (fun x=>q x || ival a (c+1-a) x) 3:Nat):Int)))
    have hstr2:=PP.out.strAt
    clear b5 s5 S3 T3 K3 P3 c0 c1 c2 c3 d0 d1 d2 d3
    go_wp2_with fail
    go_roundw
    case rel=>exact⟨f2,fun x=>q x || ival a (c+1-a) x,s3,by rw[HN3.out];exact hf2,by show prSpans _ _ _=_;rw[HN3.out];exact HQ2.out,by omega,PP,SS,KK,by rw[znV];omega⟩
    case measure=>first|(simp only[hstr,hstr2];omega)|(rw[hstr,hstr2];omega)
  ·have HY:Hid (O=if noneB (fun x=>!q x)=true then none else some ((fun x=>!q x),r)):=by
    have:=HQ.out
    rw[zdx f q _ r hf h1] at this
    show _=_
    rw[HX.out,<-this]
   have HK:=hid h1
   clear h1 HX HQ
   go_wp2_with fail
   refine (za3 base b acc s' d 93 r _ P2.out HK.out (by omega)).mono ?_
   rintro e w2 ⟨rfl,k2,s2,hn2,hz2,hp2⟩
   have S3:=hid (S2.out.keptP k2 hbg (by decide))
   have K3:=hid (K2.out.trans k2)
   have P3:=hid hp2
   have HN2:=hid hn2
   obtain⟨c0,c1,c2,c3,-⟩:=row4 S3.out
   have hsz2:=k2.size
   clear k2 hp2 hn2 S2 K2 P2
   go_wp2_with fail
   refine (zjd q _).mono ?_
   rintro e w5 ⟨rfl,b5⟩
   have s5:=S3.out.keep b5
   obtain⟨r0,r1_,r2_,r3_,r4_,r5_,r6_,r7_⟩:=row4 s5
   have KK:=hid ((K3.out.below (Nat.le_trans hlow K3.out.size) b5).set4_ (g:=w1.heap.size) (by omega) (s5.is) (by omega) (.int .u64 ((wd (fun x=>!q x) 0:Nat):Int)) (.int .u64 ((wd (fun x=>!q x) 1:Nat):Int)) (.int .u64 ((wd (fun x=>!q x) 2:Nat):Int)) (.int .u64 ((wd (fun x=>!q x) 3:Nat):Int)))
   have PP:=hid ((P3.out.keep b5).set4_ (g:=w1.heap.size) (by omega) (s5.is) (.int .u64 ((wd (fun x=>!q x) 0:Nat):Int)) (.int .u64 ((wd (fun x=>!q x) 1:Nat):Int)) (.int .u64 ((wd (fun x=>!q x) 2:Nat):Int)) (.int .u64 ((wd (fun x=>!q x) 3:Nat):Int)))
   have SS:=hid (s5.set4 (.int .u64 ((wd (fun x=>!q x) 0:Nat):Int)) (.int .u64 ((wd (fun x=>!q x) 1:Nat):Int)) (.int .u64 ((wd (fun x=>!q x) 2:Nat):Int)) (.int .u64 ((wd (fun x=>!q x) 3:Nat):Int)))
   clear b5 s5 S3 K3 P3 c0 c1 c2 c3
   go_wp2_with fail
   generalize ((((w5.setCell _ _).setCell _ _).setCell _ _).setCell _ _)=w6 at KK PP SS⊢
   obtain⟨c0,c1,c2,c3,-⟩:=row4 SS.out
   go_wp2_with fail
   refine (zcP base b acc s2 d 1 (fun x=>!q x) _ PP.out hacc).mono ?_
   rintro e w7 ⟨rfl,hp7,k7⟩
   have s7:=SS.out.keptP k7 hbg (by decide)
   have K7:=hid (KK.out.trans k7)
   have P7:=hid hp7
   clear c0 c1 c2 c3 k7 hp7 KK PP SS
   obtain⟨c0,c1,c2,c3,-⟩:=row4 s7
   obtain⟨o,ho⟩:∃o,noneB (fun x=>!q x)=o:=⟨_,rfl⟩
   have HO:=hid ho
   clear ho
   go_wp2_with fail
   refine (zew (fun x=>!q x) o HO.out _).mono ?_
   rintro e w8 ⟨rfl,b8⟩
   have K8:=K7.out.below (Nat.le_trans hlow K7.out.size) b8
   have P8:=P7.out.keep b8
   rcases o with _|_
   ·have HZ:Hid (O=some ((fun x=>!q x),r)):=by show _=_;rw[HY.out,HO.out];rfl
    go_wp2_with fail
    go_ret
    refine⟨K8,fun e=>by rw[HZ.out] at e;simp at e,fun q' r' e=>?_⟩
    rw[HZ.out] at e
    simp only[Option.some.injEq,Prod.mk.injEq] at e
    obtain⟨rfl,rfl⟩:=e
    exact⟨rfl,s2,HN2.out,P8⟩
   ·have HZ:Hid (O=none):=by show _=_;rw[HY.out,HO.out];rfl
    go_wp2_with fail
    go_ret
    exact⟨K8,fun _=>rfl,fun q' r' e=>by rw[HZ.out] at e;simp at e⟩
theorem znh (base b:Nat) (acc:List Pc) (s:ByteArray) (d:Nat) (w:World) (h:Prs base b acc s d w) (hs:s.size<=10000) (hacc:acc.length<=10000):
  Calls Tryz.prog 170 #[.pointer (some ⟨b,0,none⟩)] w (zcy base b acc d (prSet (numsOf s)) w):=by
 rcases h0:skipT 94 (numsOf s) with _|rr
 ·exact znf base b acc s d h0 w h hs hacc
 ·exact zng base b acc s d rr h0 w h hs hacc
def ParPost (base b d:Nat) (o:Option PSt) (w:World) (e:Ending) (w':World):Prop:=
 KeptP base b w w'/\(o=none->e=.returned (.bool false))/\∀x,o=some x->e=.returned (.bool true)/\∃s',numsOf s'=x.2/\Prs base b x.1 s' d w'
def zcR (f:Nat) (g:PSt->Option PSt) (d:Nat):Prop:=∀(base b:Nat) (acc:List Pc) (s:ByteArray) (w:World),Prs base b acc s d w->s.size<=2000->acc.length+2*s.size<=9000->
 Calls Tryz.prog f #[.pointer (some ⟨b,0,none⟩)] w (ParPost base b d (g (acc,numsOf s)) w)
theorem ParPost.no {base b d:Nat}{o:Option PSt}{w w':World}(k:KeptP base b w w') (h:o=none):ParPost base b d o w (.returned (.bool false)) w':=⟨k,fun _=>rfl,fun x e=>by rw[h] at e;simp at e⟩
theorem ParPost.yes {base b d:Nat}{o:Option PSt}{x:PSt}{w w':World}{s':ByteArray}(k:KeptP base b w w') (h:o=some x) (hn:numsOf s'=x.2) (hp:Prs base b x.1 s' d w'):ParPost base b d o w (.returned (.bool true)) w':=
 ⟨k,fun e=>by rw[h] at e;simp at e,fun y e=>by rw[h] at e;simp at e;subst e;exact⟨rfl,s',hn,hp⟩⟩
theorem zni:(Value.agg #[.int .u64 0,.int .u64 0,.int .u64 0,.int .u64 0])=(.agg #[.int .u64 ((wd empP 0:Nat):Int),.int .u64 ((wd empP 1:Nat):Int),.int .u64 ((wd empP 2:Nat):Int),.int .u64 ((wd empP 3:Nat):Int)]):=by rw[zb1 57]
theorem zdd (base b:Nat) (acc:List Pc) (s:ByteArray) (d:Nat) (k:Int) (w:World) (h:Prs base b acc s d w) (hl:acc.length<=10000):
  Calls Tryz.prog 132 #[.pointer (some ⟨b,0,none⟩),.int .i64 k,.agg #[.int .u64 0,.int .u64 0,.int .u64 0,.int .u64 0]] w fun e w'=>e=.returned (.tuple #[])/\Prs base b (acc++[⟨k,empP⟩]) s d w'/\KeptP base b w w':=by
 rw[zni]
 exact zcP base b acc s d k empP w h hl
theorem signs (c:Nat) (hc:c<256):(c=42/\whereB ⟨#[42,43,63]⟩ c=0/\signK c=some 4)\/(c=43/\whereB ⟨#[42,43,63]⟩ c=1/\signK c=some 5)\/(c=63/\whereB ⟨#[42,43,63]⟩ c=2/\signK c=some 6)\/(whereB ⟨#[42,43,63]⟩ c<0/\signK c=none):=by
 by_cases h1:c=42
 ·subst h1;exact Or.inl ⟨rfl,by decide,by decide⟩
 by_cases h2:c=43
 ·subst h2;exact Or.inr (Or.inl ⟨rfl,by decide,by decide⟩)
 by_cases h3:c=63
 ·subst h3;exact Or.inr (Or.inr (Or.inl ⟨rfl,by decide,by decide⟩))
 ·refine Or.inr (Or.inr (Or.inr ⟨?_,by simp[signK,h1,h2,h3]⟩))
  have:=zdJ ⟨#[42,43,63]⟩ c hc
  have e:inB ⟨#[42,43,63]⟩ c=false:=by
   unfold inB
   simp
   omega
  rw[e] at this
  simpa using this
theorem zfy (c:Nat) (r:List Nat) (acc:List Pc) (k:Int) (h:signK c=some k):repLoop (c :: r) acc=repLoop r (acc++[⟨k,empP⟩]):=by simp only[repLoop,h]
theorem zgv (c:Nat) (r:List Nat) (acc:List Pc) (h:signK c=none):repLoop (c :: r) acc=(acc,c :: r):=by simp only[repLoop,h]
theorem zmn (atom:PSt->Option PSt) (d:Nat) (hd:Dec atom) (ha:zcR 162 atom d):zcR 154 (repOf atom) d:=by
 intro base b acc s w h hs hl
 have HX:Hid (repOf atom (acc,numsOf s)=match atom (acc,numsOf s) with
  | none=>none
  | some x=>some (repLoop x.2 x.1)):=by show _=_;unfold repOf;rfl
 have HD:=hid (fun x=>hd (acc,numsOf s) x)
 generalize repOf atom (acc,numsOf s)=O at HX⊢
 have hA:=ha base b acc s w h hs hl
 have HS:=hid (zaA s)
 have hB:=h.1
 clear ha hd
 generalize atom (acc,numsOf s)=A at HX HD hA
 have HA:=hid hA
 clear hA h
 go_enter Tryz.func154,Tryz.ntmps154
 go_wp2_with fail
 refine HA.out.mono ?_
 rintro e w1 ⟨k1,h1,h2⟩
 rcases A with _|⟨acc1,r1⟩
 ·obtain rfl:=h1 rfl
  have HZ:=HX.out
  go_wp2_with fail
  go_ret
  exact ParPost.no k1 HZ
 ·obtain⟨rfl,s1,hn1,hp1⟩:=h2 _ rfl
  have hdd:=HD.out _ rfl
  simp only[HS.out] at hdd
  simp only at hn1 hp1
  have hs1:s1.size=r1.length:=by rw[<-zaA,hn1]
  have HZ:Hid (O=some (repLoop (numsOf s1) acc1)):=by show _=_;rw[HX.out,hn1]
  obtain⟨R,hR⟩:∃R,repLoop (numsOf s1) acc1=R:=⟨_,rfl⟩
  rw[hR] at HZ
  have HR:=hid hR
  have P1:=hid hp1
  have K1:=hid k1
  have hs0:s1.size+1<=s.size:=by omega
  have hl1:acc1.length+2*s1.size<=9000:=by omega
  clear hR hp1 k1 HX HD h1 h2 hdd hn1 hs1
  go_wp2_with fail
  go_loopw [3] (fun _ wr=>∃(acc':List Pc) (s':ByteArray),Hid (repLoop (numsOf s') acc'=R)/\s'.size<=s1.size/\acc'.length+2*s'.size<=9000/\Hid (Prs base b acc' s' d wr)/\Hid (KeptP base b w wr)) (fun _ wr=>strAt wr ⟨b,0,none⟩)
  case atStart=>exact⟨acc1,s1,HR,Nat.le_refl _,hl1,P1,K1⟩
  case round=>
   clear P1 K1 HR
   obtain⟨acc',s',HQ,hsz,hll,P2,K2⟩:=hrel
   obtain⟨c0,f0⟩:=P2.out.rest
   rcases Nat.eq_zero_or_pos s'.size with hz|hp
   ·have hl0:s'.toList=[]:=zbE s' hz
    have hl2:(!s'.toList.isEmpty)=false:=by rw[hl0];rfl
    have HF:Hid (O=some (acc',[])):=by
     show _=_
     have:=HQ.out
     rw[zdc s' hz] at this
     rw[HZ,<-this];rfl
    have HN:Hid (numsOf s'=[]):=zdc s' hz
    clear hz hl0 HQ
    go_wp2_with fail
    go_ret
    exact ParPost.yes K2.out HF.out HN.out P2.out
   ·have hl0:s'.toList.isEmpty=false:=zbm s' hp
    have hl2:(!s'.toList.isEmpty)=true:=by rw[hl0];rfl
    have hc:=UInt8.toNat_lt s'[0]
    have hcons:=zb0 s' hp
    have HE:Hid (numsOf (s'.extract 1 s'.size)=(numsOf s').drop 1):=by show _=_;rw[zdL]
    have hez:(s'.extract 1 s'.size).size+1=s'.size:=by rw[ByteArray.size_extract];omega
    have hstr:=P2.out.strAt
    have P3:=hid (P2.out.setRest (s'.extract 1 s'.size))
    have K3:=hid (K2.out.set hB 0 (.string (s'.extract 1 s'.size)))
    rcases signs s'[0].toNat hc with ⟨e,hw,hk⟩|⟨e,hw,hk⟩|⟨e,hw,hk⟩|⟨hw,hk⟩
    all_goals
     have HW:=hid hw
     have HK:=hid hk
     have HC:=hid hcons
     first|clear e|skip
     clear hw hk hcons
    rotate_right
    ·have HF:Hid (O=some (acc',numsOf s')):=by
      show _=_
      have:=HQ.out
      rw[HC.out,zgv _ _ _ HK.out] at this
      rw[HZ,<-this,<-HC.out]
     obtain⟨x,hx⟩:∃x,whereB ⟨#[42,43,63]⟩ s'[0].toNat=x:=⟨_,rfl⟩
     have hx0:x<0:=by rw[<-hx];exact HW.out
     have HXX:=hid hx
     clear hx HQ
     go_wp2_with fail
     refine (zcK _ _ _).mono ?_
     rintro e w2 ⟨rfl,rfl⟩
     rw[HXX.out]
     go_wp2_with fail
     go_ret
     exact ParPost.yes K2.out HF.out rfl P2.out
    all_goals
     go_wp2_with fail
     refine (zcK _ _ _).mono ?_
     rintro e w2 ⟨rfl,rfl⟩
     rw[HW.out]
     go_wp2_with fail
     refine (zdd base b acc' (s'.extract 1 s'.size) d _ _ P3.out (by omega)).mono ?_
     rintro e w3 ⟨rfl,hp3,k3⟩
     have P4:=hid hp3
     have K4:=hid (K3.out.trans k3)
     have hstr2:=hp3.strAt
     clear hp3 k3
     go_wp2_with fail
     go_roundw
     case rel=>exact⟨_,s'.extract 1 s'.size,by show repLoop _ _=_;rw[HE.out,<-zfy _ _ _ _ HK.out,<-HC.out];exact HQ.out,by omega,by simp;omega,P4,K4⟩
     case measure=>first|(simp only[hstr,hstr2];omega)|(rw[hstr,hstr2];omega)
theorem zgw (atom:PSt->Option PSt) (f:Nat) (s:PSt) (hf:s.2.length<f) (h:seqEnd s.2=true):seqLoop atom f s=some s:=by
 match f,hf with
 | f+1,hf=>unfold seqLoop;rw[if_pos h]
theorem zic (atom:PSt->Option PSt) (f:Nat) (s:PSt) (hf:s.2.length<f) (h:seqEnd s.2=false) (h1:repOf atom s=none):seqLoop atom f s=none:=by
 match f,hf with
 | f+1,hf=>simp[seqLoop,h,h1]
theorem zfz (atom:PSt->Option PSt) (f:Nat) (s x:PSt) (hd:Dec atom) (hf:s.2.length<f) (h:seqEnd s.2=false) (h1:repOf atom s=some x):∃g,x.2.length<g/\seqLoop atom f s=seqLoop atom g (x.1++[⟨2,empP⟩],x.2):=by
 match f,hf with
 | f+1,hf=>
  have:=(zcB hd s x h1).1
  exact⟨f,by omega,by simp[seqLoop,h,h1]⟩
theorem zmo (atom:PSt->Option PSt) (d:Nat) (hd:Dec atom) (ha:zcR 154 (repOf atom) d):zcR 130 (seqOf atom) d:=by
 intro base b acc s w h hs hl
 have HX:Hid (seqOf atom (acc,numsOf s)=match repOf atom (acc,numsOf s) with
  | none=>none
  | some x=>seqLoop atom (x.2.length+1) x):=by show _=_;unfold seqOf;rfl
 have HD:=hid (fun s x=>zcB hd s x)
 have HDA:=hid hd
 generalize seqOf atom (acc,numsOf s)=O at HX⊢
 have hA:=ha base b acc s w h hs hl
 have HS:=hid (zaA s)
 have hB:=h.1
 have HALL:=hid ha
 have HDx:=hid (fun x=>HD.out (acc,numsOf s) x)
 clear ha hd
 generalize repOf atom (acc,numsOf s)=A at HX HDx hA
 have HA:=hid hA
 clear hA h
 go_enter Tryz.func130,Tryz.ntmps130
 go_wp2_with fail
 refine HA.out.mono ?_
 rintro e w1 ⟨k1,h1,h2⟩
 rcases A with _|⟨acc1,r1⟩
 ·obtain rfl:=h1 rfl
  have HZ:=HX.out
  go_wp2_with fail
  go_ret
  exact ParPost.no k1 HZ
 ·obtain⟨rfl,s1,hn1,hp1⟩:=h2 _ rfl
  have hdd:=HDx.out _ rfl
  simp only[HS.out] at hdd
  simp only at hn1 hp1
  have hs1:s1.size=r1.length:=by rw[<-zaA,hn1]
  obtain⟨R,hR⟩:∃R,seqLoop atom ((numsOf s1).length+1) (acc1,numsOf s1)=R:=⟨_,rfl⟩
  have HZ:Hid (O=R):=by show _=_;rw[HX.out,<-hR,hn1]
  have HR:=hid hR
  have P1:=hid hp1
  have K1:=hid k1
  have hs0:s1.size+1<=s.size:=by omega
  have hl1:acc1.length+2*s1.size<=9000:=by omega
  clear hR hp1 k1 HX HDx h1 h2 hdd hn1 hs1
  go_wp2_with fail
  go_loopw [30] (fun _ wr=>∃(f:Nat) (acc':List Pc) (s':ByteArray),(numsOf s').length<f/\Hid (seqLoop atom f (acc',numsOf s')=R)/\s'.size<=s1.size/\acc'.length+2*s'.size<=9000/\Hid (Prs base b acc' s' d wr)/\Hid (KeptP base b w wr)) (fun _ wr=>strAt wr ⟨b,0,none⟩)
  case atStart=>exact⟨_,acc1,s1,Nat.lt_succ_self _,HR,Nat.le_refl _,hl1,P1,K1⟩
  case round=>
   clear P1 K1 HR
   obtain⟨f,acc',s',hf,HQ,hsz,hll,P2,K2⟩:=hrel
   obtain⟨c0,f0⟩:=P2.out.rest
   have hend:seqEnd (numsOf s')=true\/(seqEnd (numsOf s')=false/\∃h:0<s'.size,s'[0].toNat≠124/\s'[0].toNat≠41):=by
    rcases Nat.eq_zero_or_pos s'.size with hz|hp
    ·left;rw[zdc s' hz];rfl
    ·rw[zb0 s' hp]
     by_cases h1:s'[0].toNat=124
     ·left;simp[seqEnd,h1]
     ·by_cases h2:s'[0].toNat=41
      ·left;simp[seqEnd,h2]
      ·right;exact⟨by simp[seqEnd,h1,h2],hp,h1,h2⟩
   rcases hend with hend|⟨hend,hp,h1,h2⟩
   ·have HF:Hid (O=some (acc',numsOf s')):=by
     show _=_
     rw[HZ.out,<-HQ.out,zgw atom f _ hf hend]
    rcases Nat.eq_zero_or_pos s'.size with hz|hp
    ·have hl0:s'.toList=[]:=zbE s' hz
     have hl2:(!s'.toList.isEmpty)=false:=by rw[hl0];rfl
     clear hz hl0 HQ hend
     go_wp2_with fail
     go_ret
     exact ParPost.yes K2.out HF.out rfl P2.out
    ·have hl0:s'.toList.isEmpty=false:=zbm s' hp
     have hl2:(!s'.toList.isEmpty)=true:=by rw[hl0];rfl
     rw[zb0 s' hp] at hend
     by_cases h1:s'[0].toNat=124
     ·have e1:((s'[0].toNat:Int) != 124)=false:=by simp;omega
      clear HQ hend h1
      go_wp2_with fail
      go_ret
      exact ParPost.yes K2.out HF.out rfl P2.out
     ·have h2:s'[0].toNat=41:=by simpa [seqEnd,h1] using hend
      have e1:((s'[0].toNat:Int) != 124)=true:=by simp;omega
      have e2:((s'[0].toNat:Int) != 41)=false:=by simp;omega
      clear HQ hend h1 h2
      go_wp2_with fail
      go_ret
      exact ParPost.yes K2.out HF.out rfl P2.out
   ·have hl0:s'.toList.isEmpty=false:=zbm s' hp
    have hl2:(!s'.toList.isEmpty)=true:=by rw[hl0];rfl
    have e1:((s'[0].toNat:Int) != 124)=true:=by simp;omega
    have e2:((s'[0].toNat:Int) != 41)=true:=by simp;omega
    have HEnd:=hid hend
    have HS':=hid (zaA s')
    have hstr:=P2.out.strAt
    have hA:=HALL.out base b acc' s' _ P2.out (by omega) hll
    rcases hr:repOf atom (acc',numsOf s') with _|⟨acc2,r2⟩
    ·rw[hr] at hA
     have HA2:=hid hA
     have HF:Hid (O=none):=by
      show _=_
      rw[HZ.out,<-HQ.out,zic atom f _ hf hend hr]
     clear hA hr hend h1 h2 HQ
     go_wp2_with fail
     refine HA2.out.mono ?_
     rintro e w2 ⟨k2,h1,-⟩
     obtain rfl:=h1 rfl
     go_wp2_with fail
     go_ret
     exact ParPost.no (K2.out.trans k2) HF.out
    ·have hdd:=HD.out _ _ hr
     simp only[HS'.out] at hdd
     obtain⟨f2,hf2,hstep⟩:=zfz atom f _ _ HDA.out hf hend hr
     have HQ2:Hid (seqLoop atom f2 (acc2++[⟨2,empP⟩],r2)=R):=by show _=_;rw[<-hstep];exact HQ.out
     rw[hr] at hA
     have HA2:=hid hA
     clear hA hr hend h1 h2 HQ hstep
     go_wp2_with fail
     refine HA2.out.mono ?_
     rintro e w2 ⟨k2,-,h2⟩
     obtain⟨rfl,s2,hn2,hp2⟩:=h2 _ rfl
     simp only at hn2 hp2 hf2
     have hs2:s2.size=r2.length:=by rw[<-zaA,hn2]
     have HN2:=hid hn2
     have P3:=hid hp2
     have K3:=hid (K2.out.trans k2)
     clear k2 h2 hn2 hp2
     go_wp2_with fail
     refine (zdd base b acc2 s2 d _ _ P3.out (by omega)).mono ?_
     rintro e w3 ⟨rfl,hp3,k3⟩
     have P4:=hid hp3
     have K4:=hid (K3.out.trans k3)
     have hstr2:=hp3.strAt
     clear hp3 k3
     go_wp2_with fail
     go_roundw
     case rel=>exact⟨f2,_,s2,by rw[HN2.out];exact hf2,by show seqLoop _ _ _=_;rw[HN2.out];exact HQ2.out,by omega,by simp;omega,P4,K4⟩
     case measure=>first|(simp only[hstr,hstr2];omega)|(rw[hstr,hstr2];omega)
theorem zgx (atom:PSt->Option PSt) (f:Nat) (s:PSt) (hf:s.2.length<f) (h:skipT 124 s.2=none):altLoop atom f s=some s:=by
 match f,hf with
 | f+1,hf=>simp only[altLoop,h]
theorem zid (atom:PSt->Option PSt) (f:Nat) (s:PSt) (r:List Nat) (hf:s.2.length<f) (h:skipT 124 s.2=some r) (h1:seqOf atom (s.1,r)=none):altLoop atom f s=none:=by
 match f,hf with
 | f+1,hf=>simp only[altLoop,h,h1]
theorem zfA (atom:PSt->Option PSt) (f:Nat) (s x:PSt) (r:List Nat) (hd:Dec atom) (hf:s.2.length<f) (h:skipT 124 s.2=some r) (h1:seqOf atom (s.1,r)=some x):∃g,x.2.length<g/\altLoop atom f s=altLoop atom g (x.1++[⟨3,empP⟩],x.2):=by
 match f,hf with
 | f+1,hf=>
  have h2:=(zcC hd _ x h1).1
  have h3:=zaS h
  rw[h3] at hf
  simp at h2 hf
  exact⟨f,by omega,by simp only[altLoop,h,h1]⟩
theorem zmp (atom:PSt->Option PSt) (d:Nat) (hd:Dec atom) (ha:zcR 130 (seqOf atom) d):zcR 95 (altOf atom) d:=by
 intro base b acc s w h hs hl
 have HX:Hid (altOf atom (acc,numsOf s)=match seqOf atom (acc,numsOf s) with
  | none=>none
  | some x=>altLoop atom (x.2.length+1) x):=by show _=_;unfold altOf;rfl
 have HD:=hid (fun s x=>zcC hd s x)
 have HDA:=hid hd
 generalize altOf atom (acc,numsOf s)=O at HX⊢
 have hA:=ha base b acc s w h hs hl
 have HS:=hid (zaA s)
 have hB:=h.1
 have HALL:=hid ha
 have HDx:=hid (fun x=>HD.out (acc,numsOf s) x)
 clear ha hd
 generalize seqOf atom (acc,numsOf s)=A at HX HDx hA
 have HA:=hid hA
 clear hA h
 go_enter Tryz.func95,Tryz.ntmps95
 go_wp2_with fail
 refine HA.out.mono ?_
 rintro e w1 ⟨k1,h1,h2⟩
 rcases A with _|⟨acc1,r1⟩
 ·obtain rfl:=h1 rfl
  have HZ:=HX.out
  go_wp2_with fail
  go_ret
  exact ParPost.no k1 HZ
 ·obtain⟨rfl,s1,hn1,hp1⟩:=h2 _ rfl
  have hdd:=HDx.out _ rfl
  simp only[HS.out] at hdd
  simp only at hn1 hp1
  have hs1:s1.size=r1.length:=by rw[<-zaA,hn1]
  obtain⟨R,hR⟩:∃R,altLoop atom ((numsOf s1).length+1) (acc1,numsOf s1)=R:=⟨_,rfl⟩
  have HZ:Hid (O=R):=by show _=_;rw[HX.out,<-hR,hn1]
  have HR:=hid hR
  have P1:=hid hp1
  have K1:=hid k1
  have hs0:s1.size+1<=s.size:=by omega
  have hl1:acc1.length+2*s1.size<=9000:=by omega
  clear hR hp1 k1 HX HDx h1 h2 hdd hn1 hs1
  go_wp2_with fail
  go_loopw [11] (fun _ wr=>∃(f:Nat) (acc':List Pc) (s':ByteArray),(numsOf s').length<f/\Hid (altLoop atom f (acc',numsOf s')=R)/\s'.size<=s1.size/\acc'.length+2*s'.size<=9000/\Hid (Prs base b acc' s' d wr)/\Hid (KeptP base b w wr)) (fun _ wr=>strAt wr ⟨b,0,none⟩)
  case atStart=>exact⟨_,acc1,s1,Nat.lt_succ_self _,HR,Nat.le_refl _,hl1,P1,K1⟩
  case round=>
   clear P1 K1 HR
   obtain⟨f,acc',s',hf,HQ,hsz,hll,P2,K2⟩:=hrel
   rcases hk:skipT 124 (numsOf s') with _|r
   ·have HK:=hid hk
    have HF:Hid (O=some (acc',numsOf s')):=by
     show _=_
     rw[HZ.out,<-HQ.out,zgx atom f (acc',numsOf s') hf hk]
    clear hk HQ
    go_wp2_with fail
    refine (zaM base b acc' s' d 124 _ P2.out HK.out).mono ?_
    rintro e w2 ⟨rfl,rfl⟩
    go_wp2_with fail
    go_ret
    exact ParPost.yes K2.out HF.out rfl P2.out
   ·have HK:=hid hk
    have hstr:=P2.out.strAt
    rcases hr:seqOf atom (acc',r) with _|⟨acc2,r2⟩
    ·have HF:Hid (O=none):=by
      show _=_
      rw[HZ.out,<-HQ.out,zid atom f (acc',numsOf s') r hf hk hr]
     have HRR:=hid hr
     clear hk hr HQ
     go_wp2_with fail
     refine (za3 base b acc' s' d 124 r _ P2.out HK.out (by omega)).mono ?_
     rintro e w2 ⟨rfl,k2,s2,hn2,hz2,hp2⟩
     have hA:=HALL.out base b acc' s2 _ hp2 (by omega) (by omega)
     rw[hn2,HRR.out] at hA
     have HA2:=hid hA
     have K3:=hid (K2.out.trans k2)
     clear hA k2 hp2 hn2
     go_wp2_with fail
     refine HA2.out.mono ?_
     rintro e w3 ⟨k3,h1,-⟩
     obtain rfl:=h1 rfl
     go_wp2_with fail
     go_ret
     exact ParPost.no (K3.out.trans k3) HF.out
    ·have hdd:=HD.out _ _ hr
     obtain⟨f2,hf2,hstep⟩:=zfA atom f (acc',numsOf s') (acc2,r2) r HDA.out hf hk hr
     have HQ2:Hid (altLoop atom f2 (acc2++[⟨3,empP⟩],r2)=R):=by show _=_;rw[<-hstep];exact HQ.out
     have HRR:=hid hr
     clear hk hr HQ hstep
     go_wp2_with fail
     refine (za3 base b acc' s' d 124 r _ P2.out HK.out (by omega)).mono ?_
     rintro e w2 ⟨rfl,k2,s2,hn2,hz2,hp2⟩
     have hrz:s2.size=r.length:=by rw[<-zaA,hn2]
     have hA:=HALL.out base b acc' s2 _ hp2 (by omega) (by omega)
     rw[hn2,HRR.out] at hA
     have HA2:=hid hA
     have K3:=hid (K2.out.trans k2)
     clear hA k2 hp2 hn2
     go_wp2_with fail
     refine HA2.out.mono ?_
     rintro e w3 ⟨k3,-,h2⟩
     obtain⟨rfl,s3,hn3,hp3⟩:=h2 _ rfl
     simp only at hn3 hp3 hf2 hdd
     have hs3:s3.size=r2.length:=by rw[<-zaA,hn3]
     have HN3:=hid hn3
     have P3:=hid hp3
     have K4:=hid (K3.out.trans k3)
     clear k3 h2 hn3 hp3
     go_wp2_with fail
     refine (zdd base b acc2 s3 d _ _ P3.out (by omega)).mono ?_
     rintro e w4 ⟨rfl,hp4,k4⟩
     have P4:=hid hp4
     have K5:=hid (K4.out.trans k4)
     have hstr2:=hp4.strAt
     clear hp4 k4
     go_wp2_with fail
     go_roundw
     case rel=>exact⟨f2,_,s3,by rw[HN3.out];exact hf2,by show altLoop _ _ _=_;rw[HN3.out];exact HQ2.out,by omega,by simp;omega,P4,K5⟩
     case measure=>first|(simp only[hstr,hstr2];omega)|(rw[hstr,hstr2];omega)
theorem zlc:zcR 169 (fun _=>none) 99:=by
 intro base b acc s w h hs hl
 obtain⟨c2,f2⟩:=h.depth
 have hbl:=h.lt
 have K1:=hid ((KeptP.refl base b w).set h.1 2 (.int .i64 (100:Int)))
 clear h
 go_enter Tryz.func169,Tryz.ntmps169
 go_wp2_with fail
 go_ret
 exact ParPost.no K1.out rfl
theorem zld (atom:PSt->Option PSt) (d:Nat) (hd99:d<99) (hd:Dec atom) (ha:zcR 95 (altOf atom) (d+1)):zcR 169 (groupOf atom) d:=by
 intro base b acc s w h hs hl
 obtain⟨c2,f2⟩:=h.depth
 have hbl:=h.lt
 have hB:=h.1
 have K1:=hid ((KeptP.refl base b w).set h.1 2 (.int .i64 ((d+1:Nat):Int)))
 have hp1:=h.setDepth (d+1)
 have HX:Hid (groupOf atom (acc,numsOf s)=match altOf atom (acc,numsOf s) with
  | none=>none
  | some x=>match skipT 41 x.2 with
   | none=>none
   | some r=>some (x.1,r)):=by show _=_;unfold groupOf;rfl
 have HD:=hid (fun x=>zdC hd (acc,numsOf s) x)
 have HS:=hid (zaA s)
 generalize groupOf atom (acc,numsOf s)=O at HX⊢
 have hA:=ha base b acc s _ hp1 hs hl
 generalize altOf atom (acc,numsOf s)=A at HX HD hA
 have HA:=hid hA
 have e1:(d:Int)+1=((d+1:Nat):Int):=by omega
 obtain⟨m,hm⟩:∃m,d+1=m:=⟨_,rfl⟩
 have hm99:m<=99:=by omega
 have hm1:1<=m:=by omega
 have ed:(m:Int)-1=(d:Int):=by omega
 rw[hm] at e1 HA K1 hp1
 have P1:=hid hp1
 obtain⟨d2,g2⟩:=hp1.depth
 clear h hA ha hp1 hm hd
 go_enter Tryz.func169,Tryz.ntmps169
 go_wp2_with fail
 refine HA.out.mono ?_
 rintro e w1 ⟨k1,h1,h2⟩
 have K2:=hid (K1.out.trans k1)
 rcases A with _|⟨acc1,r1⟩
 ·obtain rfl:=h1 rfl
  have HZ:=HX.out
  clear HA K1 P1 k1 h1 h2
  go_wp2_with fail
  go_ret
  exact ParPost.no K2.out HZ
 ·obtain⟨rfl,s1,hn1,hp1⟩:=h2 _ rfl
  have hdd:=HD.out _ rfl
  simp only[HS.out] at hdd
  simp only at hn1 hp1
  have hs1:s1.size=r1.length:=by rw[<-zaA,hn1]
  have P2:=hid hp1
  clear HA K1 P1 k1 h1 h2 hp1 d2 g2
  rcases hk:skipT 41 (numsOf s1) with _|r
  ·have HF:Hid (O=none):=by show _=_;rw[HX.out];simp only[<-hn1,hk]
   have HK:=hid hk
   clear hk
   go_wp2_with fail
   refine (zaM base b acc1 s1 m 41 _ P2.out HK.out).mono ?_
   rintro e w2 ⟨rfl,rfl⟩
   go_wp2_with fail
   go_ret
   exact ParPost.no K2.out HF.out
  ·have HF:Hid (O=some (acc1,r)):=by show _=_;rw[HX.out];simp only[<-hn1,hk]
   have HK:=hid hk
   clear hk
   go_wp2_with fail
   refine (za3 base b acc1 s1 m 41 r _ P2.out HK.out (by omega)).mono ?_
   rintro e w2 ⟨rfl,k2,s2,hn2,hz2,hp2⟩
   obtain⟨d3,g3⟩:=hp2.depth
   have P3:=hid (hp2.setDepth d)
   have K3:=hid ((K2.out.trans k2).set hB 2 (.int .i64 (d:Int)))
   have HN2:=hid hn2
   clear k2 hp2 hn2
   go_wp2_with fail
   go_ret
   exact ParPost.yes K3.out HF.out HN2.out P3.out
theorem ofOne (c:Nat) (hc:c<256) (w:World):ElsB (w.alloc (.cells #[.int .u8 (c:Int)] 5)) (some ⟨w.heap.size,0,none⟩) 1 (fun _=>c):=by
 intro _
 refine⟨w.heap.size,0,rfl,by simp,fun j hj=>?_⟩
 obtain rfl:j=0:=by omega
 refine⟨?_,hc⟩
 have h:(w.alloc (.cells #[.int .u8 (c:Int)] 5)).heap[w.heap.size]?=some (.cells #[.int .u8 (c:Int)] 5 (0,0)):=St.new w _ _
 rw[Nat.zero_add,Lib.cell_of_heap h];rfl
theorem zjw (group:PSt->Option PSt) (d:Nat) (ha:zcR 169 group d):zcR 162 (atomOf group) d:=by
 intro base b acc s w h hs hl
 have hB:=h.1
 have hlow:=h.low
 have P0:=hid h
 have HALL:=hid ha
 have HX:Hid (atomOf group (acc,numsOf s)=atomOf group (acc,numsOf s)):=rfl
 obtain⟨O,hO⟩:∃O,atomOf group (acc,numsOf s)=O:=⟨_,rfl⟩
 rw[hO]
 unfold atomOf at hO
 simp only at hO
 clear ha h HX
 rcases h1:skipT 46 (numsOf s) with _|r
 ·rw[h1] at hO
  simp only at hO
  have H1:=hid h1
  clear h1
  rcases h2:skipT 126 (numsOf s) with _|r
  ·rw[h2] at hO
   simp only at hO
   have H2:=hid h2
   clear h2
   rcases h3:skipT 40 (numsOf s) with _|r
   ·rw[h3] at hO
    simp only at hO
    have H3:=hid h3
    clear h3
    rcases h4:skipT 91 (numsOf s) with _|r
    ·rw[h4] at hO
     simp only at hO
     have H4:=hid h4
     clear h4
     rcases h5:prRead outS (numsOf s) with _|⟨c,r⟩
     ·rw[h5] at hO
      simp only at hO
      have H5:=hid h5
      have HF:=hid hO.symm
      clear h5 hO
      go_enter Tryz.func162,Tryz.ntmps162
      go_wp2_with fail
      refine (zaM base b acc s d 46 _ P0.out H1.out).mono ?_
      rintro e w2 ⟨rfl,rfl⟩
      go_wp2_with fail
      refine (zaM base b acc s d 126 _ P0.out H2.out).mono ?_
      rintro e w2 ⟨rfl,rfl⟩
      go_wp2_with fail
      refine (zaM base b acc s d 40 _ P0.out H3.out).mono ?_
      rintro e w2 ⟨rfl,rfl⟩
      go_wp2_with fail
      refine (zaM base b acc s d 91 _ P0.out H4.out).mono ?_
      rintro e w2 ⟨rfl,rfl⟩
      go_wp2_with fail
      refine (zgu base b acc s outS d _ P0.out (by omega) H5.out).mono ?_
      rintro e w2 ⟨rfl,b2⟩
      have K2:=hid ((KeptP.refl base b w).below hlow b2)
      have P2:=hid (P0.out.keep b2)
      have hlow2:=P2.out.low
      clear b2
      go_wp2_with fail
      refine (zi3 _ 1 1 (fun _=>0) _ (ofOne 0 (by decide) w2) (by decide)).mono ?_
      rintro e w3 ⟨rfl,b3⟩
      have b3':Below w2.heap.size w2 w3:=((Below.refl _ w2).alloc (Nat.le_refl _) _).trans (b3.mono (by simp))
      have K3:=hid (K2.out.below hlow2 b3')
      have P3:=hid (P2.out.keep b3')
      clear b3 b3'
      go_wp2_with fail
      refine (zcP base b acc s d 1 _ _ P3.out (by omega)).mono ?_
      rintro e w4 ⟨rfl,hp4,k4⟩
      go_wp2_with fail
      go_ret
      exact ParPost.no (K3.out.trans k4) HF.out
     ·rw[h5] at hO
      simp only at hO
      have H5:=hid h5
      have HF:=hid hO.symm
      clear h5 hO
      go_enter Tryz.func162,Tryz.ntmps162
      go_wp2_with fail
      refine (zaM base b acc s d 46 _ P0.out H1.out).mono ?_
      rintro e w2 ⟨rfl,rfl⟩
      go_wp2_with fail
      refine (zaM base b acc s d 126 _ P0.out H2.out).mono ?_
      rintro e w2 ⟨rfl,rfl⟩
      go_wp2_with fail
      refine (zaM base b acc s d 40 _ P0.out H3.out).mono ?_
      rintro e w2 ⟨rfl,rfl⟩
      go_wp2_with fail
      refine (zaM base b acc s d 91 _ P0.out H4.out).mono ?_
      rintro e w2 ⟨rfl,rfl⟩
      go_wp2_with fail
      refine (zbR base b acc s outS d c r _ P0.out (by omega) H5.out).mono ?_
      rintro e w2 ⟨rfl,hc,k2,s2,hn2,hz2,hp2⟩
      have K2:=hid k2
      have P2:=hid hp2
      have HN2:=hid hn2
      have hlow2:=hp2.low
      clear k2 hp2 hn2
      go_wp2_with fail
      refine (zi3 _ 1 1 (fun _=>c) _ (ofOne c hc w2) (by decide)).mono ?_
      rintro e w3 ⟨rfl,b3⟩
      have b3':Below w2.heap.size w2 w3:=((Below.refl _ w2).alloc (Nat.le_refl _) _).trans (b3.mono (by simp))
      have K3:=hid (K2.out.below hlow2 b3')
      have P3:=hid (P2.out.keep b3')
      clear b3 b3'
      go_wp2_with fail
      refine (zcP base b acc s2 d 1 _ _ P3.out (by omega)).mono ?_
      rintro e w4 ⟨rfl,hp4,k4⟩
      go_wp2_with fail
      go_ret
      exact ParPost.yes (K3.out.trans k4) HF.out HN2.out hp4
    ·rw[h4] at hO
     simp only at hO
     have H4:=hid h4
     have HSR:Hid (∀s2,numsOf s2=r->numsOf s2=r):=fun _ h=>h
     clear h4
     have HO:=hid hO
     clear hO
     go_enter Tryz.func162,Tryz.ntmps162
     go_wp2_with fail
     refine (zaM base b acc s d 46 _ P0.out H1.out).mono ?_
     rintro e w2 ⟨rfl,rfl⟩
     go_wp2_with fail
     refine (zaM base b acc s d 126 _ P0.out H2.out).mono ?_
     rintro e w2 ⟨rfl,rfl⟩
     go_wp2_with fail
     refine (zaM base b acc s d 40 _ P0.out H3.out).mono ?_
     rintro e w2 ⟨rfl,rfl⟩
     go_wp2_with fail
     refine (za3 base b acc s d 91 r _ P0.out H4.out (by omega)).mono ?_
     rintro e w2 ⟨rfl,k2,s2,hn2,hz2,hp2⟩
     have hset:=znh base b acc s2 d _ hp2 (by omega) (by omega)
     rw[hn2] at hset
     have HSet:=hid hset
     clear hset
     go_wp2_with fail
     refine HSet.out.mono ?_
     rintro e w3 ⟨k3,g1,g2⟩
     have hO:=HO.out
     rcases h5:prSet r with _|⟨q,r1⟩
     ·rw[h5] at hO
      simp only at hO
      obtain rfl:=g1 h5
      have HF:=hid hO.symm
      clear hO h5 HO
      go_wp2_with fail
      go_ret
      exact ParPost.no (k2.trans k3) HF.out
     ·rw[h5] at hO
      simp only at hO
      obtain⟨rfl,s3,hn3,hp3⟩:=g2 _ _ h5
      have HF:=hid hO.symm
      clear hO h5 HO
      go_wp2_with fail
      go_ret
      exact ParPost.yes (k2.trans k3) HF.out hn3 hp3
   ·rw[h3] at hO
    simp only at hO
    have H3:=hid h3
    have HO:=hid hO
    clear h3 hO
    go_enter Tryz.func162,Tryz.ntmps162
    go_wp2_with fail
    refine (zaM base b acc s d 46 _ P0.out H1.out).mono ?_
    rintro e w2 ⟨rfl,rfl⟩
    go_wp2_with fail
    refine (zaM base b acc s d 126 _ P0.out H2.out).mono ?_
    rintro e w2 ⟨rfl,rfl⟩
    go_wp2_with fail
    refine (za3 base b acc s d 40 r _ P0.out H3.out (by omega)).mono ?_
    rintro e w2 ⟨rfl,k2,s2,hn2,hz2,hp2⟩
    have hA:=HALL.out base b acc s2 _ hp2 (by omega) (by omega)
    rw[hn2,HO.out] at hA
    have HA:=hid hA
    clear hA
    go_wp2_with fail
    refine HA.out.mono ?_
    rintro e w3 ⟨k3,g1,g2⟩
    rcases O with _|⟨acc3,r3⟩
    ·obtain rfl:=g1 rfl
     go_wp2_with fail
     go_ret
     exact ParPost.no (k2.trans k3) rfl
    ·obtain⟨rfl,s3,hn3,hp3⟩:=g2 _ rfl
     go_wp2_with fail
     go_ret
     exact ParPost.yes (k2.trans k3) rfl hn3 hp3
  ·rw[h2] at hO
   simp only at hO
   have H2:=hid h2
   have HF:=hid hO.symm
   clear h2 hO
   go_enter Tryz.func162,Tryz.ntmps162
   go_wp2_with fail
   refine (zaM base b acc s d 46 _ P0.out H1.out).mono ?_
   rintro e w2 ⟨rfl,rfl⟩
   go_wp2_with fail
   refine (za3 base b acc s d 126 r _ P0.out H2.out (by omega)).mono ?_
   rintro e w2 ⟨rfl,k2,s2,hn2,hz2,hp2⟩
   have P2:=hid hp2
   clear hp2
   go_wp2_with fail
   refine (zdd base b acc s2 d 0 _ P2.out (by omega)).mono ?_
   rintro e w4 ⟨rfl,hp4,k4⟩
   go_wp2_with fail
   go_ret
   exact ParPost.yes (k2.trans k4) HF.out hn2 hp4
 ·rw[h1] at hO
  simp only at hO
  have H1:=hid h1
  have HF:=hid hO.symm
  clear h1 hO
  go_enter Tryz.func162,Tryz.ntmps162
  go_wp2_with fail
  refine (za3 base b acc s d 46 r _ P0.out H1.out (by omega)).mono ?_
  rintro e w2 ⟨rfl,k2,s2,hn2,hz2,hp2⟩
  have P2:=hid hp2
  have hlow2:=hp2.low
  clear hp2
  go_wp2_with fail
  refine (zk0 _).mono ?_
  rintro e w3 ⟨rfl,b3⟩
  have P3:=hid (P2.out.keep b3)
  have K3:=hid (k2.below hlow2 b3)
  go_wp2_with fail
  refine (zcP base b acc s2 d 1 (fun _=>true) _ P3.out (by omega)).mono ?_
  rintro e w4 ⟨rfl,hp4,k4⟩
  go_wp2_with fail
  go_ret
  exact ParPost.yes (K3.out.trans k4) HF.out hn2 hp4
theorem zle (D d:Nat) (h:d+D=99):zcR 162 (atomD D) d:=by
 induction D generalizing d with
 | zero=>
  obtain rfl:d=99:=by omega
  exact zjw _ 99 zlc
 | succ D ih=>
  have h1:=ih (d+1) (by omega)
  exact zjw _ d (zld (atomD D) d (by omega) (zbh D) (zmp _ _ (zbh D) (zmo _ _ (zbh D) (zmn _ _ (zbh D) h1))))
theorem zeQ:zcR 95 (altOf (atomD 99)) 0:=
 zmp _ _ (zbh 99) (zmo _ _ (zbh 99) (zmn _ _ (zbh 99) (zle 99 0 rfl)))
theorem parse_big (s:ByteArray) (w:World) (hs:1600<s.size) (hm:s.size<=maxLen):
  Calls Tryz.prog 60 #[.string s] w fun e w'=>e=.returned (.tuple #[.slice none 0 0,.int .i64 6])/\w=w':=by
 unfold maxLen at hm
 go_enter Tryz.func60,Tryz.ntmps60
 go_wp2_with fail
 go_ret2
 exact⟨rfl,rfl⟩
theorem Prs.new (s:ByteArray) (w:World):Prs w.heap.size w.heap.size [] s 0 (w.alloc (.cells #[.string s,.slice none 0 0,.int .i64 0] 143)):=
 ⟨Nat.le_refl _,.slice none 0 0,St.new w _ _,World.ownsRow_nil _ _ _ _,by simp[Value.ownBlock]⟩
theorem zlf (s:ByteArray) (w:World) (hs:s.size<=1600) (h:∀l,altOf (atomD 99) ([],numsOf s)≠some (l,[])):
  Calls Tryz.prog 60 #[.string s] w fun e w'=>e=.returned (.tuple #[.slice none 0 0,.int .i64 5])/\Below w.heap.size w w':=by
 have hA:=zeQ w.heap.size w.heap.size [] s _ (Prs.new s w) (by omega) (by simp;omega)
 have hb0:Below w.heap.size w (w.alloc (.cells #[.string s,.slice none 0 0,.int .i64 0] 143)):=(Below.refl _ _).alloc (Nat.le_refl _) _
 generalize altOf (atomD 99) ([],numsOf s)=O at hA h
 have HA:=hid hA
 have H:=hid h
 clear hA h
 go_enter Tryz.func60,Tryz.ntmps60
 go_wp2_with fail
 refine HA.out.mono ?_
 rintro e w1 ⟨k1,h1,h2⟩
 have hb1:=hb0.trans k1.1
 rcases O with _|⟨l,r⟩
 ·obtain rfl:=h1 rfl
  go_wp2_with fail
  go_ret2
  exact⟨rfl,hb1⟩
 ·obtain⟨rfl,s',hn,hp⟩:=h2 _ rfl
  obtain⟨c0,-⟩:=hp.rest
  have hne:r≠[]:=fun e=>H.out l (by rw[e])
  have hz:0<s'.size:=by
   rcases Nat.eq_zero_or_pos s'.size with hz|hz
   ·exact absurd (by simp only at hn;rw[<-hn];exact zdc s' hz) hne
   ·exact hz
  have hl0:s'.toList.isEmpty=false:=zbm s' hz
  have hl2:(!s'.toList.isEmpty)=true:=by rw[hl0];rfl
  go_wp2_with fail
  go_ret2
  exact⟨rfl,hb1⟩
theorem zie (s:ByteArray) (w:World) (hs:s.size<=1600) (l:List Pc) (h:altOf (atomD 99) ([],numsOf s)=some (l,[])) (hl:400<l.length):
  Calls Tryz.prog 60 #[.string s] w fun e w'=>e=.returned (.tuple #[.slice none 0 0,.int .i64 6])/\Below w.heap.size w w':=by
 have hA:=zeQ w.heap.size w.heap.size [] s _ (Prs.new s w) (by omega) (by simp;omega)
 have hb0:Below w.heap.size w (w.alloc (.cells #[.string s,.slice none 0 0,.int .i64 0] 143)):=(Below.refl _ _).alloc (Nat.le_refl _) _
 rw[h] at hA
 have HA:=hid hA
 clear hA h
 go_enter Tryz.func60,Tryz.ntmps60
 go_wp2_with fail
 refine HA.out.mono ?_
 rintro e w1 ⟨k1,h1,h2⟩
 have hb1:=hb0.trans k1.1
 obtain⟨rfl,s',hn,hp⟩:=h2 _ rfl
 obtain⟨c0,-⟩:=hp.rest
 simp only at hn hp
 have hz:s'.size=0:=by rw[<-zaA,hn];rfl
 have hl0:s'.toList=[]:=zbE s' hz
 have hl2:(!s'.toList.isEmpty)=false:=by rw[hl0];rfl
 obtain⟨_,v,hbk,hown,_⟩:=hp
 obtain⟨a,cap,rfl⟩:=zaa hown
 have c1:w1.cell? ⟨w.heap.size,1,none⟩=some (.slice a l.length cap):=by rw[Lib.cell_of_heap hbk];rfl
 obtain⟨n,hnn⟩:∃n,l.length=n:=⟨_,rfl⟩
 rw[hnn] at c1 hl
 clear hl0 hown hbk h1 h2 hnn
 go_wp2_with fail
 go_ret2
 exact⟨rfl,hb1⟩
theorem zjx (s:ByteArray) (w:World) (hs:s.size<=1600) (l:List Pc) (h:altOf (atomD 99) ([],numsOf s)=some (l,[])) (hl:l.length<=400):
  Calls Tryz.prog 60 #[.string s] w fun e w'=>∃a cap,e=.returned (.tuple #[.slice a l.length cap,.int .i64 0])/\w'.ownsRow w.heap.size 104 5 (.slice a l.length cap) l.length (pcs l)/\Below w.heap.size w w':=by
 have hA:=zeQ w.heap.size w.heap.size [] s _ (Prs.new s w) (by omega) (by simp;omega)
 have hb0:Below w.heap.size w (w.alloc (.cells #[.string s,.slice none 0 0,.int .i64 0] 143)):=(Below.refl _ _).alloc (Nat.le_refl _) _
 rw[h] at hA
 have HA:=hid hA
 clear hA h
 go_enter Tryz.func60,Tryz.ntmps60
 go_wp2_with fail
 refine HA.out.mono ?_
 rintro e w1 ⟨k1,h1,h2⟩
 have hb1:=hb0.trans k1.1
 obtain⟨rfl,s',hn,hp⟩:=h2 _ rfl
 obtain⟨c0,-⟩:=hp.rest
 simp only at hn hp
 have hz:s'.size=0:=by rw[<-zaA,hn];rfl
 have hl0:s'.toList=[]:=zbE s' hz
 have hl2:(!s'.toList.isEmpty)=false:=by rw[hl0];rfl
 obtain⟨_,v,hbk,hown,_⟩:=hp
 obtain⟨a,cap,rfl⟩:=zaa hown
 have c1:w1.cell? ⟨w.heap.size,1,none⟩=some (.slice a l.length cap):=by rw[Lib.cell_of_heap hbk];rfl
 have HO:=hid hown
 obtain⟨n,hnn⟩:∃n,l.length=n:=⟨_,rfl⟩
 have HN:=hid hnn
 rw[hnn] at c1 hl
 clear hl0 hown hbk h1 h2 hnn
 go_wp2_with fail
 go_ret2
 exact⟨a,cap,by rw[HN.out];rfl,HO.out,hb1⟩
end Go.Proofs.YtjehgdjlncofeaaGreat
