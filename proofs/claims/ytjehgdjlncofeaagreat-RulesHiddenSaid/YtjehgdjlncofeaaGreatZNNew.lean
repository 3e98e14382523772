import Derived.Test.YtjehgdjlncofeaaGreatZDBase
import Derived.BigQuiet
import Derived.Deep.QuietTactic
import Derived.Deep.OwnRows
import Derived.IntWalk
import Derived.Deep.AppendLies
set_option linter.unusedVariables false
set_option linter.unusedSimpArgs false
set_option maxHeartbeats 1000000
set_option maxRecDepth 100000
open Go.Lib (hid)
namespace Go.Proofs.YtjehgdjlncofeaaGreat
open Go.ChangeShapes Go.WideShapes Go.ChangeAt Go.RowKit Go.Deep
theorem zi3 (a:Option Addr) (len cap:Nat) (z:Nat->Nat) (w:World) (hE:ElsB w a len z) (hlen:len<=9223372036854775806):
  Calls Tryz.prog 46 #[.slice a len cap] w fun e w'=>e=.returned (.agg #[.int .u64 ((wd (ofUp z len) 0:Nat):Int),.int .u64 ((wd (ofUp z len) 1:Nat):Int),.int .u64 ((wd (ofUp z len) 2:Nat):Int),.int .u64 ((wd (ofUp z len) 3:Nat):Int)])/\Below w.heap.size w w':=by
 go_enter Tryz.func46,Tryz.ntmps46
 go_wp2_with fail
 go_loopw [8] (fun i wr=>∃k:Nat,i=.int .i64 k/\k<=len/\Fills w (ofUp z k) wr) (fun i _=>len-(intOf i).toNat)
 case atStart=>exact⟨0,rfl,Nat.zero_le _,Fills.start w⟩
 case round=>
  obtain⟨k,rfl,hk,R⟩:=hrel
  obtain⟨r0,r1,r2,r3,r4,r5,r6,r7⟩:=row4 R.s0
  obtain⟨q0,q1,q2,q3,q4,q5,q6,q7⟩:=row4 R.s1
  by_cases hlt:k<len
  ·obtain⟨b,off,rfl,hb,hz⟩:=hE (by omega)
   obtain⟨hz1,hz2⟩:=hz k hlt
   have hc:=(R.below.cell (p:=⟨b,off+k,none⟩) hb).trans hz1
   clear hz1 hz
   go_wp2_with fail
   refine (zha _ _ hz2 _).mono ?_
   rintro e w1 ⟨rfl,b1⟩
   have R1:=R.step b1 (ins (ofUp z k) (z k))
   have hs:=b1.size
   have hs0:=R.s1.lt
   obtain⟨q0,q1,q2,q3,q4,q5,q6,q7⟩:=row4 (R.s1.keep b1)
   clear R b1 hc
   go_wp2_with fail
   go_roundw
   case rel=>exact⟨k+1,by go_num,by omega,R1⟩
   case measure=>simp[intOf];omega
  ·obtain rfl:k=len:=by omega
   go_wp2_with fail
   exact bodyPost_ret (v:=(.agg #[.int .u64 ((wd (ofUp z k) 0:Nat):Int),.int .u64 ((wd (ofUp z k) 1:Nat):Int),.int .u64 ((wd (ofUp z k) 2:Nat):Int),.int .u64 ((wd (ofUp z k) 3:Nat):Int)])) (by simp[results,Tryz.results46,go_sem,r0,r1,r2,r3]) rfl ⟨rfl,zbp R.below (Nat.le_refl _) _ _ _ _⟩
theorem Tryz.info_bool:(Tryz.prog.info? 4).map (fun i=>(i.zero,i.size,i.bytes))=some (some (.bool false),1,1):=by kernel_rfl
structure Eg where
 f:Int
 t:Int
 p:Nat->Bool
 b:Bool
def En.z (e:En):Eg:=⟨(e.f:Int),(e.t:Int),e.p,e.b⟩
def egCells (x:Eg):List Value:=(#[.int .i64 x.f,.int .i64 x.t,.int .u64 ((wd x.p 0:Nat):Int),.int .u64 ((wd x.p 1:Nat):Int),.int .u64 ((wd x.p 2:Nat):Int),.int .u64 ((wd x.p 3:Nat):Int),.bool x.b]).toList
def egs (l:List Eg):List Value:=l.flatMap egCells
theorem zcb (l:List Eg):(egs l).length=l.length*7:=by
 induction l with
 | nil=>rfl
 | cons x l ih=>simp[egs,egCells] at ih⊢;omega
theorem zd5 (a b:List Eg):egs (a++b)=egs a++egs b:=by simp[egs]
theorem zgf (l:List Eg) (i:Nat) (h:i<l.length) (j:Nat) (hj:j<7):(egs l)[i*7+j]?=(egCells l[i])[j]?:=by
 induction l generalizing i with
 | nil=>simp at h
 | cons x l ih=>
  have hc:(egCells x).length=7:=by simp[egCells]
  show (egCells x++egs l)[i*7+j]?=_
  match i,h with
  | 0,_=>
   rw[Nat.zero_mul,Nat.zero_add,List.getElem?_append_left (by omega)]
   rfl
  | i+1,h=>
   rw[List.getElem?_append_right (by omega),hc,show (i+1)*7+j-7=i*7+j by omega,ih i (by simpa using h)]
   rfl
def EdAt (w:World) (a:Option Addr) (l:List Eg):Prop:=0<l.length->∃g off,a=some ⟨g,off,none⟩/\g<w.heap.size/\∀j,j<l.length*7->w.cell? ⟨g,off+j,none⟩=(egs l)[j]?
theorem EdAt.below {w w':World}{a:Option Addr}{l:List Eg}(h:EdAt w a l) (k:Below w.heap.size w w'):EdAt w' a l:=by
 intro h0
 obtain⟨g,off,rfl,hg,hc⟩:=h h0
 have:=k.size
 exact⟨g,off,rfl,by omega,fun j hj=>(k.cell (p:=⟨g,off+j,none⟩) hg).trans (hc j hj)⟩
def At7 (w:World) (g o:Nat) (x:Eg):Prop:=
 w.cell? ⟨g,o,none⟩=some (.int .i64 x.f)/\w.cell? ⟨g,o+1,none⟩=some (.int .i64 x.t)/\w.cell? ⟨g,o+2,none⟩=some (.int .u64 ((wd x.p 0:Nat):Int))/\w.cell? ⟨g,o+3,none⟩=some (.int .u64 ((wd x.p 1:Nat):Int))/\
  w.cell? ⟨g,o+4,none⟩=some (.int .u64 ((wd x.p 2:Nat):Int))/\w.cell? ⟨g,o+5,none⟩=some (.int .u64 ((wd x.p 3:Nat):Int))/\w.cell? ⟨g,o+6,none⟩=some (.bool x.b)
theorem EdAt.get {w:World}{a:Option Addr}{l:List Eg}(h:EdAt w a l) (k:Nat) (hk:k<l.length):
  ∃g off,a=some ⟨g,off,none⟩/\g<w.heap.size/\At7 w g (off+k*7) l[k]:=by
 obtain⟨g,off,rfl,hg,hc⟩:=h (by omega)
 refine⟨g,off,rfl,hg,?_,?_,?_,?_,?_,?_,?_⟩
 ·have:=zgf l k hk 0 (by omega)
  rw[hc _ (by omega)];exact this
 all_goals
  rw[Nat.add_assoc,hc _ (by omega),zgf l k hk _ (by omega)]
  rfl
theorem zkV (w:World) (x:Eg):At7 (w.alloc (.cells #[.int .i64 x.f,.int .i64 x.t,.int .u64 ((wd x.p 0:Nat):Int),.int .u64 ((wd x.p 1:Nat):Int),.int .u64 ((wd x.p 2:Nat):Int),.int .u64 ((wd x.p 3:Nat):Int),.bool x.b] 128)) w.heap.size 0 x:=by
 have h:=St.new w 128 #[.int .i64 x.f,.int .i64 x.t,.int .u64 ((wd x.p 0:Nat):Int),.int .u64 ((wd x.p 1:Nat):Int),.int .u64 ((wd x.p 2:Nat):Int),.int .u64 ((wd x.p 3:Nat):Int),.bool x.b]
 refine⟨?_,?_,?_,?_,?_,?_,?_⟩ <;> (rw[cell_of_row _ _ _ _ _ _ h];rfl)
theorem St.cells4 {w:World}{g:Nat}{c0 c1 c2 c3:Value}{t:TypeId}(h:St w t g #[c0,c1,c2,c3]):w.cell? ⟨g,0,none⟩=some c0/\w.cell? ⟨g,1,none⟩=some c1/\w.cell? ⟨g,2,none⟩=some c2/\w.cell? ⟨g,3,none⟩=some c3:=by
 obtain⟨h0,h1,h2,h3,_⟩:=row4 h
 exact⟨h0,h1,h2,h3⟩
theorem St.at_ {w:World}{t g:Nat}{cs:Array Value}(h:St w t g cs) (i:Nat):w.cell? ⟨g,i,none⟩=cs[i]?:=cell_of_row _ _ _ _ _ _ h
theorem St.thaw_ {w:World}{t g:Nat}{cs:Array Value}(h:St w t g cs) (i:Nat):w.frozen? ⟨g,i,none⟩=false:=frozen_of_row w g i _ _ h
def BAt (w:World) (a:Option Addr) (n:Nat) (f:Nat->Bool):Prop:=0<n->∃g off,a=some ⟨g,off,none⟩/\g<w.heap.size/\∀j,j<n->w.cell? ⟨g,off+j,none⟩=some (.bool (f j))
theorem BAt.below {w w':World}{a:Option Addr}{n:Nat}{f:Nat->Bool}(h:BAt w a n f) (k:Below w.heap.size w w'):BAt w' a n f:=by
 intro h0
 obtain⟨g,off,e,hg,hc⟩:=h h0
 have:=k.size
 exact⟨g,off,e,by omega,fun j hj=>(k.cell (p:=⟨g,off+j,none⟩) hg).trans (hc j hj)⟩
def bls (f:Nat->Bool) (n:Nat):List Value:=(List.range n).map fun j=>.bool (f j)
theorem zkW (f:Nat->Bool) (n:Nat):bls f (n+1)=bls f n++[.bool (f n)]:=by simp[bls,List.range_succ]
theorem zmg {w:World}{B n c:Nat}{a:Option Addr}{f:Nat->Bool}(h:w.ownsRow B 4 1 (.slice a n c) n (bls f n)):BAt w a n f:=by
 intro h0
 obtain⟨g,e,_,hg,hc⟩:=zae h h0
 exact⟨g,0,e,hg,fun j hj=>by rw[Nat.zero_add,(hc j (by omega)).1];simp[bls,hj]⟩
theorem za9 {w:World}{base e g n c:Nat}{xs:List Value}(h:w.ownsRow base e 1 (.slice (some ⟨g,0,none⟩) n c) n xs) (j:Nat) (hj:j<n) (u:Value):(w.setCell ⟨g,j,none⟩ u).ownsRow base e 1 (.slice (some ⟨g,0,none⟩) n c) n (xs.set j u):=by
 refine⟨by rw[List.length_set];exact h.1,?_⟩
 rcases h.2 with ⟨h1,_⟩|⟨g',cap,cur,h1,h2,h3,h4,h5,h6,h7⟩
 ·cases h1
 ·injection h1 with e1 _ e3
  injection e1 with e1
  injection e1 with e1
  subst e1 e3
  refine Or.inr ⟨g,c,cur.setIfInBounds j u,rfl,h2,heap_setCell_same w g j cur e u h3,h4,h5,by simpa using h6,?_⟩
  rw[Array.toList_setIfInBounds,<-h7]
  rw[List.take_set]
theorem zhb (f:Nat->Bool) (m n:Nat) (v:Bool):(bls f m).set n (.bool v)=bls (fun j=>if j=n then v else f j) m:=by
 apply List.ext_getElem?
 intro i
 rw[List.getElem?_set]
 by_cases hi:i<m
 ·by_cases e:n=i
  ·subst e
   simp[bls,hi]
  ·have e':¬i=n:=fun h=>e h.symm
   simp only[bls,if_neg e,List.getElem?_map,List.getElem?_range hi,Option.map_some,if_neg e']
 ·by_cases e:n=i
  ·subst e
   simp[bls,hi]
  ·simp[bls,e,List.getElem?_eq_none (by simp;omega:(List.range m).length<=i)]
theorem zfp {f g:Nat->Bool}{m:Nat}(h:∀j,j<m->f j=g j):bls f m=bls g m:=by
 unfold bls
 exact List.map_congr_left (fun j hj=>by rw[h j (by simpa using hj)])
theorem zax {l:List Nat}(h:l.Nodup) {m:Nat}(hm:∀n∈l,n<m):l.length<=m:=by
 have:=h.length_le_of_subset (l₂:=List.range m) (fun x hx=>by simpa using hm x hx)
 simpa using this
theorem zgg (N:Nat) (hN:N<=2147483647) (W:World):(Instr.makeSlice 75 (.int .i64 (N:Int)) (.int .i64 (N:Int))).run Tryz.prog W=.ok (.slice (some ⟨W.heap.size,0,none⟩) N N) (W.alloc (.cells (madeCells #[.bool false] N) 4)):=by
 have:=run_make_row' (P:=Tryz.prog) 75 4 (.bool false) 1 Tryz.underlying75 Tryz.info_bool rfl .i64 .i64 N (by omega) (by omega) W
 simpa using this
theorem zbO (w:World) (base N:Nat) (e:TypeId) (z:Value) (hb:base<=w.heap.size) (hN:N<=maxLen):(w.alloc (.cells (madeCells #[z] N) e)).ownsRow base e 1 (.slice (some ⟨w.heap.size,0,none⟩) N N) N (List.replicate N z):=by
 have e1:(madeCells #[z] N).toList=List.replicate N z:=by
  apply List.ext_getElem?
  intro i
  by_cases hi:i<N
  ·simp[madeCells,hi,Nat.mod_one]
  ·simp[madeCells,hi]
 rw[<-e1]
 exact zbM w base e 1 _ N (by simp[size_madeCells]) hb hN
theorem zmU (N:Nat):List.replicate N (.bool false)=bls (fun _=>false) N:=by
 induction N with
 | zero=>rfl
 | succ N ih=>rw[List.replicate_succ',ih,zkW]
def stB (S s:Int):Bool:=decide (0<=s) && decide (s<S)
theorem znW {S s:Int}(h:¬0<=s):stB S s=false:=by simp[stB,h]
theorem zmV {S s:Int}(h:0<=s):stB S s=decide (s<S):=by simp[stB,h]
theorem zds {S s:Int}:stB S s=true↔0<=s/\s<S:=by simp[stB]
def edB (S:Int) (e:Eg):Bool:=stB S e.f && stB S e.t
def riB (S:Int) (L:List Eg) (F T:Int):Bool:=L.all (edB S) && (stB S F && stB S T)
theorem zgh (S F T:Int) (a:Option Addr) (n c:Nat) (s:Int) (w:World):
  Calls Tryz.prog 111 #[.agg #[.int .i64 S,.slice a n c,.int .i64 F,.int .i64 T],.int .i64 s] w fun e w'=>e=.returned (.bool (stB S s))/\Below w.heap.size w w':=by
 by_cases h:0<=s
 ·have HZ:=hid (zmV (S:=S) h)
  go_enter Tryz.func111,Tryz.ntmps111
  go_wp2_with fail
  go_ret
  exact⟨by rw[HZ.out];rfl,(Below.refl _ _).alloc (Nat.le_refl _) _⟩
 ·have HZ:=hid (znW (S:=S) h)
  go_enter Tryz.func111,Tryz.ntmps111
  go_wp2_with fail
  go_ret
  exact⟨by rw[HZ.out];rfl,(Below.refl _ _).alloc (Nat.le_refl _) _⟩
theorem zcc (S F T:Int) (a:Option Addr) (n c:Nat) (s:Int) (b:Bool) (h:stB S s=b) (w:World):
  Calls Tryz.prog 111 #[.agg #[.int .i64 S,.slice a n c,.int .i64 F,.int .i64 T],.int .i64 s] w fun e w'=>e=.returned (.bool b)/\Below w.heap.size w w':=by
 subst h
 exact zgh S F T a n c s w
theorem zi4 (w:World) (S F T:Int) (a:Option Addr) (n c:Nat):St (w.alloc (.cells #[.int .i64 S,.slice a n c,.int .i64 F,.int .i64 T] 67)) 67 w.heap.size #[.int .i64 S,.slice a n c,.int .i64 F,.int .i64 T]:=St.new _ _ _
theorem zi5 (S F T:Int) (a:Option Addr) (n c:Nat) (L:List Eg) (w:World) (hL:EdAt w a L) (hn:L.length=n) (hmax:n<=maxLen):
  Calls Tryz.prog 77 #[.agg #[.int .i64 S,.slice a n c,.int .i64 F,.int .i64 T]] w fun e w'=>e=.returned (.bool (riB S L F T))/\Below w.heap.size w w':=by
 unfold maxLen at hmax
 have HL:=hid (And.intro hL hn)
 have HW:=hid (zi4 w S F T a n c)
 obtain⟨W0,hW0⟩:∃W0,w.alloc (.cells #[.int .i64 S,.slice a n c,.int .i64 F,.int .i64 T] 67)=W0:=⟨_,rfl⟩
 have hB0:Below w.heap.size w W0:=by rw[<-hW0];exact (Below.refl _ _).alloc (Nat.le_refl _) _
 have hs0:W0.heap.size=w.heap.size+1:=by rw[<-hW0];simp
 obtain⟨k0,k1,k2,k3⟩:=(HW.out).cells4
 rw[hW0] at HW k0 k1 k2 k3
 have HB:=hid (And.intro hB0 hs0)
 have HE:=hid hW0
 clear hL hn hB0 hs0 hW0
 go_enter Tryz.func77,Tryz.ntmps77
 go_wp2_with fail
 rw[HE.out]
 go_loopw [8] (fun i wr=>∃k:Nat,i=.int .i64 k/\k<=n/\Hid ((L.take k).all (edB S)=true)/\Below W0.heap.size W0 wr) (fun i _=>n-(intOf i).toNat)
 case atStart=>exact⟨0,rfl,Nat.zero_le _,rfl,Below.refl _ _⟩
 case round=>
  obtain⟨k,rfl,hk,HA,hbel⟩:=hrel
  have hlt0:w.heap.size<W0.heap.size:=by rw[HB.out.2];omega
  have r0:=(hbel.cell (p:=⟨w.heap.size,0,none⟩) hlt0).trans k0
  have r1:=(hbel.cell (p:=⟨w.heap.size,1,none⟩) hlt0).trans k1
  have r2:=(hbel.cell (p:=⟨w.heap.size,2,none⟩) hlt0).trans k2
  have r3:=(hbel.cell (p:=⟨w.heap.size,3,none⟩) hlt0).trans k3
  have hsz:=hbel.size
  have hltr:w.heap.size<wr.heap.size:=by omega
  by_cases hlt:k<n
  ·have hkl:k<L.length:=by rw[HL.out.2];exact hlt
   obtain⟨g,off,rfl,hg,c0,c1,c2,c3,c4,c5,c6⟩:=(HL.out.1.below (HB.out.1.trans (hbel.mono (by rw[HB.out.2];omega)))).get k hkl
   have HS:Hid (∀b,edB S L[k]=b->(L.take (k+1)).all (edB S)=b):=by
    intro b hb
    rw[List.take_succ_eq_append_getElem hkl,List.all_append,HA.out]
    simpa using hb
   have HS2:Hid (edB S L[k]=false->riB S L F T=false):=by
    intro hb
    have h1:L.all (edB S)=false:=List.all_eq_false.2 ⟨L[k],List.getElem_mem _,by rw[hb];decide⟩
    simp[riB,h1]
   generalize L[k]=x at c0 c1 c2 c3 c4 c5 c6 HS HS2
   have hN:=zkV wr x
   obtain⟨b1,hb1⟩:∃b1,stB S x.f=b1:=⟨_,rfl⟩
   obtain⟨b2,hb2⟩:∃b2,stB S x.t=b2:=⟨_,rfl⟩
   have HX:Hid (edB S x=(b1 && b2)):=by show _=_;unfold edB;rw[hb1,hb2]
   have HP1:=hid hb1
   have HP2:=hid hb2
   clear hb1 hb2 hkl
   obtain⟨W1,hW1⟩:∃W1,wr.alloc (.cells #[.int .i64 x.f,.int .i64 x.t,.int .u64 ((wd x.p 0:Nat):Int),.int .u64 ((wd x.p 1:Nat):Int),.int .u64 ((wd x.p 2:Nat):Int),.int .u64 ((wd x.p 3:Nat):Int),.bool x.b] 128)=W1:=⟨_,rfl⟩
   have hs1:W1.heap.size=wr.heap.size+1:=by rw[<-hW1];simp
   have hb1:Below wr.heap.size wr W1:=by rw[<-hW1];exact (Below.refl _ _).alloc (Nat.le_refl _) _
   rw[hW1] at hN
   obtain⟨d0,d1,d2,d3,d4,d5,d6⟩:=hN
   have s0:=(hb1.cell (p:=⟨w.heap.size,0,none⟩) (by show w.heap.size<_;omega)).trans r0
   have s1:=(hb1.cell (p:=⟨w.heap.size,1,none⟩) (by show w.heap.size<_;omega)).trans r1
   have s2:=(hb1.cell (p:=⟨w.heap.size,2,none⟩) (by show w.heap.size<_;omega)).trans r2
   have s3:=(hb1.cell (p:=⟨w.heap.size,3,none⟩) (by show w.heap.size<_;omega)).trans r3
   have HB1:=hid (And.intro (hbel.trans (hb1.mono hsz)) hs1)
   have HW1:=hid hW1
   clear hs1 hb1 hW1
   go_wp2_with fail
   rw[HW1.out]
   refine (zcc S F T _ n c x.f b1 HP1.out _).mono ?_
   rintro e w2 ⟨rfl,v2⟩
   have hv2:=HB1.out.1.trans (v2.mono (by have:=HB1.out.2;omega))
   rcases b1 with _|_
   ·have HZ:Hid (riB S L F T=false):=HS2.out (by rw[HX.out];rfl)
    clear d0 d1 d2 d3 d4 d5 d6 s0 s1 s2 s3 v2
    have HH:=hid (HB.out.1.trans (hv2.mono (by rw[HB.out.2];omega)))
    clear hv2
    go_wp2_with fail
    go_ret
    exact⟨by rw[HZ.out];rfl,HH.out⟩
   ·have hsW1:=HB1.out.2
    have hwl:w.heap.size<W1.heap.size:=by omega
    have hel:wr.heap.size<W1.heap.size:=by omega
    have q0:=(v2.cell (p:=⟨w.heap.size,0,none⟩) hwl).trans s0
    have q1:=(v2.cell (p:=⟨w.heap.size,1,none⟩) hwl).trans s1
    have q2:=(v2.cell (p:=⟨w.heap.size,2,none⟩) hwl).trans s2
    have q3:=(v2.cell (p:=⟨w.heap.size,3,none⟩) hwl).trans s3
    have e1:=(v2.cell (p:=⟨wr.heap.size,1,none⟩) hel).trans d1
    clear d0 d1 d2 d3 d4 d5 d6 s0 s1 s2 s3 v2 hwl hel hsW1
    have HH:=hid hv2
    clear hv2
    go_wp2_with fail
    refine (zcc S F T _ n c x.t b2 HP2.out _).mono ?_
    rintro e w3 ⟨rfl,v3⟩
    have HH3:=hid (HH.out.trans (v3.mono HH.out.size))
    clear v3 q0 q1 q2 q3 e1
    rcases b2 with _|_
    ·have HZ:Hid (riB S L F T=false):=HS2.out (by rw[HX.out];rfl)
     go_wp2_with fail
     go_ret
     exact⟨by rw[HZ.out];rfl,HB.out.1.trans (HH3.out.mono (by rw[HB.out.2];omega))⟩
    ·have HZ:Hid ((L.take (k+1)).all (edB S)=true):=HS.out _ (by rw[HX.out];rfl)
     go_wp2_with fail
     go_roundw
     case rel=>exact⟨k+1,by go_num,by omega,HZ,HH3.out⟩
     case measure=>simp[intOf];omega
  ·obtain rfl:k=n:=by omega
   have HZ:Hid (riB S L F T=(stB S F && stB S T)):=by
    show _=_
    have:=HA.out
    rw[List.take_of_length_le (by rw[HL.out.2];exact Nat.le_refl _)] at this
    simp[riB,this]
   obtain⟨b1,hb1⟩:∃b1,stB S F=b1:=⟨_,rfl⟩
   obtain⟨b2,hb2⟩:∃b2,stB S T=b2:=⟨_,rfl⟩
   have HP1:=hid hb1
   have HP2:=hid hb2
   have HX:Hid (riB S L F T=(b1 && b2)):=by show _=_;rw[HZ.out,hb1,hb2]
   have HH:=hid hbel
   clear hb1 hb2 HZ hbel
   go_wp2_with fail
   refine (zcc S F T _ _ c F b1 HP1.out _).mono ?_
   rintro e w2 ⟨rfl,v2⟩
   have HH2:=hid (HH.out.trans (v2.mono HH.out.size))
   rcases b1 with _|_
   ·clear v2 r0 r1 r2 r3
    go_wp2_with fail
    go_ret
    exact⟨by rw[HX.out];rfl,HB.out.1.trans (HH2.out.mono (by rw[HB.out.2];omega))⟩
   ·have q0:=(v2.cell (p:=⟨w.heap.size,0,none⟩) hltr).trans r0
    have q1:=(v2.cell (p:=⟨w.heap.size,1,none⟩) hltr).trans r1
    have q2:=(v2.cell (p:=⟨w.heap.size,2,none⟩) hltr).trans r2
    have q3:=(v2.cell (p:=⟨w.heap.size,3,none⟩) hltr).trans r3
    clear v2 r0 r1 r2 r3
    go_wp2_with fail
    refine (zcc S F T _ _ c T b2 HP2.out _).mono ?_
    rintro e w3 ⟨rfl,v3⟩
    have HH3:=hid (HH2.out.trans (v3.mono HH2.out.size))
    clear v3 q0 q1 q2 q3
    go_wp2_with fail
    go_ret
    exact⟨by rw[HX.out];rfl,HB.out.1.trans (HH3.out.mono (by rw[HB.out.2];omega))⟩
structure Ok (L:List En) (N F T:Nat):Prop where
 f:F<N
 t:T<N
 e:∀e∈L,e.f<N/\e.t<N
def At7n (w:World) (g o:Nat) (x:En):Prop:=
 w.cell? ⟨g,o,none⟩=some (.int .i64 (x.f:Int))/\w.cell? ⟨g,o+1,none⟩=some (.int .i64 (x.t:Int))/\w.cell? ⟨g,o+2,none⟩=some (.int .u64 ((wd x.p 0:Nat):Int))/\w.cell? ⟨g,o+3,none⟩=some (.int .u64 ((wd x.p 1:Nat):Int))/\
  w.cell? ⟨g,o+4,none⟩=some (.int .u64 ((wd x.p 2:Nat):Int))/\w.cell? ⟨g,o+5,none⟩=some (.int .u64 ((wd x.p 3:Nat):Int))/\w.cell? ⟨g,o+6,none⟩=some (.bool x.b)
theorem EdAt.getN {w:World}{a:Option Addr}{l:List En}(h:EdAt w a (l.map En.z)) (k:Nat) (hk:k<l.length):
  ∃g off,a=some ⟨g,off,none⟩/\g<w.heap.size/\At7n w g (off+k*7) l[k]:=by
 obtain⟨g,off,h1,h2,h3⟩:=h.get k (by simpa using hk)
 rw[List.getElem_map] at h3
 exact⟨g,off,h1,h2,h3⟩
open Go.Maps Go.WideElems Go.ChangeMaps Go.MapKept
def zai (l:List Nat):List Value:=l.map fun n=>.int .i64 ((n:Nat):Int)
theorem zaL (l:List Nat) (n:Nat):zai (l++[n])=zai l++[.int .i64 (n:Int)]:=by simp[zai]
theorem za8 (l:List Nat) (j:Nat) (h:j<l.length):(zai l)[j]?=some (.int .i64 ((l[j]:Nat):Int)):=by simp[zai,List.getElem?_eq_getElem h]
theorem zbe:Keyed Tryz.prog 3:=int_keyed Tryz.underlying3
theorem zcs (w:World):(zeroValue 3).run Tryz.prog w=.ok (.int .i64 0) w:=by kernel_rfl
theorem Tryz.info_int9:(Tryz.prog.info? 3).map (fun i=>(i.zero,i.size,i.bytes))=some (some (.int .i64 0),1,8):=by kernel_rfl
theorem zbP (k:Nat) (hk:k<=9223372036854775807):keyOf Tryz.prog 3 (.int .i64 (k:Int))=some (.int .i64 (k:Int)):=by
 have hw:(Lit.int .i64 (k:Int)).wf=true:=wf64 (by omega)
 unfold keyOf
 simp[Tryz.underlying3,mapKey,hw]
theorem zct {a b:Nat}(h:(Value.int .i64 (a:Int))=.int .i64 (b:Int)):a=b:=by
 injection h with _ h
 exact Int.ofNat.inj h
theorem MapEx.look2 {w:World}{k t e:TypeId}{b n:Nat}{Q:Value->Value->Prop}(h:MapEx w k b n Q) (K:Keyed Tryz.prog k) (ht:Tryz.prog.underlying t=some (.map k e)) {z:Value}(hz:(zeroValue e).run Tryz.prog w=.ok z w)
  {key:Value}{kl:Lit}(hkey:keyOf Tryz.prog k key=some kl):
  ((Instr.lookup t (.map (some b)) key true).run Tryz.prog w=.ok (.tuple #[z,.bool false]) w/\∀y,¬Q key y)\/∃v,Q key v/\(Instr.lookup t (.map (some b)) key true).run Tryz.prog w=.ok (.tuple #[v,.bool true]) w:=by
 obtain⟨es,clock,hb,F,_,hq,hall⟩:=h
 rcases Maps.fit_look true K ht hz hb F hkey with ⟨hrun,hno,_⟩|⟨e0,y,hm,hk,hrun,_⟩
 ·refine Or.inl ⟨by simpa using hrun,fun y hy=>?_⟩
  obtain⟨e1,h1,h2⟩:=hall _ _ hy
  exact hno e1 h1 h2
 ·exact Or.inr ⟨e0.val,by rw[<-hk];exact hq e0 hm,by simpa using hrun⟩
def NmQ (nm:List Nat) (x y:Value):Prop:=∃k s:Nat,nm[k]?=some s/\x=.int .i64 ((s:Nat):Int)/\y=.int .i64 ((k:Nat):Int)
theorem Tryz.info_ints:(Tryz.prog.info? 30).map (fun i=>(i.zero,i.size,i.bytes))=some (some (.slice none 0 0),1,24):=by kernel_rfl
theorem zfq (N:Nat) (hN:N<=2147483647) (W:World):(Instr.makeSlice 37 (.int .i64 (N:Int)) (.int .i64 (N:Int))).run Tryz.prog W=.ok (.slice (some ⟨W.heap.size,0,none⟩) N N) (W.alloc (.cells (madeCells #[.slice none 0 0] N) 30)):=by
 have:=run_make_row' (P:=Tryz.prog) 37 30 (.slice none 0 0) 24 Tryz.underlying37 Tryz.info_ints rfl .i64 .i64 N (by omega) (by omega) W
 simpa using this
def GridAt (w:World) (B ts te sz g M:Nat) (vs:Nat->Value) (len:Nat->Nat) (xs:Nat->List Value):Prop:=
 St w ts g ((List.range M).map vs).toArray/\(∀i,i<M->w.ownsRow B te sz (vs i) (len i) (xs i))/\∀i j,i<M->j<M->i≠j->∀b,(vs i).ownBlock=some b->(vs j).ownBlock≠some b
theorem GridAt.keep {w w':World}{B ts te sz g M:Nat}{vs:Nat->Value}{len:Nat->Nat}{xs:Nat->List Value}(h:GridAt w B ts te sz g M vs len xs) (k:Below w.heap.size w w'):GridAt w' B ts te sz g M vs len xs:=
 ⟨h.1.keep k,fun i hi=>zab (h.2.1 i hi) k,h.2.2⟩
theorem GridAt.cell {w:World}{B ts te sz g M:Nat}{vs:Nat->Value}{len:Nat->Nat}{xs:Nat->List Value}(h:GridAt w B ts te sz g M vs len xs) (i:Nat) (hi:i<M):w.cell? ⟨g,i,none⟩=some (vs i)/\w.frozen? ⟨g,i,none⟩=false:=
 ⟨by rw[h.1.at_];simp[hi],h.1.thaw_ i⟩
theorem GridAt.congr {w:World}{B ts te sz g M:Nat}{vs:Nat->Value}{len len':Nat->Nat}{xs xs':Nat->List Value}(h:GridAt w B ts te sz g M vs len xs) (e:∀i,i<M->len i=len' i/\xs i=xs' i):GridAt w B ts te sz g M vs len' xs':=
 ⟨h.1,fun i hi=>by rw[<-(e i hi).1,<-(e i hi).2];exact h.2.1 i hi,h.2.2⟩
theorem GridAt.made (w:World) (B ts te sz M:Nat):GridAt (w.alloc (.cells (madeCells #[.slice none 0 0] M) ts)) B ts te sz w.heap.size M (fun _=>.slice none 0 0) (fun _=>0) (fun _=>[]):=by
 refine⟨?_,fun i _=>World.ownsRow_nil _ _ _ _,fun i j _ _ _ b h=>by simp[Value.ownBlock] at h⟩
 have e1:madeCells #[.slice none 0 0] M=((List.range M).map (fun _=>Value.slice none 0 0)).toArray:=by
  apply Array.ext'
  apply List.ext_getElem?
  intro i
  by_cases hi:i<M
  ·simp[madeCells,hi,Nat.mod_one]
  ·simp[madeCells,hi]
 rw[<-e1]
 exact St.new _ _ _
theorem GridAt.app {w w':World}{B ts te sz g M:Nat}{vs:Nat->Value}{len:Nat->Nat}{xs:Nat->List Value}(h:GridAt w B ts te sz g M vs len xs) (ht:te≠ts) {i:Nat}(hi:i<M) {v':Value}{n':Nat}{ys:List Value}(ho:w'.ownsRow B te sz v' n' ys) (hg:w.grownBy w' (vs i).ownBlock)
  (hat:∀b,v'.ownBlock=some b->(vs i).ownBlock=some b\/w.heap.size<=b):GridAt (w'.setCell ⟨g,i,none⟩ v') B ts te sz g M (fun j=>if j=i then v' else vs j) (fun j=>if j=i then n' else len j) (fun j=>if j=i then ys else xs j):=by
 have hs:=h.1.grown_own (h.2.1 i hi) ht hg
 have hlt:∀j,j<M->∀b,(vs j).ownBlock=some b->b<w.heap.size:=fun j hj b e=>by
  obtain⟨c,fz,hc⟩:=zaI (h.2.1 j hj) b e
  exact (Array.getElem?_eq_some_iff.1 hc).1
 refine⟨?_,fun j hj=>?_,fun j k hj hk hjk b=>?_⟩
 ·have:=hs.set i v'
  have e:(((List.range M).map vs).toArray).setIfInBounds i v'=((List.range M).map (fun j=>if j=i then v' else vs j)).toArray:=by
   apply Array.ext'
   apply List.ext_getElem?
   intro j
   rw[Array.toList_setIfInBounds,List.getElem?_set]
   by_cases e:i=j
   ·subst e;simp[hi]
   ·have e':¬j=i:=fun h=>e h.symm
    simp only[if_neg e,List.getElem?_map]
    by_cases hj:j<M
    ·simp[hj,e']
    ·simp[hj]
  rw[e] at this
  exact this
 ·by_cases e:j=i
  ·subst e
   simp only[if_pos rfl]
   exact zau ho hs ht j v'
  ·simp only[if_neg e]
   refine zau (zaG (h.2.1 j hj) hg (fun b e1 e2=>h.2.2 j i hj hi e b e1 e2.symm)) hs ht i v'
 ·by_cases e1:j=i
  ·subst e1
   have e2:¬k=j:=fun e=>hjk e.symm
   simp only[if_pos rfl,if_neg e2]
   intro e3 e4
   rcases hat b e3 with h1|h1
   ·exact h.2.2 j k hj hk hjk b h1 e4
   ·have:=hlt k hk b e4;omega
  ·by_cases e2:k=i
   ·subst e2
    simp only[if_pos rfl,if_neg e1]
    intro e3 e4
    rcases hat b e4 with h1|h1
    ·exact h.2.2 j k hj hk hjk b e3 h1
    ·have:=hlt j hj b e3;omega
   ·simp only[if_neg e1,if_neg e2]
    exact h.2.2 j k hj hk hjk b
def rowF (L:List En) (i:Nat):List Nat:=(L.filter fun e=>e.b && e.f == i).map (·.t)
def rowB (L:List En) (i:Nat):List En:=L.filter fun e=>!e.b && e.f == i
theorem zfr (L:List En) (x:En) (i:Nat):rowF (L++[x]) i=if x.b=true/\x.f=i then rowF L i++[x.t] else rowF L i:=by
 unfold rowF
 rw[List.filter_append,List.map_append]
 by_cases h:x.b=true/\x.f=i
 ·rw[if_pos h];simp[h.1,h.2]
 ·rw[if_neg h]
  by_cases hb:x.b=true
  ·have:¬x.f=i:=fun e=>h ⟨hb,e⟩
   simp[hb,this]
  ·simp[hb]
theorem zbq (L:List En) (x:En) (i:Nat):rowB (L++[x]) i=if x.b=false/\x.f=i then rowB L i++[x] else rowB L i:=by
 unfold rowB
 rw[List.filter_append]
 by_cases h:x.b=false/\x.f=i
 ·rw[if_pos h];simp[h.1,h.2]
 ·rw[if_neg h]
  by_cases hb:x.b=false
  ·have:¬x.f=i:=fun e=>h ⟨hb,e⟩
   simp[hb,this]
  ·simp[hb]
theorem zhc (L:List En) (i:Nat):(rowF L i).length<=L.length:=by simp[rowF];exact List.length_filter_le _ _
theorem zhd (L:List En) (i:Nat):(rowB L i).length<=L.length:=List.length_filter_le _ _
theorem zeE (L:List En) (i y:Nat):y∈rowF L i↔∃e∈L,e.b=true/\e.f=i/\e.t=y:=by
 simp only[rowF,List.mem_map,List.mem_filter,Bool.and_eq_true,beq_iff_eq]
 exact⟨fun ⟨e,⟨h1,h2,h3⟩,h4⟩=>⟨e,h1,h2,h3,h4⟩,fun ⟨e,h1,h2,h3,h4⟩=>⟨e,⟨h1,h2,h3⟩,h4⟩⟩
theorem zda (L:List En) (i:Nat) (e:En):e∈rowB L i↔e∈L/\e.b=false/\e.f=i:=by
 simp[rowB,List.mem_filter]
theorem al (w:World) (o:Obj):Below w.heap.size w (w.alloc o):=(Below.refl _ _).alloc (Nat.le_refl _) _
end Go.Proofs.YtjehgdjlncofeaaGreat
