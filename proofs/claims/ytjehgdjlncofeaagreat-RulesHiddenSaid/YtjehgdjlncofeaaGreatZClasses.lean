import Derived.Test.YtjehgdjlncofeaaGreatZNNew
import Derived.Maps.AppendAt
import Derived.Laws.BytesArg
import Derived.BigRegion
import Derived.Maps.Own
import Derived.Maps.Views
import Derived.StringKeys
import Derived.Laws.Tables
set_option linter.unusedVariables false
set_option linter.unusedSimpArgs false
set_option maxHeartbeats 2000000
set_option maxRecDepth 100000
open Go.Lib (hid)
namespace Go.Proofs.YtjehgdjlncofeaaGreat
open Go.RowKit Go.Maps Go.WideElems Go.ChangeMaps Go.MapKept
theorem zan {w:World}{B B' t t' s s' n n':Nat}{v v':Value}{xs xs':List Value}(h:w.ownsRow B t s v n xs) (h':w.ownsRow B' t' s' v' n' xs') (ht:t≠t'):∀g,v.ownBlock=some g->v'.ownBlock≠some g:=by
 intro g e1 e2
 obtain⟨c,fz,hc⟩:=zaI h g e1
 obtain⟨c',fz',hc'⟩:=zaI h' g e2
 rw[hc] at hc'
 injection hc' with hc'
 injection hc' with _ hc'
 exact ht hc'
structure Ent (l l':List Nat) (s:Nat):Prop where
 mem:∀x,x∈l'↔x∈l\/x=s
 pre:l <+: l'
def Clo (L:List En) (l:List Nat) (i:Nat):Prop:=∀j (h:j<l.length),j<i->∀e∈L,e.b=true->e.f=l[j]->e.t∈l
theorem Clo.pre {L:List En}{l l':List Nat}{i:Nat}(h:Clo L l i) (hi:i<=l.length) (k:l <+: l'):Clo L l' i:=by
 intro j hj hji e he hb hf
 have h1:l[j]'(by omega)=l'[j]:=k.getElem (by omega)
 exact k.subset (h j (by omega) hji e he hb (by rw[h1];exact hf))
def byUp (f:Nat->Bool) (j:Nat):Nat->Nat
 | 0=>0
 | n+1=>byUp f j n+if f (8*j+n) then 2 ^ n else 0
def by8 (f:Nat->Bool) (j:Nat):Nat:=byUp f j 8
theorem zf6 (f:Nat->Bool) (j n:Nat):byUp f j n<2 ^ n:=by
 induction n with
 | zero=>simp[byUp]
 | succ n ih=>unfold byUp;rw[Nat.pow_succ];split <;> omega
theorem zg0 (f:Nat->Bool) (j:Nat):by8 f j<256:=zf6 f j 8
theorem zkD (f:Nat->Bool) (j n k:Nat):(byUp f j n).testBit k=(decide (k<n) && f (8*j+k)):=by
 induction n with
 | zero=>simp[byUp]
 | succ n ih=>
  unfold byUp
  have hl:=zf6 f j n
  rcases Nat.lt_trichotomy k n with h|h|h
  ·have h1:k<n+1:=by omega
   split
   ·rw[Nat.add_comm,Nat.testBit_two_pow_add_gt h,ih];simp[h,h1]
   ·rw[Nat.add_zero,ih];simp[h,h1]
  ·subst h
   split
   ·rename_i hp
    rw[Nat.add_comm,Nat.testBit_two_pow_add_eq,ih];simp[hp]
   ·rename_i hp
    rw[Nat.add_zero,ih];simp[hp]
  ·have h1:¬k<n+1:=by omega
   have hb:byUp f j (n+1)<2 ^ k:=Nat.lt_of_lt_of_le (zf6 f j (n+1)) (Nat.pow_le_pow_right (by decide) (by omega))
   unfold byUp at hb
   rw[Nat.testBit_lt_two_pow hb];simp[h1]
theorem zbK (f:Nat->Bool) (j k:Nat):(by8 f j).testBit k=(decide (k<8) && f (8*j+k)):=zkD f j 8 k
theorem zdj {f g:Nat->Bool}{j:Nat}(h:∀k,k<8->f (8*j+k)=g (8*j+k)):by8 f j=by8 g j:=by
 refine Nat.eq_of_testBit_eq fun k=>?_
 rw[zbK,zbK]
 by_cases hk:k<8
 ·rw[h k hk]
 ·simp[hk]
theorem znO {f g:Nat->Bool}{j:Nat}(h:by8 f j=by8 g j) (k:Nat) (hk:k<8):f (8*j+k)=g (8*j+k):=by
 have h1:=congrArg (fun x=>Nat.testBit x k) h
 simpa [zbK,hk] using h1
theorem zkE (j:Nat):by8 (fun _=>false) j=0:=by
 refine Nat.eq_of_testBit_eq fun k=>?_
 rw[zbK];simp
theorem zmG (f:Nat->Bool) (i j:Nat) (h:i / 8=j):by8 f j ||| 2 ^ (i % 8)=by8 (ins f i) j:=by
 refine Nat.eq_of_testBit_eq fun k=>?_
 rw[Nat.testBit_or,zbK,zbK,Nat.testBit_two_pow]
 have hr:i % 8<8:=Nat.mod_lt _ (by decide)
 by_cases e:i % 8=k
 ·have e2:8*j+k=i:=by omega
  simp[e,ins,e2,(by omega:k<8)]
 ·by_cases hk:k<8
  ·have e2:(8*j+k == i)=false:=by simp;omega
   simp[e,ins,e2]
  ·simp[e,hk]
theorem zmH (f:Nat->Bool) (i j:Nat) (h:i / 8≠j):by8 (ins f i) j=by8 f j:=by
 refine zdj fun k hk=>?_
 have h2:(8*j+k == i)=false:=by simp;omega
 simp[ins,h2]
def keyL (f:Nat->Bool) (n:Nat):List Nat:=(List.range ((n+7) / 8)).map (by8 (upTo f n))
theorem zex (f g:Nat->Bool) (n:Nat):keyL f n=keyL g n↔∀i,i<n->f i=g i:=by
 constructor
 ·intro h i hi
  have h1:∀j,j<(n+7) / 8->by8 (upTo f n) j=by8 (upTo g n) j:=by
   intro j hj
   have h2:=congrArg (fun l=>l[j]?) h
   simpa [keyL,hj] using h2
  have h3:=znO (h1 (i / 8) (by omega)) (i % 8) (Nat.mod_lt _ (by decide))
  rw[show 8*(i / 8)+i % 8=i by omega] at h3
  simpa [upTo,hi] using h3
 ·intro h
  unfold keyL
  refine List.map_congr_left fun j _=>zdj fun k _=>?_
  by_cases hi:8*j+k<n
  ·simp[upTo,hi,h _ hi]
  ·simp[upTo,hi]
def strOf (l:List Nat):ByteArray:=strOfNums (l.map fun n=>((n:Nat):Int))
theorem zbA (l:List Nat):(strOf l).data.toList=l.map UInt8.ofNat:=by simp[strOf,strOfNums_data]
theorem zaY (l:List Nat):(strOf l).size=l.length:=by simp[strOf,strOfNums_size]
theorem ziM {a b:ByteArray}(h:a.data.toList=b.data.toList):a=b:=by
 obtain⟨⟨x⟩⟩:=a
 obtain⟨⟨y⟩⟩:=b
 simp at h
 rw[h]
def numsOf (s:ByteArray):List Nat:=s.data.toList.map UInt8.toNat
theorem zdk (s:ByteArray):∀n∈numsOf s,n<256:=by
 intro n hn
 simp only[numsOf,List.mem_map] at hn
 obtain⟨x,_,rfl⟩:=hn
 exact UInt8.toNat_lt x
theorem zbm (s:ByteArray) (h:0<s.size):s.toList.isEmpty=false:=by
 rw[ByteArray.toList_eq]
 have:0<s.data.size:=h
 simp
 intro e
 rw[e] at this;simp at this
theorem zkF (w:World) (g:Nat) (c:Nat) (h:w.cell? ⟨g,0,none⟩=some (.int .u8 (c:Int))):
  (convert 86 9 (.slice (some ⟨g,0,none⟩) 1 1)).run Tryz.prog w=.ok (.string (strOf [c])) w:=
 run_convert_bytes_arg w 86 5 Tryz.underlying86 Tryz.underlying5 g 0 1 1 [(c:Int)] rfl (fun i hi=>by
  obtain rfl:i=0:=by omega
  simpa using h) 9 Tryz.underlying9
theorem zc4 {W:World}{base:Nat}{a:Option Addr}{n cap:Nat}{l:List Nat}(h:W.ownsRow base 5 1 (.slice a n cap) n (u8s l)) (hn:n=l.length):
  (convert 86 9 (.slice a n cap)).run Tryz.prog W=.ok (.string (strOf l)) W:=by
 rcases Nat.eq_zero_or_pos n with h0|h0
 ·subst h0
  have hl:l=[]:=List.length_eq_zero_iff.1 hn.symm
  subst hl
  rcases a with _|a
  ·exact run_convert_bytes_nil W 86 5 Tryz.underlying86 Tryz.underlying5 0 cap 9 Tryz.underlying9
  ·have e:=h.2
   rcases e with ⟨e,_⟩|⟨g,cap',cur,e,_⟩
   ·simp at e
   ·simp at e
    obtain⟨rfl,rfl⟩:=e
    exact run_convert_bytes_arg W 86 5 Tryz.underlying86 Tryz.underlying5 g 0 0 cap [] rfl (fun i hi=>absurd hi (by omega)) 9 Tryz.underlying9
 ·obtain⟨g,rfl,_,_,hc⟩:=zae h h0
  refine run_convert_bytes_arg W 86 5 Tryz.underlying86 Tryz.underlying5 g 0 n cap (l.map fun n=>((n:Nat):Int)) (by simp[hn]) (fun i hi=>?_) 9 Tryz.underlying9
  rw[Nat.zero_add,(hc i (by omega)).1,zgc l i (by omega)]
  simp[List.getElem?_eq_getElem (by omega:i<l.length)]
theorem zdl {l l':List Nat}(h:∀n∈l,n<256) (h':∀n∈l',n<256) (e:l.map UInt8.ofNat=l'.map UInt8.ofNat):l=l':=by
 have h1:=congrArg (List.map UInt8.toNat) e
 simp only[List.map_map] at h1
 have k:∀l:List Nat,(∀n∈l,n<256)->l.map (UInt8.toNat ∘ UInt8.ofNat)=l:=by
  intro l hl
  induction l with
  | nil=>rfl
  | cons n l ih=>
   simp only[List.map_cons,Function.comp]
   rw[show (UInt8.ofNat n).toNat=n by simp[Nat.mod_eq_of_lt (hl n (by simp))]]
   congr 1
   exact ih fun m hm=>hl m (by simp[hm])
 rwa [k l h,k l' h'] at h1
def SetsAt (w:World) (a:Option Addr) (n:Nat) (s:Nat->Nat->Bool):Prop:=
 0<n->∃b off,a=some ⟨b,off,none⟩/\b<w.heap.size/\∀i,i<n->w.cell? ⟨b,off+i*4,none⟩=some (.int .u64 ((wd (s i) 0:Nat):Int))/\w.cell? ⟨b,off+i*4+1,none⟩=some (.int .u64 ((wd (s i) 1:Nat):Int))/\
  w.cell? ⟨b,off+i*4+2,none⟩=some (.int .u64 ((wd (s i) 2:Nat):Int))/\w.cell? ⟨b,off+i*4+3,none⟩=some (.int .u64 ((wd (s i) 3:Nat):Int))
theorem SetsAt.keep {w w':World}{a:Option Addr}{n:Nat}{s:Nat->Nat->Bool}(h:SetsAt w a n s) (k:Below w.heap.size w w'):SetsAt w' a n s:=by
 intro h0
 obtain⟨b,off,e,hb,hc⟩:=h h0
 refine⟨b,off,e,Nat.lt_of_lt_of_le hb k.size,fun i hi=>?_⟩
 obtain⟨h0,h1,h2,h3⟩:=hc i hi
 exact⟨(k.cell (p:=⟨b,_,none⟩) hb).trans h0,(k.cell (p:=⟨b,_,none⟩) hb).trans h1,(k.cell (p:=⟨b,_,none⟩) hb).trans h2,(k.cell (p:=⟨b,_,none⟩) hb).trans h3⟩
theorem zg1 (f:Nat->Bool) (k:Nat):bits .or .u8 ((by8 f (k / 8):Nat):Int) ((2:Int) ^ (k % 8) % 256)=((by8 (ins f k) (k / 8):Nat):Int):=by
 have hr:k % 8<8:=Nat.mod_lt _ (by decide)
 have h1:2 ^ (k % 8)<2 ^ 8:=Nat.pow_lt_pow_right (by decide) hr
 have e:((2:Int) ^ (k % 8)) % 256=((2 ^ (k % 8):Nat):Int):=by
  have h2:((2:Int) ^ (k % 8))=((2 ^ (k % 8):Nat):Int):=by simp
  rw[h2]
  generalize 2 ^ (k % 8)=x at h1
  omega
 rw[e,u8_or_nat _ _ (zg0 _ _) h1,zmG f k _ rfl]
def rowL (f:Nat->Bool) (m:Nat):List Nat:=(List.range m).map (by8 f)
theorem zbL (f:Nat->Bool) (m:Nat):(rowL f m).length=m:=by simp[rowL]
theorem zdm (m:Nat):u8s (rowL (fun _=>false) m)=List.replicate m (.int .u8 0):=by
 refine List.ext_getElem (by simp[u8s,rowL]) fun i h1 h2=>?_
 simp[u8s,rowL,zkE]
theorem zg2 (f:Nat->Bool) (m k:Nat):(u8s (rowL f m)).set (k / 8) (.int .u8 ((by8 (ins f k) (k / 8):Nat):Int))=u8s (rowL (ins f k) m):=by
 refine List.ext_getElem (by simp[u8s,rowL]) fun i h1 h2=>?_
 simp only[u8s,rowL,List.map_map,List.getElem_set,List.getElem_map,List.getElem_range,Function.comp]
 by_cases e:k / 8=i
 ·subst e;simp
 ·rw[if_neg e,zmH f k i e]
structure HoldAt (w:World) (B g m:Nat) (f:Nat->Bool) (wr:World):Prop where
 own:wr.ownsRow B 5 1 (.slice (some ⟨g,0,none⟩) m m) m (u8s (rowL f m))
 below:Below w.heap.size w wr
theorem HoldAt.drew {w wr:World}{B g m:Nat}{f:Nat->Bool}(h:HoldAt w B g m f wr):HoldAt w B g m f wr.drew:=⟨h.own,h.below.drew⟩
theorem Tryz.made0 (m:Nat):(madeCells #[.int .u8 0] m).toList=List.replicate m (.int .u8 0):=by
 refine List.ext_getElem (by simp[madeCells]) fun i h1 h2=>?_
 simp[madeCells,Nat.mod_one]
theorem zf7 (a:Option Addr) (n cap b:Nat) (s:Nat->Nat->Bool) (hn:n<=1000) (hb:b<256) (w:World) (hS:SetsAt w a n s):
  Calls Tryz.prog 141 #[.slice a n cap,.int .u8 b] w fun e w'=>e=.returned (.string (strOf (keyL (fun i=>s i b) n)))/\Below w.heap.size w w':=by
 obtain⟨i0,hi,hz0,hz1,hz2⟩:=info_parts Tryz.info_u8
 obtain⟨m,hm,hm2⟩:∃m,(n+7) / 8=m/\m<=126:=⟨_,rfl,by omega⟩
 have HM:=hid hm
 clear hm
 go_enter Tryz.func141,Tryz.ntmps141
 go_wp2_with (at_make;refine wpList_make_full _ rfl _ _ 86 rfl w.heap.size 5 i0 (.int .u8 0) 1 Tryz.underlying86 hi hz0 hz1 .i64 .i64 _ _ m rfl rfl ?c1 ?c2 ?c3 ?c4 ?c5 ?_)
 case c1=>have:=HM.out;omega
 case c2=>have:=HM.out;omega
 case c3=>rw[hz2];omega
 case c4=>unfold maxLen;omega
 case c5=>omega
 intro w1 hown hgrow
 rw[Tryz.made0,<-zdm m] at hown
 have hb1:Below w.heap.size w w1:=⟨hgrow.os,hgrow.tape,hgrow.output,hgrow.size,fun k hk=>hgrow.block k hk (by simp)⟩
 have R0:HoldAt w w.heap.size w.heap.size m (fun _=>false) w1:=⟨hown,hb1⟩
 obtain⟨g,hg,hg2⟩:∃g,w.heap.size=g/\w.heap.size<=g:=⟨_,rfl,by omega⟩
 obtain⟨B,hB,hB2⟩:∃B,w.heap.size=B/\w.heap.size<=B:=⟨_,rfl,by omega⟩
 have hBg:B<=g:=by omega
 have R0':HoldAt w B g m (fun _=>false) w1:=by rw[<-hg,<-hB];exact R0
 rw[hg]
 clear hown hgrow hb1 R0 hg hB
 go_wp2_with fail
 go_loopw [15] (fun i wr=>∃k:Nat,i=.int .i64 k/\k<=n/\HoldAt w B g m (upTo (fun i=>s i b) k) wr) (fun i _=>n-(intOf i).toNat)
 case atStart=>exact⟨0,rfl,Nat.zero_le _,by rw[zi0];exact R0'⟩
 case round=>
  clear R0'
  obtain⟨k,rfl,hk,R⟩:=hrel
  have hsz:=R.below.size
  by_cases hlt:k<n
  ·obtain⟨bl,off,rfl,hbl,hc⟩:=hS (by omega)
   obtain⟨e0,e1,e2,e3⟩:=hc k hlt
   have t0:=(R.below.cell (p:=⟨bl,off+k*4,none⟩) hbl).trans e0
   have t1:=(R.below.cell (p:=⟨bl,off+k*4+1,none⟩) hbl).trans e1
   have t2:=(R.below.cell (p:=⟨bl,off+k*4+2,none⟩) hbl).trans e2
   have t3:=(R.below.cell (p:=⟨bl,off+k*4+3,none⟩) hbl).trans e3
   clear hc e0 e1 e2 e3
   generalize hsk:s k=sk at t0 t1 t2 t3
   have HK:=hid hsk
   clear hsk
   go_wp2_with fail
   refine (zi1 sk b hb _).mono ?_
   rintro e w3 ⟨rfl,b3⟩
   have b3':Below wr.heap.size wr w3:=((Below.refl _ wr).alloc (Nat.le_refl _) _).trans (b3.mono (by simp))
   have hown3:=zab R.own b3'
   have hb3:=R.below.trans (b3'.mono hsz)
   have hs3:=b3'.size
   clear R b3 b3' t0 t1 t2 t3
   rcases hp:sk b with _|_
   ·have HN:Hid (upTo (fun i=>s i b) (k+1)=upTo (fun i=>s i b) k):=zmT _ _ (by show s k b=false;rw[HK.out];exact hp)
    clear hp
    go_wp2_with fail
    go_roundw
    case rel=>exact⟨k+1,by go_num,by omega,by rw[HN.out];exact⟨hown3,hb3⟩⟩
    case measure=>simp[intOf];omega
   ·have HN:Hid (upTo (fun i=>s i b) (k+1)=ins (upTo (fun i=>s i b) k) k):=zkU _ _ (by show s k b=true;rw[HK.out];exact hp)
    clear hp
    have hkm:k / 8<m:=by have:=HM.out;omega
    generalize upTo (fun i=>s i b) k=f at hown3 HN
    have hcell:=hown3.cellAt (k / 8) (by omega)
    have hfz:=hown3.frozenAt (k / 8)
    rw[zgc _ _ (by rw[zbL];exact hkm)] at hcell
    have hget:(rowL f m).getD (k / 8) 0=by8 f (k / 8):=by simp[rowL,hkm]
    rw[hget] at hcell
    obtain⟨ho4,hg4⟩:=hown3.stored (k / 8) (.int .u8 ((by8 (ins f k) (k / 8):Nat):Int))
    rw[zg2] at ho4
    have hB4:Below w.heap.size w3 (w3.setCell ⟨g,k / 8,none⟩ (.int .u8 ((by8 (ins f k) (k / 8):Nat):Int))):=(Below.refl _ w3).setCell hg2 _
    have R4:HoldAt w B g m (ins f k) (w3.setCell ⟨g,k / 8,none⟩ (.int .u8 ((by8 (ins f k) (k / 8):Nat):Int))):=⟨ho4,hb3.trans hB4⟩
    have HR4:=hid R4
    have hbt:=hid (zg1 f k)
    clear R4 hB4 ho4 hg4 hown3 hb3 hget
    go_wp2_with fail
    go_region
    go_wp2_with fail
    rw[hbt.out]
    go_roundw
    case rel=>exact⟨k+1,by go_num,by omega,by rw[HN.out];first|exact HR4.out|exact HR4.out.drew⟩
    case measure=>simp[intOf];omega
  ·obtain rfl:k=n:=by omega
   have hown:=R.own
   have hcv:=zc4 hown (by rw[zbL])
   have HKy:Hid (rowL (upTo (fun i=>s i b) k) m=keyL (fun i=>s i b) k):=by show rowL _ m=keyL _ k;unfold rowL keyL;rw[HM.out]
   have hbel:=R.below
   clear hown R
   go_wp2_with fail
   go_ret
   exact⟨by rw[HKy.out];rfl,hbel⟩
structure MkR (V:World) (B:Nat) (bs:List Nat) (bm gI m:Nat) (cs:Array Value) (P:Nat->Bool) (l:List Nat) (vL:Value) (wr:World):Prop where
 kept:Kept [] bs V wr
 below:Below B V wr
 sm:St wr 125 bm (cs.setIfInBounds 262 vL)
 sz:cs.size=263
 cI:cs[261]?=some (.slice (some ⟨gI,0,none⟩) m m)
 inn:wr.ownsRow B 5 1 (.slice (some ⟨gI,0,none⟩) m m) m (u8s (rowL P m))
 lst:wr.ownsRow B 3 1 vL l.length (zai l)
 loc:∀b,vL.ownBlock=some b->b∈bs\/V.heap.size<=b
 inb:bm∈bs/\gI∈bs
 lo:B<=bm/\B<=gI/\B<=V.heap.size
theorem MkR.keep {V wr w1:World}{B bm gI m:Nat}{bs:List Nat}{cs:Array Value}{P:Nat->Bool}{l:List Nat}{vL:Value}(h:MkR V B bs bm gI m cs P l vL wr) (k:Below wr.heap.size wr w1):MkR V B bs bm gI m cs P l vL w1:=
 ⟨h.kept.below k,h.below.trans (k.mono (Nat.le_trans h.lo.2.2 h.below.size)),h.sm.keep k,h.sz,h.cI,zab h.inn k,zab h.lst k,h.loc,h.inb,h.lo⟩
theorem MkR.hB {V wr:World}{B bm gI m:Nat}{bs:List Nat}{cs:Array Value}{P:Nat->Bool}{l:List Nat}{vL:Value}(h:MkR V B bs bm gI m cs P l vL wr):B<=wr.heap.size:=Nat.le_trans h.lo.2.2 h.below.size
theorem MkR.cells {V wr:World}{B bm gI m:Nat}{bs:List Nat}{cs:Array Value}{P:Nat->Bool}{l:List Nat}{vL:Value}(h:MkR V B bs bm gI m cs P l vL wr):
  wr.cell? ⟨bm,261,none⟩=some (.slice (some ⟨gI,0,none⟩) m m)/\wr.cell? ⟨bm,262,none⟩=some vL/\wr.frozen? ⟨bm,262,none⟩=false:=by
 refine⟨?_,?_,h.sm.thaw_ 262⟩
 ·rw[h.sm.at_,Array.getElem?_setIfInBounds_ne (by decide),h.cI]
 ·rw[h.sm.at_,Array.getElem?_setIfInBounds_self_of_lt (by rw[h.sz];decide)]
theorem MkR.put {V wr:World}{B bm gI m:Nat}{bs:List Nat}{cs:Array Value}{P:Nat->Bool}{l:List Nat}{vL:Value}(h:MkR V B bs bm gI m cs P l vL wr) (s:Nat) (hs:s / 8<m):MkR V B bs bm gI m cs (ins P s) l vL (wr.setCell ⟨gI,s / 8,none⟩ (.int .u8 ((by8 (ins P s) (s / 8):Nat):Int))):=by
 have hset:∀{B t n:Nat}{u:Value}{xs:List Value},wr.ownsRow B t 1 u n xs->t≠5->(wr.setCell ⟨gI,s / 8,none⟩ (.int .u8 ((by8 (ins P s) (s / 8):Nat):Int))).ownsRow B t 1 u n xs:=fun ho ht=>
  zal (ts:=[]) (bs:=[gI]) ho ((Kept.refl _ _ _).setCell _ _ (Or.inl (by simp))) (by simp) (fun g hg e=>by
   simp at e
   subst e
   exact zan ho h.inn ht g hg rfl)
 refine⟨h.kept.setCell _ _ (Or.inl h.inb.2),h.below.setCell (p:=⟨gI,s / 8,none⟩) h.lo.2.1 _,h.sm.far (p:=⟨gI,s / 8,none⟩) (fun e=>zaq h.inn h.sm (by decide) gI rfl e.symm) _,h.sz,h.cI,?_,hset h.lst (by decide),h.loc,h.inb,h.lo⟩
 rw[<-zg2]
 exact za9 h.inn (s / 8) hs _
theorem MkR.cell {V wr:World}{B bm gI m:Nat}{bs:List Nat}{cs:Array Value}{P:Nat->Bool}{l:List Nat}{vL:Value}(h:MkR V B bs bm gI m cs P l vL wr) (j:Nat) (hj:j<m):wr.cell? ⟨gI,j,none⟩=some (.int .u8 ((by8 P j:Nat):Int))/\wr.frozen? ⟨gI,j,none⟩=false:=by
 obtain⟨g,e,_,_,hc⟩:=zae h.inn (by omega)
 injection e with e
 injection e with e
 subst e
 obtain⟨h1,h2⟩:=hc j (by omega)
 exact⟨by rw[h1];simp[u8s,rowL,hj],h2⟩
theorem MkR.app {V W w5:World}{B bm gI m:Nat}{bs:List Nat}{cs:Array Value}{P:Nat->Bool}{l:List Nat}{vL v':Value}(h:MkR V B bs bm gI m cs P l vL W) (s:Nat) (ho:w5.ownsRow B 3 1 v' (l.length+1) (zai l++[.int .i64 (s:Int)])) (hg:W.grownBy w5 vL.ownBlock)
  (hat:v'.ownBlock=vL.ownBlock\/v'.ownBlock=some W.heap.size):MkR V B bs bm gI m cs P (l++[s]) v' (w5.setCell ⟨bm,262,none⟩ v'):=by
 have hsm:=h.sm.grown_own h.lst (by decide) hg
 have hB:Below B V w5:=h.below.grown hg h.hB (fun g e=>zas h.lst g e)
 refine⟨(h.kept.grown hg (fun g e=>(h.loc g e).elim Or.inl (fun x=>Or.inr (Or.inl x)))).setCell _ _ (Or.inl h.inb.1),hB.setCell (p:=⟨bm,262,none⟩) h.lo.1 _,?_,h.sz,h.cI,zau (zav h.inn h.lst (by decide) hg) hsm (by decide) _ _,?_,fun b e1=>?_,h.inb,h.lo⟩
 ·have:=hsm.set 262 v'
  rwa [Array.setIfInBounds_setIfInBounds] at this
 ·rw[zaL,List.length_append]
  exact zau ho hsm (by decide) _ _
 ·rcases hat with h1|h1
  ·exact h.loc b (by rw[<-h1];exact e1)
  ·rw[h1] at e1
   injection e1 with e1
   exact Or.inr (by rw[<-e1];exact h.below.size)
theorem ziN (f:Nat->Bool) (k:Nat):bits .and .u8 ((by8 f (k / 8):Nat):Int) ((2:Int) ^ (k % 8) % 256)=if f k then ((2 ^ (k % 8):Nat):Int) else 0:=by
 have hr:k % 8<8:=Nat.mod_lt _ (by decide)
 have h1:2 ^ (k % 8)<2 ^ 8:=Nat.pow_lt_pow_right (by decide) hr
 have e:((2:Int) ^ (k % 8)) % 256=((2 ^ (k % 8):Nat):Int):=by
  have h2:((2:Int) ^ (k % 8))=((2 ^ (k % 8):Nat):Int):=by simp
  rw[h2]
  generalize 2 ^ (k % 8)=x at h1
  omega
 have hk:8*(k / 8)+k % 8=k:=by omega
 rw[e,u8_and_nat _ _ (zg0 _ _) h1]
 have h3:by8 f (k / 8) &&& 2 ^ (k % 8)=if f k then 2 ^ (k % 8) else 0:=by
  refine Nat.eq_of_testBit_eq fun j=>?_
  rw[Nat.testBit_and,zbK,Nat.testBit_two_pow]
  by_cases ej:k % 8=j
  ·subst ej
   rw[hk]
   cases hf:f k <;> simp[hr]
  ·cases hf:f k <;> simp[ej,Nat.testBit_two_pow]
 rw[h3]
 split <;> rfl
def zkG (V:World) (B:Nat) (bs:List Nat) (bm gI m:Nat) (cs:Array Value) (P:Nat->Bool) (l:List Nat) (s:Nat) (e:Ending) (w':World):Prop:=
 ∃vL',e=.returned (.tuple #[])/\MkR V B bs bm gI m cs (ins P s) (if P s=true then l else l++[s]) vL' w'
theorem zhV (V:World) (B:Nat) (bs:List Nat) (bm gI m:Nat) (cs:Array Value) (P:Nat->Bool) (l:List Nat) (vL:Value) (wr:World) (h:MkR V B bs bm gI m cs P l vL wr) (hm:m<=1000000) (hl:l.length<=1000000) (s:Nat) (hs:s / 8<m) (hs2:s<=1000000):
  Calls Tryz.prog 145 #[.pointer (some ⟨bm,0,none⟩),.int .i64 (s:Int)] wr (zkG V B bs bm gI m cs P l s):=by
 obtain⟨aL,cL,rfl⟩:=zaa h.lst
 obtain⟨c0,c1,c2⟩:=h.cells
 obtain⟨d0,d1⟩:=h.cell (s / 8) hs
 have H:=hid h
 have hbt:=hid (zg1 P s)
 have hba:=ziN P s
 rcases hp:P s with _|_
 ·rw[hp,if_neg (by decide)] at hba
  have h1:=h.put s hs
  obtain⟨q,hq⟩:∃q,l.length=q:=⟨_,rfl⟩
  have H1:=hid h1
  obtain⟨e0,e1,e2⟩:=h1.cells
  have hO:=h1.lst
  rw[hq] at hO e1 c1 hl
  obtain⟨i0,hi,hz0,hz1,hz2⟩:=info_parts Tryz.info_int9
  have HP:=hid (And.intro hp hq)
  have hV:B<=(wr.setCell ⟨gI,s / 8,none⟩ (.int .u8 ((by8 (ins P s) (s / 8):Nat):Int))).heap.size:=h1.hB
  clear h h1 hp hq
  go_enter Tryz.func145,Tryz.ntmps145
  go_upto_region 3 with fail
  rw[hbt.out]
  generalize wr.setCell ⟨gI,s / 8,none⟩ (.int .u8 ((by8 (ins P s) (s / 8):Nat):Int))=W at H1 hO e0 e1 e2 hV⊢
  clear c0 c1 c2 d0 d1 hba
  go_wp2_with (at_builtin;refine wpList_append_own_at _ rfl _ _ 30 rfl B 3 i0 (.int .i64 0) 1 8 Tryz.underlying30 hi hz0 hz1 hz2 rfl (by decide) _ _ _ rfl (hO.alloc _) ⟨W.heap.size,0,none⟩ 1 1 [.int .i64 (s:Int)] rfl rfl (cell_one_new _ _ _) ?d2 ?d3 ?d4 ?d5 ?_)
  case d2=>intro u hu;simp at hu;subst hu;rfl
  case d3=>unfold maxLen;omega
  case d4=>omega
  case d5=>simp;omega
  intro v' w5 hown5 hgrow5 _ hat5
  obtain⟨a5,c5,rfl⟩:=zaa hown5
  have h2:=H1.out.keep (al W (.cells #[.int .i64 (s:Int)] 3))
  have hsw5:=h2.sm.grown_own h2.lst (by decide) (by rw[HP.out.2];exact hgrow5)
  have p3:w5.cell? ⟨bm,262,none⟩=some (.slice aL q cL):=by rw[hsw5.at_,Array.getElem?_setIfInBounds_self_of_lt (by rw[h2.sz];decide),HP.out.2]
  have pf:=hsw5.thaw_ 262
  have HF:=hid (h2.app s (v':=.slice a5 (q+1) c5) (by rw[HP.out.2];exact hown5) (by rw[HP.out.2];exact hgrow5) (by rw[HP.out.2,show (W.alloc (.cells #[.int .i64 (s:Int)] 3)).heap.size=W.heap.size+1 by simp];exact hat5))
  clear hown5 hgrow5 hat5 h2 hsw5 hO e0 e1 e2
  go_wp2_with fail
  refine bodyPost_ret (results_none rfl _ _ _) rfl ?_
  exact⟨.slice a5 (q+1) c5,rfl,by rw[if_neg (by rw[HP.out.1];decide)];exact HF.out⟩
 ·rw[hp,if_pos rfl] at hba
  have HP:=hid hp
  obtain⟨d,hd,hd0⟩:∃d:Nat,2 ^ (s % 8)=d/\0<d:=⟨_,rfl,Nat.two_pow_pos _⟩
  rw[hd] at hba
  have h0:¬((d:Int)=0):=by omega
  have h1:¬(d=0):=by omega
  clear h hp hd
  go_enter Tryz.func145,Tryz.ntmps145
  go_wp2_with fail
  refine bodyPost_ret (results_none rfl _ _ _) rfl ?_
  refine⟨.slice aL l.length cL,rfl,?_⟩
  rw[if_pos HP.out,show ins P s=P from by funext j;by_cases e:j=s;subst e;simp[ins,HP.out];simp[ins,e]]
  exact H.out
def IAt (w:World) (B:Nat) (a:Option Addr) (l:List Nat):Prop:=0<l.length->∃g off,a=some ⟨g,off,none⟩/\g<B/\∀j (h:j<l.length),w.cell? ⟨g,off+j,none⟩=some (.int .i64 ((l[j]:Nat):Int))
theorem IAt.below {w w':World}{B:Nat}{a:Option Addr}{l:List Nat}(h:IAt w B a l) (k:Below B w w'):IAt w' B a l:=by
 intro h0
 obtain⟨g,off,e,hg,hc⟩:=h h0
 exact⟨g,off,e,hg,fun j hj=>(k.cell (p:=⟨g,off+j,none⟩) hg).trans (hc j hj)⟩
structure NetFr (w:World) (B bn gF M cF:Nat) (aF:Nat->Option Addr) (cR:Nat->Nat) (L:List En):Prop where
 blk:bn<B/\gF<B
 fld:w.cell? ⟨bn,258,none⟩=some (.slice (some ⟨gF,0,none⟩) M cF)
 row:∀i,i<M->w.cell? ⟨gF,i,none⟩=some (.slice (aF i) (rowF L i).length (cR i))
 at_:∀i,i<M->IAt w B (aF i) (rowF L i)
theorem NetFr.below {w w':World}{B bn gF M cF:Nat}{aF:Nat->Option Addr}{cR:Nat->Nat}{L:List En}(h:NetFr w B bn gF M cF aF cR L) (k:Below B w w'):NetFr w' B bn gF M cF aF cR L:=
 ⟨h.blk,(k.cell (p:=⟨bn,258,none⟩) h.blk.1).trans h.fld,fun i hi=>(k.cell (p:=⟨gF,i,none⟩) h.blk.2).trans (h.row i hi),fun i hi=>(h.at_ i hi).below k⟩
structure MkA (V:World) (B:Nat) (bs:List Nat) (bm gI m M:Nat) (cs:Array Value) (l:List Nat) (vL:Value) (wr:World):Prop where
 r:MkR V B bs bm gI m cs (fun x=>decide (x∈l)) l vL wr
 nd:l.Nodup
 lt:∀x∈l,x<M
theorem MkA.len {V wr:World}{B bm gI m M:Nat}{bs:List Nat}{cs:Array Value}{l:List Nat}{vL:Value}(h:MkA V B bs bm gI m M cs l vL wr):l.length<=M:=zax h.nd h.lt
theorem MkA.keep {V wr w1:World}{B bm gI m M:Nat}{bs:List Nat}{cs:Array Value}{l:List Nat}{vL:Value}(h:MkA V B bs bm gI m M cs l vL wr) (k:Below wr.heap.size wr w1):MkA V B bs bm gI m M cs l vL w1:=⟨h.r.keep k,h.nd,h.lt⟩
def zou (V:World) (B:Nat) (bs:List Nat) (bm gI m M:Nat) (cs:Array Value) (l:List Nat) (s:Nat) (e:Ending) (w':World):Prop:=
 ∃l' vL',e=.returned (.tuple #[])/\MkA V B bs bm gI m M cs l' vL' w'/\Ent l l' s
theorem zfe (V:World) (B:Nat) (bs:List Nat) (bm gI m M:Nat) (cs:Array Value) (l:List Nat) (vL:Value) (wr:World) (h:MkA V B bs bm gI m M cs l vL wr) (hM:M<=100000) (hm:(M+7) / 8=m) (s:Nat) (hs:s<M):
  Calls Tryz.prog 145 #[.pointer (some ⟨bm,0,none⟩),.int .i64 (s:Int)] wr (zou V B bs bm gI m M cs l s):=by
 have hll:=h.len
 refine (zhV V B bs bm gI m cs _ l vL wr h.r (by omega) (by omega) s (by omega) (by omega)).mono ?_
 rintro e w' ⟨vL',rfl,h1⟩
 by_cases hm:s∈l
 ·rw[if_pos (by simpa using hm)] at h1
  refine⟨l,vL',rfl,⟨?_,h.nd,h.lt⟩,fun x=>⟨Or.inl,fun h=>h.elim id (fun e=>e ▸ hm)⟩,List.prefix_refl _⟩
  rwa [show ins (fun x=>decide (x∈l)) s=fun x=>decide (x∈l) from by funext j;by_cases e:j=s;subst e;simp[ins,hm];simp[ins,e]] at h1
 ·rw[if_neg (by simpa using hm)] at h1
  refine⟨l++[s],vL',rfl,⟨?_,?_,?_⟩,fun x=>by simp,List.prefix_append _ _⟩
  ·rwa [show ins (fun x=>decide (x∈l)) s=fun x=>decide (x∈l++[s]) from by funext j;by_cases e:j=s;subst e;simp[ins];simp[ins,e]] at h1
  ·refine List.nodup_append.2 ⟨h.nd,by simp,fun a ha b hb e=>?_⟩
   rw[List.mem_singleton.1 hb] at e
   exact hm (e ▸ ha)
  ·intro x hx
   rcases List.mem_append.1 hx with hx|hx
   ·exact h.lt x hx
   ·rw[List.mem_singleton.1 hx];exact hs
def zmI (V:World) (B:Nat) (bs:List Nat) (bm gI m M:Nat) (cs:Array Value) (L:List En) (l:List Nat) (e:Ending) (w':World):Prop:=
 ∃l' vL',e=.returned (.tuple #[])/\MkA V B bs bm gI m M cs l' vL' w'/\∀x,x∈l'↔FR L (fun y=>y∈l) x
theorem zf8 (V:World) (B:Nat) (bs:List Nat) (bm gI m M bn gF cF:Nat) (cs:Array Value) (aF:Nat->Option Addr) (cR:Nat->Nat) (L:List En) (HV:NetFr V B bn gF M cF aF cR L) (hc0:cs[0]?=some (.pointer (some ⟨bn,0,none⟩))) (hE:∀e∈L,e.f<M/\e.t<M) (hM:M<=100000) (hm:(M+7) / 8=m) (hL:L.length<=6400)
  (l:List Nat) (vL:Value) (wr:World) (h:MkA V B bs bm gI m M cs l vL wr):
  Calls Tryz.prog 118 #[.pointer (some ⟨bm,0,none⟩)] wr (zmI V B bs bm gI m M cs L l):=by
 have H:=hid (And.intro HV (And.intro hE (And.intro hL (And.intro hc0 hm))))
 have H0:=hid h
 clear HV hE hL h hc0 hm
 go_enter Tryz.func118,Tryz.ntmps118
 go_wp2_with fail
 go_loopw [2,4] (fun v _ wq=>∃(i:Nat) (l1:List Nat) (vL1:Value),v=.int .i64 i/\i<=l1.length/\l1.length<=M/\Hid (MkA V B bs bm gI m M cs l1 vL1 wq)/\Hid (l <+: l1/\(∀x∈l1,FR L (fun y=>y∈l) x)/\Clo L l1 i)) (fun v _ _=>M+1-(intOf v).toNat)
 case atStart=>exact⟨0,l,vL,rfl,Nat.zero_le _,H0.out.len,H0,List.prefix_refl _,fun x hx=>.base hx,fun j _ h=>absurd h (Nat.not_lt_zero _)⟩
 case round=>
  obtain⟨i,l1,vL1,rfl,hi,hl1,HA,HC⟩:=hrel
  obtain⟨aL,cL,rfl⟩:=zaa HA.out.r.lst
  obtain⟨_,c3,_⟩:=HA.out.r.cells
  have c0:wr.cell? ⟨bm,0,none⟩=some (.pointer (some ⟨bn,0,none⟩)):=by rw[HA.out.r.sm.at_,Array.getElem?_setIfInBounds_ne (by decide),H.out.2.2.2.1]
  have hfr:=H.out.1.below HA.out.r.below
  have f0:=hfr.fld
  obtain⟨q,hq⟩:∃q,l1.length=q:=⟨_,rfl⟩
  by_cases hlt:i<l1.length
  ·obtain⟨gl,rfl,_,_,hcl⟩:=zae HA.out.r.lst (by omega)
   have d0:=(hcl i (by omega)).1
   rw[za8 l1 i hlt] at d0
   have hs:=HA.out.lt l1[i] (List.getElem_mem _)
   have HX:Hid (∀(l2:List Nat),l1 <+: l2->(∀t∈rowF L l1[i],t∈l2)->Clo L l2 (i+1)):=by
    intro l2 hp ht j hj hji e he hb hf
    by_cases e1:j=i
    ·subst e1
     have h1:l1[j]=l2[j]:=hp.getElem hlt
     exact ht _ ((zeE L _ _).2 ⟨e,he,hb,by rw[h1];exact hf,rfl⟩)
    ·exact HC.out.2.2.pre (by omega) hp j hj (by omega) e he hb hf
   have HFR:Hid (∀t∈rowF L l1[i],FR L (fun y=>y∈l) t):=by
    intro t ht
    obtain⟨e,he,hb,hf,rfl⟩:=(zeE L _ _).1 ht
    exact .step e (HC.out.2.1 _ (List.getElem_mem hlt)) he hb hf rfl
   have HTM:Hid (∀t∈rowF L l1[i],t<M):=by
    intro t ht
    obtain⟨e,he,hb,hf,rfl⟩:=(zeE L _ _).1 ht
    exact (H.out.2.1 e he).2
   have k0:=hfr.row l1[i] hs
   have HRw:=hid (fun (W:World) (hb:Below B V W)=>(H.out.1.below hb).at_ l1[i] hs)
   obtain⟨aR,haR⟩:∃aR,aF l1[i]=aR:=⟨_,rfl⟩
   obtain⟨cR',hcR⟩:∃cR',cR l1[i]=cR':=⟨_,rfl⟩
   rw[haR,hcR] at k0
   rw[haR] at HRw
   clear haR hcR
   generalize l1[i]=st at d0 hs HX HFR HTM k0 HRw
   clear hfr hcl
   obtain⟨p,hp⟩:∃p,(rowF L st).length=p:=⟨_,rfl⟩
   have hpl:p<=6400:=by rw[<-hp];exact Nat.le_trans (zhc L st) H.out.2.2.1
   have HP:=hid hp
   rw[hp] at k0
   have HQ:=hid hq
   have i1:(i:Int)<(q:Int):=by omega
   have i2:(st:Int)<(M:Int):=by omega
   have i3:i<q:=by omega
   rw[hq] at c3
   clear hp hq hlt hi
   go_wp2_with fail
   go_quiet (fail)
   obtain⟨wo,hwo⟩:∃wo:World,wr.drewN nq=wo:=⟨_,rfl⟩
   have hB0:Below wr.heap.size wr wo:=by rw[<-hwo];exact below_drewN (Below.refl _ _) _
   have HA0:=hid (HA.out.keep hB0)
   have HWO:=hid hwo
   clear hwo hB0 c0 c3 f0 d0 k0
   go_wp2_with fail
   rw[HWO.out]
   go_loopw [4,31] (fun _ v wq=>∃(k:Nat) (l2:List Nat) (vL2:Value),v=.int .i64 k/\k<=p/\Hid (MkA V B bs bm gI m M cs l2 vL2 wq)/\Hid (l1 <+: l2/\(∀x∈l2,FR L (fun y=>y∈l) x)/\∀t∈(rowF L st).take k,t∈l2)) (fun _ v _=>p-(intOf v).toNat)
   case atStart=>exact⟨0,l1,_,rfl,Nat.zero_le _,HA0,List.prefix_refl _,HC.out.2.1,by simp⟩
   case round=>
    obtain⟨k,l2,vL2,rfl,hk,HB,HD⟩:=hrel
    clear HA0 HWO
    by_cases hkp:k<p
    ·have hkl:k<(rowF L st).length:=by rw[HP.out];exact hkp
     obtain⟨gr,offr,rfl,_,hcr⟩:=(HRw.out wr HB.out.r.below) (by omega)
     have d0:=hcr k hkl
     have htm:=HTM.out (rowF L st)[k] (List.getElem_mem _)
     have htf:=HFR.out (rowF L st)[k] (List.getElem_mem _)
     have HTK:Hid ((rowF L st).take (k+1)=(rowF L st).take k++[(rowF L st)[k]]):=List.take_succ_eq_append_getElem hkl
     generalize (rowF L st)[k]=t at d0 htm htf HTK
     have HTF:=hid htf
     have i5:(k:Int)<(p:Int):=by omega
     clear hcr hkl htf
     go_wp2_with fail
     refine (zfe V B bs bm gI m M cs l2 vL2 wr HB.out hM H.out.2.2.2.2 t htm).mono ?_
     rintro e w2 ⟨l3,vL3,rfl,h3,hent⟩
     have HZ:Hid (l1 <+: l3/\(∀x∈l3,FR L (fun y=>y∈l) x)/\∀t∈(rowF L st).take (k+1),t∈l3):=by
      refine⟨HD.out.1.trans hent.pre,fun x hx=>?_,fun y hy=>?_⟩
      ·rcases (hent.mem x).1 hx with h|rfl
       ·exact HD.out.2.1 x h
       ·exact HTF.out
      ·rw[HTK.out] at hy
       rcases List.mem_append.1 hy with h|h
       ·exact (hent.mem y).2 (Or.inl (HD.out.2.2 y h))
       ·exact (hent.mem y).2 (Or.inr (List.mem_singleton.1 h))
     have H3:=hid h3
     clear h3 hent d0
     go_wp2_with fail
     go_roundw
     case rel=>exact⟨k+1,l3,vL3,by go_num,by omega,H3,HZ⟩
     case measure=>simp[intOf];omega
    ·obtain rfl:k=p:=by omega
     have HZ:Hid (l <+: l2/\(∀x∈l2,FR L (fun y=>y∈l) x)/\Clo L l2 (i+1)):=by
      refine⟨HC.out.1.trans HD.out.1,HD.out.2.1,HX.out l2 HD.out.1 (fun t ht=>HD.out.2.2 t ?_)⟩
      rwa [List.take_of_length_le (by rw[HP.out];exact Nat.le_refl _)]
     have hl2:=HB.out.len
     have hil:i+1<=l2.length:=by have:=HD.out.1.length_le;have:=HQ.out;omega
     go_wp2_with fail
     go_roundw
     case rel=>exact⟨i+1,l2,vL2,by go_num,hil,hl2,HB,HZ⟩
     case measure=>simp[intOf];omega
  ·have hiq:i=l1.length:=by omega
   have i1:¬((i:Int)<(q:Int)):=by omega
   rw[hq] at c3
   have HZ:Hid (∀x,x∈l1↔FR L (fun y=>y∈l) x):=fun x=>by
    refine⟨HC.out.2.1 x,FR.within (C:=fun x=>x∈l1) (fun y hy=>HC.out.1.subset hy) (fun e he hb hf=>?_)⟩
    obtain⟨j,hj,ej⟩:=List.getElem_of_mem hf
    exact HC.out.2.2 j hj (by omega) e he hb ej.symm
   clear hlt hi hiq hq hfr
   go_wp2_with fail
   refine bodyPost_ret (results_none rfl _ _ _) rfl ?_
   exact⟨l1,_,rfl,HA.out,HZ.out⟩
theorem zg3 {w:World}{B e n c:Nat}{a:Option Addr}{xs:List Value}(h:w.ownsRow B e 1 (.slice a n c) n xs):w.ownsRow B e 1 (.slice a 0 c) 0 []:=by
 refine⟨rfl,?_⟩
 rcases h.2 with ⟨h1,h2⟩|⟨g,cap,cur,h1,h2,h3,h4,h5,h6,h7⟩
 ·injection h1 with e1 e2 e3
  subst e1 e3
  exact Or.inl ⟨rfl,rfl⟩
 ·injection h1 with e1 e2 e3
  subst e1 e3
  exact Or.inr ⟨g,c,cur,rfl,h2,h3,Nat.zero_le _,h5,h6,rfl⟩
open Classical
noncomputable def fst (K:Nat->Lit) (b:Nat):Nat:=((List.range b).filter fun c=>decide (K c=K b)).headD b
theorem zbd (K:Nat->Lit) (b:Nat):fst K b<=b/\K (fst K b)=K b/\∀c,c<fst K b->K c≠K b:=by
 have e:fst K b=((List.range b).filter fun c=>decide (K c=K b)).headD b:=rfl
 rw[e]
 have hp:((List.range b).filter fun c=>decide (K c=K b)).Pairwise (·<·):=List.Pairwise.filter _ List.pairwise_lt_range
 have hm:∀x,x∈((List.range b).filter fun c=>decide (K c=K b))↔x<b/\K x=K b:=fun x=>by simp
 generalize ((List.range b).filter fun c=>decide (K c=K b))=l at hp hm
 match l with
 | []=>
  refine⟨Nat.le_refl _,rfl,fun c hc hk=>?_⟩
  have:=(hm c).2 ⟨hc,hk⟩
  simp at this
 | x :: r=>
  have h1:=(hm x).1 (by simp)
  refine⟨Nat.le_of_lt h1.1,h1.2,fun c hc hk=>?_⟩
  have hc':c<x:=hc
  have h2:=(hm c).2 ⟨by omega,hk⟩
  rw[List.pairwise_cons] at hp
  rcases List.mem_cons.1 h2 with h3|h3
  ·omega
  ·have:=hp.1 c h3;omega
theorem zl8 (K:Nat->Lit) (b c:Nat) (h2:K c=K b) (h3:∀d,d<c->K d≠K b):fst K b=c:=by
 obtain⟨_,a2,a3⟩:=zbd K b
 rcases Nat.lt_trichotomy (fst K b) c with h|h|h
 ·exact absurd a2 (h3 _ h)
 ·exact h
 ·exact absurd h2 (a3 _ h)
theorem zg4 (K:Nat->Lit) (b c:Nat) (h:K c=K b):fst K b=fst K c:=by
 obtain⟨_,a2,a3⟩:=zbd K c
 exact zl8 K b (fst K c) (a2.trans h) (fun d hd=>by rw[<-h];exact a3 d hd)
theorem zey (K:Nat->Lit) (b:Nat):fst K (fst K b)=fst K b:=by
 obtain⟨_,a2,_⟩:=zbd K b
 exact (zg4 K b (fst K b) a2).symm
noncomputable def nrep (K:Nat->Lit):Nat->Nat
 | 0=>0
 | k+1=>nrep K k+if fst K k=k then 1 else 0
theorem zez (K:Nat->Lit) (k:Nat):nrep K k<=k:=by
 induction k with
 | zero=>simp[nrep]
 | succ k ih=>simp only[nrep];split <;> omega
theorem ziO (K:Nat->Lit) {a b:Nat}(h:a<=b):nrep K a<=nrep K b:=by
 induction b with
 | zero=>
  have:a=0:=by omega
  subst this;exact Nat.le_refl _
 | succ b ih=>
  by_cases e:a=b+1
  ·subst e;exact Nat.le_refl _
  ·have:=ih (by omega)
   simp only[nrep];split <;> omega
noncomputable def cls (K:Nat->Lit) (b:Nat):Nat:=nrep K (fst K b)
theorem ziP (K:Nat->Lit) (b:Nat):cls K b<=b:=Nat.le_trans (zez K _) (zbd K b).1
theorem zd0 (K:Nat->Lit) (b k:Nat) (h:b<k):cls K b+1<=nrep K k:=by
 have h1:=(zbd K b).1
 have h2:nrep K (fst K b+1)=nrep K (fst K b)+1:=by simp only[nrep];rw[if_pos (zey K b)]
 have h3:=ziO K (show fst K b+1<=k by omega)
 unfold cls;omega
theorem zmJ (K:Nat->Lit) (k:Nat) (h:0<k):∃b,b<k/\cls K b+1=nrep K k:=by
 induction k with
 | zero=>omega
 | succ k ih=>
  by_cases e:fst K k=k
  ·refine⟨k,by omega,?_⟩
   unfold cls
   rw[e]
   simp only[nrep,e,if_true]
  ·rcases Nat.eq_zero_or_pos k with h0|h0
   ·subst h0
    have:=(zbd K 0).1
    exact absurd (by omega) e
   ·obtain⟨b,hb,hc⟩:=ih h0
    exact⟨b,by omega,by simp only[nrep,e,if_false];omega⟩
structure Good {H:Type}(K:Nat->Lit) (k:Nat) (D:DataW H):Prop where
 tidy:Tidy D
 size:size D=nrep K k
 has:∀b,b<k->has D (K b)=true
 only:∀kl,Maps.has D kl=true->∃b,b<k/\K b=kl
 at_:∀b,b<k->∀z,D.atKey (K b) z=.lit (.int .u8 ((cls K b:Nat):Int))
theorem Good.start {H:Type}(K:Nat->Lit):Good (H:=H) K 0 (.map []):=
 ⟨tidy_empty,rfl,fun b hb=>absurd hb (by omega),(fun kl h=>by cases h),fun b hb=>absurd hb (by omega)⟩
theorem Good.old {H:Type}{K:Nat->Lit}{k:Nat}{D:DataW H}(h:Good K k D) (hh:Maps.has D (K k)=true):Good K (k+1) D/\D.atKey (K k) (.lit (.int .u8 0))=.lit (.int .u8 ((cls K k:Nat):Int)):=by
 obtain⟨c,hc,hk⟩:=h.only _ hh
 have hf:=zg4 K k c hk
 have hn:fst K k≠k:=by have:=(zbd K c).1;omega
 have hcl:cls K k=cls K c:=by unfold cls;rw[hf]
 have hat:∀z,D.atKey (K k) z=.lit (.int .u8 ((cls K k:Nat):Int)):=fun z=>by rw[hcl,<-hk];exact h.at_ c hc z
 refine⟨⟨h.tidy,?_,fun b hb=>?_,fun kl hkl=>?_,fun b hb z=>?_⟩,hat _⟩
 ·rw[h.size];simp only[nrep,hn,if_false];rfl
 ·by_cases e:b=k
  ·subst e;exact hh
  ·exact h.has b (by omega)
 ·obtain⟨b,hb,e⟩:=h.only kl hkl
  exact⟨b,by omega,e⟩
 ·by_cases e:b=k
  ·subst e;exact hat z
  ·exact h.at_ b (by omega) z
theorem Good.new {H:Type}{K:Nat->Lit}{k:Nat}{D:DataW H}(h:Good K k D) (hK:∀b,WideAt.IsKeyLit (K b)) (hh:Maps.has D (K k)=false):
  Good K (k+1) (D.put (K k) (.lit (.int .u8 ((nrep K k:Nat):Int))))/\cls K k=nrep K k:=by
 have hne:∀b,b<k->K b≠K k:=fun b hb e=>by
  have:=h.has b hb
  rw[e,hh] at this;simp at this
 have hf:fst K k=k:=zl8 K k k rfl hne
 have hcl:cls K k=nrep K k:=by unfold cls;rw[hf]
 refine⟨⟨h.tidy.put (hK k) _,?_,fun b hb=>?_,fun kl hkl=>?_,fun b hb z=>?_⟩,hcl⟩
 ·rw[size_put h.tidy,hh,h.size];simp[nrep,hf]
 ·by_cases e:b=k
  ·subst e;exact has_put_same h.tidy.isMap (hK b) _
  ·rw[has_put_other (hne b (by omega))];exact h.has b (by omega)
 ·by_cases e:kl=K k
  ·exact⟨k,by omega,e.symm⟩
  ·rw[has_put_other e] at hkl
   obtain⟨b,hb,e⟩:=h.only kl hkl
   exact⟨b,by omega,e⟩
 ·by_cases e:b=k
  ·subst e;rw[atKey_put_same h.tidy.isMap (hK b),hcl]
  ·rw[atKey_put_other (hne b (by omega))];exact h.at_ b (by omega) z
def keyLit (s:Nat->Nat->Bool) (n b:Nat):Lit:=.string ((keyL (fun i=>s i b) n).map UInt8.ofNat)
theorem ziQ (s:Nat->Nat->Bool) (n b:Nat):WideAt.IsKeyLit (keyLit s n b):=by simp[keyLit,WideAt.IsKeyLit]
theorem zbB (f:Nat->Bool) (n:Nat):∀m∈keyL f n,m<256:=by
 intro m hm
 simp only[keyL,List.mem_map] at hm
 obtain⟨j,_,rfl⟩:=hm
 exact zg0 _ _
theorem ziR (s:Nat->Nat->Bool) (n b c:Nat):keyLit s n b=keyLit s n c↔∀i,i<n->s i b=s i c:=by
 unfold keyLit
 constructor
 ·intro h
  injection h with h
  exact (zex _ _ n).1 (zdl (zbB _ _) (zbB _ _) h)
 ·intro h
  rw[(zex (fun i=>s i b) (fun i=>s i c) n).2 h]
def zeros:Array Value:=Array.replicate 256 (.int .u8 0)
theorem zhW:zeros.size=256:=by simp[zeros]
theorem zkH (w:World):(zeroValue 36).run Tryz.prog w=.ok (.agg zeros) w:=by kernel_rfl
theorem zf9 (w:World):(zeroValue 5).run Tryz.prog w=.ok (.int .u8 0) w:=by kernel_rfl
theorem keyLaw:Keyed Tryz.prog 9:=string_keyed Tryz.underlying9
def Bytes (w:World) (g:Nat) (v:Nat->Nat):Prop:=∃cs,St w 36 g cs/\cs.size=256/\∀j,j<256->cs[j]?=some (.int .u8 ((v j:Nat):Int))
theorem Bytes.lt {w:World}{g:Nat}{v:Nat->Nat}(h:Bytes w g v):g<w.heap.size:=by obtain⟨cs,h,_⟩:=h;exact h.lt
theorem Bytes.cell {w:World}{g:Nat}{v:Nat->Nat}(h:Bytes w g v) (j:Nat) (hj:j<256):w.cell? ⟨g,j,none⟩=some (.int .u8 ((v j:Nat):Int))/\w.frozen? ⟨g,j,none⟩=false:=by
 obtain⟨cs,h,_,hc⟩:=h
 have h':w.heap[g]?=some (.cells cs 36 (0,0)):=h
 exact⟨by rw[cell_of_row w g j _ _ _ h',hc j hj],frozen_of_row w g j _ _ h'⟩
theorem Bytes.keep {w w':World}{g:Nat}{v:Nat->Nat}(h:Bytes w g v) (k:Below w.heap.size w w'):Bytes w' g v:=by obtain⟨cs,h,r⟩:=h;exact⟨cs,h.keep k,r⟩
theorem Bytes.far {w:World}{g:Nat}{v:Nat->Nat}(h:Bytes w g v) {a:Addr}(hp:g≠a.block) (u:Value):Bytes (w.setCell a u) g v:=by obtain⟨cs,h,r⟩:=h;exact⟨cs,h.far hp u,r⟩
def upd (v:Nat->Nat) (k x:Nat):Nat->Nat:=fun j=>if j=k then x else v j
theorem Bytes.set {w:World}{g:Nat}{v:Nat->Nat}(h:Bytes w g v) (k x:Nat) (hk:k<256):Bytes (w.setCell ⟨g,k,none⟩ (.int .u8 (x:Int))) g (upd v k x):=by
 obtain⟨cs,h,hs,hc⟩:=h
 refine⟨_,h.set k _,by simpa using hs,fun j hj=>?_⟩
 rw[Array.getElem?_setIfInBounds]
 by_cases e:k=j
 ·subst e;rw[if_pos rfl,if_pos (by omega)];simp[upd]
 ·rw[if_neg e,hc j hj]
  show some (Value.int .u8 ((v j:Nat):Int))=some (.int .u8 (((if j=k then x else v j):Nat):Int))
  rw[if_neg (fun h=>e h.symm)]
theorem zff (w:World):Bytes (w.alloc (.cells zeros 36)) w.heap.size (fun _=>0):=⟨_,St.new w _ _,zhW,fun j hj=>by simp[zeros,hj]⟩
theorem Bytes.alloc {w:World}{g:Nat}{v:Nat->Nat}(h:Bytes w g v) (o:Obj):Bytes (w.alloc o) g v:=by obtain⟨cs,h,r⟩:=h;exact⟨cs,h.alloc o,r⟩
theorem Bytes.below {w w':World}{g B:Nat}{v:Nat->Nat}(h:Bytes w g v) (k:Below B w w') (hg:g<B):Bytes w' g v:=by obtain⟨cs,h,r⟩:=h;exact⟨cs,h.below k hg,r⟩
theorem zga {w w':World}{b:Nat}(h:w.grownBy w' (some b)) (hb:b<=w.heap.size):Below b w w':=
 ⟨h.os,h.tape,h.output,h.size,fun k hk=>h.block k (by omega) (by simp;omega)⟩
theorem zfg {H:Type}{w w':World}{k:TypeId}{R:Value->Option (DataW H × List MemPlace)}{b n:Nat}{D:DataW H}(h:w.ownsMap Tryz.prog k R b n D) (kb:Below w.heap.size w w'):w'.ownsMap Tryz.prog k R b n D:=by
 obtain⟨es,clock,hb,r⟩:=h
 exact⟨es,clock,(kb.block b (Array.getElem?_eq_some_iff.1 hb).1).trans hb,r⟩
theorem zfh {H:Type}{w:World}{k:TypeId}{R:Value->Option (DataW H × List MemPlace)}{b n:Nat}{D:DataW H}(h:w.ownsMap Tryz.prog k R b n D):w.ownsMap Tryz.prog k R b (n+1) D:=by
 obtain⟨es,clock,hb,hf,hs,e⟩:=h
 exact⟨es,clock,hb,hf,by omega,e⟩
noncomputable def clsUp (K:Nat->Lit) (k:Nat):Nat->Nat:=fun j=>if j<k then cls K j else 0
theorem zd1 (K:Nat->Lit) (k:Nat):upd (clsUp K k) k (cls K k)=clsUp K (k+1):=by
 funext j
 simp only[upd,clsUp]
 by_cases e:j=k
 ·subst e;rw[if_pos rfl,if_pos (by omega)]
 ·rw[if_neg e]
  by_cases h:j<k
  ·rw[if_pos h,if_pos (by omega)]
  ·rw[if_neg h,if_neg (by omega)]
structure zmK {H:Type}(w:World) (K:Nat->Lit) (k:Nat) (D:DataW H) (wr:World):Prop where
 s0:Bytes wr w.heap.size (fun _=>0)
 s1:Bytes wr (w.heap.size+1) (clsUp K k)
 own:wr.ownsMap Tryz.prog 9 (plainElem Tryz.prog 5) (w.heap.size+1+1) k D
 good:Good K k D
 below:Below w.heap.size w wr
def zmL (K:Nat->Lit) (w:World) (e:Ending) (w':World):Prop:=∃cs:Array Value,e=.returned (.agg cs)/\cs.size=256/\(∀j,j<256->cs[j]?=some (.int .u8 ((cls K j:Nat):Int)))/\Below w.heap.size w w'
theorem zgb (a:Option Addr) (n cap:Nat) (s:Nat->Nat->Bool) (hn:n<=1000) (w:World) (hS:SetsAt w a n s):
  Calls Tryz.prog 112 #[.slice a n cap] w (zmL (keyLit s n) w):=by
 obtain⟨K,hK⟩:∃K,keyLit s n=K:=⟨_,rfl⟩
 rw[hK]
 have HK:=hid hK
 clear hK
 have hz:=zkH
 have hmm:=@run_makeMap Tryz.prog
 go_enter Tryz.func112,Tryz.ntmps112
 go_wp2_with fail
 go_loopw [10] (fun i wr=>∃(k:Nat) (D:DataW Unit),i=.int .i64 k/\k<=256/\zmK w K k D wr) (fun i _=>256-(intOf i).toNat)
 case atStart=>
  refine⟨0,.map [],rfl,Nat.zero_le _,⟨((zff w).alloc _).alloc _,?_,?_,Good.start K,(((Below.refl _ _).alloc (Nat.le_refl _) _).alloc (by simp) _).alloc (by simp;omega) _⟩⟩
  ·have:=(zff (w.alloc (.cells zeros 36))).alloc (.map #[] 0)
   simp only[World.size_alloc] at this
   exact this
  ·have:=World.ownsMap_made (H:=Unit) ((w.alloc (.cells zeros 36)).alloc (.cells zeros 36)) Tryz.prog 9 (plainElem Tryz.prog 5)
   simp only[World.size_alloc] at this
   exact this
 case round=>
  obtain⟨k,D,rfl,hk,R⟩:=hrel
  have hsz:=R.below.size
  have hl1:=R.s1.lt
  by_cases hlt:k<256
  ·go_wp2_with fail
   refine (zf7 a n cap k s hn hlt _ (hS.keep R.below)).mono ?_
   rintro e w3 ⟨rfl,b3⟩
   have hs0:=R.s0.keep b3
   have hs1:=R.s1.keep b3
   have hown:=zfg R.own b3
   have hb3:=R.below.trans (b3.mono hsz)
   have hgood:=R.good
   have hs3:=b3.size
   clear R b3
   obtain⟨kl,hkl⟩:∃kl,K k=kl:=⟨_,rfl⟩
   have hkey:keyOf Tryz.prog 9 (.string (strOf (keyL (fun i=>s i k) n)))=some kl:=by
    rw[Go.WideMaps.keyOf_string_mk Tryz.underlying9 (by rw[zaY];simp[keyL];unfold maxLen;omega),zbA,<-hkl,<-HK.out]
    rfl
   generalize strOf (keyL (fun i=>s i k) n)=ks at hkey
   obtain⟨hc1,hc2⟩:=hs1.cell k hlt
   have hszD:=hown.size_le
   have hin:∀b,WideAt.IsKeyLit (K b):=fun b=>by rw[<-HK.out];exact ziQ s n b
   rcases hh:Maps.has D kl with _|_
   ·obtain⟨hnew,hcl⟩:=hgood.new hin (by rw[hkl];exact hh)
    have hcn:=hgood.size
    rw[hkl,<-hcn] at hnew
    rw[<-hcn] at hcl
    have HG:=hid (And.intro hnew hcl)
    clear hnew hcl hcn hkl hin hgood
    go_wp2_with (first
     | (at_lookup;refine wpList_lookup_own_ok_int _ rfl _ _ 139 rfl 9 5 .u8 keyLaw Tryz.underlying139 Tryz.underlying5 (zf9 _) (w.heap.size+1+1) k _ rfl hown _ _ rfl hkey ?_;intro c hat hwc)
     | (at_len;refine wpList_len_own _ rfl _ 139 rfl 9 5 Tryz.underlying139 _ (w.heap.size+1+1) k _ rfl hown ?_)
     | (at_mapUpdate;refine wpList_mapUpdate_own _ rfl _ _ _ 139 rfl 9 5 keyLaw Tryz.underlying139 _ (w.heap.size+1+1) k _ rfl hown (by unfold maxLen;omega) _ _ _ rfl rfl hkey _ [] (plainElem_int Tryz.underlying5 (WalkArith.wf_u8 (by omega))) ?_;intro w4 hown4 hgrow4;have hB4:Below (w.heap.size+1+1) w3 w4:=zga hgrow4 (by omega);obtain⟨hc41,hc42⟩:=(hs1.below hB4 (by omega)).cell k hlt))
    have hs04:=hs0.below hB4 (by omega)
    have hs14:=(hs1.below hB4 (by omega)).set k (size D) hlt
    have e14:upd (clsUp K k) k (size D)=clsUp K (k+1):=by rw[<-HG.out.2];exact zd1 K k
    rw[e14] at hs14
    have R4:zmK w K (k+1) (D.put kl (.lit (.int .u8 ((size D:Nat):Int)))) (w4.setCell ⟨w.heap.size+1,k,none⟩ (.int .u8 ((size D:Nat):Int))):=
     ⟨hs04.far (by simp) _,hs14,hown4.setCell (by simp) _,HG.out.1,(hb3.trans (hB4.mono (by omega))).setCell (by simp) _⟩
    go_roundw
    case rel=>exact⟨k+1,_,by go_num,by omega,R4⟩
    case measure=>simp[intOf];omega
   ·obtain⟨hold,hat0⟩:=hgood.old (by rw[hkl];exact hh)
    rw[hkl] at hat0
    have HG:=hid (And.intro hold hat0)
    clear hold hat0 hkl hin hgood
    go_wp2_with (at_lookup;refine wpList_lookup_own_ok_int _ rfl _ _ 139 rfl 9 5 .u8 keyLaw Tryz.underlying139 Tryz.underlying5 (zf9 _) (w.heap.size+1+1) k _ rfl hown _ _ rfl hkey ?_;intro c hat hwc)
    have hc:c=((cls K k:Nat):Int):=by
     have:=hat.symm.trans HG.out.2
     simpa using this
    subst hc
    have hs13:=hs1.set k (cls K k) hlt
    rw[zd1] at hs13
    have R4:zmK w K (k+1) D (w3.setCell ⟨w.heap.size+1,k,none⟩ (.int .u8 ((cls K k:Nat):Int))):=
     ⟨hs0.far (by simp) _,hs13,zfh (hown.setCell (by simp) _),HG.out.1,hb3.setCell (by simp) _⟩
    go_roundw
    case rel=>exact⟨k+1,_,by go_num,by omega,R4⟩
    case measure=>simp[intOf];omega
  ·obtain rfl:k=256:=by omega
   have hbel:=R.below
   obtain⟨cs,h1,h2,h3⟩:=R.s1
   obtain⟨c0,g1,g2,_⟩:=R.s0
   have h1':wr.heap[w.heap.size+1]?=some (.cells cs 36 (0,0)):=h1
   have g1':wr.heap[w.heap.size]?=some (.cells c0 36 (0,0)):=g1
   have hinfo:(Tryz.prog.info? 36).map (·.size)=some cs.size:=by rw[h2];kernel_rfl
   have hall:cs.all (·.oneCell')=true:=by
    rw[Array.all_eq_true]
    intro j hj
    have:=h3 j (by omega)
    rw[Array.getElem?_eq_getElem hj] at this
    injection this with this
    rw[this];rfl
   have hcs:∀j,j<256->cs[j]?=some (.int .u8 ((cls K j:Nat):Int)):=fun j hj=>by rw[h3 j hj];simp[clsUp,hj]
   clear R h1 g1 h3
   go_wp2_with (first
    | (refine wpList_load_row rfl 36 _ rfl (w.heap.size+1) rfl _ cs (0,0) (.array 256 5) h1' Tryz.underlying36 rfl hinfo ?_)
    | (refine wpList_store_row rfl 36 _ _ rfl w.heap.size cs rfl rfl _ c0 g1' hinfo (by rw[h2,g2]) hall ?_))
   refine bodyPost_ret (v:=.agg cs) (results_cell_row (by rfl) _ _ w.heap.size _ cs (0,0) (.array 256 5) rfl (setRow_heap _ _ _ _ _ _ g1') Tryz.underlying36 rfl hinfo) rfl ⟨cs,rfl,h2,hcs,?_⟩
   exact hbel.trans ⟨rfl,rfl,rfl,by simp,fun k hk=>setRow_other _ _ _ _ (by omega)⟩
end Go.Proofs.YtjehgdjlncofeaaGreat
