import Derived.Test.YtjehgdjlncofeaaGreatZPMst
set_option linter.unusedVariables false
set_option linter.unusedSimpArgs false
set_option maxHeartbeats 4000000
set_option maxRecDepth 100000
open Go.Lib (hid)
namespace Go.Proofs.YtjehgdjlncofeaaGreat
open Go.RowKit Go.Maps Go.WideElems Go.ChangeMaps Go.MapKept
theorem zgq (n:Nat) (hn:n<=1000000) (W:World):(Instr.makeSlice 86 (.int .i64 0) (.int .i64 (n:Int))).run Tryz.prog W=.ok (.slice (some ⟨W.heap.size,0,none⟩) 0 n) (W.alloc (.cells (madeCells #[.int .u8 0] n) 5)):=by
 obtain⟨i0,hi,hz0,hz1,hz2⟩:=info_parts Tryz.info_u8
 have h:=run_makeSlice (P:=Tryz.prog) W 86 5 i0 (.int .u8 0) Tryz.underlying86 hi hz0 .i64 .i64 0 (n:Int) (by omega) (by omega) (by rw[hz1];simp;omega) (by rw[hz2];omega) (by omega)
 have e:(Value.int .u8 0).cells=#[.int .u8 0]:=rfl
 rw[hz1,e] at h
 simpa using h
theorem zdw (n:Nat) (hn:n<=1000000) (W:World) (B:Nat) (hB:B<=W.heap.size):(W.alloc (.cells (madeCells #[.int .u8 0] n) 5)).ownsRow B 5 1 (.slice (some ⟨W.heap.size,0,none⟩) 0 n) 0 []:=
 World.ownsRow_made W _ n hB (by unfold maxLen;omega) (by have:=size_madeCells #[Value.int .u8 0] n;simpa using this)
theorem zcX (w:World) (a b:Value) (t:TypeId):∀j u,[a,b][j]?=some u->(w.alloc (.cells #[a,b] t)).cell? ((⟨w.heap.size,0,none⟩:Addr).add j)=some u:=by
 intro j u h
 have hS:=(St.new w t #[a,b]).part
 exact hS j u h
theorem zgr (n:Nat) (hn:2*n<=1000000) (W:World):(Instr.makeSlice 86 (.int .i64 0) (.int .i64 (2*(n:Int)))).run Tryz.prog W=.ok (.slice (some ⟨W.heap.size,0,none⟩) 0 (2*n)) (W.alloc (.cells (madeCells #[.int .u8 0] (2*n)) 5)):=by
 have h:=zgq (2*n) hn W
 rwa [show ((2*n:Nat):Int)=2*(n:Int) by omega] at h
def colS (D:Dd) (k:Nat):Value:=.string (strOf (colT (fun i=>D.nx i k) D.n))
theorem DM.rowAt {w:World}{D:Dd}(h:DM w D) {g off:Nat}(e:D.aN=some ⟨g,off,none⟩) {i:Nat}(hi:i<D.n):w.cell? ⟨g,off+i,none⟩=some (.slice (D.A i) (D.len i) (D.Cp i))/\ZAt w (D.A i) (D.len i) (D.nx i):=by
 obtain⟨g',off',e',_,h1,h2⟩:=h.row i hi
 rw[e] at e'
 injection e' with e'
 injection e' with e1 e2
 subst e1 e2
 exact⟨h1,h2⟩
def zjo (D:Dd) (C:Nat) (w:World) (e:Ending) (w':World):Prop:=
 ∃(a:Option Addr) (c:Nat),e=.returned (.slice a C c)/\w'.ownsRow w.heap.size 9 1 (.slice a C c) C ((List.range C).map (colS D))/\Below w.heap.size w w'
theorem zk5 (x:Int):IntKind.u16.wrap x=((u16n x:Nat):Int):=by
 have h:IntKind.u16.wrap x=x % 65536:=by simp[IntKind.wrap,IntKind.bits,IntKind.signed]
 rw[h];unfold u16n;omega
theorem zk6 (z:Nat->Int) (i y:Nat) (hy:u16n (z i)=y):u8s (colT z (i+1))=u8s (colT z i)++[.int .u8 ((y:Int) % 256),.int .u8 ((y:Int) / 256)]:=by
 subst hy
 rw[colT,u8s,List.map_append]
 congr 1
theorem zeO (D:Dd) (C:Nat) (hR:DR D C) (w:World) (hD:DM w D):Calls Tryz.prog 91 #[.agg D.cD] w (zjo D C w):=by
 have hn2:=hR.n2
 have hn1:=hR.n1
 have hC6:=(hR.c256 hD.kl).2
 have hmk:=zgr D.n (by omega)
 have hk:=hD.kl
 have HB:=hid (And.intro (DBx.new hD) (And.intro (al w (.cells D.cD 39)) hR))
 obtain⟨iU,hU,hU0,hU1,hU2⟩:=info_parts Tryz.info_u8
 obtain⟨iS,hS,hS0,hS1,hS2⟩:=info_parts Tryz.info_str9
 clear hD hR
 go_enter Tryz.func91,Tryz.ntmps91
 go_upto_region 1 with fail
 generalize w.alloc (.cells D.cD 39)=W0 at HB⊢
 obtain⟨b0,hb0⟩:∃b0,w.heap.size=b0:=⟨_,rfl⟩
 rw[hb0] at HB
 rw[hb0]
 have Hb0:=hid hb0
 clear hb0
 have HCn:=hid (zbo D.K C HB.out.2.2.c hk W0)
 go_wp2_with (refine zam rfl 36 _ rfl ⟨b0,0,none⟩ rfl (clsOf D.K) (.array 256 5) HB.out.1.clsPart Tryz.underlying36 rfl (zaK D.K) ?_)
 refine HCn.out.mono ?_
 rintro e w1 ⟨rfl,b1⟩
 have HG1:Hid (w.heap.size<=W0.heap.size):=show w.heap.size<=W0.heap.size by have:=HB.out.2.1.size;have:=Hb0.out;omega
 have HG0:Hid (w1.ownsRow W0.heap.size 9 1 (.slice none 0 0) 0 ((List.range 0).map (colS D))/\Below W0.heap.size W0 w1):=⟨World.ownsRow_nil _ _ _ _,b1⟩
 clear b1 HCn
 go_wp2_with fail
 go_loopw [3,4,5,7,8,12] (fun v3 _ _ _ _ vk wr=>∃(k:Nat) (a3:Option Addr) (c3:Nat),v3=.slice a3 k c3/\vk=.int .i64 k/\k<=C/\Hid (wr.ownsRow W0.heap.size 9 1 v3 k ((List.range k).map (colS D))/\Below W0.heap.size W0 wr)) (fun _ _ _ _ _ v _=>C-(intOf v).toNat)
 case atStart=>exact⟨0,none,0,rfl,rfl,Nat.zero_le _,HG0.out⟩
 case round=>
  clear HG0
  obtain⟨k,a3,c3,rfl,rfl,hk2,HL⟩:=hrel
  by_cases hlt:k<C
  ·have HBr:=hid (HB.out.1.keep HL.out.2)
   have f1:=HBr.out.f1
   obtain⟨gN,oN,eN,hgN,_,_⟩:=HBr.out.dm.row 0 (by omega)
   rw[eN] at f1
   have HeN:=hid (And.intro eN hgN)
   have i1:(k:Int)<(C:Int):=by omega
   have HO0:=hid (zdw (2*D.n) (by omega) wr wr.heap.size (Nat.le_refl _))
   have HB0:=hid (al wr (.cells (madeCells #[.int .u8 0] (2*D.n)) 5))
   clear eN hgN
   go_upto_region 6 with fail
   obtain⟨g,hg⟩:∃g,wr.heap.size=g:=⟨_,rfl⟩
   have HO2:Hid ((wr.alloc (.cells (madeCells #[.int .u8 0] (2*D.n)) 5)).ownsRow g 5 1 (.slice (some ⟨g,0,none⟩) 0 (2*D.n)) 0 (u8s (colT (fun i=>D.nx i k) 0))/\Below g wr (wr.alloc (.cells (madeCells #[.int .u8 0] (2*D.n)) 5))):=by
    rw[<-hg]
    exact⟨HO0.out,HB0.out⟩
   have Hg:=hid hg
   have f1':=(HB0.out.cell (p:=⟨b0,256,none⟩) HBr.out.st.lt).trans f1
   try rw[hg]
   clear HO0 HB0 hg f1
   generalize wr.alloc (.cells (madeCells #[.int .u8 0] (2*D.n)) 5)=W6 at HO2 f1'⊢
   obtain⟨wo,hwo⟩:∃wo,wo=wr:=⟨wr,rfl⟩
   subst hwo
   go_wp2_with fail
   go_loopw [5,7,8,23] (fun v5 _ _ vi wq=>∃(i:Nat) (a5:Option Addr) (c5:Nat),v5=.slice a5 (2*i) c5/\vi=.int .i64 i/\i<=D.n/\Hid (wq.ownsRow g 5 1 v5 (2*i) (u8s (colT (fun i=>D.nx i k) i))/\Below g wo wq)) (fun _ _ _ v _=>D.n-(intOf v).toNat)
   case atStart=>exact⟨0,_,_,rfl,rfl,Nat.zero_le _,HO2⟩
   case round=>
    clear HO2 f1'
    obtain⟨i,a5,c5,rfl,rfl,hi,HA⟩:=hrel
    have hBw:Hid (Below wo.heap.size wo wr):=by rw[Hg.out];exact HA.out.2
    have HBq:=hid (HBr.out.keep hBw.out)
    by_cases hli:i<D.n
    ·obtain⟨cN1,zN⟩:=HBq.out.dm.rowAt HeN.out.1 hli
     rw[HB.out.2.2.len i hli] at cN1 zN
     obtain⟨gr,or9,eA,hgr,cz⟩:=zN (by omega)
     rw[eA] at cN1
     have cz1:=cz k hlt
     have i2:(i:Int)<(D.n:Int):=by omega
     obtain⟨x,hx⟩:∃x,D.nx i k=x:=⟨_,rfl⟩
     have Hx:=hid hx
     rw[hx] at cz1
     clear zN eA cz hgr hx
     have hW:=zk5 x
     obtain⟨y,hy⟩:∃y:Nat,u16n x=y:=⟨_,rfl⟩
     have Hy:=hid (zk6 (fun i=>D.nx i k) i y (by show u16n (D.nx i k)=y;rw[Hx.out];exact hy))
     rw[hy] at hW
     have hy9:y<65536:=by rw[<-hy];exact zg8 x
     clear hy
     have ho9:=HA.out.1
     have hgs9:g<=wr.heap.size:=by have:=HA.out.2.size;have:=Hg.out;omega
     go_wp2_with (at_builtin;refine wpList_append_own_at _ rfl _ _ 86 rfl g 5 iU (.int .u8 0) 1 1 Tryz.underlying86 hU hU0 hU1 hU2 rfl (by decide) _ _ _ rfl (ho9.alloc _) ⟨wr.heap.size,0,none⟩ 2 2 [.int .u8 ((y:Int) % 256),.int .u8 ((y:Int) / 256)] rfl rfl (zcX _ _ _ _) ?d2 ?d3 ?d4 ?d5 ?_)
     case d2=>first|(intro u hu;simp at hu;rcases hu with rfl|rfl <;> rfl)|rfl
     case d3=>unfold maxLen;omega
     case d4=>omega
     case d5=>first|(simp;omega)|omega
     intro v' w5 hown5 hgrow5 _ hat5
     obtain⟨a6,c6,rfl⟩:=zaa hown5
     have HF:Hid (w5.ownsRow g 5 1 (.slice a6 (2*i+2) c6) (2*i+2) (u8s (colT (fun i=>D.nx i k) (i+1)))/\Below g wo w5):=by
      have k9:=al wr (.cells #[.int .u8 ((y:Int) % 256),.int .u8 ((y:Int) / 256)] 5)
      have hgs:g<=wr.heap.size:=by have:=HA.out.2.size;have:=Hg.out;omega
      refine⟨?_,zac (HA.out.2.trans (k9.mono hgs)) (zab HA.out.1 k9) (by simp;omega) hgrow5⟩
      rw[Hy.out]
      exact hown5
     clear hown5 hgrow5 hat5 ho9
     go_wp2_with fail
     go_roundw
     case rel=>exact⟨i+1,a6,c6,rfl,by go_num,by omega,HF.out⟩
     case measure=>simp[intOf];omega
    ·obtain rfl:i=D.n:=by omega
     have hcv:=zc4 (HA.out.1) (by rw[zc5])
     have h3o:=zab HL.out.1 hBw.out
     have hbW:=hBw.out
     have hs9:W0.heap.size<=wr.heap.size:=by have:=hbW.size;have:=HL.out.2.size;omega
     go_wp2_with (at_builtin;refine wpList_append_own_at _ rfl _ _ 122 rfl W0.heap.size 9 iS (.string ⟨#[]⟩) 1 16 Tryz.underlying122 hS hS0 hS1 hS2 rfl (by decide) _ _ _ rfl (h3o.alloc _) ⟨wr.heap.size,0,none⟩ 1 1 [colS D k] rfl rfl (cell_one_new _ _ _) ?d2 ?d3 ?d4 ?d5 ?_)
     case d2=>first|(intro u hu;simp at hu;subst hu;rfl)|rfl
     case d3=>unfold maxLen;omega
     case d4=>omega
     case d5=>first|(simp;omega)|omega
     intro v' w5 hown5 hgrow5 _ hat5
     obtain⟨a6,c6,rfl⟩:=zaa hown5
     have HF:Hid (w5.ownsRow W0.heap.size 9 1 (.slice a6 (k+1) c6) (k+1) ((List.range (k+1)).map (colS D))/\Below W0.heap.size W0 w5):=by
      have k9:=al wr (.cells #[colS D k] 9)
      have hs0:=HL.out.2.size
      have hs1:=hbW.size
      refine⟨?_,zac ((HL.out.2.trans (hbW.mono hs0)).trans (k9.mono (by omega))) (zab h3o k9) (by simp;omega) hgrow5⟩
      rw[List.range_succ,List.map_append]
      exact hown5
     clear hown5 hgrow5 hat5 h3o
     go_wp2_with fail
     go_roundw
     case rel=>exact⟨k+1,a6,c6,rfl,by go_num,by omega,HF.out⟩
     case measure=>simp[intOf];omega
  ·obtain rfl:k=C:=by omega
   have HF:Hid (zjo D k w (.returned (.slice a3 k c3)) wr):=by
    have h1:=HB.out.2.1
    have h2:=HL.out.2
    have h3:=HG1.out
    have hs:=h1.size
    have hs0:=Hb0.out
    rw[<-hs0] at h1
    exact⟨a3,c3,rfl,zag HL.out.1 h3,h1.trans (h2.mono (by omega))⟩
   clear HL
   go_wp2_with fail
   go_ret
   exact HF.out
theorem zeb:∀j,j<256->(zC 39)[j]?=some (.int .u8 0):=by
 have h:(List.range 256).all (fun j=>match (zC 39)[j]? with|some (.int .u8 0)=>true|_=>false)=true:=by kernel_rfl
 intro j hj
 have h1:=List.all_eq_true.1 h j (by simpa using hj)
 split at h1
 ·rename_i e;rw[e]
 ·cases h1
theorem zia (b:Option Addr) (m d:Nat) (W:World):(Instr.build 39 #[(2,.slice b m d)]).run Tryz.prog W=.ok (.agg (dfC (fun _=>0) (.slice none 0 0) (.slice b m d))) W:=by
 have e:Tryz.prog.built 39 [(2,.slice b m d)]=Instr.fill (fun i=>#[(0,256),(256,1),(257,1)][i]?) (zC 39) [(2,.slice b m d)]:=by kernel_rfl
 have hz:=zak
 obtain⟨d1,d2⟩:=zbs
 obtain⟨q1,q2⟩:=zaT (zC 39) #[.slice b m d] 257 (by rw[hz];simp)
 rw[za5 _ _ 2 257 1 (.slice b m d) [] (by rfl) (by rfl) (by rw[hz];omega)] at e
 rw[show (Value.slice b m d).cells=#[.slice b m d] from rfl] at e
 simp only[List.size_toArray,List.length_cons,List.length_nil] at q2
 have e4:putAt (zC 39) #[.slice b m d] 257=dfC (fun _=>0) (.slice none 0 0) (.slice b m d):=by
  refine zbW _ _ _ _ (by rw[q1,hz]) (fun j hj=>by rw[q2,if_neg (by omega),zeb j hj];rfl) (by rw[q2,if_neg (by omega),d1]) (by rw[q2,if_pos (by omega)];rfl)
 rw[e4] at e
 exact run_build W _ _ _ e
theorem zho (K:Nat->Nat) (vN vK:Value) (j v:Nat) (hj:j<256):(dfC K vN vK).setIfInBounds j (.int .u8 (v:Int))=dfC (fun i=>if i=j then v else K i) vN vK:=by
 refine zbW _ vN vK _ (by rw[Array.size_setIfInBounds,zay]) (fun i hi=>?_) ?_ ?_
 ·by_cases e:i=j
  ·subst e
   rw[Array.getElem?_setIfInBounds_self_of_lt (by rw[zay];omega),if_pos rfl]
  ·rw[Array.getElem?_setIfInBounds_ne (fun h=>e h.symm),zb7 K vN vK i hi,if_neg e]
 ·rw[Array.getElem?_setIfInBounds_ne (by omega),zbV]
 ·rw[Array.getElem?_setIfInBounds_ne (by omega),zci]
theorem zfx {f g:Nat->Nat}:∀i,(∀j,j<i->f j=g j)->rpl f i=rpl g i:=by
 intro i
 induction i with
 | zero=>intro _;rfl
 | succ i ih=>
  intro h
  have e:=ih (fun j hj=>h j (by omega))
  show (if f i<(rpl f i).length then rpl f i else rpl f i++[i])=if g i<(rpl g i).length then rpl g i else rpl g i++[i]
  rw[e,h i (by omega)]
def cS (D:Dd) (c:Nat):ByteArray:=strOf (colT (fun i=>D.nx i c) D.n)
theorem zn4 (D:Dd) (c:Nat):(cS D c).size=2*D.n:=by unfold cS;rw[zaY,zc5]
theorem zow {D:Dd}{C:Nat}(hR:DR D C) {a b:Nat}(ha:a<C) (hb:b<C):cS D a=cS D b↔∀i,i<D.n->D.nx i a=D.nx i b:=by
 have hn2:=hR.n2
 rw[<-zkN (n:=D.n) (z:=fun i=>D.nx i a) (z':=fun i=>D.nx i b) (fun i hi=>by have:=hR.nx i a hi ha;omega) (fun i hi=>by have:=hR.nx i b hi hb;omega)]
 unfold cS
 constructor
 ·intro h
  have h1:=congrArg (fun s:ByteArray=>s.data.toList) h
  simp only[zbA] at h1
  exact zdl (zfm _ _) (zfm _ _) h1
 ·intro h;rw[h]
def SmQ (nm:List ByteArray) (key val:Value):Prop:=∃(b:Nat) (s:ByteArray),nm[b]?=some s/\key=.string s/\val=.int .u8 ((b:Nat):Int)
theorem zgs (W:World):(Instr.makeMap 139 none).run Tryz.prog W=.ok (.map (some W.heap.size)) (W.alloc (.map #[] 0)):=by
 kernel_rfl
theorem zk7 (w:World):(zeroValue 5).run Tryz.prog w=.ok (.int .u8 0) w:=by kernel_rfl
structure McI (W0:World) (D:Dd) (C bM b4:Nat) (vC:Value) (k:Nat) (v6:Value) (nm:List ByteArray) (g:Nat->Nat) (w:World):Prop where
 bel:Below W0.heap.size W0 w
 map:MapN w 9 bM nm.length (SmQ nm)
 kept:w.ownsRow W0.heap.size 3 1 v6 nm.length (zai ((rpl g k).map D.K))
 kl:(rpl g k).length=nm.length
 st:St w 39 b4 (dfC (fun j=>if j<k then g j else 0) (.slice none 0 0) (.slice D.aM D.m D.cM))
 cols:w.ownsRow W0.heap.size 9 1 vC C ((List.range C).map (colS D))
 at_:∀i,i<k->nm[g i]?=some (cS D (D.K i))
 num:Num (ColE D D.n) k g nm.length
 loM:W0.heap.size<=bM
 lo4:W0.heap.size<=b4
 nk:nm.length<=k
section
variable {W0 : World}{D : Dd}{C bM b4 : Nat}{vC : Value}{k : Nat}{v6 : Value}{nm : List ByteArray}{g : Nat → Nat}{w : World}
theorem McI.mem (h:McI W0 D C bM b4 vC k v6 nm g w) (s:ByteArray):s∈nm↔∃i,i<k/\cS D (D.K i)=s:=by
 constructor
 ·intro hm
  obtain⟨b,hb,e⟩:=List.getElem_of_mem hm
  obtain⟨i,h1,h2,_⟩:=h.num.new b hb
  refine⟨i,h1,?_⟩
  have:=h.at_ i h1
  rw[h2,List.getElem?_eq_getElem hb,e] at this
  exact (Option.some.inj this).symm
 ·rintro⟨i,hi,rfl⟩
  exact List.mem_of_getElem? (h.at_ i hi)
theorem McI.look (h:McI W0 D C bM b4 vC k v6 nm g w) (s:ByteArray) (hs:s.size<=1000000):
  (∃b,nm[b]?=some s/\(Instr.lookup 139 (.map (some bM)) (.string s) true).run Tryz.prog w=.ok (.tuple #[.int .u8 ((b:Nat):Int),.bool true]) w)\/
  (s∉nm/\(Instr.lookup 139 (.map (some bM)) (.string s) true).run Tryz.prog w=.ok (.tuple #[.int .u8 0,.bool false]) w):=by
 rcases h.map.ex.look2 zbT Tryz.underlying139 (zk7 w) (Go.WideMaps.keyOf_string_mk Tryz.underlying9 (s:=s) (by unfold maxLen;omega)) with ⟨hrun,hno⟩|⟨v,⟨b,s',h1,h2,rfl⟩,hrun⟩
 ·refine Or.inr ⟨fun hm=>?_,hrun⟩
  obtain⟨b,hb,e⟩:=List.getElem_of_mem hm
  exact hno _ ⟨b,s,by rw[List.getElem?_eq_getElem hb,e],rfl,rfl⟩
 ·injection h2 with h2
  exact Or.inl ⟨b,by rw[h2];exact h1,hrun⟩
theorem McI.put (h:McI W0 D C bM b4 vC k v6 nm g w) (s:ByteArray) (hs:s.size<=1000000) (hn:nm.length<maxLen) (hb:s∉nm):
  ∃w',(Instr.mapUpdate 139 (.map (some bM)) (.string s) (.int .u8 (nm.length:Int))).run Tryz.prog w=.ok () w'/\MapN w' 9 bM (nm.length+1) (SmQ (nm++[s]))/\w.grownBy w' (some bM):=by
 refine h.map.update zbT Tryz.underlying139 hn (Go.WideMaps.keyOf_string_mk Tryz.underlying9 (s:=s) (by unfold maxLen;omega)) ?_ ?_ ?_ ?_
 ·rintro y ⟨k,s',h1,h2,_⟩
  injection h2 with h2
  rw[<-h2] at h1
  exact hb (List.mem_of_getElem? h1)
 ·rintro a b ⟨k,s',h1,h2,h3⟩
  exact⟨k,s',by rw[List.getElem?_append_left (List.getElem?_eq_some_iff.1 h1).1];exact h1,h2,h3⟩
 ·exact⟨nm.length,s,by simp,rfl,rfl⟩
 ·rintro a b ⟨k,s',h1,h2,h3⟩ hne
  by_cases e:k<nm.length
  ·rw[List.getElem?_append_left e] at h1
   exact⟨b,k,s',h1,h2,h3⟩
  ·rw[List.getElem?_append_right (by omega)] at h1
   cases hj:k-nm.length with
   | zero=>rw[hj] at h1;simp at h1;exact absurd (by rw[h2,h1]) hne
   | succ j=>rw[hj] at h1;simp at h1
theorem zjp (g:Nat->Nat) (k b:Nat):(fun i=>if i=k then b else if i<k then g i else 0)=fun j=>if j<k+1 then (if j=k then b else g j) else 0:=by
 funext i
 by_cases e:i=k
 ·rw[if_pos e,if_pos (by omega),if_pos e]
 ·rw[if_neg e]
  by_cases e2:i<k
  ·rw[if_pos e2,if_pos (by omega),if_neg e]
  ·rw[if_neg e2,if_neg (by omega)]
theorem zjq (hR:DR D C) {a b:Nat}(ha:a<256) (hb:b<256):cS D (D.K a)=cS D (D.K b)↔ColE D D.n a b:=zow hR (hR.c.1 a ha) (hR.c.1 b hb)
theorem MapN.set {w:World}{k:TypeId}{b n t g i:Nat}{u:Value}{cs:Array Value}{Q:Value->Value->Prop}(h:MapN w k b n Q) (h':St w t g cs):MapN (w.setCell ⟨g,i,none⟩ u) k b n Q:=by
 refine h.same (Below.heap_setCell _ _ _ _ ?_)
 intro e
 obtain⟨es,clock,hb,_⟩:=h
 have h2:w.heap[g]?=_:=h'
 rw[show b=g from e,h2] at hb
 cases hb
theorem McI.old {b:Nat}(hR:DR D C) (hk:k<256) (h:McI W0 D C bM b4 vC k v6 nm g w) (hb:nm[b]?=some (cS D (D.K k))):
  ∃g',McI W0 D C bM b4 vC (k+1) v6 nm g' (w.setCell ⟨b4,k,none⟩ (.int .u8 (b:Int))):=by
 have hbl:b<nm.length:=(List.getElem?_eq_some_iff.1 hb).1
 obtain⟨i,h1,h2,_⟩:=h.num.new b hbl
 have hi:=h.at_ i h1
 rw[h2,hb] at hi
 have hi:=Option.some.inj hi
 have hE:ColE D D.n i k:=(zjq hR (by omega) hk).1 hi.symm
 have hrp:rpl (fun j=>if j=k then b else g j) (k+1)=rpl g k:=by
  have e0:rpl (fun j=>if j=k then b else g j) k=rpl g k:=zfx k (fun j hj=>by simp only[if_neg (show ¬j=k by omega)])
  rw[zck (f:=fun j=>if j=k then b else g j) (by rw[e0,h.kl];simp only[if_pos rfl];exact hbl),e0]
 refine⟨fun j=>if j=k then b else g j,h.bel.setCell (p:=⟨b4,k,none⟩) h.lo4 _,h.map.set h.st,by rw[hrp];exact zau h.kept h.st (by decide) _ _,by rw[hrp];exact h.kl,?_,zau h.cols h.st (by decide) _ _,fun j hj=>?_,?_,h.loM,h.lo4,by have:=h.nk;omega⟩
 ·have:=h.st.set k (.int .u8 (b:Int))
  rw[zho _ _ _ k b hk,zjp] at this
  exact this
 ·by_cases e:j=k
  ·simp only[if_pos e];rw[e];exact hb
  ·simp only[if_neg e];exact h.at_ j (by omega)
 ·have:=h.num.old (fun i j e x hx=>(e x hx).symm) (fun i j l e e2 x hx=>(e x hx).trans (e2 x hx)) (fun i x hx=>rfl) h1 hE
  rw[h2] at this
  exact this
theorem McI.fresh {w1 w2 w3:World}{v6':Value}(hR:DR D C) (hk:k<256) (h:McI W0 D C bM b4 vC k v6 nm g w) (hb:cS D (D.K k)∉nm) (hm:MapN w1 9 bM (nm.length+1) (SmQ (nm++[cS D (D.K k)]))) (hg1:w.grownBy w1 (some bM))
  (k2:Below w1.heap.size w1 w2) (hg:w2.grownBy w3 v6.ownBlock) (ho:w3.ownsRow W0.heap.size 3 1 v6' (nm.length+1) (zai ((rpl g k).map D.K)++[.int .i64 ((D.K k:Nat):Int)])):
  ∃g',McI W0 D C bM b4 vC (k+1) v6' (nm++[cS D (D.K k)]) g' (w3.setCell ⟨b4,k,none⟩ (.int .u8 (nm.length:Int))):=by
 have hB1:Below W0.heap.size W0 w1:=h.bel.grown hg1 h.bel.size (fun g e=>by injection e with e;rw[<-e];exact h.loM)
 have hB2:=hB1.trans (k2.mono hB1.size)
 have o2:=zab (zaB h.kept h.map.ex.of hg1) k2
 have c2:=zab (zaB h.cols h.map.ex.of hg1) k2
 have m2:=hm.same (k2.block _ hm.lt)
 have s2:=(h.st.grown_map h.map.ex.of hg1).keep k2
 have s3:=s2.grown_own o2 (by decide) hg
 have m3:=m2.grown_own o2 hg
 have c3:=zaG c2 hg (fun b e e2=>zan c2 o2 (by decide) b e e2.symm)
 have B3:=zac hB2 o2 hB2.size hg
 have hrp:rpl (fun j=>if j=k then nm.length else g j) (k+1)=rpl g k++[k]:=by
  have e0:rpl (fun j=>if j=k then nm.length else g j) k=rpl g k:=zfx k (fun j hj=>by simp only[if_neg (show ¬j=k by omega)])
  rw[zcl (f:=fun j=>if j=k then nm.length else g j) (by rw[e0,h.kl];show ¬(if k=k then nm.length else g k)<nm.length;rw[if_pos rfl];omega),e0]
 have hlen:(nm++[cS D (D.K k)]).length=nm.length+1:=by simp
 refine⟨fun j=>if j=k then nm.length else g j,B3.setCell (p:=⟨b4,k,none⟩) h.lo4 _,by rw[hlen];exact m3.set s3,?_,by rw[hrp,hlen,List.length_append,h.kl];rfl,?_,zau c3 s3 (by decide) _ _,fun j hj=>?_,?_,h.loM,h.lo4,by rw[hlen];have:=h.nk;omega⟩
 ·rw[hrp,hlen,List.map_append,show zai ((rpl g k).map D.K++[k].map D.K)=zai ((rpl g k).map D.K)++[.int .i64 ((D.K k:Nat):Int)] by simp[zai]]
  exact zau ho s3 (by decide) _ _
 ·have:=s3.set k (.int .u8 (nm.length:Int))
  rw[zho _ _ _ k _ hk,zjp] at this
  exact this
 ·by_cases e:j=k
  ·simp only[if_pos e];rw[e];simp
  ·simp only[if_neg e]
   have:=h.at_ j (by omega)
   rw[List.getElem?_append_left (List.getElem?_eq_some_iff.1 this).1]
   exact this
 ·rw[hlen]
  exact h.num.fresh (fun i j e x hx=>(e x hx).symm) (fun i x hx=>rfl) (fun i hi e=>hb ((h.mem _).2 ⟨i,hi,(zjq hR (by omega) hk).2 e⟩))
end
structure McR (W0:World) (D:Dd) (b4 C':Nat) (K':Nat->Nat) (vN:Value) (R:List (List Int)) (ws:Nat->Value) (v6:Value) (l:List Nat) (w:World):Prop where
 bel:Below W0.heap.size W0 w
 st:St w 39 b4 (dfC K' vN (.slice D.aM D.m D.cM))
 next:GridOw w W0.heap.size 30 3 1 vN R.length ws (fun _=>C') (fun j=>ints (R.getD j []))
 kept:w.ownsRow W0.heap.size 3 1 v6 C' (zai l)
 sep:∀i,i<R.length->∀b,(ws i).ownBlock=some b->v6.ownBlock≠some b
 lo:W0.heap.size<=b4
section
variable {W0 : World}{D : Dd}{b4 C' : Nat}{K' : Nat → Nat}{vN v6 : Value}{R : List (List Int)}{ws : Nat → Value}{l : List Nat}{w : World}
theorem McR.keep {w1:World}(h:McR W0 D b4 C' K' vN R ws v6 l w) (k:Below w.heap.size w w1):McR W0 D b4 C' K' vN R ws v6 l w1:=
 ⟨h.bel.trans (k.mono h.bel.size),h.st.keep k,h.next.keep k,zab h.kept k,h.sep,h.lo⟩
theorem McR.f1 (h:McR W0 D b4 C' K' vN R ws v6 l w):w.cell? ⟨b4,256,none⟩=some vN:=by rw[h.st.at_,zbV]
theorem McI.done {C bM:Nat}{vC:Value}{nm:List ByteArray}{g:Nat->Nat}{ws:Nat->Value}(h:McI W0 D C bM b4 vC 256 v6 nm g w) (hm:nm.length=C'):McR W0 D b4 C' (fun j=>if j<256 then g j else 0) (.slice none 0 0) [] ws v6 ((rpl g 256).map D.K) w:=by
 subst hm
 exact⟨h.bel,h.st,⟨World.ownsRow_nil _ _ _ _,fun i hi=>absurd hi (by simp),fun i j hi=>absurd hi (by simp)⟩,h.kept,fun i hi=>absurd hi (by simp),h.lo4⟩
theorem McR.addRow {w':World}{vN' u:Value}{row:List Int}{q:Nat}(h:McR W0 D b4 C' K' vN R ws v6 l w) (hu:w.ownsRow W0.heap.size 3 1 u C' (ints row)) (hs:∀i,i<R.length->∀b,(ws i).ownBlock=some b->u.ownBlock≠some b) (hs2:∀b,u.ownBlock=some b->v6.ownBlock≠some b) (hq:R.length=q)
  (ho:w'.ownsRow W0.heap.size 30 1 vN' (q+1) ((List.range q).map ws++[u])) (hg:w.grownBy w' vN.ownBlock):McR W0 D b4 C' K' vN' (R++[row]) (fun j=>if j=q then u else ws j) v6 l (w'.setCell ⟨b4,256,none⟩ vN'):=by
 subst hq
 have hst:St w' 39 b4 (dfC K' vN (.slice D.aM D.m D.cM)):=h.st.grown_own h.next.own (by decide) hg
 have h1:GridOw w W0.heap.size 30 3 1 vN R.length ws (fun _=>C') (fun j=>ints ((R++[row]).getD j [])):=h.next.congr (fun i hi=>⟨rfl,by simp[List.getD_eq_getElem?_getD,List.getElem?_append_left hi]⟩)
 have h2:=h1.pushRow (v':=vN') (u:=u) (w':=w') (by decide) (by simpa [List.getD_eq_getElem?_getD] using hu) hs ho hg
 have hm:w'.ownsRow W0.heap.size 3 1 v6 C' (zai l):=zaG h.kept hg (fun b e e2=>zan h.kept h.next.own (by decide) b e e2.symm)
 refine⟨(zac h.bel h.next.own h.bel.size hg).setCell (p:=⟨b4,256,none⟩) h.lo _,?_,?_,zbn hm hst (by decide),?_,h.lo⟩
 ·have:=hst.set 256 vN'
  rwa [zhT] at this
 ·rw[List.length_append]
  exact⟨zbn h2.own hst (by decide),fun i hi=>zbn (h2.row i hi) hst (by decide),h2.sep⟩
 ·intro i hi b e
  by_cases e1:i=R.length
  ·rw[if_pos e1] at e
   exact hs2 b e
  ·rw[if_neg e1] at e
   exact h.sep i (by simp at hi;omega) b e
def zgt (D:Dd) (w:World) (e:Ending) (w':World):Prop:=
 ∃(P:Dd) (g:Nat->Nat) (C':Nat),e=.returned (.agg P.cD)/\DM w' P/\Num (ColE D D.n) 256 g C'/\ClF D g C' P/\Below w.heap.size w w'
def pkR (D:Dd) (l:List Nat) (n:Nat):List (List Int):=(List.range n).map fun i=>l.map (D.nx i)
theorem McR.fin {C bR:Nat}{wS w':World}{g:Nat->Nat}{cs old:Array Value}(hD:DM wS D) (hR:DR D C) (hN:Num (ColE D D.n) 256 g C') (h:McR W0 D b4 C' (fun j=>if j<256 then g j else 0) vN (pkR D ((rpl g 256).map D.K) D.n) ws v6 ((rpl g 256).map D.K) w)
  (hs:St w 39 bR old) (hw:w'=w.setRow bR cs) (hB:Below wS.heap.size wS w'):zgt D wS (.returned (.agg (dfC (fun j=>if j<256 then g j else 0) vN (.slice D.aM D.m D.cM)))) w':=by
 subst hw
 obtain⟨aN,cN,rfl⟩:=zaa h.next.own
 have hlen:(pkR D ((rpl g 256).map D.K) D.n).length=D.n:=by simp[pkR]
 have keepo:∀{B t n:Nat}{v:Value}{xs:List Value},t≠39->w.ownsRow B t 1 v n xs->(w.setRow bR cs).ownsRow B t 1 v n xs:=fun {B t n v xs} ht ho=>
  zal (ts:=[]) (bs:=[bR]) ho (zbj w bR cs) (by simp) (fun g e hm=>zaq ho hs ht g e (List.mem_singleton.1 hm))
 have hn2:GridOw (w.setRow bR cs) W0.heap.size 30 3 1 (.slice aN (pkR D ((rpl g 256).map D.K) D.n).length cN) (pkR D ((rpl g 256).map D.K) D.n).length ws (fun _=>C') (fun j=>ints ((pkR D ((rpl g 256).map D.K) D.n).getD j [])):=⟨keepo (by decide) h.next.own,fun i hi=>keepo (by decide) (h.next.row i hi),h.next.sep⟩
 have hrl:∀r∈pkR D ((rpl g 256).map D.K) D.n,r.length=C':=by
  intro r hr
  obtain⟨i,_,rfl⟩:=List.mem_map.1 hr
  rw[List.length_map,List.length_map,hN.rpl_all]
 have hm:=hR.m
 have hg:∀j,j<256->g j<256:=fun j hj=>by have:=hN.le j hj;omega
 refine⟨⟨dfC (fun j=>if j<256 then g j else 0) (.slice aN (pkR D ((rpl g 256).map D.K) D.n).length cN) (.slice D.aM D.m D.cM),fun j=>if j<256 then g j else 0,aN,(pkR D ((rpl g 256).map D.K) D.n).length,cN,fun i=>slA (ws i),fun i=>slC (ws i),fun _=>C',fun i x=>((pkR D ((rpl g 256).map D.K) D.n).getD i []).getD x 0,D.aM,D.m,D.cM,D.q⟩,g,C',rfl,
  ⟨zay _ _ _,zba _ _ _ _ _ _ _,fun j hj=>zb7 _ _ _ j hj,fun j hj=>?_,zbV _ _ _,zci _ _ _,hn2.zs rfl hrl,(hD.below hB).rM⟩,hN,⟨fun b hb=>?_,hlen,hm,fun i hi=>rfl,fun i hi c hc=>?_,fun i hi=>rfl⟩,hB⟩
 ·show (if j<256 then g j else 0)<256
  rw[if_pos hj];exact hg j hj
 ·show (if b<256 then g b else 0)=g b
  rw[if_pos hb]
 ·show ((pkR D ((rpl g 256).map D.K) D.n).getD i []).getD c 0=D.nx i (D.K ((rpl g 256).getD c 0))
  have hc2:c<(rpl g 256).length:=by rw[hN.rpl_all];exact hc
  unfold pkR
  simp[List.getD_eq_getElem?_getD,hi,hc2]
end
theorem zeP (D:Dd) (l:List Nat) (i:Nat):pkR D l (i+1)=pkR D l i++[l.map (D.nx i)]:=by
 unfold pkR
 rw[List.range_succ,List.map_append]
 rfl
theorem zne (D:Dd) (l:List Nat) (i:Nat):(pkR D l i).length=i:=by simp[pkR]
theorem za2 (D:Dd) (C:Nat) (hR:DR D C) (w:World) (hD:DM w D):
  Calls Tryz.prog 57 #[.agg D.cD] w (zgt D w):=by
 have hn2:=hR.n2
 have hn1:=hR.n1
 have hC6:=(hR.c256 hD.kl).2
 have hk8:=hD.kl
 have hmm:=zgs
 have HB:=hid (And.intro (DBx.new hD) (And.intro (al w (.cells D.cD 39)) (And.intro hR hD)))
 obtain⟨iI,hI,hI0,hI1,hI2⟩:=info_parts Tryz.info_int9
 obtain⟨iV,hV,hV0,hV1,hV2⟩:=info_parts Tryz.info_ints
 have Hk8:=hid hk8
 clear hD hR hk8
 go_enter Tryz.func57,Tryz.ntmps57
 go_upto_region 1 with (refine zap rfl 39 rfl (zC 39) (zat _) ?_)
 try simp only[Act.put,List.setIfInBounds_toArray,List.set_cons_zero,List.set_cons_succ,zb8]
 have H0:Hid (DBx ((w.alloc (.cells D.cD 39)).alloc (.cells (zC 39) 39)) w.heap.size D/\St ((w.alloc (.cells D.cD 39)).alloc (.cells (zC 39) 39)) 39 (w.heap.size+1) (zC 39)/\Below w.heap.size w ((w.alloc (.cells D.cD 39)).alloc (.cells (zC 39) 39))):=by
  refine⟨HB.out.1.keep (al _ _),?_,HB.out.2.1.trans ((al _ _).mono (by simp))⟩
  have:=St.new (w.alloc (.cells D.cD 39)) 39 (zC 39)
  simpa using this
 generalize (w.alloc (.cells D.cD 39)).alloc (.cells (zC 39) 39)=Wn at H0⊢
 obtain⟨b2,hb2⟩:∃b2,w.heap.size+1=b2:=⟨_,rfl⟩
 obtain⟨b0,hb0⟩:∃b0,w.heap.size=b0:=⟨_,rfl⟩
 rw[hb2,hb0] at H0
 rw[hb2,hb0]
 have Hb:=hid (And.intro hb0 hb2)
 clear hb2 hb0
 have f2:=H0.out.1.f2
 have k5:=al Wn (.cells (zC 39) 39)
 have hst4:St (Wn.alloc (.cells (zC 39) 39)) 39 Wn.heap.size (zC 39):=St.new _ _ _
 have HSt4:=hid hst4
 have HT0:Hid (St ((Wn.alloc (.cells (zC 39) 39)).setRow Wn.heap.size (dfC (fun _=>0) (.slice none 0 0) (.slice D.aM D.m D.cM))) 39 Wn.heap.size (dfC (fun _=>0) (.slice none 0 0) (.slice D.aM D.m D.cM))/\Below Wn.heap.size Wn ((Wn.alloc (.cells (zC 39) 39)).setRow Wn.heap.size (dfC (fun _=>0) (.slice none 0 0) (.slice D.aM D.m D.cM)))):=⟨hst4.setRow,zaj k5 (Nat.le_refl _) _⟩
 clear k5 hst4
 go_upto_region 2 with (first
  | (refine zaF rfl 39 _ rfl #[(2,.slice D.aM D.m D.cM)] (by first|rfl|kernel_rfl|(go_simp;done)) (.agg (dfC (fun _=>0) (.slice none 0 0) (.slice D.aM D.m D.cM))) (zia D.aM D.m D.cM _) ?_)
  | (refine zap rfl 39 rfl (zC 39) (zat _) ?_)
  | (refine zaf rfl 39 _ _ rfl Wn.heap.size 39 (zC 39) (dfC (fun _=>0) (.slice none 0 0) (.slice D.aM D.m D.cM)) rfl rfl HSt4.out (by rw[zak,zay]) (by rw[zah,zay]) (zba _ _ _ _ _ _ _) ?_))
 simp only[Act.put,sA,sB,sC]
 clear f2
 obtain⟨b4,hb4⟩:∃b4,Wn.heap.size=b4:=⟨_,rfl⟩
 have Hb4:=hid hb4
 rw[hb4] at HT0
 rw[hb4]
 generalize (Wn.alloc (.cells (zC 39) 39)).setRow b4 (dfC (fun _=>0) (.slice none 0 0) (.slice D.aM D.m D.cM))=W4 at HT0⊢
 clear hb4 HSt4
 have HBx4:=hid (H0.out.1.keep (show Below Wn.heap.size Wn W4 by rw[Hb4.out];exact HT0.out.2))
 have HCo:=hid (zeO D C HB.out.2.2.1 W4 HBx4.out.dm)
 go_wp2_with (refine zad (by rfl) 39 _ rfl ⟨b0,0,none⟩ rfl D.cD _ HBx4.out.st.part Tryz.underlying39 rfl HBx4.out.dm.info ?_)
 refine HCo.out.mono ?_
 rintro e w5 ⟨aC,cC,rfl,ho5,b5⟩
 obtain⟨gC,rfl,hgC1,hgC2,hgC3⟩:=zae ho5 (show 0<C by have:=HB.out.2.2.1.c256 Hk8.out;omega)
 have k6:=al w5 (.map #[] 0)
 have hMp:MapN (w5.alloc (.map #[] 0)) 9 w5.heap.size 0 (SmQ []):=MapN.made _ _ _ (fun x y h=>by
  obtain⟨k,s,h1,_⟩:=h
  simp at h1)
 have HM0:Hid (McI Wn D C w5.heap.size b4 (.slice (some ⟨gC,0,none⟩) C cC) 0 (.slice none 0 0) [] (fun _=>0) (w5.alloc (.map #[] 0))):=by
  have hs4:b4<=W4.heap.size:=by have:=HT0.out.2.size;have:=Hb4.out;omega
  have hs5:=b5.size
  have hn4:=Hb4.out
  have hbA:Below Wn.heap.size Wn w5:=(show Below Wn.heap.size Wn W4 by rw[Hb4.out];exact HT0.out.2).trans (b5.mono (by omega))
  refine⟨hbA.trans (k6.mono (by omega)),hMp,World.ownsRow_nil _ _ _ _,rfl,?_,zag (zab ho5 k6) (by omega),fun i hi=>absurd hi (by omega),Num.zero _,by omega,by omega,by simp⟩
  have:=(HT0.out.1.keep b5).keep k6
  have e:(fun j=>if j<0 then (fun _=>0:Nat->Nat) j else 0)=fun _=>0:=by funext j;simp
  rw[e]
  exact this
 have HBx6:=hid ((HBx4.out.keep b5).keep k6)
 clear ho5 b5 hgC1 hgC2 hgC3 k6 hMp HCo
 go_upto_region 5 with fail
 obtain⟨bM,hbM⟩:∃bM,w5.heap.size=bM:=⟨_,rfl⟩
 rw[hbM] at HM0
 try rw[hbM]
 generalize w5.alloc (.map #[] 0)=W6 at HM0 HBx6⊢
 clear hbM
 have hinfo:=zaK D.K
 go_wp2_with (refine zam rfl 36 _ rfl ⟨b0,0,none⟩ rfl (clsOf D.K) (.array 256 5) HBx6.out.clsPart Tryz.underlying36 rfl hinfo ?_)
 go_loopw [6,7,8,9,10,11,22] (fun v6 _ _ _ _ _ vk wr=>∃(k m:Nat) (a6:Option Addr) (c6:Nat),v6=.slice a6 m c6/\vk=.int .i64 k/\k<=256/\m<=k/\Hid (∃nm g,nm.length=m/\McI Wn D C bM b4 (.slice (some ⟨gC,0,none⟩) C cC) k v6 nm g wr)) (fun _ _ _ _ _ _ v _=>256-(intOf v).toNat)
 case atStart=>exact⟨0,0,none,0,rfl,rfl,by omega,by omega,_,_,rfl,HM0.out⟩
 case round=>
  clear HM0
  obtain⟨k,m,a6,c6,rfl,rfl,hk,hmk,HL⟩:=hrel
  by_cases hlk:k<256
  ·obtain⟨nm,g,hnm,hM⟩:=HL.out
   have HM:=hid hM
   have Hnm:=hid hnm
   have i2:(k:Int)<256:=by omega
   have hv:=zbx D.K k hlk
   have hix:=zbg 36 5 256 (clsOf D.K) k _ Tryz.underlying36 hlk (by kernel_rfl) ⟨_,Tryz.underlying5,rfl⟩ hv wr
   have hkk:=Hk8.out k hlk
   have hkC:=HB.out.2.2.1.c.1 k hlk
   obtain⟨gX,hgX,hgX1,hgX2,hgX3⟩:=zae hM.cols (by omega)
   have hcell:=(hgX3 (D.K k) (by omega)).1
   have hgXe:gX=gC:=by injection hgX with hgX;injection hgX with hgX _;exact hgX.symm
   rw[hgXe] at hcell
   have hcv:((List.range C).map (colS D))[D.K k]?=some (.string (cS D (D.K k))):=by simp[hkC];rfl
   rw[hcv] at hcell
   have hsz:(cS D (D.K k)).size<=1000000:=by rw[zn4];omega
   have hlk2:=hM.look (cS D (D.K k)) hsz
   have hlen:=hM.map.len (ty:=3) (t:=139) (by rw[Tryz.underlying139];rfl)
   rw[hnm] at hlen
   have hw8:IntKind.u8.wrap (m:Int)=(m:Int):=by simp[IntKind.wrap,IntKind.bits,IntKind.signed];omega
   have z1:=hM.st.at_ k
   have z2:=hM.st.thaw_ k
   rw[zb7 _ _ _ k hlk] at z1
   rcases hlk2 with ⟨b,hb,hrun⟩|⟨hb,hrun⟩
   ·have HF:Hid (∃nm g,nm.length=m/\McI Wn D C bM b4 (.slice (some ⟨gC,0,none⟩) C cC) (k+1) (.slice a6 m c6) nm g (wr.setCell ⟨b4,k,none⟩ (.int .u8 (b:Int)))):=by
     obtain⟨g',hg'⟩:=hM.old HB.out.2.2.1 hlk hb
     exact⟨nm,g',hnm,hg'⟩
    clear hM hb hlen hw8 hgX hgX1 hgX2 hgX3 hcv hnm HM Hnm hsz HL
    obtain⟨y,hy⟩:∃y,D.K k=y:=⟨_,rfl⟩
    obtain⟨s,hs⟩:∃s,cS D y=s:=⟨_,rfl⟩
    rw[hy] at hv hix hkk hkC hcell hrun
    rw[hs] at hcell hrun
    clear hy hs
    go_wp2_with fail
    go_roundw
    case rel=>exact⟨k+1,m,a6,c6,rfl,by go_num,by omega,by omega,HF.out⟩
    case measure=>simp[intOf];omega
   ·have hml:nm.length<maxLen:=by unfold maxLen;omega
    obtain⟨w1,hup,hm1,hg1⟩:=hM.put (cS D (D.K k)) hsz hml hb
    rw[hnm] at hup
    have ho1:=zaB hM.kept hM.map.ex.of hg1
    rw[hnm] at ho1
    have hlo1:=(hM.bel.grown hg1 hM.bel.size (fun g e=>by injection e with e;rw[<-e];exact hM.loM)).size
    have HS1:=hid (hM.st.grown_map hM.map.ex.of hg1)
    have Hfr:Hid (∀(w2 w3:World) (v6':Value),Below w1.heap.size w1 w2->w2.grownBy w3 (Value.slice a6 m c6).ownBlock->w3.ownsRow Wn.heap.size 3 1 v6' (m+1) (zai ((rpl g k).map D.K)++[.int .i64 ((D.K k:Nat):Int)])->∃nm g,nm.length=m+1/\McI Wn D C bM b4 (.slice (some ⟨gC,0,none⟩) C cC) (k+1) v6' nm g (w3.setCell ⟨b4,k,none⟩ (.int .u8 (m:Int)))):=fun w2 w3 v6' h1 h2 h3=>by
     obtain⟨g',hg'⟩:=hM.fresh HB.out.2.2.1 hlk hb hm1 hg1 h1 h2 (by rw[hnm];exact h3)
     rw[hnm] at hg'
     exact⟨_,g',by simp[hnm],hg'⟩
    clear hM hb hgX hgX1 hgX2 hgX3 hcv hnm HM Hnm hsz HL hm1 hg1 z1 z2 hml
    obtain⟨y,hy⟩:∃y,D.K k=y:=⟨_,rfl⟩
    obtain⟨s,hs⟩:∃s,cS D y=s:=⟨_,rfl⟩
    rw[hy] at hv hix hkk hkC hcell hrun hup Hfr
    rw[hs] at hcell hrun hup
    clear hy hs
    obtain⟨l9,hl9⟩:∃l9,zai ((rpl g k).map D.K)=l9:=⟨_,rfl⟩
    rw[hl9] at ho1 Hfr
    clear hl9
    go_wp2_with (at_builtin;refine wpList_append_own_at _ rfl _ _ 30 rfl Wn.heap.size 3 iI (.int .i64 0) 1 8 Tryz.underlying30 hI hI0 hI1 hI2 rfl (by decide) _ _ _ rfl (ho1.alloc _) ⟨w1.heap.size,0,none⟩ 1 1 [.int .i64 (y:Int)] rfl rfl (cell_one_new _ _ _) ?d2 ?d3 ?d4 ?d5 ?_)
    case d2=>first|(intro u hu;simp at hu;subst hu;rfl)|rfl
    case d3=>unfold maxLen;omega
    case d4=>omega
    case d5=>first|(simp;omega)|omega
    intro v' w5 hown5 hgrow5 _ hat5
    obtain⟨a7,c7,rfl⟩:=zaa hown5
    have k9:=al w1 (.cells #[.int .i64 (y:Int)] 3)
    have HF:=hid (Hfr.out _ w5 (.slice a7 (m+1) c7) k9 hgrow5 hown5)
    have HS5:=hid ((HS1.out.keep k9).grown_own (zab ho1 k9) (by decide) hgrow5)
    have z1:=HS5.out.at_ k
    have z2:=HS5.out.thaw_ k
    rw[zb7 _ _ _ k hlk] at z1
    clear hown5 hgrow5 hat5 ho1 k9
    go_wp2_with fail
    go_roundw
    case rel=>exact⟨k+1,m+1,a7,c7,rfl,by go_num,by omega,by omega,HF.out⟩
    case measure=>simp[intOf];omega
  ·obtain rfl:k=256:=by omega
   obtain⟨nm,g,hnm,hM⟩:=HL.out
   have hNum:=hM.num
   rw[hnm] at hNum
   have hT0:=hM.done (ws:=fun _=>.slice none 0 0) hnm
   obtain⟨l,hl⟩:∃l,(rpl g 256).map D.K=l:=⟨_,rfl⟩
   obtain⟨Kf,hKf⟩:∃Kf:Nat->Nat,(fun j=>if j<256 then g j else 0)=Kf:=⟨_,rfl⟩
   have HNum:=hid (And.intro hNum (And.intro hl hKf))
   rw[hl,hKf] at hT0
   have HT0:Hid (McR Wn D b4 m Kf (.slice none 0 0) (pkR D l 0) (fun _=>.slice none 0 0) (.slice a6 m c6) l wr):=hT0
   have Hl:Hid (l.length=m/\∀x∈l,x<C):=by
    refine⟨by rw[<-hl,List.length_map,hNum.rpl_all],fun x hx=>?_⟩
    rw[<-hl] at hx
    obtain⟨j,hj,rfl⟩:=List.mem_map.1 hx
    exact HB.out.2.2.1.c.1 j (zg5 g 256 j hj)
   have HBx7:=hid (H0.out.1.keep hM.bel)
   have f1:=HBx7.out.f1
   obtain⟨gN,oN,eN,hgN,cN0⟩:=H0.out.1.dm.rN (by omega)
   rw[eN] at f1
   have HcN:=hid cN0
   have Hg:=hid hgN
   clear eN cN0 hgN hNum hT0 hl hKf hM HL hnm
   go_wp2_with fail
   clear f1
   rw[show ((256:Nat):Int)=256 from rfl]
   go_loopw [13,57] (fun _ v wr=>∃(i:Nat) (ws:Nat->Value) (aN:Option Addr) (cN:Nat),v=.int .i64 i/\i<=D.n/\Hid (McR Wn D b4 m Kf (.slice aN i cN) (pkR D l i) ws (.slice a6 m c6) l wr)) (fun _ v _=>D.n-(intOf v).toNat)
   case atStart=>exact⟨0,_,none,0,rfl,by omega,HT0⟩
   case round=>
    clear HT0
    obtain⟨i,ws,aN,cN,rfl,hi,HT⟩:=hrel
    have hRl:Hid ((pkR D l i).length=i):=zne D l i
    by_cases hlt:i<D.n
    ·have i1:(i:Int)<(D.n:Int):=by omega
     have hlen:=HB.out.2.2.1.len i hlt
     have cN1:=(HT.out.bel.cell (p:=⟨gN,oN+i,none⟩) Hg.out).trans (HcN.out i hlt).1
     have zN:=(HcN.out i hlt).2
     rw[hlen] at cN1 zN
     try dsimp only at cN1
     have HzN:Hid (ZAt wr.drew (D.A i) C (D.nx i)):=(zN.below HT.out.bel).below (Below.refl _ _).drew
     clear hlen zN
     go_upto_region 19 with fail
     clear cN1
     refine wp_region_held_drew (S:=fun W'=>Below Wn.heap.size Wn W') (by kernel_rfl) HT.out.bel.drew (fun hHeld=>?_)
     have HT:Hid (McR Wn D b4 m Kf (.slice aN i cN) (pkR D l i) ws (.slice a6 m c6) l wr.drew):=HT.out.keep (Below.refl _ _).drew
     (refine tkA 0 ?_;refine tkA 2 ?_;refine tkA 3 ?_;try simp only[Act.put,sA,sB,sC])
     refine wpAnyH_ready (rs:=[1,4]) (by kernel_rfl) (by simp) ?_
     refine arC (fun K hK=>?_) ?_
     ·skip
      have f1:=HT.out.f1
      go_simp
      refine hK.out _ _ (hHeld) (fun hHeld=>?_)
      clear hK K
      try simp only[Act.put,sA,sB,sC]
      clear f1
      refine rd1 4 (fun K hK=>?_)
      ·skip
       have hlt9:=(HT.out.next.lt).2
       have hltK:=zaE HT.out.kept
       have hLA:=za7 HT.out.kept Hl.out.1
       have hZ9:=HzN.out
       skip
       go_simp
       go_at_call 92
       refine (zec (D.nx i) C l m Hl.out.1 (by omega) (by omega) Hl.out.2 (D.A i) a6 (D.Cp i) c6 _ hZ9 hLA).mono ?_
       rintro e w5 ⟨a5,c5,rfl,ho5,b5⟩
       have HU:Hid (w5.ownsRow Wn.heap.size 3 1 (.slice a5 m c5) m (ints (l.map (D.nx i)))/\(∀j,j<(pkR D l i).length->∀b,(ws j).ownBlock=some b->(Value.slice a5 m c5).ownBlock≠some b)/\∀b,(Value.slice a5 m c5).ownBlock=some b->(Value.slice a6 m c6).ownBlock≠some b):=by
        have habv:=zas ho5
        refine⟨?_,fun j hj b e1 e2=>?_,fun b e1 e2=>?_⟩
        ·exact zag ho5 HT.out.bel.size
        ·have h1:=hlt9 j hj b e1
         have h2:=habv b e2
         try simp only[zaw] at h1
         try simp only[zaw] at h2
         omega
        ·have h1:=hltK b e2
         have h2:=habv b e1
         try simp only[zaw] at h1
         try simp only[zaw] at h2
         omega
       have HT:=hid (HT.out.keep b5)
       clear ho5 b5 hlt9 hltK hLA hZ9
       try go_wp2_with fail
       refine hK.out _ _ (HT.out.bel) (fun hHeld=>?_)
       clear hK K
       try simp only[Act.put,sA,sB,sC]
       refine rd1 5 (fun K hK=>?_)
       ·skip
        go_simp
        have kk:=al w5 (.cells #[.slice a5 m c5] 30)
        have HN:Hid (∀j u,[Value.slice a5 m c5][j]?=some u->(w5.alloc (.cells #[.slice a5 m c5] 30)).cell? ((⟨w5.heap.size,0,none⟩:Addr).add j)=some u):=cell_one_new _ _ _
        have HT:=hid (HT.out.keep kk)
        have HU:=hid (And.intro (zab HU.out.1 kk) HU.out.2)
        refine hK.out _ _ (HT.out.bel) (fun hHeld=>?_)
        clear hK K
        try simp only[Act.put,sA,sB,sC]
        clear kk
        generalize w5.alloc (.cells #[.slice a5 m c5] 30)=V5 at HN HT HU hHeld⊢
        refine rd1 6 (fun K hK=>?_)
        ·skip
         have hO:=HT.out.next.own
         rw[hRl.out] at hO
         refine zao (by rfl) _ _ _ (by rfl) Wn.heap.size 30 iV (.slice none 0 0) 1 24 Tryz.underlying37 hV hV0 hV1 hV2 (by rfl) (by decide) _ i ((List.range i).map ws) (by rfl) hO ⟨w5.heap.size,0,none⟩ 1 1 [.slice a5 m c5] (by rfl) (by rfl) HN.out (by intro u hu;simp at hu;subst hu;rfl) (by unfold maxLen;omega) (by omega) HT.out.bel.size ?_
         intro v6 w6 hown6 hgrow6
         obtain⟨a7,c7,rfl⟩:=zaa hown6
         have HT8:=hid (HT.out.addRow (u:=.slice a5 m c5) (vN':=.slice a7 (i+1) c7) HU.out.1 HU.out.2.1 HU.out.2.2 hRl.out hown6 hgrow6)
         have h9:=HT.out.st.grown_own HT.out.next.own (by decide) hgrow6
         have z2:w6.cell? ⟨b4,256,none⟩=some (.slice aN i cN):=by rw[h9.at_,zbV]
         have z3:w6.frozen? ⟨b4,256,none⟩=false:=h9.thaw_ 256
         have hb6:=zac HT.out.bel HT.out.next.own HT.out.bel.size hgrow6
         clear hown6 hgrow6 h9 hO
         refine hK.out _ _ (hb6) (fun hHeld=>?_)
         clear hK K
         try simp only[Act.put,sA,sB,sC]
         (refine tkA 7 ?_;try simp only[Act.put,sA,sB,sC])
         refine rd1 8 (fun K hK=>?_)
         ·skip
          go_simp
          refine hK.out _ _ (HT8.out.bel) (fun hHeld=>?_)
          clear hK K
          try simp only[Act.put,sA,sB,sC]
          refine wpAnyH_done (by kernel_rfl) ?_ _
          rw[<-zeP] at HT8
          clear hHeld z2 z3 hb6
          go_wp2_with fail
          go_roundw
          case rel=>exact⟨i+1,_,a7,c7,by go_num,by omega,HT8⟩
          case measure=>simp[intOf];omega
     refine arC (fun K hK=>?_) ?_
     ·skip
      have hlt9:=(HT.out.next.lt).2
      have hltK:=zaE HT.out.kept
      have hLA:=za7 HT.out.kept Hl.out.1
      have hZ9:=HzN.out
      skip
      go_simp
      go_at_call 92
      refine (zec (D.nx i) C l m Hl.out.1 (by omega) (by omega) Hl.out.2 (D.A i) a6 (D.Cp i) c6 _ hZ9 hLA).mono ?_
      rintro e w5 ⟨a5,c5,rfl,ho5,b5⟩
      have HU:Hid (w5.ownsRow Wn.heap.size 3 1 (.slice a5 m c5) m (ints (l.map (D.nx i)))/\(∀j,j<(pkR D l i).length->∀b,(ws j).ownBlock=some b->(Value.slice a5 m c5).ownBlock≠some b)/\∀b,(Value.slice a5 m c5).ownBlock=some b->(Value.slice a6 m c6).ownBlock≠some b):=by
       have habv:=zas ho5
       refine⟨?_,fun j hj b e1 e2=>?_,fun b e1 e2=>?_⟩
       ·exact zag ho5 HT.out.bel.size
       ·have h1:=hlt9 j hj b e1
        have h2:=habv b e2
        try simp only[zaw] at h1
        try simp only[zaw] at h2
        omega
       ·have h1:=hltK b e2
        have h2:=habv b e1
        try simp only[zaw] at h1
        try simp only[zaw] at h2
        omega
      have HT:=hid (HT.out.keep b5)
      clear ho5 b5 hlt9 hltK hLA hZ9
      try go_wp2_with fail
      refine hK.out _ _ (HT.out.bel) (fun hHeld=>?_)
      clear hK K
      try simp only[Act.put,sA,sB,sC]
      refine wpAnyH_ready (rs:=[1,5]) (by kernel_rfl) (by simp) ?_
      refine arC (fun K hK=>?_) ?_
      ·skip
       have f1:=HT.out.f1
       go_simp
       refine hK.out _ _ (hHeld) (fun hHeld=>?_)
       clear hK K
       try simp only[Act.put,sA,sB,sC]
       clear f1
       refine rd1 5 (fun K hK=>?_)
       ·skip
        go_simp
        have kk:=al w5 (.cells #[.slice a5 m c5] 30)
        have HN:Hid (∀j u,[Value.slice a5 m c5][j]?=some u->(w5.alloc (.cells #[.slice a5 m c5] 30)).cell? ((⟨w5.heap.size,0,none⟩:Addr).add j)=some u):=cell_one_new _ _ _
        have HT:=hid (HT.out.keep kk)
        have HU:=hid (And.intro (zab HU.out.1 kk) HU.out.2)
        refine hK.out _ _ (HT.out.bel) (fun hHeld=>?_)
        clear hK K
        try simp only[Act.put,sA,sB,sC]
        clear kk
        generalize w5.alloc (.cells #[.slice a5 m c5] 30)=V5 at HN HT HU hHeld⊢
        refine rd1 6 (fun K hK=>?_)
        ·skip
         have hO:=HT.out.next.own
         rw[hRl.out] at hO
         refine zao (by rfl) _ _ _ (by rfl) Wn.heap.size 30 iV (.slice none 0 0) 1 24 Tryz.underlying37 hV hV0 hV1 hV2 (by rfl) (by decide) _ i ((List.range i).map ws) (by rfl) hO ⟨w5.heap.size,0,none⟩ 1 1 [.slice a5 m c5] (by rfl) (by rfl) HN.out (by intro u hu;simp at hu;subst hu;rfl) (by unfold maxLen;omega) (by omega) HT.out.bel.size ?_
         intro v6 w6 hown6 hgrow6
         obtain⟨a7,c7,rfl⟩:=zaa hown6
         have HT8:=hid (HT.out.addRow (u:=.slice a5 m c5) (vN':=.slice a7 (i+1) c7) HU.out.1 HU.out.2.1 HU.out.2.2 hRl.out hown6 hgrow6)
         have h9:=HT.out.st.grown_own HT.out.next.own (by decide) hgrow6
         have z2:w6.cell? ⟨b4,256,none⟩=some (.slice aN i cN):=by rw[h9.at_,zbV]
         have z3:w6.frozen? ⟨b4,256,none⟩=false:=h9.thaw_ 256
         have hb6:=zac HT.out.bel HT.out.next.own HT.out.bel.size hgrow6
         clear hown6 hgrow6 h9 hO
         refine hK.out _ _ (hb6) (fun hHeld=>?_)
         clear hK K
         try simp only[Act.put,sA,sB,sC]
         (refine tkA 7 ?_;try simp only[Act.put,sA,sB,sC])
         refine rd1 8 (fun K hK=>?_)
         ·skip
          go_simp
          refine hK.out _ _ (HT8.out.bel) (fun hHeld=>?_)
          clear hK K
          try simp only[Act.put,sA,sB,sC]
          refine wpAnyH_done (by kernel_rfl) ?_ _
          rw[<-zeP] at HT8
          clear hHeld z2 z3 hb6
          go_wp2_with fail
          go_roundw
          case rel=>exact⟨i+1,_,a7,c7,by go_num,by omega,HT8⟩
          case measure=>simp[intOf];omega
      refine arC (fun K hK=>?_) ?_
      ·skip
       go_simp
       have kk:=al w5 (.cells #[.slice a5 m c5] 30)
       have HN:Hid (∀j u,[Value.slice a5 m c5][j]?=some u->(w5.alloc (.cells #[.slice a5 m c5] 30)).cell? ((⟨w5.heap.size,0,none⟩:Addr).add j)=some u):=cell_one_new _ _ _
       have HT:=hid (HT.out.keep kk)
       have HU:=hid (And.intro (zab HU.out.1 kk) HU.out.2)
       refine hK.out _ _ (HT.out.bel) (fun hHeld=>?_)
       clear hK K
       try simp only[Act.put,sA,sB,sC]
       clear kk
       generalize w5.alloc (.cells #[.slice a5 m c5] 30)=V5 at HN HT HU hHeld⊢
       refine rd1 1 (fun K hK=>?_)
       ·skip
        have f1:=HT.out.f1
        go_simp
        refine hK.out _ _ (hHeld) (fun hHeld=>?_)
        clear hK K
        try simp only[Act.put,sA,sB,sC]
        clear f1
        refine rd1 6 (fun K hK=>?_)
        ·skip
         have hO:=HT.out.next.own
         rw[hRl.out] at hO
         refine zao (by rfl) _ _ _ (by rfl) Wn.heap.size 30 iV (.slice none 0 0) 1 24 Tryz.underlying37 hV hV0 hV1 hV2 (by rfl) (by decide) _ i ((List.range i).map ws) (by rfl) hO ⟨w5.heap.size,0,none⟩ 1 1 [.slice a5 m c5] (by rfl) (by rfl) HN.out (by intro u hu;simp at hu;subst hu;rfl) (by unfold maxLen;omega) (by omega) HT.out.bel.size ?_
         intro v6 w6 hown6 hgrow6
         obtain⟨a7,c7,rfl⟩:=zaa hown6
         have HT8:=hid (HT.out.addRow (u:=.slice a5 m c5) (vN':=.slice a7 (i+1) c7) HU.out.1 HU.out.2.1 HU.out.2.2 hRl.out hown6 hgrow6)
         have h9:=HT.out.st.grown_own HT.out.next.own (by decide) hgrow6
         have z2:w6.cell? ⟨b4,256,none⟩=some (.slice aN i cN):=by rw[h9.at_,zbV]
         have z3:w6.frozen? ⟨b4,256,none⟩=false:=h9.thaw_ 256
         have hb6:=zac HT.out.bel HT.out.next.own HT.out.bel.size hgrow6
         clear hown6 hgrow6 h9 hO
         refine hK.out _ _ (hb6) (fun hHeld=>?_)
         clear hK K
         try simp only[Act.put,sA,sB,sC]
         (refine tkA 7 ?_;try simp only[Act.put,sA,sB,sC])
         refine rd1 8 (fun K hK=>?_)
         ·skip
          go_simp
          refine hK.out _ _ (HT8.out.bel) (fun hHeld=>?_)
          clear hK K
          try simp only[Act.put,sA,sB,sC]
          refine wpAnyH_done (by kernel_rfl) ?_ _
          rw[<-zeP] at HT8
          clear hHeld z2 z3 hb6
          go_wp2_with fail
          go_roundw
          case rel=>exact⟨i+1,_,a7,c7,by go_num,by omega,HT8⟩
          case measure=>simp[intOf];omega
      exact AllReadyH.nil
     exact AllReadyH.nil
    ·obtain rfl:i=D.n:=by omega
     have HTe:=hid HT.out
     have HSt4:=hid HT.out.st
     have HSt2:=hid (H0.out.2.1.keep HT.out.bel)
     have hd:=zay Kf (.slice aN D.n cN) (.slice D.aM D.m D.cM)
     have hwn:Hid (w.heap.size<=Wn.heap.size):=by have:=H0.out.2.2.size;have:=Hb.out.1;show _<=_;omega
     have hbB:Hid (Below w.heap.size w (wr.setRow b2 (dfC Kf (.slice aN D.n cN) (.slice D.aM D.m D.cM)))):=
      zaj ((show Below w.heap.size w Wn by rw[Hb.out.1];exact H0.out.2.2).trans (HT.out.bel.mono hwn.out)) (by have:=Hb.out;omega) _
     have HF:Hid (zgt D w (.returned (.agg (dfC Kf (.slice aN D.n cN) (.slice D.aM D.m D.cM)))) (wr.setRow b2 (dfC Kf (.slice aN D.n cN) (.slice D.aM D.m D.cM)))):=by
      obtain⟨h1,h2,h3⟩:=HNum.out
      have hT:=HTe.out
      rw[<-h3] at hT hbB⊢
      rw[<-h2] at hT
      exact hT.fin HB.out.2.2.2 HB.out.2.2.1 h1 HSt2.out rfl hbB.out
     clear HT
     go_wp2_with (first|(refine zam rfl 39 _ rfl ⟨b4,0,none⟩ rfl (dfC Kf (.slice aN D.n cN) (.slice D.aM D.m D.cM)) _ HSt4.out.part Tryz.underlying39 rfl (by rw[zah,hd]) ?_)|(refine zaf rfl 39 _ _ rfl b2 39 (zC 39) (dfC Kf (.slice aN D.n cN) (.slice D.aM D.m D.cM)) rfl rfl HSt2.out (by rw[zak,hd]) (by rw[zah,hd]) (zba _ _ _ _ _ _ _) ?_))
     refine bodyPost_ret (results_cell_row rfl _ _ b2 39 (dfC Kf (.slice aN D.n cN) (.slice D.aM D.m D.cM)) (0,0) _ rfl HSt2.out.setRow Tryz.underlying39 rfl (by rw[zah,hd])) rfl ?_
     exact HF.out
end Go.Proofs.YtjehgdjlncofeaaGreat
