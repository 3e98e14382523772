import Derived.Test.YtiijebameffenaaGreatZIter
import Derived.Test.YtiijebameffenaaGreatZPMn
import Derived.Lib.SlKeysI
set_option linter.all false
set_option maxHeartbeats 4000000
set_option maxRecDepth 100000
open Go.Lib (hid)
namespace Go.Proofs
open Go.RowKit Go.Maps Go.Sort Go.Shelf
theorem B7(m:Nat):AnyZI.SortsIn Tryz.prog lD Fence.wide m:=
 ⟨fun fR off cap ss W hH rO da=>callsIn_wide.2 (AnyM.slices_Sort_int AV fR off cap ss W hH rO da),
  fun p cap W=>callsIn_wide.2 (AnyM.slices_Sort_int_none AV p cap W)⟩
theorem xL(mb:Option Nat)(W:World):Calls Tryz.prog 178 #[.map mb] W fun e w'=>e=.returned (.func (.func 191) #[] #[.pointer (some ⟨W.heap.size,0,none⟩)])/\w'=W.alloc (.cells #[.map mb] 226):=
 (callsIn_wide (n:=5)).1 (AnyZI.keys_in Ax Fence.wide 5 trivial rfl mb W)
theorem se{H:Type}(b nn:Nat)(D0:DataW H)(R:Value->Option (DataW H × List MemPlace))(w:World)(aX:w.ownsMap Tryz.prog 3 R b nn D0)(kF:Maps.size D0<=maxLen)(kg:Maps.size D0*8<=140737488355328):
  Calls Tryz.prog 177 #[.func (.func 191) #[] #[.pointer (some ⟨w.heap.size,0,none⟩)]] (w.alloc (.cells #[.map (some b)] 226)) fun e w'=>∃(v:Value) (ss:List Int),e=.returned v/\ss.Perm (intKeys D0)/\
   w'.ownsRow (w.alloc (.cells #[.map (some b)] 226)).heap.size 3 1 v ss.length ((ss.mergeSort (fun x y=>decide (x<=y))).map encZ)/\(v=.slice none 0 0↔ss=[])/\Below (w.alloc (.cells #[.map (some b)] 226)).heap.size (w.alloc (.cells #[.map (some b)] 226)) w':=by
 refine (callsIn_wide (n:=5)).1 ?_;have ey:=aX.lt;have PE:SeqGives Fence.wide 2 Tryz.prog 191 #[.pointer (some ⟨w.heap.size,0,none⟩)] encZ (fun ss=>ss.Perm (intKeys D0)) (Maps.size D0) (w.alloc (.cells #[.map (some b)] 226)):=
  AnyZI.keys_gives (ρ:=pg) { Ax with } Fence.wide _ trivial rfl (by omega) w.heap.size b nn D0 _ (by simp) (by simp) (by
   obtain⟨es,clock,hb,Ft,hs,hD⟩:=aX
   exact⟨es,clock,(Below.heap_alloc _ _ b ey).trans hb,Ft,hs,hD⟩)
 exact AnyZI.sorted_in Aj Fence.wide 5 trivial trivial trivial trivial rfl (by omega) (B7 _) (enters_of Tryz.func190 (by kernel_rfl) rfl) 191 #[.pointer (some ⟨w.heap.size,0,none⟩)] trivial (enters_of Tryz.func191 (by kernel_rfl) rfl) _ _ kF kg _ PE
end Go.Proofs
namespace Go.Proofs.YtiijebameffenaaGreat
open Go.RowKit Go.Maps Go.WideElems Go.ChangeMaps Go.MapKept
theorem aD.over{w:World}{k t e:TypeId}{b n:Nat}{Q Q':Value->Value->Prop}(h:aD w k b n Q)(K:Keyed Tryz.prog k)(ht:Tryz.prog.underlying t=some (.map k e))
  {key val:Value}{kl:Lit}(ek:keyOf Tryz.prog k key=some kl) (hex:∃y,Q key y) (hQ:∀x y,Q x y->x≠key->Q' x y) (hv:Q' key val) (ni:∀x y,Q' x y->x≠key->∃y',Q x y'):
  ∃w',(Instr.mapUpdate t (.map (some b)) key val).run Tryz.prog w=.ok () w'/\aD w' k b n Q'/\w.grownBy w' (some b):=by
 obtain⟨es,clock,hb,F,hs,hq,dU⟩:=h;have EV:WideElems.rd Tryz.prog k fe ⟨key,val,clock⟩=some (kl,.held val):=by unfold WideElems.rd fe;rw[ek];rfl
 rcases K.find w ek es.toList F.keys with ⟨h1,h2⟩|⟨j,e0,h1,h2,h3⟩
 ·obtain⟨y,hy⟩:=hex;obtain⟨e1,h4,h5⟩:=dU _ _ hy;exact absurd h5 (h2 e1 h4)
 have hj:es[j]?=some e0:=by simpa using h2
 have hjl:j<es.toList.length:=(List.getElem?_eq_some_iff.1 h2).1;have xx:∀e',es[j]?=some e'->({ e' with key:=key,val:=val }:MapEntry).key=e'.key:=fun e' rR=>by rw[hj] at rR;cases rR;exact h3.symm
 have mH:(es.modify j (fun e'=>{ e' with key:=key,val:=val })).toList=es.toList.set j { e0 with key:=key,val:=val }:=by rw[Array.toList_modify,modify_eq_set _ _ _ _ h2]
 have Hf:∀x∈es.toList.set j { e0 with key:=key,val:=val },x={ e0 with key:=key,val:=val }\/(x∈es.toList/\x.key≠key):=by
  intro x hx;obtain⟨i,hi,ex⟩:=List.getElem_of_mem hx;rw[List.getElem_set] at ex;split at ex
  ·exact Or.inl ex.symm
  rename_i hne;have hi':i<es.toList.length:=by simpa using hi
  refine Or.inr ⟨ex ▸ List.getElem_mem hi',?_⟩;rw[<-h3];exact other_key F h2 (by rw[List.getElem?_eq_getElem hi',ex]) (fun e1=>hne e1.symm)
 refine⟨setBlock w b (.map (es.modify j (fun e'=>{ e' with key:=key,val:=val })) clock),?_,⟨_,clock,heap_setBlock_same hb _,⟨by simpa using F.size,stamped_modify F.stamped _ _ (fun _ _=>rfl) (fun e' _ rR=>xx e' rR),fun x hx=>?_⟩,by simpa using hs,fun x hx=>?_,fun x y hx=>?_⟩,⟨rfl,rfl,rfl,by simp[setBlock],fun i _ hi=>heap_setBlock_other hb _ (fun e=>hi (by rw[e]))⟩⟩
 ·simp[Instr.mapUpdate,run_underlying ht,MapKept.run_getObj_map hb,K.check w false ek,h1,hj,h3,K.stays w ek,MapKept.run_setObj_map _ hb,Result.andThen,setBlock]
 ·rw[mH] at hx;rcases Hf x hx with rfl|⟨CR,hne⟩
  ·exact⟨(kl,.held val),by unfold WideElems.rd fe;rw[ek];rfl⟩
  exact F.reads x CR
 ·rw[mH] at hx;rcases Hf x hx with rfl|⟨CR,hne⟩
  ·exact hv
  exact hQ _ _ (hq x CR) hne
 rw[mH];by_cases e1:x=key
 ·exact⟨{ e0 with key:=key,val:=val },List.mem_iff_getElem?.2 ⟨j,by rw[List.getElem?_set_self hjl]⟩,e1.symm⟩
 obtain⟨y',hy⟩:=ni x y hx e1;obtain⟨e2,h4,h5⟩:=dU x y' hy;obtain⟨i,hi,e3⟩:=List.getElem_of_mem h4;have hij:j≠i:=fun e=>by
  subst e;rw[List.getElem?_eq_getElem hi] at h2;injection h2 with h2;rw[e3] at h2;rw[h2,h3] at h5;exact e1 h5.symm
 exact⟨e2,List.mem_iff_getElem?.2 ⟨i,by rw[List.getElem?_set_ne hij,List.getElem?_eq_getElem hi,e3]⟩,h5⟩
theorem aD.GA{w:World}{k t e:TypeId}{b n:Nat}{Q:Value->Value->Prop}(h:aD w k b n Q)(K:Keyed Tryz.prog k)(ht:Tryz.prog.underlying t=some (.map k e)){z:Value}(hz:(zeroValue e).run Tryz.prog w=.ok z w)
  {key:Value}{kl:Lit}(ek:keyOf Tryz.prog k key=some kl):
  ((Instr.lookup t (.map (some b)) key false).run Tryz.prog w=.ok z w/\∀y,¬Q key y)\/∃v,Q key v/\(Instr.lookup t (.map (some b)) key false).run Tryz.prog w=.ok v w:=by
 obtain⟨es,clock,hb,F,_,hq,dU⟩:=h;rcases Maps.fit_look false K ht hz hb F ek with ⟨bU,iN,_⟩|⟨e0,y,hm,hk,bU,_⟩
 ·refine Or.inl ⟨by simpa using bU,fun y hy=>?_⟩;obtain⟨e1,h1,h2⟩:=dU _ _ hy;exact iN e1 h1 h2
 exact Or.inr ⟨e0.val,by rw[<-hk];exact hq e0 hm,by simpa using bU⟩
theorem Su(x:Int)(h:-9223372036854775808<=x/\x<=9223372036854775807):keyOf Tryz.prog 3 (.int .i64 x)=some (.int .i64 x):=by
 have hw:=Jy h;unfold keyOf;simp[Tryz.underlying3,mapKey,hw]
theorem aD.keys{w:World}{b n:Nat}{Q:Value->Value->Prop}(h:aD w 3 b n Q):∃(D0:DataW Value) (nn:Nat),w.ownsMap Tryz.prog 3 fe b nn D0/\Maps.size D0<=n/\(Go.intKeys D0).length<=n/\(∀x,x∈Go.intKeys D0->∃y,Q (.int .i64 x) y)/\∀x y,Q (.int .i64 x) y->x∈Go.intKeys D0:=by
 obtain⟨es,clock,hb,F,hs,hq,dU⟩:=h;refine⟨_,_,World.ownsMap_of_fit hb F (fun _ _ _ h=>h),?_,?_,fun x hx=>?_,fun x y hx=>?_⟩
 rotate_left
 ·show (((es.toList.map (rg Tryz.prog 3 fe)).foldr DataW.insert []).map fun p=>Go.intOf p.1).length<=n;rw[List.length_map,length_sorted];simpa using hs
 rotate_left
 rotate_left
 ·have:Maps.size (DataW.map ((es.toList.map (rg Tryz.prog 3 fe)).foldr DataW.insert []))=((es.toList.map (rg Tryz.prog 3 fe)).foldr DataW.insert []).length:=rfl;rw[this,length_sorted];simpa using hs
 ·obtain⟨p,hp,e⟩:=List.mem_map.1 hx;rw[mem_sorted] at hp;obtain⟨e0,xE,rfl⟩:=List.mem_map.1 hp;obtain⟨kl,hkl⟩:=F.keys e0 xE;obtain⟨x',h1,h2,_⟩:=Go.Maps.keyOf_i64 Tryz.underlying3 hkl;have hr:WideElems.rd Tryz.prog 3 fe e0=some (kl,.held e0.val):=by unfold WideElems.rd fe;rw[hkl];rfl
  rw[rg_of hr,h2] at e;have e':x'=x:=e;refine⟨e0.val,?_⟩;have:=hq e0 xE;rw[h1,e'] at this;exact this
 obtain⟨e0,xE,pw⟩:=dU _ _ hx;obtain⟨kl,hkl⟩:=F.keys e0 xE;obtain⟨x',h1,h2,_⟩:=Go.Maps.keyOf_i64 Tryz.underlying3 hkl;have hr:WideElems.rd Tryz.prog 3 fe e0=some (kl,.held e0.val):=by unfold WideElems.rd fe;rw[hkl];rfl
 have Dh:x'=x:=by
  rw[pw] at h1;injection h1 with _ h1;exact h1.symm
 refine List.mem_map.2 ⟨rg Tryz.prog 3 fe e0,mem_sorted.2 (List.mem_map.2 ⟨e0,xE,rfl⟩),?_⟩;rw[rg_of hr,h2,Dh];rfl
def fJ(D:Dd)(k:Nat)(μ:Int):Prop:=0<=μ/\∃i,i<k/\D.q i=μ
def nC(D:Dd)(k:Nat)(μ:Int):List Nat:=(List.range k).filter fun i=>D.q i == μ
theorem PO(D:Dd)(k:Nat)(μ:Int):nC D (k+1) μ=if D.q k=μ then nC D k μ++[k] else nC D k μ:=by
 unfold nC;rw[List.range_succ,List.filter_append];by_cases h:D.q k=μ <;> simp[h]
theorem Wc(D:Dd)(k:Nat)(μ:Int)(h0:0<=μ)(h:¬fJ D k μ):nC D k μ=[]:=by
 unfold nC;rw[List.filter_eq_nil_iff];intro i hi e;exact h ⟨h0,i,List.mem_range.1 hi,by simpa using e⟩
theorem zog(D:Dd)(k:Nat)(μ:Int):(nC D k μ).length<=k:=by
 have:=List.length_filter_le (fun i=>D.q i == μ) (List.range k);simpa [nC] using this
def GQ(D:Dd)(k:Nat)(vs:Int->Value)(key val:Value):Prop:=∃μ,fJ D k μ/\key=.int .i64 μ/\val=vs μ
structure gm (D:Dd)(W0:World)(bM k:Nat)(vs:Int->Value)(w:World):Prop where
 below:Below W0.heap.size W0 w
 map:aD w 3 bM k (GQ D k vs)
 row:∀μ,fJ D k μ->w.ownsRow W0.heap.size 3 1 (vs μ) (nC D k μ).length (cy (nC D k μ))
 sep:∀μ ν,fJ D k μ->fJ D k ν->μ≠ν->∀g,(vs μ).ownBlock=some g->(vs ν).ownBlock≠some g
 lo:W0.heap.size<=bM
section
variable {D : Dd}{W0 w : World}{bM k : Nat}{vs : Int → Value}
theorem gm.aa{w1:World}(h:gm D W0 bM k vs w)(kk:Below w.heap.size w w1):gm D W0 bM k vs w1:=
 ⟨h.below.trans (kk.mono h.below.size),h.map.same (kk.block _ h.map.lt),fun μ hp=>dp (h.row μ hp) kk,h.sep,h.lo⟩
theorem LN{D:Dd}{k:Nat}(hq:D.q k<0)(μ:Int):fJ D (k+1) μ↔fJ D k μ:=by
 constructor
 ·rintro⟨h0,i,hi,e⟩;refine⟨h0,i,?_,e⟩;by_cases e2:i=k
  ·subst e2;omega
  omega
 rintro⟨h0,i,hi,e⟩;exact⟨h0,i,by omega,e⟩
theorem gm.skip(h:gm D W0 bM k vs w)(hq:D.q k<0):gm D W0 bM (k+1) vs w:=by
 have hm:∀μ,fJ D k μ->nC D (k+1) μ=nC D k μ:=fun μ hp=>by
  rw[PO,if_neg (by have:=hp.1;omega)]
 have hQ:GQ D (k+1) vs=GQ D k vs:=by
  funext x y;unfold GQ;simp only[LN hq]
 refine⟨h.below,?_,fun μ hp=>?_,fun μ ν h1 h2=>h.sep μ ν ((LN hq μ).1 h1) ((LN hq ν).1 h2),h.lo⟩
 ·rw[hQ];exact h.map.more (by omega)
 have rE:=(LN hq μ).1 hp;rw[hm μ rE];exact h.row μ rE
theorem Cv{D:Dd}{k:Nat}(hq:0<=D.q k)(μ:Int):fJ D (k+1) μ↔fJ D k μ\/μ=D.q k:=by
 constructor
 ·rintro⟨h0,i,hi,e⟩;by_cases e2:i=k
  ·subst e2;exact Or.inr e.symm
  exact Or.inl ⟨h0,i,by omega,e⟩
 rintro (⟨h0,i,hi,e⟩|rfl)
 ·exact⟨h0,i,by omega,e⟩
 exact⟨hq,k,by omega,rfl⟩
def ov(vs:Int->Value)(μ:Int)(v:Value):Int->Value:=fun ν=>if ν=μ then v else vs ν
theorem gm.C6{w5:World}{v0 v':Value}{μ:Int}{q:Nat}(h:gm D W0 bM k vs w)(hμ:D.q k=μ)(h0:0<=μ)(hr:μ<=9223372036854775807)(hk:k<maxLen)(hv:(fJ D k μ/\v0=vs μ)\/(¬fJ D k μ/\v0=.slice none 0 0))(Rk:(nC D k μ).length=q)
  (ho:w5.ownsRow W0.heap.size 3 1 v' (q+1) (cy (nC D k μ)++[.int .i64 (k:Int)])) (hg:w.grownBy w5 v0.ownBlock) (ew:v'.ownBlock=v0.ownBlock\/v'.ownBlock=some w.heap.size):
  ∃w6,(Instr.mapUpdate 226 (.map (some bM)) (.int .i64 μ) v').run Tryz.prog w5=.ok () w6/\gm D W0 bM (k+1) (ov vs μ v') w6:=by
 subst hμ;have X3:w.ownsRow W0.heap.size 3 1 v0 (nC D k (D.q k)).length (cy (nC D k (D.q k))):=by
  rcases hv with ⟨h1,rfl⟩|⟨h1,rfl⟩
  ·exact h.row _ h1
  rw[Wc D k _ h0 h1];exact World.ownsRow_nil _ _ _ _
 have zz:aD w5 3 bM k (GQ D k vs):=h.map.ag X3 hg;have kT:Below W0.heap.size W0 w5:=fH h.below X3 h.below.size hg;have aw:∀ν,fJ D k ν->∀g,(vs ν).ownBlock=some g->g<w.heap.size:=fun ν hp=>lx (h.row ν hp)
 have eD:∀ν,fJ D k ν->ν≠D.q k->∀g,(vs ν).ownBlock=some g->v0.ownBlock≠some g:=fun ν hp hne g e=>by
  rcases hv with ⟨h1,rfl⟩|⟨h1,rfl⟩
  ·exact h.sep ν _ hp h1 hne g e
  intro e2;simp[Value.ownBlock] at e2
 have Gc:∀ν,fJ D k ν->ν≠D.q k->∀g,(vs ν).ownBlock=some g->v'.ownBlock≠some g:=fun ν hp hne g e e2=>by
  rcases ew with e3|e3
  ·rw[e3] at e2;exact eD ν hp hne g e e2
  rw[e3] at e2;injection e2 with e2;have:=aw ν hp g e;omega
 have up:∀x y,GQ D k vs x y->x≠.int .i64 (D.q k)->GQ D (k+1) (ov vs (D.q k) v') x y:=by
  rintro x y ⟨ν,h1,rfl,rfl⟩ hne;refine⟨ν,(Cv h0 ν).2 (Or.inl h1),rfl,?_⟩;unfold ov;rw[if_neg (fun e=>hne (by rw[e]))]
 have back:∀x y,GQ D (k+1) (ov vs (D.q k) v') x y->x≠.int .i64 (D.q k)->∃y',GQ D k vs x y':=by
  rintro x y ⟨ν,h1,rfl,rfl⟩ hne;rcases (Cv h0 ν).1 h1 with h2|rfl
  ·exact⟨vs ν,ν,h2,rfl,rfl⟩
  exact absurd rfl hne
 have new:GQ D (k+1) (ov vs (D.q k) v') (.int .i64 (D.q k)) v':=⟨D.q k,(Cv h0 _).2 (Or.inr rfl),rfl,by unfold ov;rw[if_pos rfl]⟩
 have key:=Su (D.q k) ⟨by omega,hr⟩;have main:∃w6,(Instr.mapUpdate 226 (.map (some bM)) (.int .i64 (D.q k)) v').run Tryz.prog w5=.ok () w6/\aD w6 3 bM (k+1) (GQ D (k+1) (ov vs (D.q k) v'))/\w5.grownBy w6 (some bM):=by
  rcases hv with ⟨h1,rfl⟩|⟨h1,rfl⟩
  ·obtain⟨w6,e1,e2,e3⟩:=zz.over (t:=226) CF Tryz.underlying226 key ⟨vs (D.q k),D.q k,h1,rfl,rfl⟩ up new back;exact⟨w6,e1,e2.more (by omega),e3⟩
  have iN:∀y,¬GQ D k vs (.int .i64 (D.q k)) y:=by
   rintro y ⟨ν,h2,e,_⟩;injection e with _ e;exact h1 (by rw[e];exact h2)
  exact zz.update (t:=226) CF Tryz.underlying226 hk key iN (fun x y hxy=>up x y hxy (by
   obtain⟨ν,h2,e,_⟩:=hxy
   intro e2
   rw[e] at e2
   injection e2 with _ e2
   exact h1 (by rw[<-e2];exact h2))) new back
 obtain⟨w6,e1,e2,e3⟩:=main;have r5:∀{v:Value}{n:Nat}{xs:List Value},w5.ownsRow W0.heap.size 3 1 v n xs->w6.ownsRow W0.heap.size 3 1 v n xs:=fun o=>yG o zz.of e3
 refine⟨w6,e1,⟨kT.grown e3 kT.size (fun g e=>by injection e with e;rw[<-e];exact h.lo),e2,fun ν hp=>?_,fun μ ν h1 h2 hne g=>?_,h.lo⟩⟩
 ·by_cases e:ν=D.q k
  ·subst e;unfold ov;rw[if_pos rfl,PO,if_pos rfl,x8,List.length_append];rw[<-Rk] at ho;exact r5 ho
  have rE:=((Cv h0 ν).1 hp).resolve_right e;unfold ov;rw[if_neg e,PO,if_neg (fun e2=>e e2.symm)];exact r5 (ri (h.row ν rE) hg (fun g e1 e2=>eD ν rE e g e1 e2.symm))
 unfold ov;by_cases e4:μ=D.q k
 ·have pt:ν≠D.q k:=fun e=>hne (by rw[e4,e])
  have rE:=((Cv h0 ν).1 h2).resolve_right pt;rw[if_pos e4,if_neg pt];exact fun e5 e6=>Gc ν rE pt g e6 e5
 have rE:=((Cv h0 μ).1 h1).resolve_right e4;rw[if_neg e4];by_cases e5:ν=D.q k
 ·rw[if_pos e5];exact fun e6=>Gc μ rE e4 g e6
 rw[if_neg e5];exact h.sep μ ν rE (((Cv h0 ν).1 h2).resolve_right e5) hne g
end
theorem zjY(W:World):(Instr.makeMap 226 none).run Tryz.prog W=.ok (.map (some W.heap.size)) (W.alloc (.map #[] 0)):=by
 simp[Instr.makeMap,go_sem]
theorem gm.look{D:Dd}{W0 w:World}{bM k:Nat}{vs:Int->Value}(h:gm D W0 bM k vs w)(μ:Int)(h0:0<=μ)(hr:μ<=9223372036854775807):
  ∃v0,(Instr.lookup 226 (.map (some bM)) (.int .i64 μ) false).run Tryz.prog w=.ok v0 w/\((fJ D k μ/\v0=vs μ)\/(¬fJ D k μ/\v0=.slice none 0 0))/\w.ownsRow W0.heap.size 3 1 v0 (nC D k μ).length (cy (nC D k μ)):=by
 rcases h.map.GA (t:=226) CF Tryz.underlying226 (Ys w) (Su μ ⟨by omega,hr⟩) with ⟨h1,h2⟩|⟨v,⟨ν,h2,e,rfl⟩,h1⟩
 ·have hn:¬fJ D k μ:=fun hp=>h2 (vs μ) ⟨μ,hp,rfl,rfl⟩
  exact⟨_,h1,Or.inr ⟨hn,rfl⟩,by rw[Wc D k μ h0 hn];exact World.ownsRow_nil _ _ _ _⟩
 injection e with _ e;subst e;exact⟨_,h1,Or.inl ⟨h2,rfl⟩,h.row _ h2⟩
theorem gm.grown{D:Dd}{W0 w w':World}{bM k t n B:Nat}{vs:Int->Value}{v:Value}{xs:List Value}(h:gm D W0 bM k vs w)(ho:w.ownsRow B t 1 v n xs)(hB:W0.heap.size<=B)(ht:t≠3)(hg:w.grownBy w' v.ownBlock):gm D W0 bM k vs w':=
 ⟨fH h.below (jF ho hB) h.below.size hg,h.map.ag ho hg,fun μ hp=>uO (h.row μ hp) ho ht hg,h.sep,h.lo⟩
theorem gm.val{D:Dd}{W0 w:World}{bM k:Nat}{vs:Int->Value}(h:gm D W0 bM k vs w)(μ:Int)(hp:fJ D k μ):vs μ=.slice (uT (vs μ)) (nC D k μ).length (xV (vs μ)):=by
 obtain⟨a,c,e⟩:=bF (h.row μ hp);rw[e];rfl
theorem zip(D:Dd)(C:Nat)(hR:DR D C)(w:World)(hD:DM w D):Calls Tryz.prog 160 #[.agg D.cD] w (Oc D w):=by
 have dj:=hR.n2;have HB:=hid (Zz (dc.new hD) (Zz (al w (.cells D.cD 101)) (Zz hR hR.m)));obtain⟨gM,oM,eM,r9,nA⟩:=hD.rM (by have:=hR.n1;have:=hR.m;omega);rw[hR.m] at nA;clear hD hR;have iZ:=zjY;go_enter Tryz.func160,Tryz.ntmps160;go_upto_region 2 with fail;obtain⟨bM,qZ⟩:∃bM,w.heap.size+1=bM:=⟨_,rfl⟩
 obtain⟨b0,bc⟩:∃b0,w.heap.size=b0:=⟨_,rfl⟩
 obtain⟨W2,lY⟩:∃W2,(w.alloc (.cells D.cD 101)).alloc (.map #[] 0)=W2:=⟨_,rfl⟩
 have da:(w.alloc (.cells D.cD 101)).heap.size=bM:=by rw[<-qZ];simp
 have k2:=al (w.alloc (.cells D.cD 101)) (.map #[] 0);have Ta:dc W2 w.heap.size D:=by rw[<-lY];exact HB.out.1.aa k2
 have Ha:gm D w bM 0 (fun _=>.slice none 0 0) W2:=by
  have iN:∀μ,¬fJ D 0 μ:=fun μ hp=>by
   obtain⟨_,i,hi,_⟩:=hp;omega
  refine⟨by rw[<-lY];exact HB.out.2.1.trans (k2.mono (by simp)),?_,fun μ hp=>absurd hp (iN μ),fun μ ν hp=>absurd hp (iN μ),by omega⟩;have:=aD.made (w.alloc (.cells D.cD 101)) 3 (GQ D 0 (fun _=>.slice none 0 0)) (fun x y h=>by
   obtain⟨μ,hp,_⟩:=h
   exact iN μ hp)
  rw[lY,da] at this;exact this
 have tW:=hid (Zz Ta Ha);rw[qZ,lY,bc];have Hb:=hid (Zz qZ bc);rw[bc] at tW;have c1:=tW.out.1.f2;rw[HB.out.2.2.2] at c1;rw[eM] at c1;have MF:=hid (Zz r9 nA);clear qZ bc lY da k2 Ta Ha eM r9 nA;go_wp2_with fail;clear c1;go_loopw [4,5,13] (fun _ _ vk wr=>∃k:Nat,vk=.int .i64 k/\k<=D.n/\Hid (∃vs,gm D w bM k vs wr)) (fun _ _ v _=>D.n-(intOf v).toNat)
 ·exact⟨0,rfl,Nat.zero_le _,_,tW.out.2⟩
 obtain⟨k,rfl,hk,HL⟩:=hrel;by_cases aw:k<D.n
 ·obtain⟨vs,hG⟩:=HL.out;have d0:=(hG.below.cell (p:=⟨gM,oM+k,none⟩) MF.out.1).trans (MF.out.2 k aw);have Q4:=HB.out.2.2.1.q k aw;have Rk:D.q k<32768:=Q4.2;obtain⟨μ,hμ⟩:∃μ,D.q k=μ:=⟨_,rfl⟩
  rw[hμ] at d0 Rk;have Hμ:=hid hμ;have i1:(k:Int)<(D.n:Int):=by omega
  by_cases h0:μ<0
  ·have HS:Hid (gm D w bM (k+1) vs wr):=hG.skip (by rw[hμ];exact h0);have i2:¬(0<=μ):=(by omega);clear hG Q4 hμ HL;go_wp2;go_roundw
   ·exact⟨k+1,by go_num,by omega,vs,HS.out⟩
   simp[intOf];omega
  obtain⟨v0,bU,Hv,hO⟩:=hG.look μ (by omega) (by omega);obtain⟨q,hq⟩:∃q,(nC D k μ).length=q:=⟨_,rfl⟩
  have hqk:q<=k:=by rw[<-hq];exact zog D k μ
  rw[hq] at hO;obtain⟨a0,c0,rfl⟩:=bF hO;have HG:=hid (Zz hG (Zz Hv hq));have sb:=hG.below.size;have i2:0<=μ:=by omega
  obtain⟨i0,hi,dD,db,cW⟩:=info_parts az;clear hG Q4 hμ HL Hv hq;go_wp2_with (at_builtin;refine wpList_append_own_at _ rfl _ _ 43 rfl w.heap.size 3 i0 (.int .i64 0) 1 8 Tryz.underlying43 hi dD db cW rfl (by decide) _ _ _ rfl (hO.alloc _) ⟨wr.heap.size,0,none⟩ 1 1 [.int .i64 (k:Int)] rfl rfl (cell_one_new _ _ _) ?d2 ?d3 ?d4 ?d5 ?_)
  case d2=>first|(intro u hu;simp at hu;subst hu;rfl)|rfl
  case d3=>unfold maxLen;omega
  case d4=>omega
  case d5=>first|(simp;omega)|omega
  intro v' w5 ak aj _ bg;obtain⟨a5,c5,rfl⟩:=bF ak;obtain⟨w6,yH,Uf⟩:=(HG.out.1.aa (al wr (.cells #[.int .i64 (k:Int)] 3))).C6 (v':=.slice a5 (q+1) c5) Hμ.out i2 (by omega) (by unfold maxLen;omega) HG.out.2.1 HG.out.2.2 ak aj (by
   rw[show (wr.alloc (.cells #[.int .i64 (k:Int)] 3)).heap.size=wr.heap.size+1 by simp]
   exact bg)
  have HG6:=hid Uf;clear ak aj bg Uf hO HG;go_wp2;go_roundw
  ·exact⟨k+1,by go_num,by omega,_,HG6.out⟩
  simp[intOf];omega
 obtain rfl:k=D.n:=by omega
 obtain⟨vs,hG⟩:=HL.out;obtain⟨D0,nn,aX,Pw,hkl,pM,eO⟩:=hG.map.keys;have HK:=hid (xL (some bM) wr);have HS:=hid (se bM nn D0 fe wr aX (by unfold maxLen;omega) (by omega));have HG:=hid (Zz hG (Zz hkl (Zz pM eO)));clear hG aX Pw hkl pM eO HL;go_wp2_with fail;refine HK.out.mono ?_;rintro e w2 ⟨rfl,rfl⟩;go_wp2_with fail;refine HS.out.mono ?_;rintro e w3 ⟨v,ss,rfl,AR,cY,On,b3⟩;obtain⟨ms,oc⟩:∃ms,ss.mergeSort (fun x y=>decide (x<=y))=ms:=⟨_,rfl⟩
 have OZ:ms.Perm (Go.intKeys D0):=by rw[<-oc];exact (List.mergeSort_perm ss _).trans AR
 obtain⟨m,hm⟩:∃m,ms.length=m:=⟨_,rfl⟩
 have Jw:ss.length=m:=by rw[<-hm,<-oc];exact (List.length_mergeSort ss).symm
 rw[oc,Jw] at cY;have nV:m<=D.n:=by rw[<-hm,OZ.length_eq];exact HG.out.2.1
 have fW:∀x,x∈ms↔fJ D D.n x:=fun x=>by
  rw[OZ.mem_iff];constructor
  ·intro hx;obtain⟨y,μ,hp,e,_⟩:=HG.out.2.2.1 x hx;injection e with _ e;rw[e];exact hp
  intro hp;exact HG.out.2.2.2 x (vs x) ⟨x,hp,rfl,rfl⟩
 have hz:ms.map encZ=ints ms:=rfl;rw[hz] at cY;obtain⟨aS,cS,rfl⟩:=bF cY;have k2:=al wr (.cells #[.map (some bM)] 226);have Yj:=(HG.out.1.aa k2).aa b3;obtain⟨W3,tY⟩:∃W3,W3=w3:=⟨w3,rfl⟩
 have H3:Hid (gm D w bM D.n vs w3/\lb W3 aS m (fun i=>ms.getD i 0)/\W3=w3/\ms.length=m/\∀x,x∈ms↔fJ D D.n x):=by
  refine⟨Yj,?_,tY,hm,fW⟩;rw[tY];exact Ng cY hm
 clear AR cY On b3 OZ oc Jw fW hz k2 Yj tY hm HK HS HG;go_wp2;go_loopw [6,8,33] (fun v6 _ vj wq=>∃(j:Nat) (aL:Option Addr) (cL:Nat),vj=.int .i64 j/\j<=m/\v6=.slice aL j cL/\Hid (gm D w bM D.n vs wq/\Below W3.heap.size W3 wq/\wq.ownsRow W3.heap.size 43 1 (.slice aL j cL) j ((List.range j).map fun i=>vs (ms.getD i 0)))) (fun _ _ v _=>m-(intOf v).toNat)
 ·exact⟨0,none,0,rfl,Nat.zero_le _,rfl,H3.out.1,by rw[H3.out.2.2.1];exact Below.refl _ _,World.ownsRow_nil _ _ _ _⟩
 obtain⟨j,aL,cL,rfl,hj,rfl,HJ⟩:=hrel;by_cases Vl:j<m
 ·obtain⟨gS,oS,rfl,wZ,CB⟩:=H3.out.2.1 (by omega);have d0:=(HJ.out.2.1.cell (p:=⟨gS,oS+j,none⟩) wZ).trans (CB j Vl);obtain⟨μ,hμ⟩:∃μ,ms.getD j 0=μ:=⟨_,rfl⟩
  have hp:fJ D D.n μ:=by
   rw[<-H3.out.2.2.2.2,<-hμ,oG _ _ _ (by rw[H3.out.2.2.2.1];exact Vl)];exact List.getElem_mem _
  replace d0:wr.cell? ⟨gS,oS+j,none⟩=some (.int .i64 μ):=by rw[<-hμ];exact d0
  have uX:μ<32768:=by
   obtain⟨_,i,hi,e⟩:=hp;rw[<-e];exact (HB.out.2.2.1.q i hi).2
  obtain⟨v0,bU,Hv,_⟩:=HJ.out.1.look μ hp.1 (by omega);have Tu:v0=vs μ:=by
   rcases Hv with ⟨_,h⟩|⟨h,_⟩
   ·exact h
   exact absurd hp h
  rw[Tu,HJ.out.1.val μ hp] at bU;have hO:=HJ.out.2.2;have sb:=HJ.out.2.1.size;have i1:(j:Int)<m:=by omega
  have yC:=hp.1;have HV:Hid (vs μ=.slice (uT (vs μ)) (nC D D.n μ).length (xV (vs μ))/\ms.getD j 0=μ):=⟨HJ.out.1.val μ hp,hμ⟩
  obtain⟨i0,hi,dD,db,cW⟩:=info_parts dP;generalize uT (vs μ)=aV at bU HV;generalize xV (vs μ)=cV at bU HV;generalize (nC D D.n μ).length=lV at bU HV;clear CB hp Hv Tu hμ;go_wp2_with (at_builtin;refine wpList_append_own_at _ rfl _ _ 99 rfl W3.heap.size 43 i0 (.slice none 0 0) 1 24 Tryz.underlying99 hi dD db cW rfl (by decide) _ _ _ rfl (hO.alloc _) ⟨wr.heap.size,0,none⟩ 1 1 [.slice aV lV cV] rfl rfl (cell_one_new _ _ _) ?f2 ?f3 ?f4 ?f5 ?_)
  case f2=>first|(intro u hu;simp at hu;subst hu;rfl)|rfl
  case f3=>unfold maxLen;omega
  case f4=>omega
  case f5=>first|(simp;omega)|omega
  intro v' w5 ak aj _ bg;obtain⟨a5,c5,rfl⟩:=bF ak;have H5:Hid (gm D w bM D.n vs w5/\Below W3.heap.size W3 w5/\w5.ownsRow W3.heap.size 43 1 (.slice a5 (j+1) c5) (j+1) ((List.range (j+1)).map fun i=>vs (ms.getD i 0))):=by
   have kk:=al wr (.cells #[.slice aV lV cV] 43);have Bu:w.heap.size<=W3.heap.size:=(by rw[H3.out.2.2.1];exact H3.out.1.below.size);refine⟨(HJ.out.1.aa kk).grown (hO.alloc _) Bu (by decide) aj,fH (HJ.out.2.1.trans (kk.mono sb)) (hO.alloc _) (by simp;omega) aj,?_⟩;rw[List.range_succ,List.map_append,List.map_singleton,HV.out.2,HV.out.1];exact ak
  clear ak aj bg hO HJ;go_wp2;go_roundw
  ·exact⟨j+1,a5,c5,by go_num,by omega,rfl,H5.out⟩
  simp[intOf];omega
 obtain rfl:j=m:=by omega
 have HF:Hid (Oc D w (.returned (.slice aL j cL)) wr):=by
  have mT:=H3.out.2.2.2.1;have Qt:∀i,i<j->fJ D D.n (ms.getD i 0):=fun i hi=>by
   rw[<-H3.out.2.2.2.2,oG _ _ _ (by rw[mT];exact hi)];exact List.getElem_mem _
  have Bu:w.heap.size<=W3.heap.size:=by rw[H3.out.2.2.1];exact H3.out.1.below.size
  refine⟨ms,aL,cL,fun i=>uT (vs (ms.getD i 0)),fun i=>xV (vs (ms.getD i 0)),by rw[mT],fun μ hμ=>((H3.out.2.2.2.2 μ).1 hμ).1,fun i hi h0=>(H3.out.2.2.2.2 _).2 ⟨h0,i,hi,rfl⟩,by rw[mT];exact nV,HJ.out.1.below,?_,fun i hi=>?_⟩
  ·rw[mT];have e:(List.range j).map (fun i=>Value.slice (uT (vs (ms.getD i 0))) (qt D (ms.getD i 0)).length (xV (vs (ms.getD i 0))))=(List.range j).map fun i=>vs (ms.getD i 0):=by
    refine(List.map_congr_left fun i hi=>?_);exact (HJ.out.1.val _ (Qt i (List.mem_range.1 hi))).symm
   rw[e];exact jF HJ.out.2.2 Bu
  rw[mT] at hi;have h1:=HJ.out.1.row _ (Qt i hi);rw[HJ.out.1.val _ (Qt i hi)] at h1;exact h1
 clear HJ;go_wp2;go_ret;exact HF.out
theorem zgr(D:Dd)(C:Nat)(hR:DR D C)(w:World)(hD:DM w D):Calls Tryz.prog 132 #[.agg D.cD] w (RZ D C w):=ziu D C hR w hD (fun W hW=>zip D C hR W hW)
end Go.Proofs.YtiijebameffenaaGreat
