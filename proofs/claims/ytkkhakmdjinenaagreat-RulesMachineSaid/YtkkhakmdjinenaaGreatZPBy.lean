import Derived.Test.YtkkhakmdjinenaaGreatZIter
import Derived.Test.YtkkhakmdjinenaaGreatZPMn
import Derived.Lib.SlKeysI
set_option linter.all false
set_option maxHeartbeats 4000000
set_option maxRecDepth 100000
open Go.Lib (hid)
namespace Go.Proofs
open Go.RowKit Go.Maps Go.Sort
theorem DH(m:Nat):AnyZI.SortsIn Tryz.prog mo Fence.wide m:=
 ⟨fun gG off cap ss W hH s6 dc=>callsIn_wide.2 (AnyM.slices_Sort_int Bs gG off cap ss W hH s6 dc),
  fun p cap W=>callsIn_wide.2 (AnyM.slices_Sort_int_none Bs p cap W)⟩
theorem yF(mb:Option Nat)(W:World):Calls Tryz.prog 141 #[.map mb] W fun e w'=>e=.returned (.func (.func 153) #[] #[.pointer (some ⟨W.heap.size,0,none⟩)])/\w'=W.alloc (.cells #[.map mb] 191):=
 (callsIn_wide (n:=5)).1 (AnyZI.keys_in BR Fence.wide 5 trivial rfl mb W)
theorem tu{H:Type}(b nn:Nat)(D0:DataW H)(R:Value->Option (DataW H × List MemPlace))(w:World)(az:w.ownsMap Tryz.prog 3 R b nn D0)(dG:Maps.size D0<=maxLen)(kQ:Maps.size D0*8<=140737488355328):
  Calls Tryz.prog 140 #[.func (.func 153) #[] #[.pointer (some ⟨w.heap.size,0,none⟩)]] (w.alloc (.cells #[.map (some b)] 191)) fun e w'=>∃(v:Value) (ss:List Int),e=.returned v/\ss.Perm (intKeys D0)/\
   w'.ownsRow (w.alloc (.cells #[.map (some b)] 191)).heap.size 3 1 v ss.length ((ss.mergeSort (fun x y=>decide (x<=y))).map encZ)/\(v=.slice none 0 0↔ss=[])/\Below (w.alloc (.cells #[.map (some b)] 191)).heap.size (w.alloc (.cells #[.map (some b)] 191)) w':=by
 refine (callsIn_wide (n:=5)).1 ?_;have gE:=az.lt;have OD:SeqGives Fence.wide 2 Tryz.prog 153 #[.pointer (some ⟨w.heap.size,0,none⟩)] encZ (fun ss=>ss.Perm (intKeys D0)) (Maps.size D0) (w.alloc (.cells #[.map (some b)] 191)):=
  AnyZI.keys_gives (ρ:=pM) { BR with } Fence.wide _ trivial rfl (by omega) w.heap.size b nn D0 _ (by simp) (by simp) (by
   obtain⟨es,clock,hb,Ft,hs,hD⟩:=az
   exact⟨es,clock,(Below.heap_alloc _ _ b gE).trans hb,Ft,hs,hD⟩)
 exact AnyZI.sorted_in AE Fence.wide 5 trivial trivial trivial trivial rfl (by omega) (DH _) (enters_of Tryz.func152 (by kernel_rfl) rfl) 153 #[.pointer (some ⟨w.heap.size,0,none⟩)] trivial (enters_of Tryz.func153 (by kernel_rfl) rfl) _ _ dG kQ _ OD
end Go.Proofs
namespace Go.Proofs.YtkkhakmdjinenaaGreat
open Go.RowKit Go.Maps Go.WideElems Go.ChangeMaps Go.MapKept
theorem aO.over{w:World}{k t e:TypeId}{b n:Nat}{Q Q':Value->Value->Prop}(h:aO w k b n Q)(K:Keyed Tryz.prog k)(ht:Tryz.prog.underlying t=some (.map k e))
  {key val:Value}{kl:Lit}(ef:keyOf Tryz.prog k key=some kl) (hex:∃y,Q key y) (hQ:∀x y,Q x y->x≠key->Q' x y) (hv:Q' key val) (nI:∀x y,Q' x y->x≠key->∃y',Q x y'):
  ∃w',(Instr.mapUpdate t (.map (some b)) key val).run Tryz.prog w=.ok () w'/\aO w' k b n Q'/\w.grownBy w' (some b):=by
 obtain⟨es,clock,hb,F,hs,hq,eo⟩:=h;have o9:WideElems.rd Tryz.prog k fP ⟨key,val,clock⟩=some (kl,.held val):=by unfold WideElems.rd fP;rw[ef];rfl
 rcases K.find w ef es.toList F.keys with ⟨h1,h2⟩|⟨j,e0,h1,h2,h3⟩
 ·obtain⟨y,hy⟩:=hex;obtain⟨e1,h4,h5⟩:=eo _ _ hy;exact absurd h5 (h2 e1 h4)
 have hj:es[j]?=some e0:=by simpa using h2
 have hjl:j<es.toList.length:=(List.getElem?_eq_some_iff.1 h2).1;have re:∀e',es[j]?=some e'->({ e' with key:=key,val:=val }:MapEntry).key=e'.key:=fun e' jX=>by rw[hj] at jX;cases jX;exact h3.symm
 have jV:(es.modify j (fun e'=>{ e' with key:=key,val:=val })).toList=es.toList.set j { e0 with key:=key,val:=val }:=by rw[Array.toList_modify,modify_eq_set _ _ _ _ h2]
 have Bz:∀x∈es.toList.set j { e0 with key:=key,val:=val },x={ e0 with key:=key,val:=val }\/(x∈es.toList/\x.key≠key):=by
  intro x hx;obtain⟨i,hi,ex⟩:=List.getElem_of_mem hx;rw[List.getElem_set] at ex;split at ex
  ·exact Or.inl ex.symm
  rename_i hne;have hi':i<es.toList.length:=by simpa using hi
  refine Or.inr ⟨ex ▸ List.getElem_mem hi',?_⟩;rw[<-h3];exact other_key F h2 (by rw[List.getElem?_eq_getElem hi',ex]) (fun e1=>hne e1.symm)
 refine⟨setBlock w b (.map (es.modify j (fun e'=>{ e' with key:=key,val:=val })) clock),?_,⟨_,clock,heap_setBlock_same hb _,⟨by simpa using F.size,stamped_modify F.stamped _ _ (fun _ _=>rfl) (fun e' _ jX=>re e' jX),fun x hx=>?_⟩,by simpa using hs,fun x hx=>?_,fun x y hx=>?_⟩,⟨rfl,rfl,rfl,by simp[setBlock],fun i _ hi=>heap_setBlock_other hb _ (fun e=>hi (by rw[e]))⟩⟩
 ·simp[Instr.mapUpdate,run_underlying ht,MapKept.run_getObj_map hb,K.check w false ef,h1,hj,h3,K.stays w ef,MapKept.run_setObj_map _ hb,Result.andThen,setBlock]
 ·rw[jV] at hx;rcases Bz x hx with rfl|⟨xr,hne⟩
  ·exact⟨(kl,.held val),by unfold WideElems.rd fP;rw[ef];rfl⟩
  exact F.reads x xr
 ·rw[jV] at hx;rcases Bz x hx with rfl|⟨xr,hne⟩
  ·exact hv
  exact hQ _ _ (hq x xr) hne
 rw[jV];by_cases e1:x=key
 ·exact⟨{ e0 with key:=key,val:=val },List.mem_iff_getElem?.2 ⟨j,by rw[List.getElem?_set_self hjl]⟩,e1.symm⟩
 obtain⟨y',hy⟩:=nI x y hx e1;obtain⟨e2,h4,h5⟩:=eo x y' hy;obtain⟨i,hi,e3⟩:=List.getElem_of_mem h4;have hij:j≠i:=fun e=>by
  subst e;rw[List.getElem?_eq_getElem hi] at h2;injection h2 with h2;rw[e3] at h2;rw[h2,h3] at h5;exact e1 h5.symm
 exact⟨e2,List.mem_iff_getElem?.2 ⟨i,by rw[List.getElem?_set_ne hij,List.getElem?_eq_getElem hi,e3]⟩,h5⟩
theorem aO.JA{w:World}{k t e:TypeId}{b n:Nat}{Q:Value->Value->Prop}(h:aO w k b n Q)(K:Keyed Tryz.prog k)(ht:Tryz.prog.underlying t=some (.map k e)){z:Value}(hz:(zeroValue e).run Tryz.prog w=.ok z w)
  {key:Value}{kl:Lit}(ef:keyOf Tryz.prog k key=some kl):
  ((Instr.lookup t (.map (some b)) key false).run Tryz.prog w=.ok z w/\∀y,¬Q key y)\/∃v,Q key v/\(Instr.lookup t (.map (some b)) key false).run Tryz.prog w=.ok v w:=by
 obtain⟨es,clock,hb,F,_,hq,eo⟩:=h;rcases Maps.fit_look false K ht hz hb F ef with ⟨cy,gm,_⟩|⟨e0,y,hm,hk,cy,_⟩
 ·refine Or.inl ⟨by simpa using cy,fun y hy=>?_⟩;obtain⟨e1,h1,h2⟩:=eo _ _ hy;exact gm e1 h1 h2
 exact Or.inr ⟨e0.val,by rw[<-hk];exact hq e0 hm,by simpa using cy⟩
theorem U9(x:Int)(h:-9223372036854775808<=x/\x<=9223372036854775807):keyOf Tryz.prog 3 (.int .i64 x)=some (.int .i64 x):=by
 have hw:=G2 h;unfold keyOf;simp[Tryz.underlying3,mapKey,hw]
theorem aO.keys{w:World}{b n:Nat}{Q:Value->Value->Prop}(h:aO w 3 b n Q):∃(D0:DataW Value) (nn:Nat),w.ownsMap Tryz.prog 3 fP b nn D0/\Maps.size D0<=n/\(Go.intKeys D0).length<=n/\(∀x,x∈Go.intKeys D0->∃y,Q (.int .i64 x) y)/\∀x y,Q (.int .i64 x) y->x∈Go.intKeys D0:=by
 obtain⟨es,clock,hb,F,hs,hq,eo⟩:=h;refine⟨_,_,World.ownsMap_of_fit hb F (fun _ _ _ h=>h),?_,?_,fun x hx=>?_,fun x y hx=>?_⟩
 rotate_left
 ·show (((es.toList.map (rg Tryz.prog 3 fP)).foldr DataW.insert []).map fun p=>Go.intOf p.1).length<=n;rw[List.length_map,length_sorted];simpa using hs
 rotate_left
 rotate_left
 ·have:Maps.size (DataW.map ((es.toList.map (rg Tryz.prog 3 fP)).foldr DataW.insert []))=((es.toList.map (rg Tryz.prog 3 fP)).foldr DataW.insert []).length:=rfl;rw[this,length_sorted];simpa using hs
 ·obtain⟨p,hp,e⟩:=List.mem_map.1 hx;rw[mem_sorted] at hp;obtain⟨e0,GC,rfl⟩:=List.mem_map.1 hp;obtain⟨kl,hkl⟩:=F.keys e0 GC;obtain⟨x',h1,h2,_⟩:=Go.Maps.keyOf_i64 Tryz.underlying3 hkl;have hr:WideElems.rd Tryz.prog 3 fP e0=some (kl,.held e0.val):=by unfold WideElems.rd fP;rw[hkl];rfl
  rw[rg_of hr,h2] at e;have e':x'=x:=e;refine⟨e0.val,?_⟩;have:=hq e0 GC;rw[h1,e'] at this;exact this
 obtain⟨e0,GC,px⟩:=eo _ _ hx;obtain⟨kl,hkl⟩:=F.keys e0 GC;obtain⟨x',h1,h2,_⟩:=Go.Maps.keyOf_i64 Tryz.underlying3 hkl;have hr:WideElems.rd Tryz.prog 3 fP e0=some (kl,.held e0.val):=by unfold WideElems.rd fP;rw[hkl];rfl
 have Gz:x'=x:=by
  rw[px] at h1;injection h1 with _ h1;exact h1.symm
 refine List.mem_map.2 ⟨rg Tryz.prog 3 fP e0,mem_sorted.2 (List.mem_map.2 ⟨e0,GC,rfl⟩),?_⟩;rw[rg_of hr,h2,Gz];rfl
def gh(D:Dd)(k:Nat)(μ:Int):Prop:=0<=μ/\∃i,i<k/\D.q i=μ
def nW(D:Dd)(k:Nat)(μ:Int):List Nat:=(List.range k).filter fun i=>D.q i == μ
theorem Rl(D:Dd)(k:Nat)(μ:Int):nW D (k+1) μ=if D.q k=μ then nW D k μ++[k] else nW D k μ:=by
 unfold nW;rw[List.range_succ,List.filter_append];by_cases h:D.q k=μ <;> simp[h]
theorem Wu(D:Dd)(k:Nat)(μ:Int)(h0:0<=μ)(h:¬gh D k μ):nW D k μ=[]:=by
 unfold nW;rw[List.filter_eq_nil_iff];intro i hi e;exact h ⟨h0,i,List.mem_range.1 hi,by simpa using e⟩
theorem zpI(D:Dd)(k:Nat)(μ:Int):(nW D k μ).length<=k:=by
 have:=List.length_filter_le (fun i=>D.q i == μ) (List.range k);simpa [nW] using this
def GQ(D:Dd)(k:Nat)(vs:Int->Value)(key val:Value):Prop:=∃μ,gh D k μ/\key=.int .i64 μ/\val=vs μ
structure ie (D:Dd)(W0:World)(bM k:Nat)(vs:Int->Value)(w:World):Prop where
 below:Below W0.heap.size W0 w
 map:aO w 3 bM k (GQ D k vs)
 row:∀μ,gh D k μ->w.ownsRow W0.heap.size 3 1 (vs μ) (nW D k μ).length (cY (nW D k μ))
 sep:∀μ ν,gh D k μ->gh D k ν->μ≠ν->∀g,(vs μ).ownBlock=some g->(vs ν).ownBlock≠some g
 lo:W0.heap.size<=bM
section
variable {D : Dd}{W0 w : World}{bM k : Nat}{vs : Int → Value}
theorem ie.ab{w1:World}(h:ie D W0 bM k vs w)(kk:Below w.heap.size w w1):ie D W0 bM k vs w1:=
 ⟨h.below.trans (kk.mono h.below.size),h.map.same (kk.block _ h.map.lt),fun μ hp=>db (h.row μ hp) kk,h.sep,h.lo⟩
theorem Nf{D:Dd}{k:Nat}(hq:D.q k<0)(μ:Int):gh D (k+1) μ↔gh D k μ:=by
 constructor
 ·rintro⟨h0,i,hi,e⟩;refine⟨h0,i,?_,e⟩;by_cases e2:i=k
  ·subst e2;omega
  omega
 rintro⟨h0,i,hi,e⟩;exact⟨h0,i,by omega,e⟩
theorem ie.skip(h:ie D W0 bM k vs w)(hq:D.q k<0):ie D W0 bM (k+1) vs w:=by
 have hm:∀μ,gh D k μ->nW D (k+1) μ=nW D k μ:=fun μ hp=>by
  rw[Rl,if_neg (by have:=hp.1;omega)]
 have hQ:GQ D (k+1) vs=GQ D k vs:=by
  funext x y;unfold GQ;simp only[Nf hq]
 refine⟨h.below,?_,fun μ hp=>?_,fun μ ν h1 h2=>h.sep μ ν ((Nf hq μ).1 h1) ((Nf hq ν).1 h2),h.lo⟩
 ·rw[hQ];exact h.map.more (by omega)
 have sd:=(Nf hq μ).1 hp;rw[hm μ sd];exact h.row μ sd
theorem DU{D:Dd}{k:Nat}(hq:0<=D.q k)(μ:Int):gh D (k+1) μ↔gh D k μ\/μ=D.q k:=by
 constructor
 ·rintro⟨h0,i,hi,e⟩;by_cases e2:i=k
  ·subst e2;exact Or.inr e.symm
  exact Or.inl ⟨h0,i,by omega,e⟩
 rintro (⟨h0,i,hi,e⟩|rfl)
 ·exact⟨h0,i,by omega,e⟩
 exact⟨hq,k,by omega,rfl⟩
def oC(vs:Int->Value)(μ:Int)(v:Value):Int->Value:=fun ν=>if ν=μ then v else vs ν
theorem ie.Cj{w5:World}{v0 v':Value}{μ:Int}{q:Nat}(h:ie D W0 bM k vs w)(hμ:D.q k=μ)(h0:0<=μ)(hr:μ<=9223372036854775807)(hk:k<maxLen)(hv:(gh D k μ/\v0=vs μ)\/(¬gh D k μ/\v0=.slice none 0 0))(Rt:(nW D k μ).length=q)
  (ho:w5.ownsRow W0.heap.size 3 1 v' (q+1) (cY (nW D k μ)++[.int .i64 (k:Int)])) (hg:w.grownBy w5 v0.ownBlock) (fx:v'.ownBlock=v0.ownBlock\/v'.ownBlock=some w.heap.size):
  ∃w6,(Instr.mapUpdate 191 (.map (some bM)) (.int .i64 μ) v').run Tryz.prog w5=.ok () w6/\ie D W0 bM (k+1) (oC vs μ v') w6:=by
 subst hμ;have Z6:w.ownsRow W0.heap.size 3 1 v0 (nW D k (D.q k)).length (cY (nW D k (D.q k))):=by
  rcases hv with ⟨h1,rfl⟩|⟨h1,rfl⟩
  ·exact h.row _ h1
  rw[Wu D k _ h0 h1];exact World.ownsRow_nil _ _ _ _
 have Aq:aO w5 3 bM k (GQ D k vs):=h.map.ae Z6 hg;have eu:Below W0.heap.size W0 w5:=fL h.below Z6 h.below.size hg;have aq:∀ν,gh D k ν->∀g,(vs ν).ownBlock=some g->g<w.heap.size:=fun ν hp=>lZ (h.row ν hp)
 have fK:∀ν,gh D k ν->ν≠D.q k->∀g,(vs ν).ownBlock=some g->v0.ownBlock≠some g:=fun ν hp hne g e=>by
  rcases hv with ⟨h1,rfl⟩|⟨h1,rfl⟩
  ·exact h.sep ν _ hp h1 hne g e
  intro e2;simp[Value.ownBlock] at e2
 have KO:∀ν,gh D k ν->ν≠D.q k->∀g,(vs ν).ownBlock=some g->v'.ownBlock≠some g:=fun ν hp hne g e e2=>by
  rcases fx with e3|e3
  ·rw[e3] at e2;exact fK ν hp hne g e e2
  rw[e3] at e2;injection e2 with e2;have:=aq ν hp g e;omega
 have up:∀x y,GQ D k vs x y->x≠.int .i64 (D.q k)->GQ D (k+1) (oC vs (D.q k) v') x y:=by
  rintro x y ⟨ν,h1,rfl,rfl⟩ hne;refine⟨ν,(DU h0 ν).2 (Or.inl h1),rfl,?_⟩;unfold oC;rw[if_neg (fun e=>hne (by rw[e]))]
 have back:∀x y,GQ D (k+1) (oC vs (D.q k) v') x y->x≠.int .i64 (D.q k)->∃y',GQ D k vs x y':=by
  rintro x y ⟨ν,h1,rfl,rfl⟩ hne;rcases (DU h0 ν).1 h1 with h2|rfl
  ·exact⟨vs ν,ν,h2,rfl,rfl⟩
  exact absurd rfl hne
 have new:GQ D (k+1) (oC vs (D.q k) v') (.int .i64 (D.q k)) v':=⟨D.q k,(DU h0 _).2 (Or.inr rfl),rfl,by unfold oC;rw[if_pos rfl]⟩
 have key:=U9 (D.q k) ⟨by omega,hr⟩;have main:∃w6,(Instr.mapUpdate 191 (.map (some bM)) (.int .i64 (D.q k)) v').run Tryz.prog w5=.ok () w6/\aO w6 3 bM (k+1) (GQ D (k+1) (oC vs (D.q k) v'))/\w5.grownBy w6 (some bM):=by
  rcases hv with ⟨h1,rfl⟩|⟨h1,rfl⟩
  ·obtain⟨w6,e1,e2,e3⟩:=Aq.over (t:=191) zc Tryz.underlying191 key ⟨vs (D.q k),D.q k,h1,rfl,rfl⟩ up new back;exact⟨w6,e1,e2.more (by omega),e3⟩
  have gm:∀y,¬GQ D k vs (.int .i64 (D.q k)) y:=by
   rintro y ⟨ν,h2,e,_⟩;injection e with _ e;exact h1 (by rw[e];exact h2)
  exact Aq.update (t:=191) zc Tryz.underlying191 hk key gm (fun x y hxy=>up x y hxy (by
   obtain⟨ν,h2,e,_⟩:=hxy
   intro e2
   rw[e] at e2
   injection e2 with _ e2
   exact h1 (by rw[<-e2];exact h2))) new back
 obtain⟨w6,e1,e2,e3⟩:=main;have r5:∀{v:Value}{n:Nat}{xs:List Value},w5.ownsRow W0.heap.size 3 1 v n xs->w6.ownsRow W0.heap.size 3 1 v n xs:=fun o=>wV o Aq.of e3
 refine⟨w6,e1,⟨eu.grown e3 eu.size (fun g e=>by injection e with e;rw[<-e];exact h.lo),e2,fun ν hp=>?_,fun μ ν h1 h2 hne g=>?_,h.lo⟩⟩
 ·by_cases e:ν=D.q k
  ·subst e;unfold oC;rw[if_pos rfl,Rl,if_pos rfl,xG,List.length_append];rw[<-Rt] at ho;exact r5 ho
  have sd:=((DU h0 ν).1 hp).resolve_right e;unfold oC;rw[if_neg e,Rl,if_neg (fun e2=>e e2.symm)];exact r5 (rF (h.row ν sd) hg (fun g e1 e2=>fK ν sd e g e1 e2.symm))
 unfold oC;by_cases e4:μ=D.q k
 ·have kW:ν≠D.q k:=fun e=>hne (by rw[e4,e])
  have sd:=((DU h0 ν).1 h2).resolve_right kW;rw[if_pos e4,if_neg kW];exact fun e5 e6=>KO ν sd kW g e6 e5
 have sd:=((DU h0 μ).1 h1).resolve_right e4;rw[if_neg e4];by_cases e5:ν=D.q k
 ·rw[if_pos e5];exact fun e6=>KO μ sd e4 g e6
 rw[if_neg e5];exact h.sep μ ν sd (((DU h0 ν).1 h2).resolve_right e5) hne g
end
theorem zlp(W:World):(Instr.makeMap 191 none).run Tryz.prog W=.ok (.map (some W.heap.size)) (W.alloc (.map #[] 0)):=by
 simp[Instr.makeMap,go_sem]
theorem ie.look{D:Dd}{W0 w:World}{bM k:Nat}{vs:Int->Value}(h:ie D W0 bM k vs w)(μ:Int)(h0:0<=μ)(hr:μ<=9223372036854775807):
  ∃v0,(Instr.lookup 191 (.map (some bM)) (.int .i64 μ) false).run Tryz.prog w=.ok v0 w/\((gh D k μ/\v0=vs μ)\/(¬gh D k μ/\v0=.slice none 0 0))/\w.ownsRow W0.heap.size 3 1 v0 (nW D k μ).length (cY (nW D k μ)):=by
 rcases h.map.JA (t:=191) zc Tryz.underlying191 (Wg w) (U9 μ ⟨by omega,hr⟩) with ⟨h1,h2⟩|⟨v,⟨ν,h2,e,rfl⟩,h1⟩
 ·have hn:¬gh D k μ:=fun hp=>h2 (vs μ) ⟨μ,hp,rfl,rfl⟩
  exact⟨_,h1,Or.inr ⟨hn,rfl⟩,by rw[Wu D k μ h0 hn];exact World.ownsRow_nil _ _ _ _⟩
 injection e with _ e;subst e;exact⟨_,h1,Or.inl ⟨h2,rfl⟩,h.row _ h2⟩
theorem ie.grown{D:Dd}{W0 w w':World}{bM k t n B:Nat}{vs:Int->Value}{v:Value}{xs:List Value}(h:ie D W0 bM k vs w)(ho:w.ownsRow B t 1 v n xs)(hB:W0.heap.size<=B)(ht:t≠3)(hg:w.grownBy w' v.ownBlock):ie D W0 bM k vs w':=
 ⟨fL h.below (gn ho hB) h.below.size hg,h.map.ae ho hg,fun μ hp=>sO (h.row μ hp) ho ht hg,h.sep,h.lo⟩
theorem ie.val{D:Dd}{W0 w:World}{bM k:Nat}{vs:Int->Value}(h:ie D W0 bM k vs w)(μ:Int)(hp:gh D k μ):vs μ=.slice (vw (vs μ)) (nW D k μ).length (xq (vs μ)):=by
 obtain⟨a,c,e⟩:=bP (h.row μ hp);rw[e];rfl
theorem zjS(D:Dd)(C:Nat)(hR:DR D C)(w:World)(hD:DM w D):Calls Tryz.prog 113 #[.agg D.cD] w (OV D w):=by
 have cU:=hR.n2;have HB:=ψ (bg.new hD) (al w (.cells D.cD 29)) hR hR.m;obtain⟨gM,oM,eM,pW,lJ⟩:=hD.rM (by have:=hR.n1;have:=hR.m;omega);rw[hR.m] at lJ;clear hD hR;have fJ:=zlp;go_enter Tryz.func113,Tryz.ntmps113;go_upto_region 2 with fail;obtain⟨bM,oo⟩:∃bM,w.heap.size+1=bM:=⟨_,rfl⟩
 obtain⟨b0,ay⟩:∃b0,w.heap.size=b0:=⟨_,rfl⟩
 obtain⟨W2,kq⟩:∃W2,(w.alloc (.cells D.cD 29)).alloc (.map #[] 0)=W2:=⟨_,rfl⟩
 have dc:(w.alloc (.cells D.cD 29)).heap.size=bM:=by rw[<-oo];simp
 have k2:=al (w.alloc (.cells D.cD 29)) (.map #[] 0);have WY:bg W2 w.heap.size D:=by rw[<-kq];exact HB.out.1.ab k2
 have Ja:ie D w bM 0 (fun _=>.slice none 0 0) W2:=by
  have gm:∀μ,¬gh D 0 μ:=fun μ hp=>by
   obtain⟨_,i,hi,_⟩:=hp;omega
  refine⟨by rw[<-kq];exact HB.out.2.1.trans (k2.mono (by simp)),?_,fun μ hp=>absurd hp (gm μ),fun μ ν hp=>absurd hp (gm μ),by omega⟩;have:=aO.made (w.alloc (.cells D.cD 29)) 3 (GQ D 0 (fun _=>.slice none 0 0)) (fun x y h=>by
   obtain⟨μ,hp,_⟩:=h
   exact gm μ hp)
  rw[kq,dc] at this;exact this
 have tf:=ζ WY Ja;rw[oo,kq,ay];have Hb:=ζ oo ay;rw[ay] at tf;have c1:=tf.out.1.f2;rw[HB.out.2.2.2] at c1;rw[eM] at c1;have MR:=ζ pW lJ;clear oo ay kq dc k2 WY Ja eM pW lJ;go_wp2_with fail;clear c1;go_loopw [4,5,13] (fun _ _ vk wr=>∃k:Nat,vk=.int .i64 k/\k<=D.n/\Hid (∃vs,ie D w bM k vs wr)) (fun _ _ v _=>D.n-(intOf v).toNat)
 ·exact⟨0,rfl,Nat.zero_le _,_,tf.out.2⟩
 obtain⟨k,rfl,hk,HL⟩:=hrel;by_cases aq:k<D.n
 ·obtain⟨vs,hG⟩:=HL.out;have d0:=(hG.below.cell (p:=⟨gM,oM+k,none⟩) MR.out.1).trans (MR.out.2 k aq);have Q9:=HB.out.2.2.1.q k aq;have Rt:D.q k<32768:=Q9.2;obtain⟨μ,hμ⟩:∃μ,D.q k=μ:=⟨_,rfl⟩
  rw[hμ] at d0 Rt;have Hμ:=hid hμ;have i1:(k:Int)<(D.n:Int):=by omega
  by_cases h0:μ<0
  ·have HS:Hid (ie D w bM (k+1) vs wr):=hG.skip (by rw[hμ];exact h0);have i2:¬(0<=μ):=(by omega);clear hG Q9 hμ HL;go_wp2;go_roundw
   ·exact⟨k+1,by go_num,by omega,vs,HS.out⟩
   simp[intOf];omega
  obtain⟨v0,cy,JV,hO⟩:=hG.look μ (by omega) (by omega);obtain⟨q,hq⟩:∃q,(nW D k μ).length=q:=⟨_,rfl⟩
  have PV:q<=k:=by rw[<-hq];exact zpI D k μ
  rw[hq] at hO;obtain⟨a0,c0,rfl⟩:=bP hO;have HG:=ξ hG JV hq;have sX:=hG.below.size;have i2:0<=μ:=by omega
  obtain⟨i0,hi,dv,cP,cG⟩:=info_parts aG;clear hG Q9 hμ HL JV hq;go_wp2_with (at_builtin;refine wpList_append_own_at _ rfl _ _ 27 rfl w.heap.size 3 i0 (.int .i64 0) 1 8 Tryz.underlying27 hi dv cP cG rfl (by decide) _ _ _ rfl (hO.alloc _) ⟨wr.heap.size,0,none⟩ 1 1 [.int .i64 (k:Int)] rfl rfl (cell_one_new _ _ _) ?d2 ?d3 ?d4 ?d5 ?_)
  case d2=>first|(intro u hu;simp at hu;subst hu;rfl)|rfl
  case d3=>unfold maxLen;omega
  case d4=>omega
  case d5=>first|(simp;omega)|omega
  intro v' w5 ah ag _ bJ;obtain⟨a5,c5,rfl⟩:=bP ah;obtain⟨w6,wF,Zw⟩:=(HG.out.1.ab (al wr (.cells #[.int .i64 (k:Int)] 3))).Cj (v':=.slice a5 (q+1) c5) Hμ.out i2 (by omega) (by unfold maxLen;omega) HG.out.2.1 HG.out.2.2 ah ag (by
   rw[show (wr.alloc (.cells #[.int .i64 (k:Int)] 3)).heap.size=wr.heap.size+1 by simp]
   exact bJ)
  have HG6:=hid Zw;clear ah ag bJ Zw hO HG;go_wp2;go_roundw
  ·exact⟨k+1,by go_num,by omega,_,HG6.out⟩
  simp[intOf];omega
 obtain rfl:k=D.n:=by omega
 obtain⟨vs,hG⟩:=HL.out;obtain⟨D0,nn,az,QW,hkl,ka,fm⟩:=hG.map.keys;have HK:=hid (yF (some bM) wr);have HS:=hid (tu bM nn D0 fP wr az (by unfold maxLen;omega) (by omega));have HG:=ψ hG hkl ka fm;clear hG az QW hkl ka fm HL;go_wp2_with fail;refine HK.out.mono ?_;rintro e w2 ⟨rfl,rfl⟩;go_wp2_with fail;refine HS.out.mono ?_;rintro e w3 ⟨v,ss,rfl,Bx,dF,R3,b3⟩;obtain⟨ms,lW⟩:∃ms,ss.mergeSort (fun x y=>decide (x<=y))=ms:=⟨_,rfl⟩
 have Tq:ms.Perm (Go.intKeys D0):=by rw[<-lW];exact (List.mergeSort_perm ss _).trans Bx
 obtain⟨m,hm⟩:∃m,ms.length=m:=⟨_,rfl⟩
 have KH:ss.length=m:=by rw[<-hm,<-lW];exact (List.length_mergeSort ss).symm
 rw[lW,KH] at dF;have jl:m<=D.n:=by rw[<-hm,Tq.length_eq];exact HG.out.2.1
 have gw:∀x,x∈ms↔gh D D.n x:=fun x=>by
  rw[Tq.mem_iff];constructor
  ·intro hx;obtain⟨y,μ,hp,e,_⟩:=HG.out.2.2.1 x hx;injection e with _ e;rw[e];exact hp
  intro hp;exact HG.out.2.2.2 x (vs x) ⟨x,hp,rfl,rfl⟩
 have hz:ms.map encZ=ints ms:=rfl;rw[hz] at dF;obtain⟨aS,cS,rfl⟩:=bP dF;have k2:=al wr (.cells #[.map (some bM)] 191);have XB:=(HG.out.1.ab k2).ab b3;obtain⟨W3,uL⟩:∃W3,W3=w3:=⟨w3,rfl⟩
 have H3:Hid (ie D w bM D.n vs w3/\kY W3 aS m (fun i=>ms.getD i 0)/\W3=w3/\ms.length=m/\∀x,x∈ms↔gh D D.n x):=by
  refine⟨XB,?_,uL,hm,gw⟩;rw[uL];exact PX dF hm
 clear Bx dF R3 b3 Tq lW KH gw hz k2 XB uL hm HK HS HG;go_wp2;go_loopw [6,8,33] (fun v6 _ vj wq=>∃(j:Nat) (aL:Option Addr) (cL:Nat),vj=.int .i64 j/\j<=m/\v6=.slice aL j cL/\Hid (ie D w bM D.n vs wq/\Below W3.heap.size W3 wq/\wq.ownsRow W3.heap.size 27 1 (.slice aL j cL) j ((List.range j).map fun i=>vs (ms.getD i 0)))) (fun _ _ v _=>m-(intOf v).toNat)
 ·exact⟨0,none,0,rfl,Nat.zero_le _,rfl,H3.out.1,by rw[H3.out.2.2.1];exact Below.refl _ _,World.ownsRow_nil _ _ _ _⟩
 obtain⟨j,aL,cL,rfl,hj,rfl,HJ⟩:=hrel;by_cases Vh:j<m
 ·obtain⟨gS,oS,rfl,wW,DT⟩:=H3.out.2.1 (by omega);have d0:=(HJ.out.2.1.cell (p:=⟨gS,oS+j,none⟩) wW).trans (DT j Vh);obtain⟨μ,hμ⟩:∃μ,ms.getD j 0=μ:=⟨_,rfl⟩
  have hp:gh D D.n μ:=by
   rw[<-H3.out.2.2.2.2,<-hμ,pH _ _ _ (by rw[H3.out.2.2.2.1];exact Vh)];exact List.getElem_mem _
  replace d0:wr.cell? ⟨gS,oS+j,none⟩=some (.int .i64 μ):=by rw[<-hμ];exact d0
  have qs:μ<32768:=by
   obtain⟨_,i,hi,e⟩:=hp;rw[<-e];exact (HB.out.2.2.1.q i hi).2
  obtain⟨v0,cy,JV,_⟩:=HJ.out.1.look μ hp.1 (by omega);have UU:v0=vs μ:=by
   rcases JV with ⟨_,h⟩|⟨h,_⟩
   ·exact h
   exact absurd hp h
  rw[UU,HJ.out.1.val μ hp] at cy;have hO:=HJ.out.2.2;have sX:=HJ.out.2.1.size;have i1:(j:Int)<m:=by omega
  have DE:=hp.1;have HV:Hid (vs μ=.slice (vw (vs μ)) (nW D D.n μ).length (xq (vs μ))/\ms.getD j 0=μ):=⟨HJ.out.1.val μ hp,hμ⟩
  obtain⟨i0,hi,dv,cP,cG⟩:=info_parts eI;generalize vw (vs μ)=aV at cy HV;generalize xq (vs μ)=cV at cy HV;generalize (nW D D.n μ).length=lV at cy HV;clear DT hp JV UU hμ;go_wp2_with (at_builtin;refine wpList_append_own_at _ rfl _ _ 26 rfl W3.heap.size 27 i0 (.slice none 0 0) 1 24 Tryz.underlying26 hi dv cP cG rfl (by decide) _ _ _ rfl (hO.alloc _) ⟨wr.heap.size,0,none⟩ 1 1 [.slice aV lV cV] rfl rfl (cell_one_new _ _ _) ?f2 ?f3 ?f4 ?f5 ?_)
  case f2=>first|(intro u hu;simp at hu;subst hu;rfl)|rfl
  case f3=>unfold maxLen;omega
  case f4=>omega
  case f5=>first|(simp;omega)|omega
  intro v' w5 ah ag _ bJ;obtain⟨a5,c5,rfl⟩:=bP ah;have H5:Hid (ie D w bM D.n vs w5/\Below W3.heap.size W3 w5/\w5.ownsRow W3.heap.size 27 1 (.slice a5 (j+1) c5) (j+1) ((List.range (j+1)).map fun i=>vs (ms.getD i 0))):=by
   have kk:=al wr (.cells #[.slice aV lV cV] 27);have Rg:w.heap.size<=W3.heap.size:=(by rw[H3.out.2.2.1];exact H3.out.1.below.size);refine⟨(HJ.out.1.ab kk).grown (hO.alloc _) Rg (by decide) ag,fL (HJ.out.2.1.trans (kk.mono sX)) (hO.alloc _) (by simp;omega) ag,?_⟩;rw[List.range_succ,List.map_append,List.map_singleton,HV.out.2,HV.out.1];exact ah
  clear ah ag bJ hO HJ;go_wp2;go_roundw
  ·exact⟨j+1,a5,c5,by go_num,by omega,rfl,H5.out⟩
  simp[intOf];omega
 obtain rfl:j=m:=by omega
 have HF:Hid (OV D w (.returned (.slice aL j cL)) wr):=by
  have ma:=H3.out.2.2.2.1;have PF:∀i,i<j->gh D D.n (ms.getD i 0):=fun i hi=>by
   rw[<-H3.out.2.2.2.2,pH _ _ _ (by rw[ma];exact hi)];exact List.getElem_mem _
  have Rg:w.heap.size<=W3.heap.size:=by rw[H3.out.2.2.1];exact H3.out.1.below.size
  refine⟨ms,aL,cL,fun i=>vw (vs (ms.getD i 0)),fun i=>xq (vs (ms.getD i 0)),by rw[ma],fun μ hμ=>((H3.out.2.2.2.2 μ).1 hμ).1,fun i hi h0=>(H3.out.2.2.2.2 _).2 ⟨h0,i,hi,rfl⟩,by rw[ma];exact jl,HJ.out.1.below,?_,fun i hi=>?_⟩
  ·rw[ma];have e:(List.range j).map (fun i=>Value.slice (vw (vs (ms.getD i 0))) (rj D (ms.getD i 0)).length (xq (vs (ms.getD i 0))))=(List.range j).map fun i=>vs (ms.getD i 0):=by
    refine(List.map_congr_left fun i hi=>?_);exact (HJ.out.1.val _ (PF i (List.mem_range.1 hi))).symm
   rw[e];exact gn HJ.out.2.2 Rg
  rw[ma] at hi;have h1:=HJ.out.1.row _ (PF i hi);rw[HJ.out.1.val _ (PF i hi)] at h1;exact h1
 clear HJ;go_wp2;go_ret;exact HF.out
theorem zhH(D:Dd)(C:Nat)(hR:DR D C)(w:World)(hD:DM w D):Calls Tryz.prog 80 #[.agg D.cD] w (Ti D C w):=zjX D C hR w hD (fun W hW=>zjS D C hR W hW)
