import Derived.Test.YtiijebameffenaaGreatZIter
import Derived.Test.YtiijebameffenaaGreatZPMn
import Derived.Lib.SlKeysI
set_option linter.all false
set_option maxHeartbeats 4000000
set_option maxRecDepth 100000
open Go.Lib (hid)
namespace Go.Proofs
open Go.RowKit Go.Maps Go.Sort Go.Shelf
theorem CG(m:Nat):AnyZI.SortsIn Tryz.prog kZ Fence.wide m:=
 ⟨fun fU off cap ss W hH rZ dp=>callsIn_wide.2 (AnyM.slices_Sort_int AE fU off cap ss W hH rZ dp),
  fun p cap W=>callsIn_wide.2 (AnyM.slices_Sort_int_none AE p cap W)⟩
theorem wu(mb:Option Nat)(W:World):Calls Tryz.prog 178 #[.map mb] W fun e w'=>e=.returned (.func (.func 191) #[] #[.pointer (some ⟨W.heap.size,0,none⟩)])/\w'=W.alloc (.cells #[.map mb] 226):=
 (callsIn_wide (n:=5)).1 (AnyZI.keys_in Bh Fence.wide 5 trivial rfl mb W)
theorem rQ{H:Type}(b nn:Nat)(D0:DataW H)(R:Value->Option (DataW H × List MemPlace))(w:World)(aQ:w.ownsMap Tryz.prog 3 R b nn D0)(ka:Maps.size D0<=maxLen)(jO:Maps.size D0*8<=140737488355328):
  Calls Tryz.prog 177 #[.func (.func 191) #[] #[.pointer (some ⟨w.heap.size,0,none⟩)]] (w.alloc (.cells #[.map (some b)] 226)) fun e w'=>∃(v:Value) (ss:List Int),e=.returned v/\ss.Perm (intKeys D0)/\
   w'.ownsRow (w.alloc (.cells #[.map (some b)] 226)).heap.size 3 1 v ss.length ((ss.mergeSort (fun x y=>decide (x<=y))).map encZ)/\(v=.slice none 0 0↔ss=[])/\Below (w.alloc (.cells #[.map (some b)] 226)).heap.size (w.alloc (.cells #[.map (some b)] 226)) w':=by
 refine (callsIn_wide (n:=5)).1 ?_;have eB:=aQ.lt;have QC:SeqGives Fence.wide 2 Tryz.prog 191 #[.pointer (some ⟨w.heap.size,0,none⟩)] encZ (fun ss=>ss.Perm (intKeys D0)) (Maps.size D0) (w.alloc (.cells #[.map (some b)] 226)):=
  AnyZI.keys_gives (ρ:=oG) { Bh with } Fence.wide _ trivial rfl (by omega) w.heap.size b nn D0 _ (by simp) (by simp) (by
   obtain⟨es,clock,hb,Ft,hs,hD⟩:=aQ
   exact⟨es,clock,(Below.heap_alloc _ _ b eB).trans hb,Ft,hs,hD⟩)
 exact AnyZI.sorted_in ze Fence.wide 5 trivial trivial trivial trivial rfl (by omega) (CG _) (enters_of Tryz.func190 (by kernel_rfl) rfl) 191 #[.pointer (some ⟨w.heap.size,0,none⟩)] trivial (enters_of Tryz.func191 (by kernel_rfl) rfl) _ _ ka jO _ QC
end Go.Proofs
namespace Go.Proofs.YtiijebameffenaaGreat
open Go.RowKit Go.Maps Go.WideElems Go.ChangeMaps Go.MapKept
theorem aD.over{w:World}{k t e:TypeId}{b n:Nat}{Q Q':Value->Value->Prop}(h:aD w k b n Q)(K:Keyed Tryz.prog k)(ht:Tryz.prog.underlying t=some (.map k e))
  {key val:Value}{kl:Lit}(ek:keyOf Tryz.prog k key=some kl) (hex:∃y,Q key y) (hQ:∀x y,Q x y->x≠key->Q' x y) (hv:Q' key val) (mq:∀x y,Q' x y->x≠key->∃y',Q x y'):
  ∃w',(Instr.mapUpdate t (.map (some b)) key val).run Tryz.prog w=.ok () w'/\aD w' k b n Q'/\w.grownBy w' (some b):=by
 obtain⟨es,clock,hb,F,hs,hq,ea⟩:=h;have Eu:WideElems.rd Tryz.prog k fj ⟨key,val,clock⟩=some (kl,.held val):=by unfold WideElems.rd fj;rw[ek];rfl
 rcases K.find w ek es.toList F.keys with ⟨h1,h2⟩|⟨j,e0,h1,h2,h3⟩
 ·obtain⟨y,hy⟩:=hex;obtain⟨e1,h4,h5⟩:=ea _ _ hy;exact absurd h5 (h2 e1 h4)
 have hj:es[j]?=some e0:=by simpa using h2
 have hjl:j<es.toList.length:=(List.getElem?_eq_some_iff.1 h2).1;have wD:∀e',es[j]?=some e'->({ e' with key:=key,val:=val }:MapEntry).key=e'.key:=fun e' rV=>by rw[hj] at rV;cases rV;exact h3.symm
 have mK:(es.modify j (fun e'=>{ e' with key:=key,val:=val })).toList=es.toList.set j { e0 with key:=key,val:=val }:=by rw[Array.toList_modify,modify_eq_set _ _ _ _ h2]
 have G3:∀x∈es.toList.set j { e0 with key:=key,val:=val },x={ e0 with key:=key,val:=val }\/(x∈es.toList/\x.key≠key):=by
  intro x hx;obtain⟨i,hi,ex⟩:=List.getElem_of_mem hx;rw[List.getElem_set] at ex;split at ex
  ·exact Or.inl ex.symm
  rename_i hne;have hi':i<es.toList.length:=by simpa using hi
  refine Or.inr ⟨ex ▸ List.getElem_mem hi',?_⟩;rw[<-h3];exact other_key F h2 (by rw[List.getElem?_eq_getElem hi',ex]) (fun e1=>hne e1.symm)
 refine⟨setBlock w b (.map (es.modify j (fun e'=>{ e' with key:=key,val:=val })) clock),?_,⟨_,clock,heap_setBlock_same hb _,⟨by simpa using F.size,stamped_modify F.stamped _ _ (fun _ _=>rfl) (fun e' _ rV=>wD e' rV),fun x hx=>?_⟩,by simpa using hs,fun x hx=>?_,fun x y hx=>?_⟩,⟨rfl,rfl,rfl,by simp[setBlock],fun i _ hi=>heap_setBlock_other hb _ (fun e=>hi (by rw[e]))⟩⟩
 ·simp[Instr.mapUpdate,run_underlying ht,MapKept.run_getObj_map hb,K.check w false ek,h1,hj,h3,K.stays w ek,MapKept.run_setObj_map _ hb,Result.andThen,setBlock]
 ·rw[mK] at hx;rcases G3 x hx with rfl|⟨CH,hne⟩
  ·exact⟨(kl,.held val),by unfold WideElems.rd fj;rw[ek];rfl⟩
  exact F.reads x CH
 ·rw[mK] at hx;rcases G3 x hx with rfl|⟨CH,hne⟩
  ·exact hv
  exact hQ _ _ (hq x CH) hne
 rw[mK];by_cases e1:x=key
 ·exact⟨{ e0 with key:=key,val:=val },List.mem_iff_getElem?.2 ⟨j,by rw[List.getElem?_set_self hjl]⟩,e1.symm⟩
 obtain⟨y',hy⟩:=mq x y hx e1;obtain⟨e2,h4,h5⟩:=ea x y' hy;obtain⟨i,hi,e3⟩:=List.getElem_of_mem h4;have hij:j≠i:=fun e=>by
  subst e;rw[List.getElem?_eq_getElem hi] at h2;injection h2 with h2;rw[e3] at h2;rw[h2,h3] at h5;exact e1 h5.symm
 exact⟨e2,List.mem_iff_getElem?.2 ⟨i,by rw[List.getElem?_set_ne hij,List.getElem?_eq_getElem hi,e3]⟩,h5⟩
theorem aD.GS{w:World}{k t e:TypeId}{b n:Nat}{Q:Value->Value->Prop}(h:aD w k b n Q)(K:Keyed Tryz.prog k)(ht:Tryz.prog.underlying t=some (.map k e)){z:Value}(hz:(zeroValue e).run Tryz.prog w=.ok z w)
  {key:Value}{kl:Lit}(ek:keyOf Tryz.prog k key=some kl):
  ((Instr.lookup t (.map (some b)) key false).run Tryz.prog w=.ok z w/\∀y,¬Q key y)\/∃v,Q key v/\(Instr.lookup t (.map (some b)) key false).run Tryz.prog w=.ok v w:=by
 obtain⟨es,clock,hb,F,_,hq,ea⟩:=h;rcases Maps.fit_look false K ht hz hb F ek with ⟨bS,iG,_⟩|⟨e0,y,hm,hk,bS,_⟩
 ·refine Or.inl ⟨by simpa using bS,fun y hy=>?_⟩;obtain⟨e1,h1,h2⟩:=ea _ _ hy;exact iG e1 h1 h2
 exact Or.inr ⟨e0.val,by rw[<-hk];exact hq e0 hm,by simpa using bS⟩
theorem Ri(x:Int)(h:-9223372036854775808<=x/\x<=9223372036854775807):keyOf Tryz.prog 3 (.int .i64 x)=some (.int .i64 x):=by
 have hw:=IS h;unfold keyOf;simp[Tryz.underlying3,mapKey,hw]
theorem aD.keys{w:World}{b n:Nat}{Q:Value->Value->Prop}(h:aD w 3 b n Q):∃(D0:DataW Value) (nn:Nat),w.ownsMap Tryz.prog 3 fj b nn D0/\Maps.size D0<=n/\(Go.intKeys D0).length<=n/\(∀x,x∈Go.intKeys D0->∃y,Q (.int .i64 x) y)/\∀x y,Q (.int .i64 x) y->x∈Go.intKeys D0:=by
 obtain⟨es,clock,hb,F,hs,hq,ea⟩:=h;refine⟨_,_,World.ownsMap_of_fit hb F (fun _ _ _ h=>h),?_,?_,fun x hx=>?_,fun x y hx=>?_⟩
 rotate_left
 ·show (((es.toList.map (rg Tryz.prog 3 fj)).foldr DataW.insert []).map fun p=>Go.intOf p.1).length<=n;rw[List.length_map,length_sorted];simpa using hs
 rotate_left
 rotate_left
 ·have:Maps.size (DataW.map ((es.toList.map (rg Tryz.prog 3 fj)).foldr DataW.insert []))=((es.toList.map (rg Tryz.prog 3 fj)).foldr DataW.insert []).length:=rfl;rw[this,length_sorted];simpa using hs
 ·obtain⟨p,hp,e⟩:=List.mem_map.1 hx;rw[mem_sorted] at hp;obtain⟨e0,Fl,rfl⟩:=List.mem_map.1 hp;obtain⟨kl,hkl⟩:=F.keys e0 Fl;obtain⟨x',h1,h2,_⟩:=Go.Maps.keyOf_i64 Tryz.underlying3 hkl;have hr:WideElems.rd Tryz.prog 3 fj e0=some (kl,.held e0.val):=by unfold WideElems.rd fj;rw[hkl];rfl
  rw[rg_of hr,h2] at e;have e':x'=x:=e;refine⟨e0.val,?_⟩;have:=hq e0 Fl;rw[h1,e'] at this;exact this
 obtain⟨e0,Fl,pC⟩:=ea _ _ hx;obtain⟨kl,hkl⟩:=F.keys e0 Fl;obtain⟨x',h1,h2,_⟩:=Go.Maps.keyOf_i64 Tryz.underlying3 hkl;have hr:WideElems.rd Tryz.prog 3 fj e0=some (kl,.held e0.val):=by unfold WideElems.rd fj;rw[hkl];rfl
 have GW:x'=x:=by
  rw[pC] at h1;injection h1 with _ h1;exact h1.symm
 refine List.mem_map.2 ⟨rg Tryz.prog 3 fj e0,mem_sorted.2 (List.mem_map.2 ⟨e0,Fl,rfl⟩),?_⟩;rw[rg_of hr,h2,GW];rfl
def fF(D:Dd)(k:Nat)(μ:Int):Prop:=0<=μ/\∃i,i<k/\D.q i=μ
def nu(D:Dd)(k:Nat)(μ:Int):List Nat:=(List.range k).filter fun i=>D.q i == μ
theorem O0(D:Dd)(k:Nat)(μ:Int):nu D (k+1) μ=if D.q k=μ then nu D k μ++[k] else nu D k μ:=by
 unfold nu;rw[List.range_succ,List.filter_append];by_cases h:D.q k=μ <;> simp[h]
theorem Xr(D:Dd)(k:Nat)(μ:Int)(h0:0<=μ)(h:¬fF D k μ):nu D k μ=[]:=by
 unfold nu;rw[List.filter_eq_nil_iff];intro i hi e;exact h ⟨h0,i,List.mem_range.1 hi,by simpa using e⟩
theorem znK(D:Dd)(k:Nat)(μ:Int):(nu D k μ).length<=k:=by
 have:=List.length_filter_le (fun i=>D.q i == μ) (List.range k);simpa [nu] using this
def GQ(D:Dd)(k:Nat)(vs:Int->Value)(key val:Value):Prop:=∃μ,fF D k μ/\key=.int .i64 μ/\val=vs μ
structure gd (D:Dd)(W0:World)(bM k:Nat)(vs:Int->Value)(w:World):Prop where
 below:Below W0.heap.size W0 w
 map:aD w 3 bM k (GQ D k vs)
 row:∀μ,fF D k μ->w.ownsRow W0.heap.size 3 1 (vs μ) (nu D k μ).length (cy (nu D k μ))
 sep:∀μ ν,fF D k μ->fF D k ν->μ≠ν->∀g,(vs μ).ownBlock=some g->(vs ν).ownBlock≠some g
 lo:W0.heap.size<=bM
section
variable {D : Dd}{W0 w : World}{bM k : Nat}{vs : Int → Value}
theorem gd.aa{w1:World}(h:gd D W0 bM k vs w)(kk:Below w.heap.size w w1):gd D W0 bM k vs w1:=
 ⟨h.below.trans (kk.mono h.below.size),h.map.same (kk.block _ h.map.lt),fun μ hp=>dr (h.row μ hp) kk,h.sep,h.lo⟩
theorem JZ{D:Dd}{k:Nat}(hq:D.q k<0)(μ:Int):fF D (k+1) μ↔fF D k μ:=by
 constructor
 ·rintro⟨h0,i,hi,e⟩;refine⟨h0,i,?_,e⟩;by_cases e2:i=k
  ·subst e2;omega
  omega
 rintro⟨h0,i,hi,e⟩;exact⟨h0,i,by omega,e⟩
theorem gd.skip(h:gd D W0 bM k vs w)(hq:D.q k<0):gd D W0 bM (k+1) vs w:=by
 have hm:∀μ,fF D k μ->nu D (k+1) μ=nu D k μ:=fun μ hp=>by
  rw[O0,if_neg (by have:=hp.1;omega)]
 have hQ:GQ D (k+1) vs=GQ D k vs:=by
  funext x y;unfold GQ;simp only[JZ hq]
 refine⟨h.below,?_,fun μ hp=>?_,fun μ ν h1 h2=>h.sep μ ν ((JZ hq μ).1 h1) ((JZ hq ν).1 h2),h.lo⟩
 ·rw[hQ];exact h.map.more (by omega)
 have rn:=(JZ hq μ).1 hp;rw[hm μ rn];exact h.row μ rn
theorem Bz{D:Dd}{k:Nat}(hq:0<=D.q k)(μ:Int):fF D (k+1) μ↔fF D k μ\/μ=D.q k:=by
 constructor
 ·rintro⟨h0,i,hi,e⟩;by_cases e2:i=k
  ·subst e2;exact Or.inr e.symm
  exact Or.inl ⟨h0,i,by omega,e⟩
 rintro (⟨h0,i,hi,e⟩|rfl)
 ·exact⟨h0,i,by omega,e⟩
 exact⟨hq,k,by omega,rfl⟩
def nH(vs:Int->Value)(μ:Int)(v:Value):Int->Value:=fun ν=>if ν=μ then v else vs ν
theorem gd.B6{w5:World}{v0 v':Value}{μ:Int}{q:Nat}(h:gd D W0 bM k vs w)(hμ:D.q k=μ)(h0:0<=μ)(hr:μ<=9223372036854775807)(hk:k<maxLen)(hv:(fF D k μ/\v0=vs μ)\/(¬fF D k μ/\v0=.slice none 0 0))(NB:(nu D k μ).length=q)
  (ho:w5.ownsRow W0.heap.size 3 1 v' (q+1) (cy (nu D k μ)++[.int .i64 (k:Int)])) (hg:w.grownBy w5 v0.ownBlock) (eu:v'.ownBlock=v0.ownBlock\/v'.ownBlock=some w.heap.size):
  ∃w6,(Instr.mapUpdate 226 (.map (some bM)) (.int .i64 μ) v').run Tryz.prog w5=.ok () w6/\gd D W0 bM (k+1) (nH vs μ v') w6:=by
 subst hμ;have SJ:w.ownsRow W0.heap.size 3 1 v0 (nu D k (D.q k)).length (cy (nu D k (D.q k))):=by
  rcases hv with ⟨h1,rfl⟩|⟨h1,rfl⟩
  ·exact h.row _ h1
  rw[Xr D k _ h0 h1];exact World.ownsRow_nil _ _ _ _
 have zp:aD w5 3 bM k (GQ D k vs):=h.map.af SJ hg;have kA:Below W0.heap.size W0 w5:=fA h.below SJ h.below.size hg;have av:∀ν,fF D k ν->∀g,(vs ν).ownBlock=some g->g<w.heap.size:=fun ν hp=>kP (h.row ν hp)
 have fV:∀ν,fF D k ν->ν≠D.q k->∀g,(vs ν).ownBlock=some g->v0.ownBlock≠some g:=fun ν hp hne g e=>by
  rcases hv with ⟨h1,rfl⟩|⟨h1,rfl⟩
  ·exact h.sep ν _ hp h1 hne g e
  intro e2;simp[Value.ownBlock] at e2
 have FL:∀ν,fF D k ν->ν≠D.q k->∀g,(vs ν).ownBlock=some g->v'.ownBlock≠some g:=fun ν hp hne g e e2=>by
  rcases eu with e3|e3
  ·rw[e3] at e2;exact fV ν hp hne g e e2
  rw[e3] at e2;injection e2 with e2;have:=av ν hp g e;omega
 have up:∀x y,GQ D k vs x y->x≠.int .i64 (D.q k)->GQ D (k+1) (nH vs (D.q k) v') x y:=by
  rintro x y ⟨ν,h1,rfl,rfl⟩ hne;refine⟨ν,(Bz h0 ν).2 (Or.inl h1),rfl,?_⟩;unfold nH;rw[if_neg (fun e=>hne (by rw[e]))]
 have back:∀x y,GQ D (k+1) (nH vs (D.q k) v') x y->x≠.int .i64 (D.q k)->∃y',GQ D k vs x y':=by
  rintro x y ⟨ν,h1,rfl,rfl⟩ hne;rcases (Bz h0 ν).1 h1 with h2|rfl
  ·exact⟨vs ν,ν,h2,rfl,rfl⟩
  exact absurd rfl hne
 have new:GQ D (k+1) (nH vs (D.q k) v') (.int .i64 (D.q k)) v':=⟨D.q k,(Bz h0 _).2 (Or.inr rfl),rfl,by unfold nH;rw[if_pos rfl]⟩
 have key:=Ri (D.q k) ⟨by omega,hr⟩;have main:∃w6,(Instr.mapUpdate 226 (.map (some bM)) (.int .i64 (D.q k)) v').run Tryz.prog w5=.ok () w6/\aD w6 3 bM (k+1) (GQ D (k+1) (nH vs (D.q k) v'))/\w5.grownBy w6 (some bM):=by
  rcases hv with ⟨h1,rfl⟩|⟨h1,rfl⟩
  ·obtain⟨w6,e1,e2,e3⟩:=zp.over (t:=226) CC Tryz.underlying226 key ⟨vs (D.q k),D.q k,h1,rfl,rfl⟩ up new back;exact⟨w6,e1,e2.more (by omega),e3⟩
  have iG:∀y,¬GQ D k vs (.int .i64 (D.q k)) y:=by
   rintro y ⟨ν,h2,e,_⟩;injection e with _ e;exact h1 (by rw[e];exact h2)
  exact zp.update (t:=226) CC Tryz.underlying226 hk key iG (fun x y hxy=>up x y hxy (by
   obtain⟨ν,h2,e,_⟩:=hxy
   intro e2
   rw[e] at e2
   injection e2 with _ e2
   exact h1 (by rw[<-e2];exact h2))) new back
 obtain⟨w6,e1,e2,e3⟩:=main;have r5:∀{v:Value}{n:Nat}{xs:List Value},w5.ownsRow W0.heap.size 3 1 v n xs->w6.ownsRow W0.heap.size 3 1 v n xs:=fun o=>yi o zp.of e3
 refine⟨w6,e1,⟨kA.grown e3 kA.size (fun g e=>by injection e with e;rw[<-e];exact h.lo),e2,fun ν hp=>?_,fun μ ν h1 h2 hne g=>?_,h.lo⟩⟩
 ·by_cases e:ν=D.q k
  ·subst e;unfold nH;rw[if_pos rfl,O0,if_pos rfl,xw,List.length_append];rw[<-NB] at ho;exact r5 ho
  have rn:=((Bz h0 ν).1 hp).resolve_right e;unfold nH;rw[if_neg e,O0,if_neg (fun e2=>e e2.symm)];exact r5 (qc (h.row ν rn) hg (fun g e1 e2=>fV ν rn e g e1 e2.symm))
 unfold nH;by_cases e4:μ=D.q k
 ·have oZ:ν≠D.q k:=fun e=>hne (by rw[e4,e])
  have rn:=((Bz h0 ν).1 h2).resolve_right oZ;rw[if_pos e4,if_neg oZ];exact fun e5 e6=>FL ν rn oZ g e6 e5
 have rn:=((Bz h0 μ).1 h1).resolve_right e4;rw[if_neg e4];by_cases e5:ν=D.q k
 ·rw[if_pos e5];exact fun e6=>FL μ rn e4 g e6
 rw[if_neg e5];exact h.sep μ ν rn (((Bz h0 ν).1 h2).resolve_right e5) hne g
end
theorem zjN(W:World):(Instr.makeMap 226 none).run Tryz.prog W=.ok (.map (some W.heap.size)) (W.alloc (.map #[] 0)):=by
 simp[Instr.makeMap,go_sem]
theorem gd.look{D:Dd}{W0 w:World}{bM k:Nat}{vs:Int->Value}(h:gd D W0 bM k vs w)(μ:Int)(h0:0<=μ)(hr:μ<=9223372036854775807):
  ∃v0,(Instr.lookup 226 (.map (some bM)) (.int .i64 μ) false).run Tryz.prog w=.ok v0 w/\((fF D k μ/\v0=vs μ)\/(¬fF D k μ/\v0=.slice none 0 0))/\w.ownsRow W0.heap.size 3 1 v0 (nu D k μ).length (cy (nu D k μ)):=by
 rcases h.map.GS (t:=226) CC Tryz.underlying226 (XI w) (Ri μ ⟨by omega,hr⟩) with ⟨h1,h2⟩|⟨v,⟨ν,h2,e,rfl⟩,h1⟩
 ·have hn:¬fF D k μ:=fun hp=>h2 (vs μ) ⟨μ,hp,rfl,rfl⟩
  exact⟨_,h1,Or.inr ⟨hn,rfl⟩,by rw[Xr D k μ h0 hn];exact World.ownsRow_nil _ _ _ _⟩
 injection e with _ e;subst e;exact⟨_,h1,Or.inl ⟨h2,rfl⟩,h.row _ h2⟩
theorem gd.grown{D:Dd}{W0 w w':World}{bM k t n B:Nat}{vs:Int->Value}{v:Value}{xs:List Value}(h:gd D W0 bM k vs w)(ho:w.ownsRow B t 1 v n xs)(hB:W0.heap.size<=B)(ht:t≠3)(hg:w.grownBy w' v.ownBlock):gd D W0 bM k vs w':=
 ⟨fA h.below (jL ho hB) h.below.size hg,h.map.af ho hg,fun μ hp=>tw (h.row μ hp) ho ht hg,h.sep,h.lo⟩
theorem gd.val{D:Dd}{W0 w:World}{bM k:Nat}{vs:Int->Value}(h:gd D W0 bM k vs w)(μ:Int)(hp:fF D k μ):vs μ=.slice (tu (vs μ)) (nu D k μ).length (vD (vs μ)):=by
 obtain⟨a,c,e⟩:=bE (h.row μ hp);rw[e];rfl
theorem zih(D:Dd)(C:Nat)(hR:DR D C)(w:World)(hD:DM w D):Calls Tryz.prog 160 #[.agg D.cD] w (Ox D w):=by
 have dk:=hR.n2;have HB:=hid (Zz (cZ.new hD) (Zz (al w (.cells D.cD 101)) (Zz hR hR.m)));obtain⟨gM,oM,eM,rR,na⟩:=hD.rM (by have:=hR.n1;have:=hR.m;omega);rw[hR.m] at na;clear hD hR;have iP:=zjN;go_enter Tryz.func160,Tryz.ntmps160;go_upto_region 2 with fail;obtain⟨bM,qI⟩:∃bM,w.heap.size+1=bM:=⟨_,rfl⟩
 obtain⟨b0,aY⟩:∃b0,w.heap.size=b0:=⟨_,rfl⟩
 obtain⟨W2,lk⟩:∃W2,(w.alloc (.cells D.cD 101)).alloc (.map #[] 0)=W2:=⟨_,rfl⟩
 have dp:(w.alloc (.cells D.cD 101)).heap.size=bM:=by rw[<-qI];simp
 have k2:=al (w.alloc (.cells D.cD 101)) (.map #[] 0);have Xc:cZ W2 w.heap.size D:=by rw[<-lk];exact HB.out.1.aa k2
 have jU:gd D w bM 0 (fun _=>.slice none 0 0) W2:=by
  have iG:∀μ,¬fF D 0 μ:=fun μ hp=>by
   obtain⟨_,i,hi,_⟩:=hp;omega
  refine⟨by rw[<-lk];exact HB.out.2.1.trans (k2.mono (by simp)),?_,fun μ hp=>absurd hp (iG μ),fun μ ν hp=>absurd hp (iG μ),by omega⟩;have:=aD.made (w.alloc (.cells D.cD 101)) 3 (GQ D 0 (fun _=>.slice none 0 0)) (fun x y h=>by
   obtain⟨μ,hp,_⟩:=h
   exact iG μ hp)
  rw[lk,dp] at this;exact this
 have tJ:=hid (Zz Xc jU);rw[qI,lk,aY];have Hb:=hid (Zz qI aY);rw[aY] at tJ;have c1:=tJ.out.1.f2;rw[HB.out.2.2.2] at c1;rw[eM] at c1;have J2:=hid (Zz rR na);clear qI aY lk dp k2 Xc jU eM rR na;go_wp2_with fail;clear c1;go_loopw [4,5,13] (fun _ _ vk wr=>∃k:Nat,vk=.int .i64 k/\k<=D.n/\Hid (∃vs,gd D w bM k vs wr)) (fun _ _ v _=>D.n-(intOf v).toNat)
 ·exact⟨0,rfl,Nat.zero_le _,_,tJ.out.2⟩
 obtain⟨k,rfl,hk,HL⟩:=hrel;by_cases av:k<D.n
 ·obtain⟨vs,hG⟩:=HL.out;have d0:=(hG.below.cell (p:=⟨gM,oM+k,none⟩) J2.out.1).trans (J2.out.2 k av);have O2:=HB.out.2.2.1.q k av;have NB:D.q k<32768:=O2.2;obtain⟨μ,hμ⟩:∃μ,D.q k=μ:=⟨_,rfl⟩
  rw[hμ] at d0 NB;have Hμ:=hid hμ;have i1:(k:Int)<(D.n:Int):=by omega
  by_cases h0:μ<0
  ·have HS:Hid (gd D w bM (k+1) vs wr):=hG.skip (by rw[hμ];exact h0);have i2:¬(0<=μ):=(by omega);clear hG O2 hμ HL;go_wp2;go_roundw
   ·exact⟨k+1,by go_num,by omega,vs,HS.out⟩
   simp[intOf];omega
  obtain⟨v0,bS,Gw,hO⟩:=hG.look μ (by omega) (by omega);obtain⟨q,hq⟩:∃q,(nu D k μ).length=q:=⟨_,rfl⟩
  have hqk:q<=k:=by rw[<-hq];exact znK D k μ
  rw[hq] at hO;obtain⟨a0,c0,rfl⟩:=bE hO;have HG:=hid (Zz hG (Zz Gw hq));have rz:=hG.below.size;have i2:0<=μ:=by omega
  obtain⟨i0,hi,dF,cY,cO⟩:=info_parts az;clear hG O2 hμ HL Gw hq;go_wp2_with (at_builtin;refine wpList_append_own_at _ rfl _ _ 43 rfl w.heap.size 3 i0 (.int .i64 0) 1 8 Tryz.underlying43 hi dF cY cO rfl (by decide) _ _ _ rfl (hO.alloc _) ⟨wr.heap.size,0,none⟩ 1 1 [.int .i64 (k:Int)] rfl rfl (cell_one_new _ _ _) ?d2 ?d3 ?d4 ?d5 ?_)
  case d2=>first|(intro u hu;simp at hu;subst hu;rfl)|rfl
  case d3=>unfold maxLen;omega
  case d4=>omega
  case d5=>first|(simp;omega)|omega
  intro v' w5 an aj _ bw;obtain⟨a5,c5,rfl⟩:=bE an;obtain⟨w6,xx,VR⟩:=(HG.out.1.aa (al wr (.cells #[.int .i64 (k:Int)] 3))).B6 (v':=.slice a5 (q+1) c5) Hμ.out i2 (by omega) (by unfold maxLen;omega) HG.out.2.1 HG.out.2.2 an aj (by
   rw[show (wr.alloc (.cells #[.int .i64 (k:Int)] 3)).heap.size=wr.heap.size+1 by simp]
   exact bw)
  have HG6:=hid VR;clear an aj bw VR hO HG;go_wp2;go_roundw
  ·exact⟨k+1,by go_num,by omega,_,HG6.out⟩
  simp[intOf];omega
 obtain rfl:k=D.n:=by omega
 obtain⟨vs,hG⟩:=HL.out;obtain⟨D0,nn,aQ,Ot,hkl,pP,ey⟩:=hG.map.keys;have HK:=hid (wu (some bM) wr);have HS:=hid (rQ bM nn D0 fj wr aQ (by unfold maxLen;omega) (by omega));have HG:=hid (Zz hG (Zz hkl (Zz pP ey)));clear hG aQ Ot hkl pP ey HL;go_wp2_with fail;refine HK.out.mono ?_;rintro e w2 ⟨rfl,rfl⟩;go_wp2_with fail;refine HS.out.mono ?_;rintro e w3 ⟨v,ss,rfl,zY,cU,N1,b3⟩;obtain⟨ms,nL⟩:∃ms,ss.mergeSort (fun x y=>decide (x<=y))=ms:=⟨_,rfl⟩
 have OM:ms.Perm (Go.intKeys D0):=by rw[<-nL];exact (List.mergeSort_perm ss _).trans zY
 obtain⟨m,hm⟩:∃m,ms.length=m:=⟨_,rfl⟩
 have I8:ss.length=m:=by rw[<-hm,<-nL];exact (List.length_mergeSort ss).symm
 rw[nL,I8] at cU;have np:m<=D.n:=by rw[<-hm,OM.length_eq];exact HG.out.2.1
 have fS:∀x,x∈ms↔fF D D.n x:=fun x=>by
  rw[OM.mem_iff];constructor
  ·intro hx;obtain⟨y,μ,hp,e,_⟩:=HG.out.2.2.1 x hx;injection e with _ e;rw[e];exact hp
  intro hp;exact HG.out.2.2.2 x (vs x) ⟨x,hp,rfl,rfl⟩
 have hz:ms.map encZ=ints ms:=rfl;rw[hz] at cU;obtain⟨aS,cS,rfl⟩:=bE cU;have k2:=al wr (.cells #[.map (some bM)] 226);have kH:=(HG.out.1.aa k2).aa b3;obtain⟨W3,tB⟩:∃W3,W3=w3:=⟨w3,rfl⟩
 have H3:Hid (gd D w bM D.n vs w3/\kv W3 aS m (fun i=>ms.getD i 0)/\W3=w3/\ms.length=m/\∀x,x∈ms↔fF D D.n x):=by
  refine⟨kH,?_,tB,hm,fS⟩;rw[tB];exact P9 cU hm
 clear zY cU N1 b3 OM nL I8 fS hz k2 kH tB hm HK HS HG;go_wp2;go_loopw [6,8,33] (fun v6 _ vj wq=>∃(j:Nat) (aL:Option Addr) (cL:Nat),vj=.int .i64 j/\j<=m/\v6=.slice aL j cL/\Hid (gd D w bM D.n vs wq/\Below W3.heap.size W3 wq/\wq.ownsRow W3.heap.size 43 1 (.slice aL j cL) j ((List.range j).map fun i=>vs (ms.getD i 0)))) (fun _ _ v _=>m-(intOf v).toNat)
 ·exact⟨0,none,0,rfl,Nat.zero_le _,rfl,H3.out.1,by rw[H3.out.2.2.1];exact Below.refl _ _,World.ownsRow_nil _ _ _ _⟩
 obtain⟨j,aL,cL,rfl,hj,rfl,HJ⟩:=hrel;by_cases S8:j<m
 ·obtain⟨gS,oS,rfl,xn,Ct⟩:=H3.out.2.1 (by omega);have d0:=(HJ.out.2.1.cell (p:=⟨gS,oS+j,none⟩) xn).trans (Ct j S8);obtain⟨μ,hμ⟩:∃μ,ms.getD j 0=μ:=⟨_,rfl⟩
  have hp:fF D D.n μ:=by
   rw[<-H3.out.2.2.2.2,<-hμ,ov _ _ _ (by rw[H3.out.2.2.2.1];exact S8)];exact List.getElem_mem _
  replace d0:wr.cell? ⟨gS,oS+j,none⟩=some (.int .i64 μ):=by rw[<-hμ];exact d0
  have EE:μ<32768:=by
   obtain⟨_,i,hi,e⟩:=hp;rw[<-e];exact (HB.out.2.2.1.q i hi).2
  obtain⟨v0,bS,Gw,_⟩:=HJ.out.1.look μ hp.1 (by omega);have RR:v0=vs μ:=by
   rcases Gw with ⟨_,h⟩|⟨h,_⟩
   ·exact h
   exact absurd hp h
  rw[RR,HJ.out.1.val μ hp] at bS;have hO:=HJ.out.2.2;have rz:=HJ.out.2.1.size;have i1:(j:Int)<m:=by omega
  have EH:=hp.1;have HV:Hid (vs μ=.slice (tu (vs μ)) (nu D D.n μ).length (vD (vs μ))/\ms.getD j 0=μ):=⟨HJ.out.1.val μ hp,hμ⟩
  obtain⟨i0,hi,dF,cY,cO⟩:=info_parts dR;generalize tu (vs μ)=aV at bS HV;generalize vD (vs μ)=cV at bS HV;generalize (nu D D.n μ).length=lV at bS HV;clear Ct hp Gw RR hμ;go_wp2_with (at_builtin;refine wpList_append_own_at _ rfl _ _ 99 rfl W3.heap.size 43 i0 (.slice none 0 0) 1 24 Tryz.underlying99 hi dF cY cO rfl (by decide) _ _ _ rfl (hO.alloc _) ⟨wr.heap.size,0,none⟩ 1 1 [.slice aV lV cV] rfl rfl (cell_one_new _ _ _) ?f2 ?f3 ?f4 ?f5 ?_)
  case f2=>first|(intro u hu;simp at hu;subst hu;rfl)|rfl
  case f3=>unfold maxLen;omega
  case f4=>omega
  case f5=>first|(simp;omega)|omega
  intro v' w5 an aj _ bw;obtain⟨a5,c5,rfl⟩:=bE an;have H5:Hid (gd D w bM D.n vs w5/\Below W3.heap.size W3 w5/\w5.ownsRow W3.heap.size 43 1 (.slice a5 (j+1) c5) (j+1) ((List.range (j+1)).map fun i=>vs (ms.getD i 0))):=by
   have kk:=al wr (.cells #[.slice aV lV cV] 43);have B4:w.heap.size<=W3.heap.size:=(by rw[H3.out.2.2.1];exact H3.out.1.below.size);refine⟨(HJ.out.1.aa kk).grown (hO.alloc _) B4 (by decide) aj,fA (HJ.out.2.1.trans (kk.mono rz)) (hO.alloc _) (by simp;omega) aj,?_⟩;rw[List.range_succ,List.map_append,List.map_singleton,HV.out.2,HV.out.1];exact an
  clear an aj bw hO HJ;go_wp2;go_roundw
  ·exact⟨j+1,a5,c5,by go_num,by omega,rfl,H5.out⟩
  simp[intOf];omega
 obtain rfl:j=m:=by omega
 have HF:Hid (Ox D w (.returned (.slice aL j cL)) wr):=by
  have mw:=H3.out.2.2.2.1;have OF:∀i,i<j->fF D D.n (ms.getD i 0):=fun i hi=>by
   rw[<-H3.out.2.2.2.2,ov _ _ _ (by rw[mw];exact hi)];exact List.getElem_mem _
  have B4:w.heap.size<=W3.heap.size:=by rw[H3.out.2.2.1];exact H3.out.1.below.size
  refine⟨ms,aL,cL,fun i=>tu (vs (ms.getD i 0)),fun i=>vD (vs (ms.getD i 0)),by rw[mw],fun μ hμ=>((H3.out.2.2.2.2 μ).1 hμ).1,fun i hi h0=>(H3.out.2.2.2.2 _).2 ⟨h0,i,hi,rfl⟩,by rw[mw];exact np,HJ.out.1.below,?_,fun i hi=>?_⟩
  ·rw[mw];have e:(List.range j).map (fun i=>Value.slice (tu (vs (ms.getD i 0))) (qk D (ms.getD i 0)).length (vD (vs (ms.getD i 0))))=(List.range j).map fun i=>vs (ms.getD i 0):=by
    refine(List.map_congr_left fun i hi=>?_);exact (HJ.out.1.val _ (OF i (List.mem_range.1 hi))).symm
   rw[e];exact jL HJ.out.2.2 B4
  rw[mw] at hi;have h1:=HJ.out.1.row _ (OF i hi);rw[HJ.out.1.val _ (OF i hi)] at h1;exact h1
 clear HJ;go_wp2;go_ret;exact HF.out
theorem zgo(D:Dd)(C:Nat)(hR:DR D C)(w:World)(hD:DM w D):Calls Tryz.prog 132 #[.agg D.cD] w (Oq D C w):=YZ D C hR w hD (fun W hW=>zih D C hR W hW)
end Go.Proofs.YtiijebameffenaaGreat
