import Derived.Test.YtkkhakmdjinenaaGreatZIter
import Derived.Test.YtkkhakmdjinenaaGreatZPMn
import Derived.Lib.SlKeysI
set_option linter.all false
set_option maxHeartbeats 4000000
set_option maxRecDepth 100000
open Go.Lib (hid)
namespace Go.Proofs
open Go.RowKit Go.Maps Go.Sort Go.Shelf
theorem Ew(m:Nat):AnyZI.SortsIn Tryz.prog lT Fence.wide m:=
 ⟨fun gz off cap ss W hH s6 cZ=>callsIn_wide.2 (AnyM.slices_Sort_int BE gz off cap ss W hH s6 cZ),
  fun p cap W=>callsIn_wide.2 (AnyM.slices_Sort_int_none BE p cap W)⟩
theorem xj(mb:Option Nat)(W:World):Calls Tryz.prog 141 #[.map mb] W fun e w'=>e=.returned (.func (.func 153) #[] #[.pointer (some ⟨W.heap.size,0,none⟩)])/\w'=W.alloc (.cells #[.map mb] 191):=
 (callsIn_wide (n:=5)).1 (AnyZI.keys_in BA Fence.wide 5 trivial rfl mb W)
theorem ta{H:Type}(b nn:Nat)(D0:DataW H)(R:Value->Option (DataW H × List MemPlace))(w:World)(az:w.ownsMap Tryz.prog 3 R b nn D0)(dK:Maps.size D0<=maxLen)(kL:Maps.size D0*8<=140737488355328):
  Calls Tryz.prog 140 #[.func (.func 153) #[] #[.pointer (some ⟨w.heap.size,0,none⟩)]] (w.alloc (.cells #[.map (some b)] 191)) fun e w'=>∃(v:Value) (ss:List Int),e=.returned v/\ss.Perm (intKeys D0)/\
   w'.ownsRow (w.alloc (.cells #[.map (some b)] 191)).heap.size 3 1 v ss.length ((ss.mergeSort (fun x y=>decide (x<=y))).map encZ)/\(v=.slice none 0 0↔ss=[])/\Below (w.alloc (.cells #[.map (some b)] 191)).heap.size (w.alloc (.cells #[.map (some b)] 191)) w':=by
 refine (callsIn_wide (n:=5)).1 ?_;have gp:=az.lt;have RF:SeqGives Fence.wide 2 Tryz.prog 153 #[.pointer (some ⟨w.heap.size,0,none⟩)] encZ (fun ss=>ss.Perm (intKeys D0)) (Maps.size D0) (w.alloc (.cells #[.map (some b)] 191)):=
  AnyZI.keys_gives (ρ:=py) { BA with } Fence.wide _ trivial rfl (by omega) w.heap.size b nn D0 _ (by simp) (by simp) (by
   obtain⟨es,clock,hb,Ft,hs,hD⟩:=az
   exact⟨es,clock,(Below.heap_alloc _ _ b gp).trans hb,Ft,hs,hD⟩)
 exact AnyZI.sorted_in Ah Fence.wide 5 trivial trivial trivial trivial rfl (by omega) (Ew _) (enters_of Tryz.func152 (by kernel_rfl) rfl) 153 #[.pointer (some ⟨w.heap.size,0,none⟩)] trivial (enters_of Tryz.func153 (by kernel_rfl) rfl) _ _ dK kL _ RF
end Go.Proofs
namespace Go.Proofs.YtkkhakmdjinenaaGreat
open Go.RowKit Go.Maps Go.WideElems Go.ChangeMaps Go.MapKept
theorem aO.over{w:World}{k t e:TypeId}{b n:Nat}{Q Q':Value->Value->Prop}(h:aO w k b n Q)(K:Keyed Tryz.prog k)(ht:Tryz.prog.underlying t=some (.map k e))
  {key val:Value}{kl:Lit}(ea:keyOf Tryz.prog k key=some kl) (hex:∃y,Q key y) (hQ:∀x y,Q x y->x≠key->Q' x y) (hv:Q' key val) (nw:∀x y,Q' x y->x≠key->∃y',Q x y'):
  ∃w',(Instr.mapUpdate t (.map (some b)) key val).run Tryz.prog w=.ok () w'/\aO w' k b n Q'/\w.grownBy w' (some b):=by
 obtain⟨es,clock,hb,F,hs,hq,eu⟩:=h;have oH:WideElems.rd Tryz.prog k fE ⟨key,val,clock⟩=some (kl,.held val):=by unfold WideElems.rd fE;rw[ea];rfl
 rcases K.find w ea es.toList F.keys with ⟨h1,h2⟩|⟨j,e0,h1,h2,h3⟩
 ·obtain⟨y,hy⟩:=hex;obtain⟨e1,h4,h5⟩:=eu _ _ hy;exact absurd h5 (h2 e1 h4)
 have hj:es[j]?=some e0:=by simpa using h2
 have hjl:j<es.toList.length:=(List.getElem?_eq_some_iff.1 h2).1;have rP:∀e',es[j]?=some e'->({ e' with key:=key,val:=val }:MapEntry).key=e'.key:=fun e' jJ=>by rw[hj] at jJ;cases jJ;exact h3.symm
 have jM:(es.modify j (fun e'=>{ e' with key:=key,val:=val })).toList=es.toList.set j { e0 with key:=key,val:=val }:=by rw[Array.toList_modify,modify_eq_set _ _ _ _ h2]
 have Bt:∀x∈es.toList.set j { e0 with key:=key,val:=val },x={ e0 with key:=key,val:=val }\/(x∈es.toList/\x.key≠key):=by
  intro x hx;obtain⟨i,hi,ex⟩:=List.getElem_of_mem hx;rw[List.getElem_set] at ex;split at ex
  ·exact Or.inl ex.symm
  rename_i hne;have hi':i<es.toList.length:=by simpa using hi
  refine Or.inr ⟨ex ▸ List.getElem_mem hi',?_⟩;rw[<-h3];exact other_key F h2 (by rw[List.getElem?_eq_getElem hi',ex]) (fun e1=>hne e1.symm)
 refine⟨setBlock w b (.map (es.modify j (fun e'=>{ e' with key:=key,val:=val })) clock),?_,⟨_,clock,heap_setBlock_same hb _,⟨by simpa using F.size,stamped_modify F.stamped _ _ (fun _ _=>rfl) (fun e' _ jJ=>rP e' jJ),fun x hx=>?_⟩,by simpa using hs,fun x hx=>?_,fun x y hx=>?_⟩,⟨rfl,rfl,rfl,by simp[setBlock],fun i _ hi=>heap_setBlock_other hb _ (fun e=>hi (by rw[e]))⟩⟩
 ·simp[Instr.mapUpdate,run_underlying ht,MapKept.run_getObj_map hb,K.check w false ea,h1,hj,h3,K.stays w ea,MapKept.run_setObj_map _ hb,Result.andThen,setBlock]
 ·rw[jM] at hx;rcases Bt x hx with rfl|⟨xH,hne⟩
  ·exact⟨(kl,.held val),by unfold WideElems.rd fE;rw[ea];rfl⟩
  exact F.reads x xH
 ·rw[jM] at hx;rcases Bt x hx with rfl|⟨xH,hne⟩
  ·exact hv
  exact hQ _ _ (hq x xH) hne
 rw[jM];by_cases e1:x=key
 ·exact⟨{ e0 with key:=key,val:=val },List.mem_iff_getElem?.2 ⟨j,by rw[List.getElem?_set_self hjl]⟩,e1.symm⟩
 obtain⟨y',hy⟩:=nw x y hx e1;obtain⟨e2,h4,h5⟩:=eu x y' hy;obtain⟨i,hi,e3⟩:=List.getElem_of_mem h4;have hij:j≠i:=fun e=>by
  subst e;rw[List.getElem?_eq_getElem hi] at h2;injection h2 with h2;rw[e3] at h2;rw[h2,h3] at h5;exact e1 h5.symm
 exact⟨e2,List.mem_iff_getElem?.2 ⟨i,by rw[List.getElem?_set_ne hij,List.getElem?_eq_getElem hi,e3]⟩,h5⟩
theorem aO.IP{w:World}{k t e:TypeId}{b n:Nat}{Q:Value->Value->Prop}(h:aO w k b n Q)(K:Keyed Tryz.prog k)(ht:Tryz.prog.underlying t=some (.map k e)){z:Value}(hz:(zeroValue e).run Tryz.prog w=.ok z w)
  {key:Value}{kl:Lit}(ea:keyOf Tryz.prog k key=some kl):
  ((Instr.lookup t (.map (some b)) key false).run Tryz.prog w=.ok z w/\∀y,¬Q key y)\/∃v,Q key v/\(Instr.lookup t (.map (some b)) key false).run Tryz.prog w=.ok v w:=by
 obtain⟨es,clock,hb,F,_,hq,eu⟩:=h;rcases Maps.fit_look false K ht hz hb F ea with ⟨ct,gd,_⟩|⟨e0,y,hm,hk,ct,_⟩
 ·refine Or.inl ⟨by simpa using ct,fun y hy=>?_⟩;obtain⟨e1,h1,h2⟩:=eu _ _ hy;exact gd e1 h1 h2
 exact Or.inr ⟨e0.val,by rw[<-hk];exact hq e0 hm,by simpa using ct⟩
theorem ZF(x:Int)(h:-9223372036854775808<=x/\x<=9223372036854775807):keyOf Tryz.prog 3 (.int .i64 x)=some (.int .i64 x):=by
 have hw:=JC h;unfold keyOf;simp[Tryz.underlying3,mapKey,hw]
theorem aO.keys{w:World}{b n:Nat}{Q:Value->Value->Prop}(h:aO w 3 b n Q):∃(D0:DataW Value) (nn:Nat),w.ownsMap Tryz.prog 3 fE b nn D0/\Maps.size D0<=n/\(Go.intKeys D0).length<=n/\(∀x,x∈Go.intKeys D0->∃y,Q (.int .i64 x) y)/\∀x y,Q (.int .i64 x) y->x∈Go.intKeys D0:=by
 obtain⟨es,clock,hb,F,hs,hq,eu⟩:=h;refine⟨_,_,World.ownsMap_of_fit hb F (fun _ _ _ h=>h),?_,?_,fun x hx=>?_,fun x y hx=>?_⟩
 rotate_left
 ·show (((es.toList.map (rg Tryz.prog 3 fE)).foldr DataW.insert []).map fun p=>Go.intOf p.1).length<=n;rw[List.length_map,length_sorted];simpa using hs
 rotate_left
 rotate_left
 ·have:Maps.size (DataW.map ((es.toList.map (rg Tryz.prog 3 fE)).foldr DataW.insert []))=((es.toList.map (rg Tryz.prog 3 fE)).foldr DataW.insert []).length:=rfl;rw[this,length_sorted];simpa using hs
 ·obtain⟨p,hp,e⟩:=List.mem_map.1 hx;rw[mem_sorted] at hp;obtain⟨e0,Ky,rfl⟩:=List.mem_map.1 hp;obtain⟨kl,hkl⟩:=F.keys e0 Ky;obtain⟨x',h1,h2,_⟩:=Go.Maps.keyOf_i64 Tryz.underlying3 hkl;have hr:WideElems.rd Tryz.prog 3 fE e0=some (kl,.held e0.val):=by unfold WideElems.rd fE;rw[hkl];rfl
  rw[rg_of hr,h2] at e;have e':x'=x:=e;refine⟨e0.val,?_⟩;have:=hq e0 Ky;rw[h1,e'] at this;exact this
 obtain⟨e0,Ky,pj⟩:=eu _ _ hx;obtain⟨kl,hkl⟩:=F.keys e0 Ky;obtain⟨x',h1,h2,_⟩:=Go.Maps.keyOf_i64 Tryz.underlying3 hkl;have hr:WideElems.rd Tryz.prog 3 fE e0=some (kl,.held e0.val):=by unfold WideElems.rd fE;rw[hkl];rfl
 have Gj:x'=x:=by
  rw[pj] at h1;injection h1 with _ h1;exact h1.symm
 refine List.mem_map.2 ⟨rg Tryz.prog 3 fE e0,mem_sorted.2 (List.mem_map.2 ⟨e0,Ky,rfl⟩),?_⟩;rw[rg_of hr,h2,Gj];rfl
def fY(D:Dd)(k:Nat)(μ:Int):Prop:=0<=μ/\∃i,i<k/\D.q i=μ
def nU(D:Dd)(k:Nat)(μ:Int):List Nat:=(List.range k).filter fun i=>D.q i == μ
theorem Oj(D:Dd)(k:Nat)(μ:Int):nU D (k+1) μ=if D.q k=μ then nU D k μ++[k] else nU D k μ:=by
 unfold nU;rw[List.range_succ,List.filter_append];by_cases h:D.q k=μ <;> simp[h]
theorem Uk(D:Dd)(k:Nat)(μ:Int)(h0:0<=μ)(h:¬fY D k μ):nU D k μ=[]:=by
 unfold nU;rw[List.filter_eq_nil_iff];intro i hi e;exact h ⟨h0,i,List.mem_range.1 hi,by simpa using e⟩
theorem zpo(D:Dd)(k:Nat)(μ:Int):(nU D k μ).length<=k:=by
 have:=List.length_filter_le (fun i=>D.q i == μ) (List.range k);simpa [nU] using this
def GQ(D:Dd)(k:Nat)(vs:Int->Value)(key val:Value):Prop:=∃μ,fY D k μ/\key=.int .i64 μ/\val=vs μ
structure gV (D:Dd)(W0:World)(bM k:Nat)(vs:Int->Value)(w:World):Prop where
 below:Below W0.heap.size W0 w
 map:aO w 3 bM k (GQ D k vs)
 row:∀μ,fY D k μ->w.ownsRow W0.heap.size 3 1 (vs μ) (nU D k μ).length (cW (nU D k μ))
 sep:∀μ ν,fY D k μ->fY D k ν->μ≠ν->∀g,(vs μ).ownBlock=some g->(vs ν).ownBlock≠some g
 lo:W0.heap.size<=bM
section
variable {D : Dd}{W0 w : World}{bM k : Nat}{vs : Int → Value}
theorem gV.ab{w1:World}(h:gV D W0 bM k vs w)(kk:Below w.heap.size w w1):gV D W0 bM k vs w1:=
 ⟨h.below.trans (kk.mono h.below.size),h.map.same (kk.block _ h.map.lt),fun μ hp=>cY (h.row μ hp) kk,h.sep,h.lo⟩
theorem M0{D:Dd}{k:Nat}(hq:D.q k<0)(μ:Int):fY D (k+1) μ↔fY D k μ:=by
 constructor
 ·rintro⟨h0,i,hi,e⟩;refine⟨h0,i,?_,e⟩;by_cases e2:i=k
  ·subst e2;omega
  omega
 rintro⟨h0,i,hi,e⟩;exact⟨h0,i,by omega,e⟩
theorem gV.skip(h:gV D W0 bM k vs w)(hq:D.q k<0):gV D W0 bM (k+1) vs w:=by
 have hm:∀μ,fY D k μ->nU D (k+1) μ=nU D k μ:=fun μ hp=>by
  rw[Oj,if_neg (by have:=hp.1;omega)]
 have hQ:GQ D (k+1) vs=GQ D k vs:=by
  funext x y;unfold GQ;simp only[M0 hq]
 refine⟨h.below,?_,fun μ hp=>?_,fun μ ν h1 h2=>h.sep μ ν ((M0 hq μ).1 h1) ((M0 hq ν).1 h2),h.lo⟩
 ·rw[hQ];exact h.map.more (by omega)
 have rY:=(M0 hq μ).1 hp;rw[hm μ rY];exact h.row μ rY
theorem C7{D:Dd}{k:Nat}(hq:0<=D.q k)(μ:Int):fY D (k+1) μ↔fY D k μ\/μ=D.q k:=by
 constructor
 ·rintro⟨h0,i,hi,e⟩;by_cases e2:i=k
  ·subst e2;exact Or.inr e.symm
  exact Or.inl ⟨h0,i,by omega,e⟩
 rintro (⟨h0,i,hi,e⟩|rfl)
 ·exact⟨h0,i,by omega,e⟩
 exact⟨hq,k,by omega,rfl⟩
def oG(vs:Int->Value)(μ:Int)(v:Value):Int->Value:=fun ν=>if ν=μ then v else vs ν
theorem gV.Da{w5:World}{v0 v':Value}{μ:Int}{q:Nat}(h:gV D W0 bM k vs w)(hμ:D.q k=μ)(h0:0<=μ)(hr:μ<=9223372036854775807)(hk:k<maxLen)(hv:(fY D k μ/\v0=vs μ)\/(¬fY D k μ/\v0=.slice none 0 0))(O0:(nU D k μ).length=q)
  (ho:w5.ownsRow W0.heap.size 3 1 v' (q+1) (cW (nU D k μ)++[.int .i64 (k:Int)])) (hg:w.grownBy w5 v0.ownBlock) (fu:v'.ownBlock=v0.ownBlock\/v'.ownBlock=some w.heap.size):
  ∃w6,(Instr.mapUpdate 191 (.map (some bM)) (.int .i64 μ) v').run Tryz.prog w5=.ok () w6/\gV D W0 bM (k+1) (oG vs μ v') w6:=by
 subst hμ;have ov0:w.ownsRow W0.heap.size 3 1 v0 (nU D k (D.q k)).length (cW (nU D k (D.q k))):=by
  rcases hv with ⟨h1,rfl⟩|⟨h1,rfl⟩
  ·exact h.row _ h1
  rw[Uk D k _ h0 h1];exact World.ownsRow_nil _ _ _ _
 have Ak:aO w5 3 bM k (GQ D k vs):=h.map.ae ov0 hg;have ef:Below W0.heap.size W0 w5:=fG h.below ov0 h.below.size hg;have aq:∀ν,fY D k ν->∀g,(vs ν).ownBlock=some g->g<w.heap.size:=fun ν hp=>lE (h.row ν hp)
 have fA:∀ν,fY D k ν->ν≠D.q k->∀g,(vs ν).ownBlock=some g->v0.ownBlock≠some g:=fun ν hp hne g e=>by
  rcases hv with ⟨h1,rfl⟩|⟨h1,rfl⟩
  ·exact h.sep ν _ hp h1 hne g e
  intro e2;simp[Value.ownBlock] at e2
 have Ki:∀ν,fY D k ν->ν≠D.q k->∀g,(vs ν).ownBlock=some g->v'.ownBlock≠some g:=fun ν hp hne g e e2=>by
  rcases fu with e3|e3
  ·rw[e3] at e2;exact fA ν hp hne g e e2
  rw[e3] at e2;injection e2 with e2;have:=aq ν hp g e;omega
 have up:∀x y,GQ D k vs x y->x≠.int .i64 (D.q k)->GQ D (k+1) (oG vs (D.q k) v') x y:=by
  rintro x y ⟨ν,h1,rfl,rfl⟩ hne;refine⟨ν,(C7 h0 ν).2 (Or.inl h1),rfl,?_⟩;unfold oG;rw[if_neg (fun e=>hne (by rw[e]))]
 have back:∀x y,GQ D (k+1) (oG vs (D.q k) v') x y->x≠.int .i64 (D.q k)->∃y',GQ D k vs x y':=by
  rintro x y ⟨ν,h1,rfl,rfl⟩ hne;rcases (C7 h0 ν).1 h1 with h2|rfl
  ·exact⟨vs ν,ν,h2,rfl,rfl⟩
  exact absurd rfl hne
 have new:GQ D (k+1) (oG vs (D.q k) v') (.int .i64 (D.q k)) v':=⟨D.q k,(C7 h0 _).2 (Or.inr rfl),rfl,by unfold oG;rw[if_pos rfl]⟩
 have key:=ZF (D.q k) ⟨by omega,hr⟩;have main:∃w6,(Instr.mapUpdate 191 (.map (some bM)) (.int .i64 (D.q k)) v').run Tryz.prog w5=.ok () w6/\aO w6 3 bM (k+1) (GQ D (k+1) (oG vs (D.q k) v'))/\w5.grownBy w6 (some bM):=by
  rcases hv with ⟨h1,rfl⟩|⟨h1,rfl⟩
  ·obtain⟨w6,e1,e2,e3⟩:=Ak.over (t:=191) y9 Tryz.underlying191 key ⟨vs (D.q k),D.q k,h1,rfl,rfl⟩ up new back;exact⟨w6,e1,e2.more (by omega),e3⟩
  have gd:∀y,¬GQ D k vs (.int .i64 (D.q k)) y:=by
   rintro y ⟨ν,h2,e,_⟩;injection e with _ e;exact h1 (by rw[e];exact h2)
  exact Ak.update (t:=191) y9 Tryz.underlying191 hk key gd (fun x y hxy=>up x y hxy (by
   obtain⟨ν,h2,e,_⟩:=hxy
   intro e2
   rw[e] at e2
   injection e2 with _ e2
   exact h1 (by rw[<-e2];exact h2))) new back
 obtain⟨w6,e1,e2,e3⟩:=main;have r5:∀{v:Value}{n:Nat}{xs:List Value},w5.ownsRow W0.heap.size 3 1 v n xs->w6.ownsRow W0.heap.size 3 1 v n xs:=fun o=>yk o Ak.of e3
 refine⟨w6,e1,⟨ef.grown e3 ef.size (fun g e=>by injection e with e;rw[<-e];exact h.lo),e2,fun ν hp=>?_,fun μ ν h1 h2 hne g=>?_,h.lo⟩⟩
 ·by_cases e:ν=D.q k
  ·subst e;unfold oG;rw[if_pos rfl,Oj,if_pos rfl,xG,List.length_append];rw[<-O0] at ho;exact r5 ho
  have rY:=((C7 h0 ν).1 hp).resolve_right e;unfold oG;rw[if_neg e,Oj,if_neg (fun e2=>e e2.symm)];exact r5 (qI (h.row ν rY) hg (fun g e1 e2=>fA ν rY e g e1 e2.symm))
 unfold oG;by_cases e4:μ=D.q k
 ·have nz:ν≠D.q k:=fun e=>hne (by rw[e4,e])
  have rY:=((C7 h0 ν).1 h2).resolve_right nz;rw[if_pos e4,if_neg nz];exact fun e5 e6=>Ki ν rY nz g e6 e5
 have rY:=((C7 h0 μ).1 h1).resolve_right e4;rw[if_neg e4];by_cases e5:ν=D.q k
 ·rw[if_pos e5];exact fun e6=>Ki μ rY e4 g e6
 rw[if_neg e5];exact h.sep μ ν rY (((C7 h0 ν).1 h2).resolve_right e5) hne g
end
theorem zlc(W:World):(Instr.makeMap 191 none).run Tryz.prog W=.ok (.map (some W.heap.size)) (W.alloc (.map #[] 0)):=by
 simp[Instr.makeMap,go_sem]
theorem gV.look{D:Dd}{W0 w:World}{bM k:Nat}{vs:Int->Value}(h:gV D W0 bM k vs w)(μ:Int)(h0:0<=μ)(hr:μ<=9223372036854775807):
  ∃v0,(Instr.lookup 191 (.map (some bM)) (.int .i64 μ) false).run Tryz.prog w=.ok v0 w/\((fY D k μ/\v0=vs μ)\/(¬fY D k μ/\v0=.slice none 0 0))/\w.ownsRow W0.heap.size 3 1 v0 (nU D k μ).length (cW (nU D k μ)):=by
 rcases h.map.IP (t:=191) y9 Tryz.underlying191 (WT w) (ZF μ ⟨by omega,hr⟩) with ⟨h1,h2⟩|⟨v,⟨ν,h2,e,rfl⟩,h1⟩
 ·have hn:¬fY D k μ:=fun hp=>h2 (vs μ) ⟨μ,hp,rfl,rfl⟩
  exact⟨_,h1,Or.inr ⟨hn,rfl⟩,by rw[Uk D k μ h0 hn];exact World.ownsRow_nil _ _ _ _⟩
 injection e with _ e;subst e;exact⟨_,h1,Or.inl ⟨h2,rfl⟩,h.row _ h2⟩
theorem gV.grown{D:Dd}{W0 w w':World}{bM k t n B:Nat}{vs:Int->Value}{v:Value}{xs:List Value}(h:gV D W0 bM k vs w)(ho:w.ownsRow B t 1 v n xs)(hB:W0.heap.size<=B)(ht:t≠3)(hg:w.grownBy w' v.ownBlock):gV D W0 bM k vs w':=
 ⟨fG h.below (ga ho hB) h.below.size hg,h.map.ae ho hg,fun μ hp=>sw (h.row μ hp) ho ht hg,h.sep,h.lo⟩
theorem gV.val{D:Dd}{W0 w:World}{bM k:Nat}{vs:Int->Value}(h:gV D W0 bM k vs w)(μ:Int)(hp:fY D k μ):vs μ=.slice (va (vs μ)) (nU D k μ).length (xr (vs μ)):=by
 obtain⟨a,c,e⟩:=bP (h.row μ hp);rw[e];rfl
theorem zjF(D:Dd)(C:Nat)(hR:DR D C)(w:World)(hD:DM w D):Calls Tryz.prog 113 #[.agg D.cD] w (TI D w):=by
 have cU:=hR.n2;have HB:=hid (Zz (bz.new hD) (Zz (al w (.cells D.cD 29)) (Zz hR hR.m)));obtain⟨gM,oM,eM,pY,ly⟩:=hD.rM (by have:=hR.n1;have:=hR.m;omega);rw[hR.m] at ly;clear hD hR;have eR:=zlc;go_enter Tryz.func113,Tryz.ntmps113;go_upto_region 2 with fail;obtain⟨bM,nP⟩:∃bM,w.heap.size+1=bM:=⟨_,rfl⟩
 obtain⟨b0,ay⟩:∃b0,w.heap.size=b0:=⟨_,rfl⟩
 obtain⟨W2,ke⟩:∃W2,(w.alloc (.cells D.cD 29)).alloc (.map #[] 0)=W2:=⟨_,rfl⟩
 have cZ:(w.alloc (.cells D.cD 29)).heap.size=bM:=by rw[<-nP];simp
 have k2:=al (w.alloc (.cells D.cD 29)) (.map #[] 0);have VB:bz W2 w.heap.size D:=by rw[<-ke];exact HB.out.1.ab k2
 have Iu:gV D w bM 0 (fun _=>.slice none 0 0) W2:=by
  have gd:∀μ,¬fY D 0 μ:=fun μ hp=>by
   obtain⟨_,i,hi,_⟩:=hp;omega
  refine⟨by rw[<-ke];exact HB.out.2.1.trans (k2.mono (by simp)),?_,fun μ hp=>absurd hp (gd μ),fun μ ν hp=>absurd hp (gd μ),by omega⟩;have:=aO.made (w.alloc (.cells D.cD 29)) 3 (GQ D 0 (fun _=>.slice none 0 0)) (fun x y h=>by
   obtain⟨μ,hp,_⟩:=h
   exact gd μ hp)
  rw[ke,cZ] at this;exact this
 have sy:=hid (Zz VB Iu);rw[nP,ke,ay];have Hb:=hid (Zz nP ay);rw[ay] at sy;have c1:=sy.out.1.f2;rw[HB.out.2.2.2] at c1;rw[eM] at c1;have MM:=hid (Zz pY ly);clear nP ay ke cZ k2 VB Iu eM pY ly;go_wp2_with fail;clear c1;go_loopw [4,5,13] (fun _ _ vk wr=>∃k:Nat,vk=.int .i64 k/\k<=D.n/\Hid (∃vs,gV D w bM k vs wr)) (fun _ _ v _=>D.n-(intOf v).toNat)
 ·exact⟨0,rfl,Nat.zero_le _,_,sy.out.2⟩
 obtain⟨k,rfl,hk,HL⟩:=hrel;by_cases aq:k<D.n
 ·obtain⟨vs,hG⟩:=HL.out;have d0:=(hG.below.cell (p:=⟨gM,oM+k,none⟩) MM.out.1).trans (MM.out.2 k aq);have Pj:=HB.out.2.2.1.q k aq;have O0:D.q k<32768:=Pj.2;obtain⟨μ,hμ⟩:∃μ,D.q k=μ:=⟨_,rfl⟩
  rw[hμ] at d0 O0;have Hμ:=hid hμ;have i1:(k:Int)<(D.n:Int):=by omega
  by_cases h0:μ<0
  ·have HS:Hid (gV D w bM (k+1) vs wr):=hG.skip (by rw[hμ];exact h0);have i2:¬(0<=μ):=(by omega);clear hG Pj hμ HL;go_wp2;go_roundw
   ·exact⟨k+1,by go_num,by omega,vs,HS.out⟩
   simp[intOf];omega
  obtain⟨v0,ct,JQ,hO⟩:=hG.look μ (by omega) (by omega);obtain⟨q,hq⟩:∃q,(nU D k μ).length=q:=⟨_,rfl⟩
  have Pv:q<=k:=by rw[<-hq];exact zpo D k μ
  rw[hq] at hO;obtain⟨a0,c0,rfl⟩:=bP hO;have HG:=hid (Zz hG (Zz JQ hq));have tj:=hG.below.size;have i2:0<=μ:=by omega
  obtain⟨i0,hi,dy,cJ,cv⟩:=info_parts aG;clear hG Pj hμ HL JQ hq;go_wp2_with (at_builtin;refine wpList_append_own_at _ rfl _ _ 27 rfl w.heap.size 3 i0 (.int .i64 0) 1 8 Tryz.underlying27 hi dy cJ cv rfl (by decide) _ _ _ rfl (hO.alloc _) ⟨wr.heap.size,0,none⟩ 1 1 [.int .i64 (k:Int)] rfl rfl (cell_one_new _ _ _) ?d2 ?d3 ?d4 ?d5 ?_)
  case d2=>first|(intro u hu;simp at hu;subst hu;rfl)|rfl
  case d3=>unfold maxLen;omega
  case d4=>omega
  case d5=>first|(simp;omega)|omega
  intro v' w5 ah ag _ bJ;obtain⟨a5,c5,rfl⟩:=bP ah;obtain⟨w6,vx,Yu⟩:=(HG.out.1.ab (al wr (.cells #[.int .i64 (k:Int)] 3))).Da (v':=.slice a5 (q+1) c5) Hμ.out i2 (by omega) (by unfold maxLen;omega) HG.out.2.1 HG.out.2.2 ah ag (by
   rw[show (wr.alloc (.cells #[.int .i64 (k:Int)] 3)).heap.size=wr.heap.size+1 by simp]
   exact bJ)
  have HG6:=hid Yu;clear ah ag bJ Yu hO HG;go_wp2;go_roundw
  ·exact⟨k+1,by go_num,by omega,_,HG6.out⟩
  simp[intOf];omega
 obtain rfl:k=D.n:=by omega
 obtain⟨vs,hG⟩:=HL.out;obtain⟨D0,nn,az,Sy,hkl,j9,fm⟩:=hG.map.keys;have HK:=hid (xj (some bM) wr);have HS:=hid (ta bM nn D0 fE wr az (by unfold maxLen;omega) (by omega));have HG:=hid (Zz hG (Zz hkl (Zz j9 fm)));clear hG az Sy hkl j9 fm HL;go_wp2_with fail;refine HK.out.mono ?_;rintro e w2 ⟨rfl,rfl⟩;go_wp2_with fail;refine HS.out.mono ?_;rintro e w3 ⟨v,ss,rfl,A2,dD,RN,b3⟩;obtain⟨ms,lP⟩:∃ms,ss.mergeSort (fun x y=>decide (x<=y))=ms:=⟨_,rfl⟩
 have Om:ms.Perm (Go.intKeys D0):=by rw[<-lP];exact (List.mergeSort_perm ss _).trans A2
 obtain⟨m,hm⟩:∃m,ms.length=m:=⟨_,rfl⟩
 have Jw:ss.length=m:=by rw[<-hm,<-lP];exact (List.length_mergeSort ss).symm
 rw[lP,Jw] at dD;have iX:m<=D.n:=by rw[<-hm,Om.length_eq];exact HG.out.2.1
 have gn:∀x,x∈ms↔fY D D.n x:=fun x=>by
  rw[Om.mem_iff];constructor
  ·intro hx;obtain⟨y,μ,hp,e,_⟩:=HG.out.2.2.1 x hx;injection e with _ e;rw[e];exact hp
  intro hp;exact HG.out.2.2.2 x (vs x) ⟨x,hp,rfl,rfl⟩
 have hz:ms.map encZ=ints ms:=rfl;rw[hz] at dD;obtain⟨aS,cS,rfl⟩:=bP dD;have k2:=al wr (.cells #[.map (some bM)] 191);have Yc:=(HG.out.1.ab k2).ab b3;obtain⟨W3,uL⟩:∃W3,W3=w3:=⟨w3,rfl⟩
 have H3:Hid (gV D w bM D.n vs w3/\kW W3 aS m (fun i=>ms.getD i 0)/\W3=w3/\ms.length=m/\∀x,x∈ms↔fY D D.n x):=by
  refine⟨Yc,?_,uL,hm,gn⟩;rw[uL];exact PK dD hm
 clear A2 dD RN b3 Om lP Jw gn hz k2 Yc uL hm HK HS HG;go_wp2;go_loopw [6,8,33] (fun v6 _ vj wq=>∃(j:Nat) (aL:Option Addr) (cL:Nat),vj=.int .i64 j/\j<=m/\v6=.slice aL j cL/\Hid (gV D w bM D.n vs wq/\Below W3.heap.size W3 wq/\wq.ownsRow W3.heap.size 27 1 (.slice aL j cL) j ((List.range j).map fun i=>vs (ms.getD i 0)))) (fun _ _ v _=>m-(intOf v).toNat)
 ·exact⟨0,none,0,rfl,Nat.zero_le _,rfl,H3.out.1,by rw[H3.out.2.2.1];exact Below.refl _ _,World.ownsRow_nil _ _ _ _⟩
 obtain⟨j,aL,cL,rfl,hj,rfl,HJ⟩:=hrel;by_cases UI:j<m
 ·obtain⟨gS,oS,rfl,xq,Dh⟩:=H3.out.2.1 (by omega);have d0:=(HJ.out.2.1.cell (p:=⟨gS,oS+j,none⟩) xq).trans (Dh j UI);obtain⟨μ,hμ⟩:∃μ,ms.getD j 0=μ:=⟨_,rfl⟩
  have hp:fY D D.n μ:=by
   rw[<-H3.out.2.2.2.2,<-hμ,o0 _ _ _ (by rw[H3.out.2.2.2.1];exact UI)];exact List.getElem_mem _
  replace d0:wr.cell? ⟨gS,oS+j,none⟩=some (.int .i64 μ):=by rw[<-hμ];exact d0
  have qq:μ<32768:=by
   obtain⟨_,i,hi,e⟩:=hp;rw[<-e];exact (HB.out.2.2.1.q i hi).2
  obtain⟨v0,ct,JQ,_⟩:=HJ.out.1.look μ hp.1 (by omega);have Zo:v0=vs μ:=by
   rcases JQ with ⟨_,h⟩|⟨h,_⟩
   ·exact h
   exact absurd hp h
  rw[Zo,HJ.out.1.val μ hp] at ct;have hO:=HJ.out.2.2;have tj:=HJ.out.2.1.size;have i1:(j:Int)<m:=by omega
  have FU:=hp.1;have HV:Hid (vs μ=.slice (va (vs μ)) (nU D D.n μ).length (xr (vs μ))/\ms.getD j 0=μ):=⟨HJ.out.1.val μ hp,hμ⟩
  obtain⟨i0,hi,dy,cJ,cv⟩:=info_parts ez;generalize va (vs μ)=aV at ct HV;generalize xr (vs μ)=cV at ct HV;generalize (nU D D.n μ).length=lV at ct HV;clear Dh hp JQ Zo hμ;go_wp2_with (at_builtin;refine wpList_append_own_at _ rfl _ _ 26 rfl W3.heap.size 27 i0 (.slice none 0 0) 1 24 Tryz.underlying26 hi dy cJ cv rfl (by decide) _ _ _ rfl (hO.alloc _) ⟨wr.heap.size,0,none⟩ 1 1 [.slice aV lV cV] rfl rfl (cell_one_new _ _ _) ?f2 ?f3 ?f4 ?f5 ?_)
  case f2=>first|(intro u hu;simp at hu;subst hu;rfl)|rfl
  case f3=>unfold maxLen;omega
  case f4=>omega
  case f5=>first|(simp;omega)|omega
  intro v' w5 ah ag _ bJ;obtain⟨a5,c5,rfl⟩:=bP ah;have H5:Hid (gV D w bM D.n vs w5/\Below W3.heap.size W3 w5/\w5.ownsRow W3.heap.size 27 1 (.slice a5 (j+1) c5) (j+1) ((List.range (j+1)).map fun i=>vs (ms.getD i 0))):=by
   have kk:=al wr (.cells #[.slice aV lV cV] 27);have Sg:w.heap.size<=W3.heap.size:=(by rw[H3.out.2.2.1];exact H3.out.1.below.size);refine⟨(HJ.out.1.ab kk).grown (hO.alloc _) Sg (by decide) ag,fG (HJ.out.2.1.trans (kk.mono tj)) (hO.alloc _) (by simp;omega) ag,?_⟩;rw[List.range_succ,List.map_append,List.map_singleton,HV.out.2,HV.out.1];exact ah
  clear ah ag bJ hO HJ;go_wp2;go_roundw
  ·exact⟨j+1,a5,c5,by go_num,by omega,rfl,H5.out⟩
  simp[intOf];omega
 obtain rfl:j=m:=by omega
 have HF:Hid (TI D w (.returned (.slice aL j cL)) wr):=by
  have l5:=H3.out.2.2.2.1;have Q6:∀i,i<j->fY D D.n (ms.getD i 0):=fun i hi=>by
   rw[<-H3.out.2.2.2.2,o0 _ _ _ (by rw[l5];exact hi)];exact List.getElem_mem _
  have Sg:w.heap.size<=W3.heap.size:=by rw[H3.out.2.2.1];exact H3.out.1.below.size
  refine⟨ms,aL,cL,fun i=>va (vs (ms.getD i 0)),fun i=>xr (vs (ms.getD i 0)),by rw[l5],fun μ hμ=>((H3.out.2.2.2.2 μ).1 hμ).1,fun i hi h0=>(H3.out.2.2.2.2 _).2 ⟨h0,i,hi,rfl⟩,by rw[l5];exact iX,HJ.out.1.below,?_,fun i hi=>?_⟩
  ·rw[l5];have e:(List.range j).map (fun i=>Value.slice (va (vs (ms.getD i 0))) (qX D (ms.getD i 0)).length (xr (vs (ms.getD i 0))))=(List.range j).map fun i=>vs (ms.getD i 0):=by
    refine(List.map_congr_left fun i hi=>?_);exact (HJ.out.1.val _ (Q6 i (List.mem_range.1 hi))).symm
   rw[e];exact ga HJ.out.2.2 Sg
  rw[l5] at hi;have h1:=HJ.out.1.row _ (Q6 i hi);rw[HJ.out.1.val _ (Q6 i hi)] at h1;exact h1
 clear HJ;go_wp2;go_ret;exact HF.out
theorem zhz(D:Dd)(C:Nat)(hR:DR D C)(w:World)(hD:DM w D):Calls Tryz.prog 80 #[.agg D.cD] w (P6 D C w):=zjK D C hR w hD (fun W hW=>zjF D C hR W hW)
