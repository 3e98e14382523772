import Derived.Test.YtbacgnhkapancaaGreatZIter
import Derived.Test.YtbacgnhkapancaaGreatZPMn
import Derived.Lib.SlKeysI
set_option linter.all false
set_option maxHeartbeats 4000000
set_option maxRecDepth 100000
open Go.Lib (hid)
namespace Go.Proofs
open Go.RowKit Go.Maps Go.Sort Go.Shelf
theorem Df(m:Nat):AnyZI.SortsIn Tryz.prog lL Fence.wide m:=
 ⟨fun ga off cap ss W hH sw cU=>callsIn_wide.2 (AnyM.slices_Sort_int Ax ga off cap ss W hH sw cU),
  fun p cap W=>callsIn_wide.2 (AnyM.slices_Sort_int_none Ax p cap W)⟩
theorem xW(mb:Option Nat)(W:World):Calls Tryz.prog 150 #[.map mb] W fun e w'=>e=.returned (.func (.func 161) #[] #[.pointer (some ⟨W.heap.size,0,none⟩)])/\w'=W.alloc (.cells #[.map mb] 199):=
 (callsIn_wide (n:=5)).1 (AnyZI.keys_in Bs Fence.wide 5 trivial rfl mb W)
theorem sO{H:Type}(b nn:Nat)(D0:DataW H)(R:Value->Option (DataW H × List MemPlace))(w:World)(ay:w.ownsMap Tryz.prog 3 R b nn D0)(dD:Maps.size D0<=maxLen)(ke:Maps.size D0*8<=140737488355328):
  Calls Tryz.prog 149 #[.func (.func 161) #[] #[.pointer (some ⟨w.heap.size,0,none⟩)]] (w.alloc (.cells #[.map (some b)] 199)) fun e w'=>∃(v:Value) (ss:List Int),e=.returned v/\ss.Perm (intKeys D0)/\
   w'.ownsRow (w.alloc (.cells #[.map (some b)] 199)).heap.size 3 1 v ss.length ((ss.mergeSort (fun x y=>decide (x<=y))).map encZ)/\(v=.slice none 0 0↔ss=[])/\Below (w.alloc (.cells #[.map (some b)] 199)).heap.size (w.alloc (.cells #[.map (some b)] 199)) w':=by
 refine (callsIn_wide (n:=5)).1 ?_;have gk:=ay.lt;have PE:SeqGives Fence.wide 2 Tryz.prog 161 #[.pointer (some ⟨w.heap.size,0,none⟩)] encZ (fun ss=>ss.Perm (intKeys D0)) (Maps.size D0) (w.alloc (.cells #[.map (some b)] 199)):=
  AnyZI.keys_gives (ρ:=o8) { Bs with } Fence.wide _ trivial rfl (by omega) w.heap.size b nn D0 _ (by simp) (by simp) (by
   obtain⟨es,clock,hb,Ft,hs,hD⟩:=ay
   exact⟨es,clock,(Below.heap_alloc _ _ b gk).trans hb,Ft,hs,hD⟩)
 exact AnyZI.sorted_in zS Fence.wide 5 trivial trivial trivial trivial rfl (by omega) (Df _) (enters_of Tryz.func160 (by kernel_rfl) rfl) 161 #[.pointer (some ⟨w.heap.size,0,none⟩)] trivial (enters_of Tryz.func161 (by kernel_rfl) rfl) _ _ dD ke _ PE
end Go.Proofs
namespace Go.Proofs.YtbacgnhkapancaaGreat
open Go.RowKit Go.Maps Go.WideElems Go.ChangeMaps Go.MapKept
theorem aO.over{w:World}{k t e:TypeId}{b n:Nat}{Q Q':Value->Value->Prop}(h:aO w k b n Q)(K:Keyed Tryz.prog k)(ht:Tryz.prog.underlying t=some (.map k e))
  {key val:Value}{kl:Lit}(dX:keyOf Tryz.prog k key=some kl) (hex:∃y,Q key y) (hQ:∀x y,Q x y->x≠key->Q' x y) (hv:Q' key val) (nj:∀x y,Q' x y->x≠key->∃y',Q x y'):
  ∃w',(Instr.mapUpdate t (.map (some b)) key val).run Tryz.prog w=.ok () w'/\aO w' k b n Q'/\w.grownBy w' (some b):=by
 obtain⟨es,clock,hb,F,hs,hq,eb⟩:=h;have oC:WideElems.rd Tryz.prog k fy ⟨key,val,clock⟩=some (kl,.held val):=by unfold WideElems.rd fy;rw[dX];rfl
 rcases K.find w dX es.toList F.keys with ⟨h1,h2⟩|⟨j,e0,h1,h2,h3⟩
 ·obtain⟨y,hy⟩:=hex;obtain⟨e1,h4,h5⟩:=eb _ _ hy;exact absurd h5 (h2 e1 h4)
 have hj:es[j]?=some e0:=by simpa using h2
 have hjl:j<es.toList.length:=(List.getElem?_eq_some_iff.1 h2).1;have qz:∀e',es[j]?=some e'->({ e' with key:=key,val:=val }:MapEntry).key=e'.key:=fun e' jw=>by rw[hj] at jw;cases jw;exact h3.symm
 have jE:(es.modify j (fun e'=>{ e' with key:=key,val:=val })).toList=es.toList.set j { e0 with key:=key,val:=val }:=by rw[Array.toList_modify,modify_eq_set _ _ _ _ h2]
 have AN:∀x∈es.toList.set j { e0 with key:=key,val:=val },x={ e0 with key:=key,val:=val }\/(x∈es.toList/\x.key≠key):=by
  intro x hx;obtain⟨i,hi,ex⟩:=List.getElem_of_mem hx;rw[List.getElem_set] at ex;split at ex
  ·exact Or.inl ex.symm
  rename_i hne;have hi':i<es.toList.length:=by simpa using hi
  refine Or.inr ⟨ex ▸ List.getElem_mem hi',?_⟩;rw[<-h3];exact other_key F h2 (by rw[List.getElem?_eq_getElem hi',ex]) (fun e1=>hne e1.symm)
 refine⟨setBlock w b (.map (es.modify j (fun e'=>{ e' with key:=key,val:=val })) clock),?_,⟨_,clock,heap_setBlock_same hb _,⟨by simpa using F.size,stamped_modify F.stamped _ _ (fun _ _=>rfl) (fun e' _ jw=>qz e' jw),fun x hx=>?_⟩,by simpa using hs,fun x hx=>?_,fun x y hx=>?_⟩,⟨rfl,rfl,rfl,by simp[setBlock],fun i _ hi=>heap_setBlock_other hb _ (fun e=>hi (by rw[e]))⟩⟩
 ·simp[Instr.mapUpdate,run_underlying ht,MapKept.run_getObj_map hb,K.check w false dX,h1,hj,h3,K.stays w dX,MapKept.run_setObj_map _ hb,Result.andThen,setBlock]
 ·rw[jE] at hx;rcases AN x hx with rfl|⟨wB,hne⟩
  ·exact⟨(kl,.held val),by unfold WideElems.rd fy;rw[dX];rfl⟩
  exact F.reads x wB
 ·rw[jE] at hx;rcases AN x hx with rfl|⟨wB,hne⟩
  ·exact hv
  exact hQ _ _ (hq x wB) hne
 rw[jE];by_cases e1:x=key
 ·exact⟨{ e0 with key:=key,val:=val },List.mem_iff_getElem?.2 ⟨j,by rw[List.getElem?_set_self hjl]⟩,e1.symm⟩
 obtain⟨y',hy⟩:=nj x y hx e1;obtain⟨e2,h4,h5⟩:=eb x y' hy;obtain⟨i,hi,e3⟩:=List.getElem_of_mem h4;have hij:j≠i:=fun e=>by
  subst e;rw[List.getElem?_eq_getElem hi] at h2;injection h2 with h2;rw[e3] at h2;rw[h2,h3] at h5;exact e1 h5.symm
 exact⟨e2,List.mem_iff_getElem?.2 ⟨i,by rw[List.getElem?_set_ne hij,List.getElem?_eq_getElem hi,e3]⟩,h5⟩
theorem aO.JN{w:World}{k t e:TypeId}{b n:Nat}{Q:Value->Value->Prop}(h:aO w k b n Q)(K:Keyed Tryz.prog k)(ht:Tryz.prog.underlying t=some (.map k e)){z:Value}(hz:(zeroValue e).run Tryz.prog w=.ok z w)
  {key:Value}{kl:Lit}(dX:keyOf Tryz.prog k key=some kl):
  ((Instr.lookup t (.map (some b)) key false).run Tryz.prog w=.ok z w/\∀y,¬Q key y)\/∃v,Q key v/\(Instr.lookup t (.map (some b)) key false).run Tryz.prog w=.ok v w:=by
 obtain⟨es,clock,hb,F,_,hq,eb⟩:=h;rcases Maps.fit_look false K ht hz hb F dX with ⟨cj,gW,_⟩|⟨e0,y,hm,hk,cj,_⟩
 ·refine Or.inl ⟨by simpa using cj,fun y hy=>?_⟩;obtain⟨e1,h1,h2⟩:=eb _ _ hy;exact gW e1 h1 h2
 exact Or.inr ⟨e0.val,by rw[<-hk];exact hq e0 hm,by simpa using cj⟩
theorem Yo(x:Int)(h:-9223372036854775808<=x/\x<=9223372036854775807):keyOf Tryz.prog 3 (.int .i64 x)=some (.int .i64 x):=by
 have hw:=Ha h;unfold keyOf;simp[Tryz.underlying3,mapKey,hw]
theorem aO.keys{w:World}{b n:Nat}{Q:Value->Value->Prop}(h:aO w 3 b n Q):∃(D0:DataW Value) (nn:Nat),w.ownsMap Tryz.prog 3 fy b nn D0/\Maps.size D0<=n/\(Go.intKeys D0).length<=n/\(∀x,x∈Go.intKeys D0->∃y,Q (.int .i64 x) y)/\∀x y,Q (.int .i64 x) y->x∈Go.intKeys D0:=by
 obtain⟨es,clock,hb,F,hs,hq,eb⟩:=h;refine⟨_,_,World.ownsMap_of_fit hb F (fun _ _ _ h=>h),?_,?_,fun x hx=>?_,fun x y hx=>?_⟩
 rotate_left
 ·show (((es.toList.map (rg Tryz.prog 3 fy)).foldr DataW.insert []).map fun p=>Go.intOf p.1).length<=n;rw[List.length_map,length_sorted];simpa using hs
 rotate_left
 rotate_left
 ·have:Maps.size (DataW.map ((es.toList.map (rg Tryz.prog 3 fy)).foldr DataW.insert []))=((es.toList.map (rg Tryz.prog 3 fy)).foldr DataW.insert []).length:=rfl;rw[this,length_sorted];simpa using hs
 ·obtain⟨p,hp,e⟩:=List.mem_map.1 hx;rw[mem_sorted] at hp;obtain⟨e0,JU,rfl⟩:=List.mem_map.1 hp;obtain⟨kl,hkl⟩:=F.keys e0 JU;obtain⟨x',h1,h2,_⟩:=Go.Maps.keyOf_i64 Tryz.underlying3 hkl;have hr:WideElems.rd Tryz.prog 3 fy e0=some (kl,.held e0.val):=by unfold WideElems.rd fy;rw[hkl];rfl
  rw[rg_of hr,h2] at e;have e':x'=x:=e;refine⟨e0.val,?_⟩;have:=hq e0 JU;rw[h1,e'] at this;exact this
 obtain⟨e0,JU,oU⟩:=eb _ _ hx;obtain⟨kl,hkl⟩:=F.keys e0 JU;obtain⟨x',h1,h2,_⟩:=Go.Maps.keyOf_i64 Tryz.underlying3 hkl;have hr:WideElems.rd Tryz.prog 3 fy e0=some (kl,.held e0.val):=by unfold WideElems.rd fy;rw[hkl];rfl
 have FY:x'=x:=by
  rw[oU] at h1;injection h1 with _ h1;exact h1.symm
 refine List.mem_map.2 ⟨rg Tryz.prog 3 fy e0,mem_sorted.2 (List.mem_map.2 ⟨e0,JU,rfl⟩),?_⟩;rw[rg_of hr,h2,FY];rfl
def fO(D:Dd)(k:Nat)(μ:Int):Prop:=0<=μ/\∃i,i<k/\D.q i=μ
def nA(D:Dd)(k:Nat)(μ:Int):List Nat:=(List.range k).filter fun i=>D.q i == μ
theorem PC(D:Dd)(k:Nat)(μ:Int):nA D (k+1) μ=if D.q k=μ then nA D k μ++[k] else nA D k μ:=by
 unfold nA;rw[List.range_succ,List.filter_append];by_cases h:D.q k=μ <;> simp[h]
theorem Xt(D:Dd)(k:Nat)(μ:Int)(h0:0<=μ)(h:¬fO D k μ):nA D k μ=[]:=by
 unfold nA;rw[List.filter_eq_nil_iff];intro i hi e;exact h ⟨h0,i,List.mem_range.1 hi,by simpa using e⟩
theorem zpn(D:Dd)(k:Nat)(μ:Int):(nA D k μ).length<=k:=by
 have:=List.length_filter_le (fun i=>D.q i == μ) (List.range k);simpa [nA] using this
def GQ(D:Dd)(k:Nat)(vs:Int->Value)(key val:Value):Prop:=∃μ,fO D k μ/\key=.int .i64 μ/\val=vs μ
structure gJ (D:Dd)(W0:World)(bM k:Nat)(vs:Int->Value)(w:World):Prop where
 below:Below W0.heap.size W0 w
 map:aO w 3 bM k (GQ D k vs)
 row:∀μ,fO D k μ->w.ownsRow W0.heap.size 3 1 (vs μ) (nA D k μ).length (cO (nA D k μ))
 sep:∀μ ν,fO D k μ->fO D k ν->μ≠ν->∀g,(vs μ).ownBlock=some g->(vs ν).ownBlock≠some g
 lo:W0.heap.size<=bM
section
variable {D : Dd}{W0 w : World}{bM k : Nat}{vs : Int → Value}
theorem gJ.ab{w1:World}(h:gJ D W0 bM k vs w)(kk:Below w.heap.size w w1):gJ D W0 bM k vs w1:=
 ⟨h.below.trans (kk.mono h.below.size),h.map.same (kk.block _ h.map.lt),fun μ hp=>cW (h.row μ hp) kk,h.sep,h.lo⟩
theorem KA{D:Dd}{k:Nat}(hq:D.q k<0)(μ:Int):fO D (k+1) μ↔fO D k μ:=by
 constructor
 ·rintro⟨h0,i,hi,e⟩;refine⟨h0,i,?_,e⟩;by_cases e2:i=k
  ·subst e2;omega
  omega
 rintro⟨h0,i,hi,e⟩;exact⟨h0,i,by omega,e⟩
theorem gJ.skip(h:gJ D W0 bM k vs w)(hq:D.q k<0):gJ D W0 bM (k+1) vs w:=by
 have hm:∀μ,fO D k μ->nA D (k+1) μ=nA D k μ:=fun μ hp=>by
  rw[PC,if_neg (by have:=hp.1;omega)]
 have hQ:GQ D (k+1) vs=GQ D k vs:=by
  funext x y;unfold GQ;simp only[KA hq]
 refine⟨h.below,?_,fun μ hp=>?_,fun μ ν h1 h2=>h.sep μ ν ((KA hq μ).1 h1) ((KA hq ν).1 h2),h.lo⟩
 ·rw[hQ];exact h.map.more (by omega)
 have rQ:=(KA hq μ).1 hp;rw[hm μ rQ];exact h.row μ rQ
theorem B6{D:Dd}{k:Nat}(hq:0<=D.q k)(μ:Int):fO D (k+1) μ↔fO D k μ\/μ=D.q k:=by
 constructor
 ·rintro⟨h0,i,hi,e⟩;by_cases e2:i=k
  ·subst e2;exact Or.inr e.symm
  exact Or.inl ⟨h0,i,by omega,e⟩
 rintro (⟨h0,i,hi,e⟩|rfl)
 ·exact⟨h0,i,by omega,e⟩
 exact⟨hq,k,by omega,rfl⟩
def ob(vs:Int->Value)(μ:Int)(v:Value):Int->Value:=fun ν=>if ν=μ then v else vs ν
theorem gJ.Co{w5:World}{v0 v':Value}{μ:Int}{q:Nat}(h:gJ D W0 bM k vs w)(hμ:D.q k=μ)(h0:0<=μ)(hr:μ<=9223372036854775807)(hk:k<maxLen)(hv:(fO D k μ/\v0=vs μ)\/(¬fO D k μ/\v0=.slice none 0 0))(RO:(nA D k μ).length=q)
  (ho:w5.ownsRow W0.heap.size 3 1 v' (q+1) (cO (nA D k μ)++[.int .i64 (k:Int)])) (hg:w.grownBy w5 v0.ownBlock) (eZ:v'.ownBlock=v0.ownBlock\/v'.ownBlock=some w.heap.size):
  ∃w6,(Instr.mapUpdate 199 (.map (some bM)) (.int .i64 μ) v').run Tryz.prog w5=.ok () w6/\gJ D W0 bM (k+1) (ob vs μ v') w6:=by
 subst hμ;have Yr:w.ownsRow W0.heap.size 3 1 v0 (nA D k (D.q k)).length (cO (nA D k (D.q k))):=by
  rcases hv with ⟨h1,rfl⟩|⟨h1,rfl⟩
  ·exact h.row _ h1
  rw[Xt D k _ h0 h1];exact World.ownsRow_nil _ _ _ _
 have Al:aO w5 3 bM k (GQ D k vs):=h.map.ae Yr hg;have ec:Below W0.heap.size W0 w5:=fC h.below Yr h.below.size hg;have an:∀ν,fO D k ν->∀g,(vs ν).ownBlock=some g->g<w.heap.size:=fun ν hp=>lB (h.row ν hp)
 have fq:∀ν,fO D k ν->ν≠D.q k->∀g,(vs ν).ownBlock=some g->v0.ownBlock≠some g:=fun ν hp hne g e=>by
  rcases hv with ⟨h1,rfl⟩|⟨h1,rfl⟩
  ·exact h.sep ν _ hp h1 hne g e
  intro e2;simp[Value.ownBlock] at e2
 have Ij:∀ν,fO D k ν->ν≠D.q k->∀g,(vs ν).ownBlock=some g->v'.ownBlock≠some g:=fun ν hp hne g e e2=>by
  rcases eZ with e3|e3
  ·rw[e3] at e2;exact fq ν hp hne g e e2
  rw[e3] at e2;injection e2 with e2;have:=an ν hp g e;omega
 have up:∀x y,GQ D k vs x y->x≠.int .i64 (D.q k)->GQ D (k+1) (ob vs (D.q k) v') x y:=by
  rintro x y ⟨ν,h1,rfl,rfl⟩ hne;refine⟨ν,(B6 h0 ν).2 (Or.inl h1),rfl,?_⟩;unfold ob;rw[if_neg (fun e=>hne (by rw[e]))]
 have back:∀x y,GQ D (k+1) (ob vs (D.q k) v') x y->x≠.int .i64 (D.q k)->∃y',GQ D k vs x y':=by
  rintro x y ⟨ν,h1,rfl,rfl⟩ hne;rcases (B6 h0 ν).1 h1 with h2|rfl
  ·exact⟨vs ν,ν,h2,rfl,rfl⟩
  exact absurd rfl hne
 have new:GQ D (k+1) (ob vs (D.q k) v') (.int .i64 (D.q k)) v':=⟨D.q k,(B6 h0 _).2 (Or.inr rfl),rfl,by unfold ob;rw[if_pos rfl]⟩
 have key:=Yo (D.q k) ⟨by omega,hr⟩;have main:∃w6,(Instr.mapUpdate 199 (.map (some bM)) (.int .i64 (D.q k)) v').run Tryz.prog w5=.ok () w6/\aO w6 3 bM (k+1) (GQ D (k+1) (ob vs (D.q k) v'))/\w5.grownBy w6 (some bM):=by
  rcases hv with ⟨h1,rfl⟩|⟨h1,rfl⟩
  ·obtain⟨w6,e1,e2,e3⟩:=Al.over (t:=199) yK Tryz.underlying199 key ⟨vs (D.q k),D.q k,h1,rfl,rfl⟩ up new back;exact⟨w6,e1,e2.more (by omega),e3⟩
  have gW:∀y,¬GQ D k vs (.int .i64 (D.q k)) y:=by
   rintro y ⟨ν,h2,e,_⟩;injection e with _ e;exact h1 (by rw[e];exact h2)
  exact Al.update (t:=199) yK Tryz.underlying199 hk key gW (fun x y hxy=>up x y hxy (by
   obtain⟨ν,h2,e,_⟩:=hxy
   intro e2
   rw[e] at e2
   injection e2 with _ e2
   exact h1 (by rw[<-e2];exact h2))) new back
 obtain⟨w6,e1,e2,e3⟩:=main;have r5:∀{v:Value}{n:Nat}{xs:List Value},w5.ownsRow W0.heap.size 3 1 v n xs->w6.ownsRow W0.heap.size 3 1 v n xs:=fun o=>wI o Al.of e3
 refine⟨w6,e1,⟨ec.grown e3 ec.size (fun g e=>by injection e with e;rw[<-e];exact h.lo),e2,fun ν hp=>?_,fun μ ν h1 h2 hne g=>?_,h.lo⟩⟩
 ·by_cases e:ν=D.q k
  ·subst e;unfold ob;rw[if_pos rfl,PC,if_pos rfl,wC,List.length_append];rw[<-RO] at ho;exact r5 ho
  have rQ:=((B6 h0 ν).1 hp).resolve_right e;unfold ob;rw[if_neg e,PC,if_neg (fun e2=>e e2.symm)];exact r5 (qM (h.row ν rQ) hg (fun g e1 e2=>fq ν rQ e g e1 e2.symm))
 unfold ob;by_cases e4:μ=D.q k
 ·have km:ν≠D.q k:=fun e=>hne (by rw[e4,e])
  have rQ:=((B6 h0 ν).1 h2).resolve_right km;rw[if_pos e4,if_neg km];exact fun e5 e6=>Ij ν rQ km g e6 e5
 have rQ:=((B6 h0 μ).1 h1).resolve_right e4;rw[if_neg e4];by_cases e5:ν=D.q k
 ·rw[if_pos e5];exact fun e6=>Ij μ rQ e4 g e6
 rw[if_neg e5];exact h.sep μ ν rQ (((B6 h0 ν).1 h2).resolve_right e5) hne g
end
theorem zlb(W:World):(Instr.makeMap 199 none).run Tryz.prog W=.ok (.map (some W.heap.size)) (W.alloc (.map #[] 0)):=by
 simp[Instr.makeMap,go_sem]
theorem gJ.look{D:Dd}{W0 w:World}{bM k:Nat}{vs:Int->Value}(h:gJ D W0 bM k vs w)(μ:Int)(h0:0<=μ)(hr:μ<=9223372036854775807):
  ∃v0,(Instr.lookup 199 (.map (some bM)) (.int .i64 μ) false).run Tryz.prog w=.ok v0 w/\((fO D k μ/\v0=vs μ)\/(¬fO D k μ/\v0=.slice none 0 0))/\w.ownsRow W0.heap.size 3 1 v0 (nA D k μ).length (cO (nA D k μ)):=by
 rcases h.map.JN (t:=199) yK Tryz.underlying199 (VM w) (Yo μ ⟨by omega,hr⟩) with ⟨h1,h2⟩|⟨v,⟨ν,h2,e,rfl⟩,h1⟩
 ·have hn:¬fO D k μ:=fun hp=>h2 (vs μ) ⟨μ,hp,rfl,rfl⟩
  exact⟨_,h1,Or.inr ⟨hn,rfl⟩,by rw[Xt D k μ h0 hn];exact World.ownsRow_nil _ _ _ _⟩
 injection e with _ e;subst e;exact⟨_,h1,Or.inl ⟨h2,rfl⟩,h.row _ h2⟩
theorem gJ.grown{D:Dd}{W0 w w':World}{bM k t n B:Nat}{vs:Int->Value}{v:Value}{xs:List Value}(h:gJ D W0 bM k vs w)(ho:w.ownsRow B t 1 v n xs)(hB:W0.heap.size<=B)(ht:t≠3)(hg:w.grownBy w' v.ownBlock):gJ D W0 bM k vs w':=
 ⟨fC h.below (gE ho hB) h.below.size hg,h.map.ae ho hg,fun μ hp=>sh (h.row μ hp) ho ht hg,h.sep,h.lo⟩
theorem gJ.val{D:Dd}{W0 w:World}{bM k:Nat}{vs:Int->Value}(h:gJ D W0 bM k vs w)(μ:Int)(hp:fO D k μ):vs μ=.slice (uf (vs μ)) (nA D k μ).length (ye (vs μ)):=by
 obtain⟨a,c,e⟩:=bJ (h.row μ hp);rw[e];rfl
theorem zjC(D:Dd)(C:Nat)(hR:DR D C)(w:World)(hD:DM w D):Calls Tryz.prog 125 #[.agg D.cD] w (Sr D w):=by
 have cQ:=hR.n2;have HB:=hid (Zz (cm.new hD) (Zz (al w (.cells D.cD 39)) (Zz hR hR.m)));obtain⟨gM,oM,eM,rF,mo⟩:=hD.rM (by have:=hR.n1;have:=hR.m;omega);rw[hR.m] at mo;clear hD hR;have fu:=zlb;go_enter Tryz.func125,Tryz.ntmps125;go_upto_region 2 with fail;obtain⟨bM,nD⟩:∃bM,w.heap.size+1=bM:=⟨_,rfl⟩
 obtain⟨b0,aD⟩:∃b0,w.heap.size=b0:=⟨_,rfl⟩
 obtain⟨W2,jY⟩:∃W2,(w.alloc (.cells D.cD 39)).alloc (.map #[] 0)=W2:=⟨_,rfl⟩
 have cU:(w.alloc (.cells D.cD 39)).heap.size=bM:=by rw[<-nD];simp
 have k2:=al (w.alloc (.cells D.cD 39)) (.map #[] 0);have VG:cm W2 w.heap.size D:=by rw[<-jY];exact HB.out.1.ab k2
 have GG:gJ D w bM 0 (fun _=>.slice none 0 0) W2:=by
  have gW:∀μ,¬fO D 0 μ:=fun μ hp=>by
   obtain⟨_,i,hi,_⟩:=hp;omega
  refine⟨by rw[<-jY];exact HB.out.2.1.trans (k2.mono (by simp)),?_,fun μ hp=>absurd hp (gW μ),fun μ ν hp=>absurd hp (gW μ),by omega⟩;have:=aO.made (w.alloc (.cells D.cD 39)) 3 (GQ D 0 (fun _=>.slice none 0 0)) (fun x y h=>by
   obtain⟨μ,hp,_⟩:=h
   exact gW μ hp)
  rw[jY,cU] at this;exact this
 have r8:=hid (Zz VG GG);rw[nD,jY,aD];have Hb:=hid (Zz nD aD);rw[aD] at r8;have c1:=r8.out.1.f2;rw[HB.out.2.2.2] at c1;rw[eM] at c1;have M4:=hid (Zz rF mo);clear nD aD jY cU k2 VG GG eM rF mo;go_wp2_with fail;clear c1;go_loopw [4,5,13] (fun _ _ vk wr=>∃k:Nat,vk=.int .i64 k/\k<=D.n/\Hid (∃vs,gJ D w bM k vs wr)) (fun _ _ v _=>D.n-(intOf v).toNat)
 ·exact⟨0,rfl,Nat.zero_le _,_,r8.out.2⟩
 obtain⟨k,rfl,hk,HL⟩:=hrel;by_cases an:k<D.n
 ·obtain⟨vs,hG⟩:=HL.out;have d0:=(hG.below.cell (p:=⟨gM,oM+k,none⟩) M4.out.1).trans (M4.out.2 k an);have SB:=HB.out.2.2.1.q k an;have RO:D.q k<32768:=SB.2;obtain⟨μ,hμ⟩:∃μ,D.q k=μ:=⟨_,rfl⟩
  rw[hμ] at d0 RO;have Hμ:=hid hμ;have i1:(k:Int)<(D.n:Int):=by omega
  by_cases h0:μ<0
  ·have HS:Hid (gJ D w bM (k+1) vs wr):=hG.skip (by rw[hμ];exact h0);have i2:¬(0<=μ):=(by omega);clear hG SB hμ HL;go_wp2;go_roundw
   ·exact⟨k+1,by go_num,by omega,vs,HS.out⟩
   simp[intOf];omega
  obtain⟨v0,cj,IP,hO⟩:=hG.look μ (by omega) (by omega);obtain⟨q,hq⟩:∃q,(nA D k μ).length=q:=⟨_,rfl⟩
  have J2:q<=k:=by rw[<-hq];exact zpn D k μ
  rw[hq] at hO;obtain⟨a0,c0,rfl⟩:=bJ hO;have HG:=hid (Zz hG (Zz IP hq));have sP:=hG.below.size;have i2:0<=μ:=by omega
  obtain⟨i0,hi,du,cH,ct⟩:=info_parts az;clear hG SB hμ HL IP hq;go_wp2_with (at_builtin;refine wpList_append_own_at _ rfl _ _ 30 rfl w.heap.size 3 i0 (.int .i64 0) 1 8 Tryz.underlying30 hi du cH ct rfl (by decide) _ _ _ rfl (hO.alloc _) ⟨wr.heap.size,0,none⟩ 1 1 [.int .i64 (k:Int)] rfl rfl (cell_one_new _ _ _) ?d2 ?d3 ?d4 ?d5 ?_)
  case d2=>first|(intro u hu;simp at hu;subst hu;rfl)|rfl
  case d3=>unfold maxLen;omega
  case d4=>omega
  case d5=>first|(simp;omega)|omega
  intro v' w5 ah ag _ bG;obtain⟨a5,c5,rfl⟩:=bJ ah;obtain⟨w6,vJ,Wk⟩:=(HG.out.1.ab (al wr (.cells #[.int .i64 (k:Int)] 3))).Co (v':=.slice a5 (q+1) c5) Hμ.out i2 (by omega) (by unfold maxLen;omega) HG.out.2.1 HG.out.2.2 ah ag (by
   rw[show (wr.alloc (.cells #[.int .i64 (k:Int)] 3)).heap.size=wr.heap.size+1 by simp]
   exact bG)
  have HG6:=hid Wk;clear ah ag bG Wk hO HG;go_wp2;go_roundw
  ·exact⟨k+1,by go_num,by omega,_,HG6.out⟩
  simp[intOf];omega
 obtain rfl:k=D.n:=by omega
 obtain⟨vs,hG⟩:=HL.out;obtain⟨D0,nn,ay,PQ,hkl,jU,eQ⟩:=hG.map.keys;have HK:=hid (xW (some bM) wr);have HS:=hid (sO bM nn D0 fy wr ay (by unfold maxLen;omega) (by omega));have HG:=hid (Zz hG (Zz hkl (Zz jU eQ)));clear hG ay PQ hkl jU eQ HL;go_wp2_with fail;refine HK.out.mono ?_;rintro e w2 ⟨rfl,rfl⟩;go_wp2_with fail;refine HS.out.mono ?_;rintro e w3 ⟨v,ss,rfl,AH,dA,Qb,b3⟩;obtain⟨ms,lx⟩:∃ms,ss.mergeSort (fun x y=>decide (x<=y))=ms:=⟨_,rfl⟩
 have Q9:ms.Perm (Go.intKeys D0):=by rw[<-lx];exact (List.mergeSort_perm ss _).trans AH
 obtain⟨m,hm⟩:∃m,ms.length=m:=⟨_,rfl⟩
 have I6:ss.length=m:=by rw[<-hm,<-lx];exact (List.length_mergeSort ss).symm
 rw[lx,I6] at dA;have jF:m<=D.n:=by rw[<-hm,Q9.length_eq];exact HG.out.2.1
 have gm:∀x,x∈ms↔fO D D.n x:=fun x=>by
  rw[Q9.mem_iff];constructor
  ·intro hx;obtain⟨y,μ,hp,e,_⟩:=HG.out.2.2.1 x hx;injection e with _ e;rw[e];exact hp
  intro hp;exact HG.out.2.2.2 x (vs x) ⟨x,hp,rfl,rfl⟩
 have hz:ms.map encZ=ints ms:=rfl;rw[hz] at dA;obtain⟨aS,cS,rfl⟩:=bJ dA;have k2:=al wr (.cells #[.map (some bM)] 199);have Z4:=(HG.out.1.ab k2).ab b3;obtain⟨W3,uV⟩:∃W3,W3=w3:=⟨w3,rfl⟩
 have H3:Hid (gJ D w bM D.n vs w3/\kE W3 aS m (fun i=>ms.getD i 0)/\W3=w3/\ms.length=m/\∀x,x∈ms↔fO D D.n x):=by
  refine⟨Z4,?_,uV,hm,gm⟩;rw[uV];exact Te dA hm
 clear AH dA Qb b3 Q9 lx I6 gm hz k2 Z4 uV hm HK HS HG;go_wp2_with fail;go_loopw [6,8,33] (fun v6 _ vj wq=>∃(j:Nat) (aL:Option Addr) (cL:Nat),vj=.int .i64 j/\j<=m/\v6=.slice aL j cL/\Hid (gJ D w bM D.n vs wq/\Below W3.heap.size W3 wq/\wq.ownsRow W3.heap.size 30 1 (.slice aL j cL) j ((List.range j).map fun i=>vs (ms.getD i 0)))) (fun _ _ v _=>m-(intOf v).toNat)
 ·exact⟨0,none,0,rfl,Nat.zero_le _,rfl,H3.out.1,by rw[H3.out.2.2.1];exact Below.refl _ _,World.ownsRow_nil _ _ _ _⟩
 obtain⟨j,aL,cL,rfl,hj,rfl,HJ⟩:=hrel;by_cases Xa:j<m
 ·obtain⟨gS,oS,rfl,wK,Dq⟩:=H3.out.2.1 (by omega);have d0:=(HJ.out.2.1.cell (p:=⟨gS,oS+j,none⟩) wK).trans (Dq j Xa);obtain⟨μ,hμ⟩:∃μ,ms.getD j 0=μ:=⟨_,rfl⟩
  have hp:fO D D.n μ:=by
   rw[<-H3.out.2.2.2.2,<-hμ,oV _ _ _ (by rw[H3.out.2.2.2.1];exact Xa)];exact List.getElem_mem _
  replace d0:wr.cell? ⟨gS,oS+j,none⟩=some (.int .i64 μ):=by rw[<-hμ];exact d0
  have qi:μ<32768:=by
   obtain⟨_,i,hi,e⟩:=hp;rw[<-e];exact (HB.out.2.2.1.q i hi).2
  obtain⟨v0,cj,IP,_⟩:=HJ.out.1.look μ hp.1 (by omega);have Zd:v0=vs μ:=by
   rcases IP with ⟨_,h⟩|⟨h,_⟩
   ·exact h
   exact absurd hp h
  rw[Zd,HJ.out.1.val μ hp] at cj;have hO:=HJ.out.2.2;have sP:=HJ.out.2.1.size;have i1:(j:Int)<m:=by omega
  have Cw:=hp.1;have HV:Hid (vs μ=.slice (uf (vs μ)) (nA D D.n μ).length (ye (vs μ))/\ms.getD j 0=μ):=⟨HJ.out.1.val μ hp,hμ⟩
  obtain⟨i0,hi,du,cH,ct⟩:=info_parts ew;generalize uf (vs μ)=aV at cj HV;generalize ye (vs μ)=cV at cj HV;generalize (nA D D.n μ).length=lV at cj HV;clear Dq hp IP Zd hμ;go_wp2_with (at_builtin;refine wpList_append_own_at _ rfl _ _ 37 rfl W3.heap.size 30 i0 (.slice none 0 0) 1 24 Tryz.underlying37 hi du cH ct rfl (by decide) _ _ _ rfl (hO.alloc _) ⟨wr.heap.size,0,none⟩ 1 1 [.slice aV lV cV] rfl rfl (cell_one_new _ _ _) ?f2 ?f3 ?f4 ?f5 ?_)
  case f2=>first|(intro u hu;simp at hu;subst hu;rfl)|rfl
  case f3=>unfold maxLen;omega
  case f4=>omega
  case f5=>first|(simp;omega)|omega
  intro v' w5 ah ag _ bG;obtain⟨a5,c5,rfl⟩:=bJ ah;have H5:Hid (gJ D w bM D.n vs w5/\Below W3.heap.size W3 w5/\w5.ownsRow W3.heap.size 30 1 (.slice a5 (j+1) c5) (j+1) ((List.range (j+1)).map fun i=>vs (ms.getD i 0))):=by
   have kk:=al wr (.cells #[.slice aV lV cV] 30);have Om:w.heap.size<=W3.heap.size:=(by rw[H3.out.2.2.1];exact H3.out.1.below.size);refine⟨(HJ.out.1.ab kk).grown (hO.alloc _) Om (by decide) ag,fC (HJ.out.2.1.trans (kk.mono sP)) (hO.alloc _) (by simp;omega) ag,?_⟩;rw[List.range_succ,List.map_append,List.map_singleton,HV.out.2,HV.out.1];exact ah
  clear ah ag bG hO HJ;go_wp2;go_roundw
  ·exact⟨j+1,a5,c5,by go_num,by omega,rfl,H5.out⟩
  simp[intOf];omega
 obtain rfl:j=m:=by omega
 have HF:Hid (Sr D w (.returned (.slice aL j cL)) wr):=by
  have lO:=H3.out.2.2.2.1;have Rc:∀i,i<j->fO D D.n (ms.getD i 0):=fun i hi=>by
   rw[<-H3.out.2.2.2.2,oV _ _ _ (by rw[lO];exact hi)];exact List.getElem_mem _
  have Om:w.heap.size<=W3.heap.size:=by rw[H3.out.2.2.1];exact H3.out.1.below.size
  refine⟨ms,aL,cL,fun i=>uf (vs (ms.getD i 0)),fun i=>ye (vs (ms.getD i 0)),by rw[lO],fun μ hμ=>((H3.out.2.2.2.2 μ).1 hμ).1,fun i hi h0=>(H3.out.2.2.2.2 _).2 ⟨h0,i,hi,rfl⟩,by rw[lO];exact jF,HJ.out.1.below,?_,fun i hi=>?_⟩
  ·rw[lO];have e:(List.range j).map (fun i=>Value.slice (uf (vs (ms.getD i 0))) (qF D (ms.getD i 0)).length (ye (vs (ms.getD i 0))))=(List.range j).map fun i=>vs (ms.getD i 0):=by
    refine(List.map_congr_left fun i hi=>?_);exact (HJ.out.1.val _ (Rc i (List.mem_range.1 hi))).symm
   rw[e];exact gE HJ.out.2.2 Om
  rw[lO] at hi;have h1:=HJ.out.1.row _ (Rc i hi);rw[HJ.out.1.val _ (Rc i hi)] at h1;exact h1
 clear HJ;go_wp2;go_ret;exact HF.out
theorem zhx(D:Dd)(C:Nat)(hR:DR D C)(w:World)(hD:DM w D):Calls Tryz.prog 93 #[.agg D.cD] w (NT D C w):=zjH D C hR w hD (fun W hW=>zjC D C hR W hW)
end Go.Proofs.YtbacgnhkapancaaGreat
