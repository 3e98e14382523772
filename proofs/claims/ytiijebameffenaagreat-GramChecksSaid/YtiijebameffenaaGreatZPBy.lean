import Derived.Test.YtiijebameffenaaGreatZIter
import Derived.Test.YtiijebameffenaaGreatZPMn
import Derived.Lib.SlKeysI
set_option linter.all false
set_option maxHeartbeats 4000000
set_option maxRecDepth 100000
open Go.Lib (hid)
namespace Go.Proofs
open Go.RowKit Go.Maps Go.Sort
theorem Dv(m:Nat):AnyZI.SortsIn Tryz.prog mK Fence.wide m:=
 ⟨fun hY off cap ss W hH tA cQ=>callsIn_wide.2 (AnyM.slices_Sort_int Cb hY off cap ss W hH tA cQ),
  fun p cap W=>callsIn_wide.2 (AnyM.slices_Sort_int_none Cb p cap W)⟩
theorem zn(mb:Option Nat)(W:World):Calls Tryz.prog 178 #[.map mb] W fun e w'=>e=.returned (.func (.func 191) #[] #[.pointer (some ⟨W.heap.size,0,none⟩)])/\w'=W.alloc (.cells #[.map mb] 226):=
 (callsIn_wide (n:=5)).1 (AnyZI.keys_in CA Fence.wide 5 trivial rfl mb W)
theorem tI{H:Type}(b nn:Nat)(D0:DataW H)(R:Value->Option (DataW H × List MemPlace))(w:World)(az:w.ownsMap Tryz.prog 3 R b nn D0)(dZ:Maps.size D0<=maxLen)(kU:Maps.size D0*8<=140737488355328):
  Calls Tryz.prog 177 #[.func (.func 191) #[] #[.pointer (some ⟨w.heap.size,0,none⟩)]] (w.alloc (.cells #[.map (some b)] 226)) fun e w'=>∃(v:Value) (ss:List Int),e=.returned v/\ss.Perm (intKeys D0)/\
   w'.ownsRow (w.alloc (.cells #[.map (some b)] 226)).heap.size 3 1 v ss.length ((ss.mergeSort (fun x y=>decide (x<=y))).map encZ)/\(v=.slice none 0 0↔ss=[])/\Below (w.alloc (.cells #[.map (some b)] 226)).heap.size (w.alloc (.cells #[.map (some b)] 226)) w':=by
 refine (callsIn_wide (n:=5)).1 ?_;have eC:=az.lt;have Rl:SeqGives Fence.wide 2 Tryz.prog 191 #[.pointer (some ⟨w.heap.size,0,none⟩)] encZ (fun ss=>ss.Perm (intKeys D0)) (Maps.size D0) (w.alloc (.cells #[.map (some b)] 226)):=
  AnyZI.keys_gives (ρ:=qo) { CA with } Fence.wide _ trivial rfl (by omega) w.heap.size b nn D0 _ (by simp) (by simp) (by
   obtain⟨es,clock,hb,Ft,hs,hD⟩:=az
   exact⟨es,clock,(Below.heap_alloc _ _ b eC).trans hb,Ft,hs,hD⟩)
 exact AnyZI.sorted_in Bf Fence.wide 5 trivial trivial trivial trivial rfl (by omega) (Dv _) (enters_of Tryz.func190 (by kernel_rfl) rfl) 191 #[.pointer (some ⟨w.heap.size,0,none⟩)] trivial (enters_of Tryz.func191 (by kernel_rfl) rfl) _ _ dZ kU _ Rl
end Go.Proofs
namespace Go.Proofs.YtiijebameffenaaGreat
open Go.RowKit Go.Maps Go.WideElems Go.ChangeMaps Go.MapKept
theorem aJ.over{w:World}{k t e:TypeId}{b n:Nat}{Q Q':Value->Value->Prop}(h:aJ w k b n Q)(K:Keyed Tryz.prog k)(ht:Tryz.prog.underlying t=some (.map k e))
  {key val:Value}{kl:Lit}(fw:keyOf Tryz.prog k key=some kl) (hex:∃y,Q key y) (hQ:∀x y,Q x y->x≠key->Q' x y) (hv:Q' key val) (oj:∀x y,Q' x y->x≠key->∃y',Q x y'):
  ∃w',(Instr.mapUpdate t (.map (some b)) key val).run Tryz.prog w=.ok () w'/\aJ w' k b n Q'/\w.grownBy w' (some b):=by
 obtain⟨es,clock,hb,F,hs,hq,eO⟩:=h;have pS:WideElems.rd Tryz.prog k fY ⟨key,val,clock⟩=some (kl,.held val):=by unfold WideElems.rd fY;rw[fw];rfl
 rcases K.find w fw es.toList F.keys with ⟨h1,h2⟩|⟨j,e0,h1,h2,h3⟩
 ·obtain⟨y,hy⟩:=hex;obtain⟨e1,h4,h5⟩:=eO _ _ hy;exact absurd h5 (h2 e1 h4)
 have hj:es[j]?=some e0:=by simpa using h2
 have hjl:j<es.toList.length:=(List.getElem?_eq_some_iff.1 h2).1;have yv:∀e',es[j]?=some e'->({ e' with key:=key,val:=val }:MapEntry).key=e'.key:=fun e' tz=>by rw[hj] at tz;cases tz;exact h3.symm
 have oo:(es.modify j (fun e'=>{ e' with key:=key,val:=val })).toList=es.toList.set j { e0 with key:=key,val:=val }:=by rw[Array.toList_modify,modify_eq_set _ _ _ _ h2]
 have JM:∀x∈es.toList.set j { e0 with key:=key,val:=val },x={ e0 with key:=key,val:=val }\/(x∈es.toList/\x.key≠key):=by
  intro x hx;obtain⟨i,hi,ex⟩:=List.getElem_of_mem hx;rw[List.getElem_set] at ex;split at ex
  ·exact Or.inl ex.symm
  rename_i hne;have hi':i<es.toList.length:=by simpa using hi
  refine Or.inr ⟨ex ▸ List.getElem_mem hi',?_⟩;rw[<-h3];exact other_key F h2 (by rw[List.getElem?_eq_getElem hi',ex]) (fun e1=>hne e1.symm)
 refine⟨setBlock w b (.map (es.modify j (fun e'=>{ e' with key:=key,val:=val })) clock),?_,⟨_,clock,heap_setBlock_same hb _,⟨by simpa using F.size,stamped_modify F.stamped _ _ (fun _ _=>rfl) (fun e' _ tz=>yv e' tz),fun x hx=>?_⟩,by simpa using hs,fun x hx=>?_,fun x y hx=>?_⟩,⟨rfl,rfl,rfl,by simp[setBlock],fun i _ hi=>heap_setBlock_other hb _ (fun e=>hi (by rw[e]))⟩⟩
 ·simp[Instr.mapUpdate,run_underlying ht,MapKept.run_getObj_map hb,K.check w false fw,h1,hj,h3,K.stays w fw,MapKept.run_setObj_map _ hb,Result.andThen,setBlock]
 ·rw[oo] at hx;rcases JM x hx with rfl|⟨Fe,hne⟩
  ·exact⟨(kl,.held val),by unfold WideElems.rd fY;rw[fw];rfl⟩
  exact F.reads x Fe
 ·rw[oo] at hx;rcases JM x hx with rfl|⟨Fe,hne⟩
  ·exact hv
  exact hQ _ _ (hq x Fe) hne
 rw[oo];by_cases e1:x=key
 ·exact⟨{ e0 with key:=key,val:=val },List.mem_iff_getElem?.2 ⟨j,by rw[List.getElem?_set_self hjl]⟩,e1.symm⟩
 obtain⟨y',hy⟩:=oj x y hx e1;obtain⟨e2,h4,h5⟩:=eO x y' hy;obtain⟨i,hi,e3⟩:=List.getElem_of_mem h4;have hij:j≠i:=fun e=>by
  subst e;rw[List.getElem?_eq_getElem hi] at h2;injection h2 with h2;rw[e3] at h2;rw[h2,h3] at h5;exact e1 h5.symm
 exact⟨e2,List.mem_iff_getElem?.2 ⟨i,by rw[List.getElem?_set_ne hij,List.getElem?_eq_getElem hi,e3]⟩,h5⟩
theorem aJ.Kv{w:World}{k t e:TypeId}{b n:Nat}{Q:Value->Value->Prop}(h:aJ w k b n Q)(K:Keyed Tryz.prog k)(ht:Tryz.prog.underlying t=some (.map k e)){z:Value}(hz:(zeroValue e).run Tryz.prog w=.ok z w)
  {key:Value}{kl:Lit}(fw:keyOf Tryz.prog k key=some kl):
  ((Instr.lookup t (.map (some b)) key false).run Tryz.prog w=.ok z w/\∀y,¬Q key y)\/∃v,Q key v/\(Instr.lookup t (.map (some b)) key false).run Tryz.prog w=.ok v w:=by
 obtain⟨es,clock,hb,F,_,hq,eO⟩:=h;rcases Maps.fit_look false K ht hz hb F fw with ⟨cZ,jv,_⟩|⟨e0,y,hm,hk,cZ,_⟩
 ·refine Or.inl ⟨by simpa using cZ,fun y hy=>?_⟩;obtain⟨e1,h1,h2⟩:=eO _ _ hy;exact jv e1 h1 h2
 exact Or.inr ⟨e0.val,by rw[<-hk];exact hq e0 hm,by simpa using cZ⟩
theorem Vl(x:Int)(h:-9223372036854775808<=x/\x<=9223372036854775807):keyOf Tryz.prog 3 (.int .i64 x)=some (.int .i64 x):=by
 have hw:=JD h;unfold keyOf;simp[Tryz.underlying3,mapKey,hw]
theorem aJ.keys{w:World}{b n:Nat}{Q:Value->Value->Prop}(h:aJ w 3 b n Q):∃(D0:DataW Value) (nn:Nat),w.ownsMap Tryz.prog 3 fY b nn D0/\Maps.size D0<=n/\(Go.intKeys D0).length<=n/\(∀x,x∈Go.intKeys D0->∃y,Q (.int .i64 x) y)/\∀x y,Q (.int .i64 x) y->x∈Go.intKeys D0:=by
 obtain⟨es,clock,hb,F,hs,hq,eO⟩:=h;refine⟨_,_,World.ownsMap_of_fit hb F (fun _ _ _ h=>h),?_,?_,fun x hx=>?_,fun x y hx=>?_⟩
 rotate_left
 ·show (((es.toList.map (rg Tryz.prog 3 fY)).foldr DataW.insert []).map fun p=>Go.intOf p.1).length<=n;rw[List.length_map,length_sorted];simpa using hs
 rotate_left
 rotate_left
 ·have:Maps.size (DataW.map ((es.toList.map (rg Tryz.prog 3 fY)).foldr DataW.insert []))=((es.toList.map (rg Tryz.prog 3 fY)).foldr DataW.insert []).length:=rfl;rw[this,length_sorted];simpa using hs
 ·obtain⟨p,hp,e⟩:=List.mem_map.1 hx;rw[mem_sorted] at hp;obtain⟨e0,Kb,rfl⟩:=List.mem_map.1 hp;obtain⟨kl,hkl⟩:=F.keys e0 Kb;obtain⟨x',h1,h2,_⟩:=Go.Maps.keyOf_i64 Tryz.underlying3 hkl;have hr:WideElems.rd Tryz.prog 3 fY e0=some (kl,.held e0.val):=by unfold WideElems.rd fY;rw[hkl];rfl
  rw[rg_of hr,h2] at e;have e':x'=x:=e;refine⟨e0.val,?_⟩;have:=hq e0 Kb;rw[h1,e'] at this;exact this
 obtain⟨e0,Kb,rB⟩:=eO _ _ hx;obtain⟨kl,hkl⟩:=F.keys e0 Kb;obtain⟨x',h1,h2,_⟩:=Go.Maps.keyOf_i64 Tryz.underlying3 hkl;have hr:WideElems.rd Tryz.prog 3 fY e0=some (kl,.held e0.val):=by unfold WideElems.rd fY;rw[hkl];rfl
 have JI:x'=x:=by
  rw[rB] at h1;injection h1 with _ h1;exact h1.symm
 refine List.mem_map.2 ⟨rg Tryz.prog 3 fY e0,mem_sorted.2 (List.mem_map.2 ⟨e0,Kb,rfl⟩),?_⟩;rw[rg_of hr,h2,JI];rfl
def gz(D:Dd)(k:Nat)(μ:Int):Prop:=0<=μ/\∃i,i<k/\D.q i=μ
def pg(D:Dd)(k:Nat)(μ:Int):List Nat:=(List.range k).filter fun i=>D.q i == μ
theorem QW(D:Dd)(k:Nat)(μ:Int):pg D (k+1) μ=if D.q k=μ then pg D k μ++[k] else pg D k μ:=by
 unfold pg;rw[List.range_succ,List.filter_append];by_cases h:D.q k=μ <;> simp[h]
theorem WD(D:Dd)(k:Nat)(μ:Int)(h0:0<=μ)(h:¬gz D k μ):pg D k μ=[]:=by
 unfold pg;rw[List.filter_eq_nil_iff];intro i hi e;exact h ⟨h0,i,List.mem_range.1 hi,by simpa using e⟩
theorem zqn(D:Dd)(k:Nat)(μ:Int):(pg D k μ).length<=k:=by
 have:=List.length_filter_le (fun i=>D.q i == μ) (List.range k);simpa [pg] using this
def GQ(D:Dd)(k:Nat)(vs:Int->Value)(key val:Value):Prop:=∃μ,gz D k μ/\key=.int .i64 μ/\val=vs μ
structure ij (D:Dd)(W0:World)(bM k:Nat)(vs:Int->Value)(w:World):Prop where
 below:Below W0.heap.size W0 w
 map:aJ w 3 bM k (GQ D k vs)
 row:∀μ,gz D k μ->w.ownsRow W0.heap.size 3 1 (vs μ) (pg D k μ).length (dv (pg D k μ))
 sep:∀μ ν,gz D k μ->gz D k ν->μ≠ν->∀g,(vs μ).ownBlock=some g->(vs ν).ownBlock≠some g
 lo:W0.heap.size<=bM
section
variable {D : Dd}{W0 w : World}{bM k : Nat}{vs : Int → Value}
theorem ij.ae{w1:World}(h:ij D W0 bM k vs w)(kk:Below w.heap.size w w1):ij D W0 bM k vs w1:=
 ⟨h.below.trans (kk.mono h.below.size),h.map.same (kk.block _ h.map.lt),fun μ hp=>dE (h.row μ hp) kk,h.sep,h.lo⟩
theorem MV{D:Dd}{k:Nat}(hq:D.q k<0)(μ:Int):gz D (k+1) μ↔gz D k μ:=by
 constructor
 ·rintro⟨h0,i,hi,e⟩;refine⟨h0,i,?_,e⟩;by_cases e2:i=k
  ·subst e2;omega
  omega
 rintro⟨h0,i,hi,e⟩;exact⟨h0,i,by omega,e⟩
theorem ij.skip(h:ij D W0 bM k vs w)(hq:D.q k<0):ij D W0 bM (k+1) vs w:=by
 have hm:∀μ,gz D k μ->pg D (k+1) μ=pg D k μ:=fun μ hp=>by
  rw[QW,if_neg (by have:=hp.1;omega)]
 have hQ:GQ D (k+1) vs=GQ D k vs:=by
  funext x y;unfold GQ;simp only[MV hq]
 refine⟨h.below,?_,fun μ hp=>?_,fun μ ν h1 h2=>h.sep μ ν ((MV hq μ).1 h1) ((MV hq ν).1 h2),h.lo⟩
 ·rw[hQ];exact h.map.more (by omega)
 have tp:=(MV hq μ).1 hp;rw[hm μ tp];exact h.row μ tp
theorem EO{D:Dd}{k:Nat}(hq:0<=D.q k)(μ:Int):gz D (k+1) μ↔gz D k μ\/μ=D.q k:=by
 constructor
 ·rintro⟨h0,i,hi,e⟩;by_cases e2:i=k
  ·subst e2;exact Or.inr e.symm
  exact Or.inl ⟨h0,i,by omega,e⟩
 rintro (⟨h0,i,hi,e⟩|rfl)
 ·exact⟨h0,i,by omega,e⟩
 exact⟨hq,k,by omega,rfl⟩
def pW(vs:Int->Value)(μ:Int)(v:Value):Int->Value:=fun ν=>if ν=μ then v else vs ν
theorem ij.Fy{w5:World}{v0 v':Value}{μ:Int}{q:Nat}(h:ij D W0 bM k vs w)(hμ:D.q k=μ)(h0:0<=μ)(hr:μ<=9223372036854775807)(hk:k<maxLen)(hv:(gz D k μ/\v0=vs μ)\/(¬gz D k μ/\v0=.slice none 0 0))(Q6:(pg D k μ).length=q)
  (ho:w5.ownsRow W0.heap.size 3 1 v' (q+1) (dv (pg D k μ)++[.int .i64 (k:Int)])) (hg:w.grownBy w5 v0.ownBlock) (fD:v'.ownBlock=v0.ownBlock\/v'.ownBlock=some w.heap.size):
  ∃w6,(Instr.mapUpdate 226 (.map (some bM)) (.int .i64 μ) v').run Tryz.prog w5=.ok () w6/\ij D W0 bM (k+1) (pW vs μ v') w6:=by
 subst hμ;have Y8:w.ownsRow W0.heap.size 3 1 v0 (pg D k (D.q k)).length (dv (pg D k (D.q k))):=by
  rcases hv with ⟨h1,rfl⟩|⟨h1,rfl⟩
  ·exact h.row _ h1
  rw[WD D k _ h0 h1];exact World.ownsRow_nil _ _ _ _
 have BR:aJ w5 3 bM k (GQ D k vs):=h.map.af Y8 hg;have eB:Below W0.heap.size W0 w5:=gu h.below Y8 h.below.size hg;have aq:∀ν,gz D k ν->∀g,(vs ν).ownBlock=some g->g<w.heap.size:=fun ν hp=>me (h.row ν hp)
 have gJ:∀ν,gz D k ν->ν≠D.q k->∀g,(vs ν).ownBlock=some g->v0.ownBlock≠some g:=fun ν hp hne g e=>by
  rcases hv with ⟨h1,rfl⟩|⟨h1,rfl⟩
  ·exact h.sep ν _ hp h1 hne g e
  intro e2;simp[Value.ownBlock] at e2
 have JR:∀ν,gz D k ν->ν≠D.q k->∀g,(vs ν).ownBlock=some g->v'.ownBlock≠some g:=fun ν hp hne g e e2=>by
  rcases fD with e3|e3
  ·rw[e3] at e2;exact gJ ν hp hne g e e2
  rw[e3] at e2;injection e2 with e2;have:=aq ν hp g e;omega
 have up:∀x y,GQ D k vs x y->x≠.int .i64 (D.q k)->GQ D (k+1) (pW vs (D.q k) v') x y:=by
  rintro x y ⟨ν,h1,rfl,rfl⟩ hne;refine⟨ν,(EO h0 ν).2 (Or.inl h1),rfl,?_⟩;unfold pW;rw[if_neg (fun e=>hne (by rw[e]))]
 have back:∀x y,GQ D (k+1) (pW vs (D.q k) v') x y->x≠.int .i64 (D.q k)->∃y',GQ D k vs x y':=by
  rintro x y ⟨ν,h1,rfl,rfl⟩ hne;rcases (EO h0 ν).1 h1 with h2|rfl
  ·exact⟨vs ν,ν,h2,rfl,rfl⟩
  exact absurd rfl hne
 have new:GQ D (k+1) (pW vs (D.q k) v') (.int .i64 (D.q k)) v':=⟨D.q k,(EO h0 _).2 (Or.inr rfl),rfl,by unfold pW;rw[if_pos rfl]⟩
 have key:=Vl (D.q k) ⟨by omega,hr⟩;have main:∃w6,(Instr.mapUpdate 226 (.map (some bM)) (.int .i64 (D.q k)) v').run Tryz.prog w5=.ok () w6/\aJ w6 3 bM (k+1) (GQ D (k+1) (pW vs (D.q k) v'))/\w5.grownBy w6 (some bM):=by
  rcases hv with ⟨h1,rfl⟩|⟨h1,rfl⟩
  ·obtain⟨w6,e1,e2,e3⟩:=BR.over (t:=226) E5 Tryz.underlying226 key ⟨vs (D.q k),D.q k,h1,rfl,rfl⟩ up new back;exact⟨w6,e1,e2.more (by omega),e3⟩
  have jv:∀y,¬GQ D k vs (.int .i64 (D.q k)) y:=by
   rintro y ⟨ν,h2,e,_⟩;injection e with _ e;exact h1 (by rw[e];exact h2)
  exact BR.update (t:=226) E5 Tryz.underlying226 hk key jv (fun x y hxy=>up x y hxy (by
   obtain⟨ν,h2,e,_⟩:=hxy
   intro e2
   rw[e] at e2
   injection e2 with _ e2
   exact h1 (by rw[<-e2];exact h2))) new back
 obtain⟨w6,e1,e2,e3⟩:=main;have r5:∀{v:Value}{n:Nat}{xs:List Value},w5.ownsRow W0.heap.size 3 1 v n xs->w6.ownsRow W0.heap.size 3 1 v n xs:=fun o=>AD o BR.of e3
 refine⟨w6,e1,⟨eB.grown e3 eB.size (fun g e=>by injection e with e;rw[<-e];exact h.lo),e2,fun ν hp=>?_,fun μ ν h1 h2 hne g=>?_,h.lo⟩⟩
 ·by_cases e:ν=D.q k
  ·subst e;unfold pW;rw[if_pos rfl,QW,if_pos rfl,Ad,List.length_append];rw[<-Q6] at ho;exact r5 ho
  have tp:=((EO h0 ν).1 hp).resolve_right e;unfold pW;rw[if_neg e,QW,if_neg (fun e2=>e e2.symm)];exact r5 (rS (h.row ν tp) hg (fun g e1 e2=>gJ ν tp e g e1 e2.symm))
 unfold pW;by_cases e4:μ=D.q k
 ·have kO:ν≠D.q k:=fun e=>hne (by rw[e4,e])
  have tp:=((EO h0 ν).1 h2).resolve_right kO;rw[if_pos e4,if_neg kO];exact fun e5 e6=>JR ν tp kO g e6 e5
 have tp:=((EO h0 μ).1 h1).resolve_right e4;rw[if_neg e4];by_cases e5:ν=D.q k
 ·rw[if_pos e5];exact fun e6=>JR μ tp e4 g e6
 rw[if_neg e5];exact h.sep μ ν tp (((EO h0 ν).1 h2).resolve_right e5) hne g
end
theorem zlM(W:World):(Instr.makeMap 226 none).run Tryz.prog W=.ok (.map (some W.heap.size)) (W.alloc (.map #[] 0)):=by
 simp[Instr.makeMap,go_sem]
theorem ij.look{D:Dd}{W0 w:World}{bM k:Nat}{vs:Int->Value}(h:ij D W0 bM k vs w)(μ:Int)(h0:0<=μ)(hr:μ<=9223372036854775807):
  ∃v0,(Instr.lookup 226 (.map (some bM)) (.int .i64 μ) false).run Tryz.prog w=.ok v0 w/\((gz D k μ/\v0=vs μ)\/(¬gz D k μ/\v0=.slice none 0 0))/\w.ownsRow W0.heap.size 3 1 v0 (pg D k μ).length (dv (pg D k μ)):=by
 rcases h.map.Kv (t:=226) E5 Tryz.underlying226 (VC w) (Vl μ ⟨by omega,hr⟩) with ⟨h1,h2⟩|⟨v,⟨ν,h2,e,rfl⟩,h1⟩
 ·have hn:¬gz D k μ:=fun hp=>h2 (vs μ) ⟨μ,hp,rfl,rfl⟩
  exact⟨_,h1,Or.inr ⟨hn,rfl⟩,by rw[WD D k μ h0 hn];exact World.ownsRow_nil _ _ _ _⟩
 injection e with _ e;subst e;exact⟨_,h1,Or.inl ⟨h2,rfl⟩,h.row _ h2⟩
theorem ij.grown{D:Dd}{W0 w w':World}{bM k t n B:Nat}{vs:Int->Value}{v:Value}{xs:List Value}(h:ij D W0 bM k vs w)(ho:w.ownsRow B t 1 v n xs)(hB:W0.heap.size<=B)(ht:t≠3)(hg:w.grownBy w' v.ownBlock):ij D W0 bM k vs w':=
 ⟨gu h.below (jH ho hB) h.below.size hg,h.map.af ho hg,fun μ hp=>wE (h.row μ hp) ho ht hg,h.sep,h.lo⟩
theorem ij.val{D:Dd}{W0 w:World}{bM k:Nat}{vs:Int->Value}(h:ij D W0 bM k vs w)(μ:Int)(hp:gz D k μ):vs μ=.slice (wZ (vs μ)) (pg D k μ).length (yQ (vs μ)):=by
 obtain⟨a,c,e⟩:=cy (h.row μ hp);rw[e];rfl
theorem zjY(D:Dd)(C:Nat)(hR:DR D C)(w:World)(hD:DM w D):Calls Tryz.prog 160 #[.agg D.cD] w (RZ D w):=by
 have dd:=hR.n2;have HB:=ψ (dD.new hD) (al w (.cells D.cD 101)) hR hR.m;obtain⟨gM,oM,eM,uc,pj⟩:=hD.rM (by have:=hR.n1;have:=hR.m;omega);rw[hR.m] at pj;clear hD hR;have gP:=zlM;go_enter Tryz.func160,Tryz.ntmps160;go_upto_region 2 with fail;obtain⟨bM,sY⟩:=Ξ (w.heap.size+1)
 obtain⟨b0,bz⟩:=Ξ w.heap.size
 obtain⟨W2,lQ⟩:=Ξ ((w.alloc (.cells D.cD 101)).alloc (.map #[] 0))
 have cQ:(w.alloc (.cells D.cD 101)).heap.size=bM:=by rw[<-sY];simp
 have k2:=al (w.alloc (.cells D.cD 101)) (.map #[] 0);have X9:dD W2 w.heap.size D:=by rw[<-lQ];exact HB.o.1.ae k2
 have Lb:ij D w bM 0 (fun _=>.slice none 0 0) W2:=by
  have jv:∀μ,¬gz D 0 μ:=fun μ hp=>by
   obtain⟨_,i,hi,_⟩:=hp;omega
  refine⟨by rw[<-lQ];exact HB.o.2.1.trans (k2.mono (by simp)),?_,fun μ hp=>absurd hp (jv μ),fun μ ν hp=>absurd hp (jv μ),by omega⟩;have:=aJ.made (w.alloc (.cells D.cD 101)) 3 (GQ D 0 (fun _=>.slice none 0 0)) (fun x y h=>by
   obtain⟨μ,hp,_⟩:=h
   exact jv μ hp)
  rw[lQ,cQ] at this;exact this
 have tM:=ζ X9 Lb;rw[sY,lQ,bz];have Hb:=ζ sY bz;rw[bz] at tM;have c1:=tM.o.1.f2;rw[HB.o.2.2.2] at c1;rw[eM] at c1;have Nu:=ζ uc pj;clear sY bz lQ cQ k2 X9 Lb eM uc pj;go_wp2_with fail;clear c1;go_loopw [4,5,13] (fun _ _ vk wr=>∃k:Nat,vk=.int .i64 k/\k<=D.n/\Hid (∃vs,ij D w bM k vs wr)) (fun _ _ v _=>D.n-(intOf v).toNat)
 ·exact⟨0,rfl,Nat.zero_le _,_,tM.o.2⟩
 obtain⟨k,rfl,hk,HL⟩:=hrel;by_cases aq:k<D.n
 ·obtain⟨vs,hG⟩:=HL.o;have d0:=(hG.below.cell (p:=⟨gM,oM+k,none⟩) Nu.o.1).trans (Nu.o.2 k aq);have S6:=HB.o.2.2.1.q k aq;have Q6:D.q k<32768:=S6.2;obtain⟨μ,hμ⟩:=Ξ (D.q k)
  rw[hμ] at d0 Q6;have Hμ:=hid hμ;have i1:(k:Int)<(D.n:Int):=by omega
  by_cases h0:μ<0
  ·have HS:Hid (ij D w bM (k+1) vs wr):=hG.skip (by rw[hμ];exact h0);have i2:¬(0<=μ):=(by omega);clear hG S6 hμ HL;go_wp2;go_roundw
   ·exact⟨k+1,by go_num,by omega,vs,HS.o⟩
   simp[intOf];omega
  obtain⟨v0,cZ,Mb,hO⟩:=hG.look μ (by omega) (by omega);obtain⟨q,hq⟩:=Ξ ((pg D k μ).length)
  have SB:q<=k:=by rw[<-hq];exact zqn D k μ
  rw[hq] at hO;obtain⟨a0,c0,rfl⟩:=cy hO;have HG:=ξ hG Mb hq;have ur:=hG.below.size;have i2:0<=μ:=by omega
  obtain⟨i0,hi,dP,dc,db⟩:=info_parts aH;clear hG S6 hμ HL Mb hq;go_wp2_with (at_builtin;refine wpList_append_own_at _ rfl _ _ 43 rfl w.heap.size 3 i0 (.int .i64 0) 1 8 Tryz.underlying43 hi dP dc db rfl (by decide) _ _ _ rfl (hO.alloc _) ⟨wr.heap.size,0,none⟩ 1 1 [.int .i64 (k:Int)] rfl rfl (cell_one_new _ _ _) ?d2 ?d3 ?d4 ?d5 ?_)
  case d2=>first|(intro u hu;simp at hu;subst hu;rfl)|rfl
  case d3=>unfold maxLen;omega
  case d4=>omega
  case d5=>first|(simp;omega)|omega
  intro v' w5 ak aj _ bW;obtain⟨a5,c5,rfl⟩:=cy ak;obtain⟨w6,Ah,YX⟩:=(HG.o.1.ae (al wr (.cells #[.int .i64 (k:Int)] 3))).Fy (v':=.slice a5 (q+1) c5) Hμ.o i2 (by omega) (by unfold maxLen;omega) HG.o.2.1 HG.o.2.2 ak aj (by
   rw[show (wr.alloc (.cells #[.int .i64 (k:Int)] 3)).heap.size=wr.heap.size+1 by simp]
   exact bW)
  have HG6:=hid YX;clear ak aj bW YX hO HG;go_wp2;go_roundw
  ·exact⟨k+1,by go_num,by omega,_,HG6.o⟩
  simp[intOf];omega
 obtain rfl:k=D.n:=by omega
 obtain⟨vs,hG⟩:=HL.o;obtain⟨D0,nn,az,Qh,hkl,ll,fS⟩:=hG.map.keys;have HK:=hid (zn (some bM) wr);have HS:=hid (tI bM nn D0 fY wr az (by unfold maxLen;omega) (by omega));have HG:=ψ hG hkl ll fS;clear hG az Qh hkl ll fS HL;go_wp2_with fail;refine HK.o.mono ?_;rintro e w2 ⟨rfl,rfl⟩;go_wp2_with fail;refine HS.o.mono ?_;rintro e w3 ⟨v,ss,rfl,CE,dC,Sk,b3⟩;obtain⟨ms,nK⟩:=Ξ (ss.mergeSort (fun x y=>decide (x<=y)))
 have Rk:ms.Perm (Go.intKeys D0):=by rw[<-nK];exact (List.mergeSort_perm ss _).trans CE
 obtain⟨m,hm⟩:=Ξ ms.length
 have I5:ss.length=m:=by rw[<-hm,<-nK];exact (List.length_mergeSort ss).symm
 rw[nK,I5] at dC;have ly:m<=D.n:=by rw[<-hm,Rk.length_eq];exact HG.o.2.1
 have kj:∀x,x∈ms↔gz D D.n x:=fun x=>by
  rw[Rk.mem_iff];constructor
  ·intro hx;obtain⟨y,μ,hp,e,_⟩:=HG.o.2.2.1 x hx;injection e with _ e;rw[e];exact hp
  intro hp;exact HG.o.2.2.2 x (vs x) ⟨x,hp,rfl,rfl⟩
 have hz:ms.map encZ=ints ms:=rfl;rw[hz] at dC;obtain⟨aS,cS,rfl⟩:=cy dC;have k2:=al wr (.cells #[.map (some bM)] 226);have hG3:=(HG.o.1.ae k2).ae b3;obtain⟨W3,vw⟩:∃W3,W3=w3:=⟨w3,rfl⟩
 have H3:Hid (ij D w bM D.n vs w3/\lT W3 aS m (fun i=>ms.getD i 0)/\W3=w3/\ms.length=m/\∀x,x∈ms↔gz D D.n x):=by
  refine⟨hG3,?_,vw,hm,kj⟩;rw[vw];exact U0 dC hm
 clear CE dC Sk b3 Rk nK I5 kj hz k2 hG3 vw hm HK HS HG;go_wp2;go_loopw [6,8,33] (fun v6 _ vj wq=>∃(j:Nat) (aL:Option Addr) (cL:Nat),vj=.int .i64 j/\j<=m/\v6=.slice aL j cL/\Hid (ij D w bM D.n vs wq/\Below W3.heap.size W3 wq/\wq.ownsRow W3.heap.size 43 1 (.slice aL j cL) j ((List.range j).map fun i=>vs (ms.getD i 0)))) (fun _ _ v _=>m-(intOf v).toNat)
 ·exact⟨0,none,0,rfl,Nat.zero_le _,rfl,H3.o.1,by rw[H3.o.2.2.1];exact Below.refl _ _,World.ownsRow_nil _ _ _ _⟩
 obtain⟨j,aL,cL,rfl,hj,rfl,HJ⟩:=hrel;by_cases hlj:j<m
 ·obtain⟨gS,oS,rfl,zu,FM⟩:=H3.o.2.1 (by omega);have d0:=(HJ.o.2.1.cell (p:=⟨gS,oS+j,none⟩) zu).trans (FM j hlj);obtain⟨μ,hμ⟩:=Ξ (ms.getD j 0)
  have hp:gz D D.n μ:=by
   rw[<-H3.o.2.2.2.2,<-hμ,pZ _ _ _ (by rw[H3.o.2.2.2.1];exact hlj)];exact List.getElem_mem _
  replace d0:wr.cell? ⟨gS,oS+j,none⟩=some (.int .i64 μ):=by rw[<-hμ];exact d0
  have ry:μ<32768:=by
   obtain⟨_,i,hi,e⟩:=hp;rw[<-e];exact (HB.o.2.2.1.q i hi).2
  obtain⟨v0,cZ,Mb,_⟩:=HJ.o.1.look μ hp.1 (by omega);have hv1:v0=vs μ:=by
   rcases Mb with ⟨_,h⟩|⟨h,_⟩
   ·exact h
   exact absurd hp h
  rw[hv1,HJ.o.1.val μ hp] at cZ;have hO:=HJ.o.2.2;have ur:=HJ.o.2.1.size;have i1:(j:Int)<m:=by omega
  have DU:=hp.1;have HV:Hid (vs μ=.slice (wZ (vs μ)) (pg D D.n μ).length (yQ (vs μ))/\ms.getD j 0=μ):=⟨HJ.o.1.val μ hp,hμ⟩
  obtain⟨i0,hi,dP,dc,db⟩:=info_parts fa;generalize wZ (vs μ)=aV at cZ HV;generalize yQ (vs μ)=cV at cZ HV;generalize (pg D D.n μ).length=lV at cZ HV;clear FM hp Mb hv1 hμ;go_wp2_with (at_builtin;refine wpList_append_own_at _ rfl _ _ 99 rfl W3.heap.size 43 i0 (.slice none 0 0) 1 24 Tryz.underlying99 hi dP dc db rfl (by decide) _ _ _ rfl (hO.alloc _) ⟨wr.heap.size,0,none⟩ 1 1 [.slice aV lV cV] rfl rfl (cell_one_new _ _ _) ?f2 ?f3 ?f4 ?f5 ?_)
  case f2=>first|(intro u hu;simp at hu;subst hu;rfl)|rfl
  case f3=>unfold maxLen;omega
  case f4=>omega
  case f5=>first|(simp;omega)|omega
  intro v' w5 ak aj _ bW;obtain⟨a5,c5,rfl⟩:=cy ak;have H5:Hid (ij D w bM D.n vs w5/\Below W3.heap.size W3 w5/\w5.ownsRow W3.heap.size 43 1 (.slice a5 (j+1) c5) (j+1) ((List.range (j+1)).map fun i=>vs (ms.getD i 0))):=by
   have kk:=al wr (.cells #[.slice aV lV cV] 43);have ue:w.heap.size<=W3.heap.size:=(by rw[H3.o.2.2.1];exact H3.o.1.below.size);refine⟨(HJ.o.1.ae kk).grown (hO.alloc _) ue (by decide) aj,gu (HJ.o.2.1.trans (kk.mono ur)) (hO.alloc _) (by simp;omega) aj,?_⟩;rw[List.range_succ,List.map_append,List.map_singleton,HV.o.2,HV.o.1];exact ak
  clear ak aj bW hO HJ;go_wp2;go_roundw
  ·exact⟨j+1,a5,c5,by go_num,by omega,rfl,H5.o⟩
  simp[intOf];omega
 obtain rfl:j=m:=by omega
 have HF:Hid (RZ D w (.returned (.slice aL j cL)) wr):=by
  have oD:=H3.o.2.2.2.1;have PF:∀i,i<j->gz D D.n (ms.getD i 0):=fun i hi=>by
   rw[<-H3.o.2.2.2.2,pZ _ _ _ (by rw[oD];exact hi)];exact List.getElem_mem _
  have ue:w.heap.size<=W3.heap.size:=by rw[H3.o.2.2.1];exact H3.o.1.below.size
  refine⟨ms,aL,cL,fun i=>wZ (vs (ms.getD i 0)),fun i=>yQ (vs (ms.getD i 0)),by rw[oD],fun μ hμ=>((H3.o.2.2.2.2 μ).1 hμ).1,fun i hi h0=>(H3.o.2.2.2.2 _).2 ⟨h0,i,hi,rfl⟩,by rw[oD];exact ly,HJ.o.1.below,?_,fun i hi=>?_⟩
  ·rw[oD];have e:(List.range j).map (fun i=>Value.slice (wZ (vs (ms.getD i 0))) (r8 D (ms.getD i 0)).length (yQ (vs (ms.getD i 0))))=(List.range j).map fun i=>vs (ms.getD i 0):=by
    refine(List.map_congr_left fun i hi=>?_);exact (HJ.o.1.val _ (PF i (List.mem_range.1 hi))).symm
   rw[e];exact jH HJ.o.2.2 ue
  rw[oD] at hi;have h1:=HJ.o.1.row _ (PF i hi);rw[HJ.o.1.val _ (PF i hi)] at h1;exact h1
 clear HJ;go_wp2;go_ret;exact HF.o
theorem zhD(D:Dd)(C:Nat)(hR:DR D C)(w:World)(hD:DM w D):Calls Tryz.prog 132 #[.agg D.cD] w (Rj D C w):=zj3 D C hR w hD (fun W hW=>zjY D C hR W hW)
