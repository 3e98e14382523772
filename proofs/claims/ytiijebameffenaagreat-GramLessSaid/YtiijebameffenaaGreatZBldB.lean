import Derived.Test.YtiijebameffenaaGreatZClasses
import Derived.Ground.Names2Prog
import Derived.Laws.Externs
import Derived.Laws.IdiomCopy
import Derived.Lib.AppendStr
import Derived.Lib.Builder
import Derived.Lib.OthersKept
import Derived.Lib.Slices
import Derived.Lib.Strings
import Derived.Lib.UnsafeStr
import Derived.Shelf.Bits.Mul64
import Derived.Shelf.LaysM
import Derived.Shelf.Slices.Clone
import Derived.Shelf.Slices.Empties2
import Derived.Shelf.Slices.Equal
import Derived.Shelf.Slices.In.SortNone
import Derived.Shelf.Slices.SearchI
import Derived.Shelf.Slices.Turned
import Derived.Shelf.Small.Bits
import Derived.Shelf.Small.Strs
import Derived.Shelf.Small.Wraps
import Derived.Shelf.Sort.Plain
import Derived.Shelf.Strconv.Clone
import Derived.Shelf.Strconv.Itoa0
import Derived.Shelf.Strings.Builder1
import Derived.Shelf.Strings.BuilderCap
import Derived.Shelf.Strings.BuilderF
import Derived.Shelf.Strings.BuilderK
import Derived.Shelf.Strings.Search1
import Derived.Test.YtiijebameffenaaGreatProg
set_option linter.all false
set_option maxHeartbeats 2000000
set_option maxRecDepth 100000
open Go.Lib (hid)
namespace Go.Proofs
open Go.Shelf
def lC:Go.Shelf.Ren:=⟨fun|169=>47|n=>n,fun|70=>75|9=>9|0=>0|72=>78|37=>76|127=>97|3=>3|5=>5|n=>n,fun|n=>n⟩
theorem zf:Go.Proofs.Lays.n169 Tryz.prog lC:={
 mixed:=by kernel_rfl
 f169:=Tryz.func47.trans (congrArg some (by kernel_rfl))
 t0:=Tryz.underlying0
 a0:=Tryz.isAgg0
 z0:=Tryz.sizeOf0
 v0:=Tryz.zeroValue0
 t3:=Tryz.underlying3
 a3:=Tryz.isAgg3
 z3:=Tryz.sizeOf3
 v3:=Tryz.zeroValue3
 t9:=Tryz.underlying9
 a9:=Tryz.isAgg9
 z9:=Tryz.sizeOf9
 v9:=Tryz.zeroValue9
 t37:=Tryz.underlying76
 a37:=Tryz.isAgg76
 z37:=Tryz.sizeOf76
 v37:=Tryz.zeroValue76
 t70:=Tryz.underlying75
 a70:=Tryz.isAgg75
 z70:=Tryz.sizeOf75
 v70:=Tryz.zeroValue75
 t72:=Tryz.underlying78
 a72:=Tryz.isAgg78
 z72:=Tryz.sizeOf78
 v72:=Tryz.zeroValue78
 t127:=Tryz.underlying97
 a127:=Tryz.isAgg97
 z127:=Tryz.sizeOf97
 v127:=Tryz.zeroValue97 }
theorem kL:Builder.Extra Tryz.prog lC:={
 sizeBuilder:=by kernel_rfl
 liesBuilder:=by kernel_rfl
 t5:=Tryz.underlying5
 a5:=Tryz.isAgg5
 z5:=Tryz.sizeOf5
 v5:=Tryz.zeroValue5
 infoByte:=by kernel_rfl
 cellsByte:=by kernel_rfl
 sizeByte:=by kernel_rfl
 neB5:=by decide }
open Go.RowKit in
theorem Tryz.Builder_String_any(B b:Nat)(l:List UInt8)(w:World)(h:Lib.IsBuilder 78 5 B b (Lib.byteCells l) w)(ju:B<=w.heap.size):
  Calls Tryz.prog 47 #[.pointer (some ⟨b,0,none⟩)] w fun e w'=>e=.returned (.string ⟨l.toArray⟩)/\Below B w w':=Any.Builder_String_any zf kL B b l w h ju
def qW:Go.Shelf.Ren:=⟨fun|137=>188|217=>199|266=>210|n=>n,fun|9=>9|5=>5|3=>3|n=>n,fun|n=>n⟩
theorem za:Go.Proofs.Lays.n137 Tryz.prog qW:={
 mixed:=by kernel_rfl
 f137:=Tryz.func188.trans (congrArg some (by kernel_rfl))
 f217:=Tryz.func199.trans (congrArg some (by kernel_rfl))
 f266:=Tryz.func210.trans (congrArg some (by kernel_rfl))
 t3:=Tryz.underlying3
 a3:=Tryz.isAgg3
 z3:=Tryz.sizeOf3
 v3:=Tryz.zeroValue3
 t5:=Tryz.underlying5
 a5:=Tryz.isAgg5
 z5:=Tryz.sizeOf5
 v5:=Tryz.zeroValue5
 t9:=Tryz.underlying9
 a9:=Tryz.isAgg9
 z9:=Tryz.sizeOf9
 v9:=Tryz.zeroValue9 }
open Go.RowKit in
theorem Tryz.strings_IndexByte(s:ByteArray)(c:Int)(w:World):
  Calls Tryz.prog 188 #[.string s,.int .u8 c] w fun e w'=>e=.returned (.int .i64 (Lib.indexByte s.data.toList c.toNat.toUInt8))/\w'=w:=Any.strings_IndexByte za s c w
def qM:Go.Shelf.Ren:=⟨fun|107=>57|108=>76|n=>n,fun|28=>43|3=>3|4=>4|0=>0|n=>n,fun|n=>n⟩
theorem tK:Go.Proofs.Lays.n107 Tryz.prog qM:={
 mixed:=by kernel_rfl
 f107:=Tryz.func57.trans (congrArg some (by kernel_rfl))
 f108:=Tryz.func76.trans (congrArg some (by kernel_rfl))
 t0:=Tryz.underlying0
 a0:=Tryz.isAgg0
 z0:=Tryz.sizeOf0
 v0:=Tryz.zeroValue0
 t3:=Tryz.underlying3
 a3:=Tryz.isAgg3
 z3:=Tryz.sizeOf3
 v3:=Tryz.zeroValue3
 t4:=Tryz.underlying4
 a4:=Tryz.isAgg4
 z4:=Tryz.sizeOf4
 v4:=Tryz.zeroValue4
 t28:=Tryz.underlying43
 a28:=Tryz.isAgg43
 z28:=Tryz.sizeOf43
 v28:=Tryz.zeroValue43 }
open Go.Lib in
theorem Tryz.slices_Contains_int(b off n c:Nat)(zs:List Int)(x:Int)(w:World)(hz:n<=zs.length)(ox:n<=9223372036854775807)(hc:∀j,j<zs.length->w.cell? ⟨b,off+j,none⟩=some (.int .i64 (zs.getD j 0))):
  Calls Tryz.prog 57 #[.slice (some ⟨b,off,none⟩) n c,.int .i64 x] w fun e w'=>e=.returned (.bool ((zs.take n).contains x))/\w'=w:=Any.slices_Contains_int tK b off n c zs x w hz ox hc
open Go.Lib in
theorem Tryz.slices_Contains_int_empty(a:Option Addr)(c:Nat)(x:Int)(w:World):
  Calls Tryz.prog 57 #[.slice a 0 c,.int .i64 x] w fun e w'=>e=.returned (.bool false)/\w'=w:=Any.slices_Contains_int_empty tK a c x w
end Go.Proofs
namespace Go.Proofs.YtiijebameffenaaGreat
open Go.RowKit
theorem qG:(Tryz.prog.info? 78).map (·.size)=some 2:=by kernel_rfl
theorem wu:liesAt Tryz.prog Tryz.prog.depth 78 (2 / Tryz.prog.cellsOf 78) 0 78 1=true:=by kernel_rfl
theorem ziX(b:Nat)(w:World)(h0:w.cell? ⟨b,0,none⟩=some (.pointer (some ⟨b,0,none⟩))):
  Calls Tryz.prog 66 #[.pointer (some ⟨b,0,none⟩)] w fun e w'=>e=.returned (.tuple #[])/\w=w':=by
 obtain⟨j,hj,_⟩:=Option.map_eq_some_iff.1 qG;go_enter Tryz.func66,Tryz.ntmps66;go_wp2;rw[Lib.run_neq_ptr_same w _ Tryz.underlying75 hj];go_wp2;go_end0;exact⟨rfl,rfl⟩
theorem zhS(b:Nat)(w:World)(h0:w.cell? ⟨b,0,none⟩=some (.pointer none))(TO:w.shape? b=some (78,2))(Yy:w.frozen? ⟨b,0,none⟩=false):
  Calls Tryz.prog 66 #[.pointer (some ⟨b,0,none⟩)] w fun e w'=>e=.returned (.tuple #[])/\w'=w.setCell ⟨b,0,none⟩ (.pointer (some ⟨b,0,none⟩)):=by
 obtain⟨j,hj,Dz⟩:=Option.map_eq_some_iff.1 qG;go_enter Tryz.func66,Tryz.ntmps66;go_wp2;rw[Lib.run_to_unsafe w ⟨b,0,none⟩ Tryz.underlying75 Tryz.underlying115 hj (by rw[Dz];decide) TO (Nat.zero_lt_succ 1)];simp only[Result.andThen];rw[Oper.upon_value];go_wp2;rw[run_callFunc_extern Tryz.func80 (by kernel_rfl) (by kernel_rfl) (by kernel_rfl) (e:=Extern.AbiNoEscape.same) (by kernel_rfl)];rw[Lib.run_noEscape];simp only[Result.andThen];rw[Oper.upon_value];go_wp2;rw[Lib.run_from_unsafe w ⟨b,0,none⟩ Tryz.underlying115 Tryz.underlying75 hj TO wu];simp only[Result.andThen];rw[Oper.upon_value];go_wp2;go_end0;exact⟨rfl,rfl⟩
def lJ(base b:Nat)(l:List Nat)(w:World):Prop:=Lib.IsBuilder 78 5 base b (ix l) w
theorem lJ.lt{base b:Nat}{l:List Nat}{w:World}(h:lJ base b l w):b<w.heap.size:=by
 rcases h with h|h <;> exact h.lt
theorem lJ.aa{base b:Nat}{l:List Nat}{w w':World}(h:lJ base b l w)(k:Below w.heap.size w w'):lJ base b l w':=by
 have hl:=h.lt;rcases h with ⟨h1,v,h2,h3,h4⟩|⟨h1,v,h2,h3,h4⟩
 ·exact Or.inl ⟨h1,v,(k.block b hl).trans h2,dp h3 k,h4⟩
 exact Or.inr ⟨h1,v,(k.block b hl).trans h2,dp h3 k,h4⟩
theorem lJ.new(w:World):lJ w.heap.size w.heap.size [] (w.alloc (.cells #[.pointer none,.slice none 0 0] 78)):=Lib.fresh_isBuilder _ _ w
theorem ziY(base b:Nat)(l:List Nat)(w:World)(h:lJ base b l w):
  Calls Tryz.prog 66 #[.pointer (some ⟨b,0,none⟩)] w fun e w'=>e=.returned (.tuple #[])/\Lib.BuilderAt 78 5 base b (.pointer (some ⟨b,0,none⟩)) (ix l) w'/\Below base w w'/\Lib.OthersKept 5 (some b) w w':=by
 rcases h with h|h
 ·refine (zhS b w h.cell0 h.shape h.frozen0).mono ?_;rintro e w' ⟨rfl,rfl⟩;exact⟨rfl,h.used _,(Below.refl base w).setCell (p:=⟨b,0,none⟩) h.1 _,(Lib.OthersKept.refl _ _ w).setCell ⟨b,0,none⟩ rfl _⟩
 refine (ziX b w h.cell0).mono ?_;rintro e w' ⟨rfl,rfl⟩;exact⟨rfl,h,Below.refl base _,Lib.OthersKept.refl _ _ _⟩
theorem zf4(l:List Nat)(hl:∀n∈l,n<256):Lib.strCells (strOf l)=ix l:=by
 unfold Lib.strCells ix;rw[Bo,List.map_map];refine List.map_congr_left fun n hn=>?_
 simp[Nat.mod_eq_of_lt (hl n hn)]
theorem zhT(base b:Nat)(l m:List Nat)(w:World)(h:lJ base b l w)(hm:∀n∈m,n<256)(hlen:l.length+m.length<=140737488355328)(ju:base<=w.heap.size):
  Calls Tryz.prog 46 #[.pointer (some ⟨b,0,none⟩),.string (strOf m)] w fun e w'=>e=.returned (.tuple #[.int .i64 (m.length:Int),.nilIface])/\lJ base b (l++m) w'/\Below base w w'/\Lib.OthersKept 5 (some b) w w':=by
 obtain⟨i0,hi,dD,db,cW⟩:=info_parts jB;have da:(strOf m).size=m.length:=z8 m;have TX:=zf4 m hm;obtain⟨s,rfl⟩:∃s,s=strOf m:=⟨_,rfl⟩
 have UF:=hid da;have TT:=hid TX;have Gf:(ix l).length+(strOf m).size<=140737488355328:=by rw[da,zhX];exact hlen
 clear da TX;generalize strOf m=s at UF TT Gf⊢;go_enter Tryz.func46,Tryz.ntmps46;go_wp2_with (go_at_call 66;refine (ziY base b l _ h).mono ?_);rintro e w1 ⟨rfl,h1,fw,ok1⟩;obtain⟨hB,v,nZ,aX,hne⟩:=h1;have c0:w1.cell? ⟨b,0,none⟩=some (.pointer (some ⟨b,0,none⟩)):=by rw[Lib.cell_of_heap nZ];rfl
 have c1:w1.cell? ⟨b,1,none⟩=some v:=by rw[Lib.cell_of_heap nZ];rfl
 go_wp2_with (at_builtin;refine Lib.wpList_append_own_string _ rfl _ _ 76 9 rfl base 5 i0 Tryz.underlying76 Tryz.underlying9 hi dD db cW _ _ _ rfl aX s rfl ?c3 ?c4 ?c5 ?_)
 case c3=>unfold maxLen;omega
 case c4=>omega
 case c5=>have:=fw.size;omega
 intro v' w2 AF de _;have aw:b<w1.heap.size:=by
  rcases Nat.lt_or_ge b w1.heap.size with h'|h'
  ·exact h'
  simp[Array.getElem?_eq_none h'] at nZ
 have cv:w2.heap[b]?=some (.cells #[.pointer (some ⟨b,0,none⟩),v] 78 (0,0)):=by
  rw[de.block b aw (fun e=>hne e.symm)];exact nZ
 have d0:w2.cell? ⟨b,0,none⟩=some (.pointer (some ⟨b,0,none⟩)):=by rw[Lib.cell_of_heap cv];rfl
 have d1:w2.cell? ⟨b,1,none⟩=some v:=by rw[Lib.cell_of_heap cv];rfl
 have f1:w2.frozen? ⟨b,1,none⟩=false:=Lib.frozen_of_heap cv 1;obtain⟨ao,n',cap,rfl⟩:∃ao n' cap,v'=.slice ao n' cap:=by
  rcases AF.2 with ⟨hv,_⟩|⟨g,cap,cur,hv,_⟩
  ·exact⟨_,_,_,hv⟩
  exact⟨_,_,_,hv⟩
 go_wp2;go_ret2;have hu:ix (l++m)=ix l++Lib.strCells s:=by rw[TT.out];simp[ix]
 refine⟨by first|rfl|(rw[UF.out];rfl),Or.inr ?_,?_,?_⟩
 ·rw[hu];exact Lib.BuilderAt.put (T:=78) (e:=5) hB cv (bs':=ix l++Lib.strCells s) (by simpa [Lib.strCells_length] using AF) (by decide)
 ·exact (fw.grown de (by have:=fw.size;omega) (fun k hk=>(aX.lt k hk).1)).setCell (p:=⟨b,1,none⟩) hB _
 exact (ok1.grown de (Lib.ownsRow_kind aX)).setCell ⟨b,1,none⟩ rfl _
theorem ZU(l:List Nat)(hl:∀n∈l,n<256):ix l=Lib.byteCells (l.map UInt8.ofNat):=by
 unfold Lib.byteCells ix;rw[List.map_map];refine List.map_congr_left fun n hn=>?_
 simp[Nat.mod_eq_of_lt (hl n hn)]
theorem zk8(base b:Nat)(l:List Nat)(w:World)(h:lJ base b l w)(hl:∀n∈l,n<256)(ju:base<=w.heap.size):
  Calls Tryz.prog 47 #[.pointer (some ⟨b,0,none⟩)] w fun e w'=>e=.returned (.string (strOf l))/\Below base w w':=by
 unfold lJ at h;rw[ZU l hl] at h;refine (Tryz.Builder_String_any base b _ w h ju).mono ?_;rintro e w' ⟨rfl,hb⟩;exact⟨by rw[show (⟨(l.map UInt8.ofNat).toArray⟩:ByteArray)=strOf l from Ly (by rw[Bo])],hb⟩
end Go.Proofs.YtiijebameffenaaGreat
