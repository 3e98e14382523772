import Derived.Test.YtiijebameffenaaGreatZClasses
import Derived.Ground.Names2Prog
import Derived.Laws.Externs
import Derived.Laws.IdiomCopy
import Derived.Lib.AppendStr
import Derived.Lib.Builder
import Derived.Lib.OthersKept
import Derived.Lib.Slices
import Derived.Lib.Strings
import Derived.Lib.UnsafeStr
import Derived.Shelf.Bits.Mul64
import Derived.Shelf.LaysM
import Derived.Shelf.Slices.Clone
import Derived.Shelf.Slices.Empties2
import Derived.Shelf.Slices.Equal
import Derived.Shelf.Slices.In.SortNone
import Derived.Shelf.Slices.SearchI
import Derived.Shelf.Slices.Turned
import Derived.Shelf.Small.Bits
import Derived.Shelf.Small.Strs
import Derived.Shelf.Small.Wraps
import Derived.Shelf.Sort.Plain
import Derived.Shelf.Strconv.Clone
import Derived.Shelf.Strconv.Itoa0
import Derived.Shelf.Strings.Builder1
import Derived.Shelf.Strings.BuilderCap
import Derived.Shelf.Strings.BuilderF
import Derived.Shelf.Strings.BuilderK
import Derived.Shelf.Strings.Search1
import Derived.Test.YtiijebameffenaaGreatProg
set_option linter.all false
set_option maxHeartbeats 2000000
set_option maxRecDepth 100000
open Go.Lib (hid)
namespace Go.Proofs
open Go.Shelf
def mQ:Go.Shelf.Ren:=⟨fun|169=>47|n=>n,fun|70=>75|9=>9|0=>0|72=>78|37=>76|127=>97|3=>3|5=>5|n=>n,fun|n=>n⟩
theorem Bb:Go.Proofs.Lays.n169 Tryz.prog mQ:={
 mixed:=by kernel_rfl
 f169:=Tryz.func47.trans (congrArg some (by kernel_rfl))
 t0:=Tryz.underlying0
 a0:=Tryz.isAgg0
 z0:=Tryz.sizeOf0
 v0:=Tryz.zeroValue0
 t3:=Tryz.underlying3
 a3:=Tryz.isAgg3
 z3:=Tryz.sizeOf3
 v3:=Tryz.zeroValue3
 t9:=Tryz.underlying9
 a9:=Tryz.isAgg9
 z9:=Tryz.sizeOf9
 v9:=Tryz.zeroValue9
 t37:=Tryz.underlying76
 a37:=Tryz.isAgg76
 z37:=Tryz.sizeOf76
 v37:=Tryz.zeroValue76
 t70:=Tryz.underlying75
 a70:=Tryz.isAgg75
 z70:=Tryz.sizeOf75
 v70:=Tryz.zeroValue75
 t72:=Tryz.underlying78
 a72:=Tryz.isAgg78
 z72:=Tryz.sizeOf78
 v72:=Tryz.zeroValue78
 t127:=Tryz.underlying97
 a127:=Tryz.isAgg97
 z127:=Tryz.sizeOf97
 v127:=Tryz.zeroValue97 }
theorem lE:Builder.Extra Tryz.prog mQ:={
 sizeBuilder:=by kernel_rfl
 liesBuilder:=by kernel_rfl
 t5:=Tryz.underlying5
 a5:=Tryz.isAgg5
 z5:=Tryz.sizeOf5
 v5:=Tryz.zeroValue5
 infoByte:=by kernel_rfl
 cellsByte:=by kernel_rfl
 sizeByte:=by kernel_rfl
 neB5:=by decide }
open Go.RowKit in
theorem Tryz.Builder_String_any(B b:Nat)(l:List UInt8)(w:World)(h:Lib.IsBuilder 78 5 B b (Lib.byteCells l) w)(km:B<=w.heap.size):
  Calls Tryz.prog 47 #[.pointer (some ⟨b,0,none⟩)] w fun e w'=>e=.returned (.string ⟨l.toArray⟩)/\Below B w w':=Any.Builder_String_any Bb lE B b l w h km
def rU:Go.Shelf.Ren:=⟨fun|137=>188|217=>199|266=>210|n=>n,fun|9=>9|5=>5|3=>3|n=>n,fun|n=>n⟩
theorem Bz:Go.Proofs.Lays.n137 Tryz.prog rU:={
 mixed:=by kernel_rfl
 f137:=Tryz.func188.trans (congrArg some (by kernel_rfl))
 f217:=Tryz.func199.trans (congrArg some (by kernel_rfl))
 f266:=Tryz.func210.trans (congrArg some (by kernel_rfl))
 t3:=Tryz.underlying3
 a3:=Tryz.isAgg3
 z3:=Tryz.sizeOf3
 v3:=Tryz.zeroValue3
 t5:=Tryz.underlying5
 a5:=Tryz.isAgg5
 z5:=Tryz.sizeOf5
 v5:=Tryz.zeroValue5
 t9:=Tryz.underlying9
 a9:=Tryz.isAgg9
 z9:=Tryz.sizeOf9
 v9:=Tryz.zeroValue9 }
open Go.RowKit in
theorem Tryz.strings_IndexByte(s:ByteArray)(c:Int)(w:World):
  Calls Tryz.prog 188 #[.string s,.int .u8 c] w fun e w'=>e=.returned (.int .i64 (Lib.indexByte s.data.toList c.toNat.toUInt8))/\w'=w:=Any.strings_IndexByte Bz s c w
def sN:Go.Shelf.Ren:=⟨fun|107=>57|108=>76|n=>n,fun|28=>43|3=>3|4=>4|0=>0|n=>n,fun|n=>n⟩
theorem uK:Go.Proofs.Lays.n107 Tryz.prog sN:={
 mixed:=by kernel_rfl
 f107:=Tryz.func57.trans (congrArg some (by kernel_rfl))
 f108:=Tryz.func76.trans (congrArg some (by kernel_rfl))
 t0:=Tryz.underlying0
 a0:=Tryz.isAgg0
 z0:=Tryz.sizeOf0
 v0:=Tryz.zeroValue0
 t3:=Tryz.underlying3
 a3:=Tryz.isAgg3
 z3:=Tryz.sizeOf3
 v3:=Tryz.zeroValue3
 t4:=Tryz.underlying4
 a4:=Tryz.isAgg4
 z4:=Tryz.sizeOf4
 v4:=Tryz.zeroValue4
 t28:=Tryz.underlying43
 a28:=Tryz.isAgg43
 z28:=Tryz.sizeOf43
 v28:=Tryz.zeroValue43 }
open Go.Lib in
theorem Tryz.slices_Contains_int(b off n c:Nat)(zs:List Int)(x:Int)(w:World)(hz:n<=zs.length)(iZ:n<=9223372036854775807)(hc:∀j,j<zs.length->w.cell? ⟨b,off+j,none⟩=some (.int .i64 (zs.getD j 0))):
  Calls Tryz.prog 57 #[.slice (some ⟨b,off,none⟩) n c,.int .i64 x] w fun e w'=>e=.returned (.bool ((zs.take n).contains x))/\w'=w:=Any.slices_Contains_int uK b off n c zs x w hz iZ hc
open Go.Lib in
theorem Tryz.slices_Contains_int_empty(a:Option Addr)(c:Nat)(x:Int)(w:World):
  Calls Tryz.prog 57 #[.slice a 0 c,.int .i64 x] w fun e w'=>e=.returned (.bool false)/\w'=w:=Any.slices_Contains_int_empty uK a c x w
end Go.Proofs
namespace Go.Proofs.YtiijebameffenaaGreat
open Go.RowKit
theorem sD:(Tryz.prog.info? 78).map (·.size)=some 2:=by kernel_rfl
theorem yH:liesAt Tryz.prog Tryz.prog.depth 78 (2 / Tryz.prog.cellsOf 78) 0 78 1=true:=by kernel_rfl
theorem zkE(b:Nat)(w:World)(h0:w.cell? ⟨b,0,none⟩=some (.pointer (some ⟨b,0,none⟩))):
  Calls Tryz.prog 66 #[.pointer (some ⟨b,0,none⟩)] w fun e w'=>e=.returned (.tuple #[])/\w=w':=by
 obtain⟨j,hj,_⟩:=Option.map_eq_some_iff.1 sD;go_enter Tryz.func66,Tryz.ntmps66;go_wp2;rw[Lib.run_neq_ptr_same w _ Tryz.underlying75 hj];go_wp2;go_end0;exact⟨rfl,rfl⟩
theorem zjr(b:Nat)(w:World)(h0:w.cell? ⟨b,0,none⟩=some (.pointer none))(hsh:w.shape? b=some (78,2))(hfz:w.frozen? ⟨b,0,none⟩=false):
  Calls Tryz.prog 66 #[.pointer (some ⟨b,0,none⟩)] w fun e w'=>e=.returned (.tuple #[])/\w'=w.setCell ⟨b,0,none⟩ (.pointer (some ⟨b,0,none⟩)):=by
 obtain⟨j,hj,LI⟩:=Option.map_eq_some_iff.1 sD;go_enter Tryz.func66,Tryz.ntmps66;go_wp2;rw[Lib.run_to_unsafe w ⟨b,0,none⟩ Tryz.underlying75 Tryz.underlying115 hj (by rw[LI];decide) hsh (Nat.zero_lt_succ 1)];simp only[Result.andThen];rw[Oper.upon_value];go_wp2;rw[run_callFunc_extern Tryz.func80 (by kernel_rfl) (by kernel_rfl) (by kernel_rfl) (e:=Extern.AbiNoEscape.same) (by kernel_rfl)];rw[Lib.run_noEscape];simp only[Result.andThen];rw[Oper.upon_value];go_wp2;rw[Lib.run_from_unsafe w ⟨b,0,none⟩ Tryz.underlying115 Tryz.underlying75 hj hsh yH];simp only[Result.andThen];rw[Oper.upon_value];go_wp2;go_end0;exact⟨rfl,rfl⟩
def mV(base b:Nat)(l:List Nat)(w:World):Prop:=Lib.IsBuilder 78 5 base b (jx l) w
theorem mV.lt{base b:Nat}{l:List Nat}{w:World}(h:mV base b l w):b<w.heap.size:=by
 rcases h with h|h <;> exact h.lt
theorem mV.ae{base b:Nat}{l:List Nat}{w w':World}(h:mV base b l w)(k:ϐ w w'):mV base b l w':=by
 have hl:=h.lt;rcases h with ⟨h1,v,h2,h3,h4⟩|⟨h1,v,h2,h3,h4⟩
 ·exact Or.inl ⟨h1,v,(k.block b hl).trans h2,dE h3 k,h4⟩
 exact Or.inr ⟨h1,v,(k.block b hl).trans h2,dE h3 k,h4⟩
theorem mV.new(w:World):mV w.heap.size w.heap.size [] (w.alloc (.cells #[.pointer none,.slice none 0 0] 78)):=Lib.fresh_isBuilder _ _ w
theorem zkF(base b:Nat)(l:List Nat)(w:World)(h:mV base b l w):
  Calls Tryz.prog 66 #[.pointer (some ⟨b,0,none⟩)] w fun e w'=>e=.returned (.tuple #[])/\Lib.BuilderAt 78 5 base b (.pointer (some ⟨b,0,none⟩)) (jx l) w'/\Below base w w'/\Lib.OthersKept 5 (some b) w w':=by
 rcases h with h|h
 ·refine (zjr b w h.cell0 h.shape h.frozen0).mono ?_;rintro e w' ⟨rfl,rfl⟩;exact⟨rfl,h.used _,(Below.refl base w).setCell (p:=⟨b,0,none⟩) h.1 _,(Lib.OthersKept.refl _ _ w).setCell ⟨b,0,none⟩ rfl _⟩
 refine (zkE b w h.cell0).mono ?_;rintro e w' ⟨rfl,rfl⟩;exact⟨rfl,h,Below.refl base _,Lib.OthersKept.refl _ _ _⟩
theorem zhb(l:List Nat)(hl:∀n∈l,n<256):Lib.strCells (strOf l)=jx l:=by
 unfold Lib.strCells jx;rw[xW,List.map_map];refine List.map_congr_left fun n hn=>?_
 simp[Nat.mod_eq_of_lt (hl n hn)]
theorem zjs(base b:Nat)(l m:List Nat)(w:World)(h:mV base b l w)(hm:∀n∈m,n<256)(hlen:l.length+m.length<=140737488355328)(km:base<=w.heap.size):
  Calls Tryz.prog 46 #[.pointer (some ⟨b,0,none⟩),.string (strOf m)] w fun e w'=>e=.returned (.tuple #[.int .i64 (m.length:Int),.nilIface])/\mV base b (l++m) w'/\Below base w w'/\Lib.OthersKept 5 (some b) w w':=by
 obtain⟨i0,hi,dP,dc,db⟩:=info_parts kn;have cQ:(strOf m).size=m.length:=yu m;have Ws:=zhb m hm;obtain⟨s,rfl⟩:∃s,s=strOf m:=⟨_,rfl⟩
 have XE:=hid cQ;have HSC:=hid Ws;have Ly:(jx l).length+(strOf m).size<=140737488355328:=by rw[cQ,zjw];exact hlen
 clear cQ Ws;generalize strOf m=s at XE HSC Ly⊢;go_enter Tryz.func46,Tryz.ntmps46;go_wp2_with (go_at_call 66;refine (zkF base b l _ h).mono ?_);rintro e w1 ⟨rfl,h1,fT,Bd⟩;obtain⟨hB,v,pR,az,hne⟩:=h1;have c0:w1.cell? ⟨b,0,none⟩=some (.pointer (some ⟨b,0,none⟩)):=by rw[Lib.cell_of_heap pR];rfl
 have c1:w1.cell? ⟨b,1,none⟩=some v:=by rw[Lib.cell_of_heap pR];rfl
 go_wp2_with (at_builtin;refine Lib.wpList_append_own_string _ rfl _ _ 76 9 rfl base 5 i0 Tryz.underlying76 Tryz.underlying9 hi dP dc db _ _ _ rfl az s rfl ?c3 ?c4 ?c5 ?_)
 case c3=>unfold maxLen;omega
 case c4=>omega
 case c5=>have:=fT.size;omega
 intro v' w2 Dc dG _;have aq:b<w1.heap.size:=by
  rcases Nat.lt_or_ge b w1.heap.size with h'|h'
  ·exact h'
  simp[Array.getElem?_eq_none h'] at pR
 have cH:w2.heap[b]?=some (.cells #[.pointer (some ⟨b,0,none⟩),v] 78 (0,0)):=by
  rw[dG.block b aq (fun e=>hne e.symm)];exact pR
 have d0:w2.cell? ⟨b,0,none⟩=some (.pointer (some ⟨b,0,none⟩)):=by rw[Lib.cell_of_heap cH];rfl
 have d1:w2.cell? ⟨b,1,none⟩=some v:=by rw[Lib.cell_of_heap cH];rfl
 have f1:w2.frozen? ⟨b,1,none⟩=false:=Lib.frozen_of_heap cH 1;obtain⟨ao,n',cap,rfl⟩:∃ao n' cap,v'=.slice ao n' cap:=by
  rcases Dc.2 with ⟨hv,_⟩|⟨g,cap,cur,hv,_⟩
  ·exact⟨_,_,_,hv⟩
  exact⟨_,_,_,hv⟩
 go_wp2;go_ret2;have hu:jx (l++m)=jx l++Lib.strCells s:=by rw[HSC.o];simp[jx]
 refine⟨by first|rfl|(rw[XE.o];rfl),Or.inr ?_,?_,?_⟩
 ·rw[hu];exact Lib.BuilderAt.put (T:=78) (e:=5) hB cH (bs':=jx l++Lib.strCells s) (by simpa [Lib.strCells_length] using Dc) (by decide)
 ·exact (fT.grown dG (by have:=fT.size;omega) (fun k hk=>(az.lt k hk).1)).setCell (p:=⟨b,1,none⟩) hB _
 exact (Bd.grown dG (Lib.ownsRow_kind az)).setCell ⟨b,1,none⟩ rfl _
theorem zkG(l:List Nat)(hl:∀n∈l,n<256):jx l=Lib.byteCells (l.map UInt8.ofNat):=by
 unfold Lib.byteCells jx;rw[List.map_map];refine List.map_congr_left fun n hn=>?_
 simp[Nat.mod_eq_of_lt (hl n hn)]
theorem zm4(base b:Nat)(l:List Nat)(w:World)(h:mV base b l w)(hl:∀n∈l,n<256)(km:base<=w.heap.size):
  Calls Tryz.prog 47 #[.pointer (some ⟨b,0,none⟩)] w fun e w'=>e=.returned (.string (strOf l))/\Below base w w':=by
 unfold mV at h;rw[zkG l hl] at h;refine (Tryz.Builder_String_any base b _ w h km).mono ?_;rintro e w' ⟨rfl,hb⟩;exact⟨by rw[show (⟨(l.map UInt8.ofNat).toArray⟩:ByteArray)=strOf l from D6 (by rw[xW])],hb⟩
