import Derived.Test.YtjehgdjlncofeaaGreatZRxText
set_option linter.unusedVariables false
set_option linter.unusedSimpArgs false
set_option maxHeartbeats 2000000
set_option maxRecDepth 100000
open Go.Lib (hid)
namespace Go.Proofs.YtjehgdjlncofeaaGreat
open Go.RowKit
theorem zb2 (c:Nat) (h:c≠32) (h1:c≠9) (h2:c≠10) (h3:c≠13):classT c=if isDig c then 2 else if isWord c || c == 95 then 3 else if 32<c/\c<127 then 4 else 0:=by
 unfold classT
 rw[if_neg (by simp[isSpc,h,h1,h2,h3])]
theorem zif (c:Nat) (h:48<=c) (h':c<=57):classT c=2:=by
 rw[zb2 c (by omega) (by omega) (by omega) (by omega),if_pos (by simp[isDig,h,h'])]
theorem zig (c:Nat) (h:65<=c) (h':c<=90):classT c=3:=by
 rw[zb2 c (by omega) (by omega) (by omega) (by omega),if_neg (by simp[isDig];omega),if_pos (by simp[isWord,isDig];omega)]
theorem zih (c:Nat) (h:97<=c) (h':c<=122):classT c=3:=by
 rw[zb2 c (by omega) (by omega) (by omega) (by omega),if_neg (by simp[isDig];omega),if_pos (by simp[isWord,isDig];omega)]
theorem zgy (c:Nat) (h:32<c) (h':c<127) (h1:c<48\/57<c) (h2:c<65\/90<c) (h3:c<97\/122<c) (h4:c≠95):classT c=4:=by
 rw[zb2 c (by omega) (by omega) (by omega) (by omega),if_neg (by simp[isDig];omega),if_neg (by simp[isWord,isDig];omega),if_pos ⟨h,h'⟩]
theorem zgz (c:Nat) (h:c<32\/126<c) (h1:c≠9) (h2:c≠10) (h3:c≠13):classT c=0:=by
 rw[zb2 c (by omega) (by omega) (by omega) (by omega),if_neg (by simp[isDig];omega),if_neg (by simp[isWord,isDig];omega),if_neg (by omega)]
theorem zcz (c:Nat) (hc:c<256) (w:World):
  Calls Tryz.prog 107 #[.int .u8 c] w fun e w'=>e=.returned (.int .i64 ((classT c:Nat):Int))/\w=w':=by
 have hk:(c=32\/c=9\/c=10\/c=13)\/(48<=c/\c<=57)\/(65<=c/\c<=90)\/c=95\/(97<=c/\c<=122)\/((32<c/\c<127)/\(c<48\/57<c)/\(c<65\/90<c)/\(c<97\/122<c)/\c≠95)\/((c<32\/126<c)/\c≠9/\c≠10/\c≠13):=by omega
 rcases hk with h|⟨h,h'⟩|⟨h,h'⟩|h|⟨h,h'⟩|⟨⟨h,h'⟩,h1,h2,h3,h4⟩|⟨h,h1,h2,h3⟩
 ·rcases h with h|h|h|h <;> subst h
  all_goals
   go_enter Tryz.func107,Tryz.ntmps107
   go_wp2_with fail
   go_ret
   exact⟨rfl,rfl⟩
 ·have HC:=hid (zif c h h')
  have e1:((c:Int) == 32)=false:=by simp;omega
  have e2:((c:Int) == 9)=false:=by simp;omega
  have e3:((c:Int) == 10)=false:=by simp;omega
  have e4:((c:Int) == 13)=false:=by simp;omega
  go_enter Tryz.func107,Tryz.ntmps107
  go_wp2_with fail
  go_ret
  exact⟨by rw[HC.out];rfl,rfl⟩
 ·have HC:=hid (zig c h h')
  have e1:((c:Int) == 32)=false:=by simp;omega
  have e2:((c:Int) == 9)=false:=by simp;omega
  have e3:((c:Int) == 10)=false:=by simp;omega
  have e4:((c:Int) == 13)=false:=by simp;omega
  go_enter Tryz.func107,Tryz.ntmps107
  go_wp2_with fail
  go_ret
  exact⟨by rw[HC.out];rfl,rfl⟩
 ·subst h
  go_enter Tryz.func107,Tryz.ntmps107
  go_wp2_with fail
  go_ret
  exact⟨rfl,rfl⟩
 ·have HC:=hid (zih c h h')
  have e1:((c:Int) == 32)=false:=by simp;omega
  have e2:((c:Int) == 9)=false:=by simp;omega
  have e3:((c:Int) == 10)=false:=by simp;omega
  have e4:((c:Int) == 13)=false:=by simp;omega
  go_enter Tryz.func107,Tryz.ntmps107
  go_wp2_with fail
  go_ret
  exact⟨by rw[HC.out];rfl,rfl⟩
 ·have HC:=hid (zgy c h h' h1 h2 h3 h4)
  have e1:((c:Int) == 32)=false:=by simp;omega
  have e2:((c:Int) == 9)=false:=by simp;omega
  have e3:((c:Int) == 10)=false:=by simp;omega
  have e4:((c:Int) == 13)=false:=by simp;omega
  have e5:((c:Int) == 95)=false:=by simp;omega
  have HP:Hid (isPrint c=true):=by show _=_;unfold isPrint;simp;omega
  clear h4
  rcases h1 with h1|h1 <;> rcases h2 with h2|h2 <;> rcases h3 with h3|h3
  all_goals first
   | (exfalso;omega)
   | (
    go_enter Tryz.func107,Tryz.ntmps107
    go_wp2_with fail
    refine (zb4 c _).mono ?_
    rintro e w1 ⟨rfl,rfl⟩
    rw[HP.out]
    go_wp2_with fail
    go_ret
    exact⟨by rw[HC.out];rfl,rfl⟩)
 ·have HC:=hid (zgz c h h1 h2 h3)
  have e1:((c:Int) == 32)=false:=by simp;omega
  have e2:((c:Int) == 9)=false:=by simp;omega
  have e3:((c:Int) == 10)=false:=by simp;omega
  have e4:((c:Int) == 13)=false:=by simp;omega
  have e5:((c:Int) == 95)=false:=by simp;omega
  have HP:Hid (isPrint c=false):=by show _=_;unfold isPrint;simp;omega
  clear h1 h2 h3
  rcases h with h|h
  all_goals
   go_enter Tryz.func107,Tryz.ntmps107
   go_wp2_with fail
   refine (zb4 c _).mono ?_
   rintro e w1 ⟨rfl,rfl⟩
   rw[HP.out]
   go_wp2_with fail
   go_ret
   exact⟨by rw[HC.out];rfl,rfl⟩
theorem zlg (s:ByteArray) (w:World) (hs:s.size<=maxLen):
  Calls Tryz.prog 74 #[.string s] w fun e w'=>e=.returned (.bool (nameT s))/\w=w':=by
 unfold maxLen at hs
 have HT:Hid (nameT s=(nameUp s s.size && decide (1<=s.size) && decide (s.size<=40))):=rfl
 rcases (by omega:s.size=0\/(1<=s.size/\s.size<=40)\/(1<=s.size/\40<s.size)) with h|⟨h,h'⟩|⟨h,h'⟩
 ·have hl:s.toList=[]:=by rw[ByteArray.toList_eq];exact List.eq_nil_of_length_eq_zero (by simpa using h)
  have hl2:(!s.toList.isEmpty)=false:=by rw[hl];rfl
  have HK:Hid (nameT s=false):=by show _=_;rw[HT.out,h];simp
  clear h
  go_enter Tryz.func74,Tryz.ntmps74
  go_wp2_with fail
  go_ret
  exact⟨by rw[HK.out];rfl,rfl⟩
 ·have hl:s.toList.isEmpty=false:=zbm s (by omega)
  have hl2:(!s.toList.isEmpty)=true:=by rw[hl];rfl
  have h0:0<s.size:=h
  have hb:=UInt8.toNat_lt s[0]
  have HN:=hid (zdp s 0 h)
  have HS:=hid (fun h=>zdq s 1 s.size (by omega) h)
  have HA:Hid (nameAt 0 s[0].toNat=(classT s[0].toNat == 3 || (classT s[0].toNat == 2 && decide (0≠0)))):=rfl
  go_enter Tryz.func74,Tryz.ntmps74
  go_wp2_with fail
  refine (zcz s[0].toNat hb _).mono ?_
  rintro e w1 ⟨rfl,rfl⟩
  obtain⟨q,HQ0⟩:∃q,q=classT s[0].toNat:=⟨_,rfl⟩
  rw[<-HQ0] at HA⊢
  have HQ:=hid HQ0
  clear HQ0
  by_cases hq:q=3
  ·subst hq
   go_wp2_with fail
   go_loop [20] (fun i=>∃k:Nat,k<=s.size/\i=.int .i64 k/\Hid (nameUp s k=true)) (fun i=>s.size-(intOf i).toNat)
   case atStart=>exact⟨0,Nat.zero_le _,rfl,by simp[Hid,nameUp]⟩
   case round=>
    clear HN HS
    obtain⟨k,hk,rfl,HF⟩:=hrel
    by_cases hlt:k<s.size
    ·have HN:=hid (zdp s k hlt)
     have HS:=hid (fun h=>zdq s (k+1) s.size hlt h)
     have HB:Hid (nameAt k s[k].toNat=(classT s[k].toNat == 3 || (classT s[k].toNat == 2 && decide (k≠0)))):=rfl
     have hb:=UInt8.toNat_lt s[k]
     go_wp2_with fail
     refine (zcz s[k].toNat hb _).mono ?_
     rintro e w1 ⟨rfl,rfl⟩
     have HZ:Hid (k=0->classT s[k].toNat=3):=by
      show _->_
      intro e
      subst e
      exact HQ.out.symm
     generalize classT s[k].toNat=r at HB HZ⊢
     rcases (by omega:r=3\/r=2\/(r≠3/\r≠2)) with h|h|⟨h,h'⟩
     ·subst h
      have HK:Hid (nameUp s (k+1)=true):=by show _=_;rw[HN.out,HF.out,HB.out];rfl
      clear HN HS HB
      go_wp2_with fail
      go_round
      case rel=>exact⟨k+1,by omega,by go_num,HK⟩
      case measure=>simp[intOf];omega
     ·subst h
      have hk0:k≠0:=fun e=>by have:=HZ.out e;omega
      have HK:Hid (nameUp s (k+1)=true):=by show _=_;rw[HN.out,HF.out,HB.out];simp;omega
      clear HN HS HB hk0
      go_wp2_with fail
      go_round
      case rel=>exact⟨k+1,by omega,by go_num,HK⟩
      case measure=>simp[intOf];omega
     ·have HK:Hid (nameT s=false):=by show _=_;rw[HT.out,HS.out (by rw[HN.out,HF.out,HB.out];simp[h,h'])];rfl
      have e3:((r:Int) != 3)=true:=by simp;omega
      have e2:((r:Int) != 2)=true:=by simp;omega
      clear HN HS HB h h'
      go_wp2_with fail
      go_ret
      exact⟨by rw[HK.out];rfl,rfl⟩
    ·obtain rfl:k=s.size:=by omega
     have HK:Hid (nameT s=true):=by show _=_;rw[HT.out,HF.out];simp[h];omega
     go_wp2_with fail
     go_ret
     exact⟨by rw[HK.out];rfl,rfl⟩
  ·have HK:Hid (nameT s=false):=by show _=_;rw[HT.out,HS.out (by rw[HN.out,HA.out];simp[hq])];rfl
   have e3:((q:Int) != 3)=true:=by simp;omega
   clear HN HS HA hq
   go_wp2_with fail
   go_ret
   exact⟨by rw[HK.out];rfl,rfl⟩
 ·have hl:s.toList.isEmpty=false:=zbm s (by omega)
  have hl2:(!s.toList.isEmpty)=true:=by rw[hl];rfl
  have HK:Hid (nameT s=false):=by show _=_;rw[HT.out];simp;omega
  go_enter Tryz.func74,Tryz.ntmps74
  go_wp2_with fail
  go_ret
  exact⟨by rw[HK.out];rfl,rfl⟩
theorem zgA:∀c,c<256->(isWord c=(classT c == 2 || (classT c == 3 && c != 95))):=by decide +kernel
theorem zfB (c:Nat) (hc:c<256) (w:World):
  Calls Tryz.prog 197 #[.int .u8 c] w fun e w'=>e=.returned (.bool (isWord c))/\w=w':=by
 have HW:=hid (zgA c hc)
 rcases (by omega:c=95\/c≠95) with h|h
 ·subst h
  go_enter Tryz.func197,Tryz.ntmps197
  go_wp2_with fail
  refine (zcz 95 (by decide) _).mono ?_
  rintro e w1 ⟨rfl,rfl⟩
  have h3:classT 95=3:=rfl
  rw[h3]
  clear h3
  go_wp2_with fail
  go_ret
  exact⟨rfl,rfl⟩
 ·have e1:((c:Int) != 95)=true:=by simp;omega
  have e2:(c != 95)=true:=by simpa using h
  have H2:=hid e2
  clear h e2
  go_enter Tryz.func197,Tryz.ntmps197
  go_wp2_with fail
  refine (zcz c hc _).mono ?_
  rintro e w1 ⟨rfl,rfl⟩
  generalize classT c=q at HW⊢
  rcases (by omega:q=2\/q=3\/(q≠2/\q≠3)) with h|h|⟨h,h'⟩
  ·subst h
   go_wp2_with fail
   go_ret
   exact⟨by rw[HW.out];rfl,rfl⟩
  ·subst h
   go_wp2_with fail
   go_ret
   exact⟨by rw[HW.out,H2.out];rfl,rfl⟩
  ·have HK:Hid (isWord c=false):=by show _=_;rw[HW.out];simp[h,h']
   have e2:((q:Int) == 2)=false:=by simp;omega
   have e3:((q:Int) == 3)=false:=by simp;omega
   clear h h' HW
   go_wp2_with fail
   go_ret
   exact⟨by rw[HK.out];rfl,rfl⟩
def hxI (c:Nat):Int:=if hv c<16 then ((hv c:Nat):Int) else -1
theorem znj:∀c,c<256->Lib.indexByte (⟨#[48,49,50,51,52,53,54,55,56,57,97,98,99,100,101,102]⟩:ByteArray).data.toList c.toUInt8=hxI c:=by decide +kernel
theorem zjy (c:Nat) (hc:c<256) (w:World):
  Calls Tryz.prog 163 #[.string ⟨#[48,49,50,51,52,53,54,55,56,57,97,98,99,100,101,102]⟩,.int .u8 c] w fun e w'=>e=.returned (.int .i64 (hxI c))/\w'=w:=by
 refine (Tryz.strings_IndexByte _ c w).mono ?_
 rintro e w' ⟨rfl,rfl⟩
 exact⟨by rw[<-znj c hc];rfl,rfl⟩
theorem zlh (b:UInt8) (w:World):
  Calls Tryz.prog 163 #[.string ⟨#[48,49,50,51,52,53,54,55,56,57,97,98,99,100,101,102]⟩,.int .u8 b.toNat] w fun e w'=>e=.returned (.int .i64 (hxI b.toNat))/\w'=w:=zjy b.toNat (UInt8.toNat_lt b) w
theorem zjz (c:Nat) (h:hv c<16):hxI c=((hv c:Nat):Int):=by unfold hxI;rw[if_pos h]
theorem zmq (c:Nat) (h:¬hv c<16):hxI c=-1:=by unfold hxI;rw[if_neg h]
theorem zjA (l:List Nat) (h:l.length<2):rdX l=rdNo:=by
 match l,h with
 | [],_=>rfl
 | [_],_=>rfl
theorem zli (s:ByteArray) (h:4<=s.size):(numsOf s).drop 2=s[2].toNat :: s[3].toNat :: (numsOf s).drop 4:=by
 rw[zdK s 2 (by omega),zdK s 3 (by omega)]
theorem zn6:∀a:Nat,a<16->∀b:Nat,b<16->bits .or .i64 ((a:Int)*16) (b:Int)=((16*a+b:Nat):Int):=by decide +kernel
theorem zcm (w:World) (n:Nat):Below w.heap.size w (w.drewN n):=⟨rfl,rfl,rfl,Nat.le_refl _,fun _ _=>rfl⟩
theorem znk (s:ByteArray) (hs:s.size<=maxLen) (w:World):
  Calls Tryz.prog 196 #[.string s] w fun e w'=>e=.returned (rdV (rdX ((numsOf s).drop 2)))/\Below w.heap.size w w':=by
 unfold maxLen at hs
 by_cases h4:4<=s.size
 ·have HN:=hid (zli s h4)
  have g2:(2:Int)<(s.size:Int):=by omega
  have g3:(3:Int)<(s.size:Int):=by omega
  go_enter Tryz.func196,Tryz.ntmps196
  go_wp2_with fail
  go_quiet ((go_at_call 163;exact Calls.quiet_of_same (zlh _ _)))
  have HR:Hid (rdX (s[2].toNat :: s[3].toNat :: (numsOf s).drop 4)=if hv s[2].toNat<16/\hv s[3].toNat<16 then (16*hv s[2].toNat+hv s[3].toNat,4,true) else rdNo):=rfl
  have Y2:=zjz s[2].toNat
  have Y3:=zjz s[3].toNat
  have N2:=zmq s[2].toNat
  have N3:=zmq s[3].toNat
  generalize hv s[2].toNat=x at HR Y2 N2
  generalize hv s[3].toNat=y at HR Y3 N3
  generalize hxI s[2].toNat=p at Y2 N2⊢
  generalize hxI s[3].toNat=q at Y3 N3⊢
  by_cases hx:x<16
  ·by_cases hy:y<16
   ·obtain rfl:=Y2 hx
    obtain rfl:=Y3 hy
    have HZ:Hid (rdV (rdX ((numsOf s).drop 2))=.tuple #[.int .u8 ((16*x+y:Nat):Int),.int .i64 4,.bool true]):=by
     show _=_
     rw[HN.out,HR.out,if_pos ⟨hx,hy⟩];rfl
    have HO:=zn6 x hx y hy
    clear Y2 Y3 N2 N3 HR
    go_wp2_with fail
    go_ret3
    exact⟨by rw[HZ.out];rfl,zcm _ _⟩
   ·obtain rfl:=Y2 hx
    obtain rfl:=N3 hy
    have HZ:Hid (rdV (rdX ((numsOf s).drop 2))=.tuple #[.int .u8 0,.int .i64 0,.bool false]):=by
     show _=_
     rw[HN.out,HR.out,if_neg (fun h=>hy h.2)];rfl
    clear Y2 Y3 N2 N3 HR
    go_wp2_with fail
    go_ret3
    exact⟨by rw[HZ.out];rfl,zcm _ _⟩
  ·obtain rfl:=N2 hx
   have HZ:Hid (rdV (rdX ((numsOf s).drop 2))=.tuple #[.int .u8 0,.int .i64 0,.bool false]):=by
    show _=_
    rw[HN.out,HR.out,if_neg (fun h=>hx h.1)];rfl
   clear Y2 Y3 N2 N3 HR
   go_wp2_with fail
   go_ret3
   exact⟨by rw[HZ.out];rfl,zcm _ _⟩
 ·have HX:Hid (rdV (rdX ((numsOf s).drop 2))=.tuple #[.int .u8 0,.int .i64 0,.bool false]):=by
   show _=_
   rw[zjA _ (by rw[List.length_drop,zaA];omega)];rfl
  go_enter Tryz.func196,Tryz.ntmps196
  go_wp2_with fail
  go_ret3
  exact⟨by rw[HX.out];rfl,Below.refl _ _⟩
theorem zjB (s:ByteArray) (h:s.size=0):numsOf s=[]:=List.eq_nil_of_length_eq_zero (by rw[zaA];exact h)
theorem zfC (s:ByteArray) (h:0<s.size):numsOf s=s[0].toNat :: (numsOf s).drop 1:=zdK s 0 h
theorem zjC (c:Nat) (t:List Nat):rd (c :: t)=if c=92 then rdB t else (c,1,true):=rfl
theorem zlj (s:ByteArray) (h:0<s.size) (h0:s[0].toNat≠92):rd (numsOf s)=(s[0].toNat,1,true):=
 (congrArg rd (zfC s h)).trans ((zjC _ _).trans (if_neg h0))
theorem znl (s:ByteArray) (h:0<s.size) (h0:s[0].toNat=92):rd (numsOf s)=rdB ((numsOf s).drop 1):=
 (congrArg rd (zfC s h)).trans ((zjC _ _).trans (if_pos h0))
theorem zn7 (s:ByteArray) (h:1<s.size):rdB ((numsOf s).drop 1)=if s[1].toNat=110 then (10,2,true) else if s[1].toNat=116 then (9,2,true) else if s[1].toNat=114 then (13,2,true) else if s[1].toNat=120 then rdX ((numsOf s).drop 2)
   else if isPrint s[1].toNat && !isWord s[1].toNat then (s[1].toNat,2,true) else rdNo:=by
 rw[zdK s 1 h];rfl
theorem zcA (s:ByteArray) (hs:s.size<=maxLen) (w:World):
  Calls Tryz.prog 187 #[.string s] w fun e w'=>e=.returned (rdV (rd (numsOf s)))/\Below w.heap.size w w':=by
 have HS:=hid hs
 unfold maxLen at hs
 rcases Nat.eq_zero_or_pos s.size with hz|hp
 ·have hl:s.toList=[]:=by rw[ByteArray.toList_eq];exact List.eq_nil_of_length_eq_zero (by simpa using hz)
  have hl2:(!s.toList.isEmpty)=false:=by rw[hl];rfl
  have HZ:Hid (rdV (rd (numsOf s))=.tuple #[.int .u8 0,.int .i64 0,.bool false]):=by show _=_;rw[zjB s hz];rfl
  clear hz
  go_enter Tryz.func187,Tryz.ntmps187
  go_wp2_with fail
  go_ret3
  exact⟨by rw[HZ.out];rfl,Below.refl _ _⟩
 ·have hl:s.toList.isEmpty=false:=zbm s hp
  have hl2:(!s.toList.isEmpty)=true:=by rw[hl];rfl
  by_cases h0:s[0].toNat=92
  ·have e0:((s[0].toNat:Int) != 92)=false:=by simp;omega
   have HB:=hid (znl s hp h0)
   clear h0
   by_cases h1:s.size=1
   ·have e1:((s.size:Int) == 1)=true:=by simp;omega
    have HZ:Hid (rdV (rd (numsOf s))=.tuple #[.int .u8 0,.int .i64 0,.bool false]):=by
     show _=_
     rw[HB.out,zlN s 1 (by omega)];rfl
    clear h1
    go_enter Tryz.func187,Tryz.ntmps187
    go_wp2_with fail
    go_ret3
    exact⟨by rw[HZ.out];rfl,Below.refl _ _⟩
   ·have e1:((s.size:Int) == 1)=false:=by simp;omega
    have g1:1<s.size:=by omega
    have HT:=hid (zn7 s g1)
    have hc:=UInt8.toNat_lt s[1]
    clear h1
    rcases (by omega:s[1].toNat=110\/s[1].toNat=116\/s[1].toNat=114\/s[1].toNat=120\/(s[1].toNat≠110/\s[1].toNat≠116/\s[1].toNat≠114/\s[1].toNat≠120)) with h|h|h|h|⟨h,h',h'',h3⟩
    ·have HZ:Hid (rdV (rd (numsOf s))=.tuple #[.int .u8 10,.int .i64 2,.bool true]):=by
      show _=_
      rw[HB.out,HT.out,h];rfl
     have f110:((s[1].toNat:Int) == 110)=true:=by simp;omega
     clear h
     go_enter Tryz.func187,Tryz.ntmps187
     go_wp2_with fail
     go_ret3
     exact⟨by rw[HZ.out];rfl,Below.refl _ _⟩
    ·have HZ:Hid (rdV (rd (numsOf s))=.tuple #[.int .u8 9,.int .i64 2,.bool true]):=by
      show _=_
      rw[HB.out,HT.out,h];rfl
     have f110:((s[1].toNat:Int) == 110)=false:=by simp;omega
     have f116:((s[1].toNat:Int) == 116)=true:=by simp;omega
     clear h
     go_enter Tryz.func187,Tryz.ntmps187
     go_wp2_with fail
     go_ret3
     exact⟨by rw[HZ.out];rfl,Below.refl _ _⟩
    ·have HZ:Hid (rdV (rd (numsOf s))=.tuple #[.int .u8 13,.int .i64 2,.bool true]):=by
      show _=_
      rw[HB.out,HT.out,h];rfl
     have f110:((s[1].toNat:Int) == 110)=false:=by simp;omega
     have f116:((s[1].toNat:Int) == 116)=false:=by simp;omega
     have f114:((s[1].toNat:Int) == 114)=true:=by simp;omega
     clear h
     go_enter Tryz.func187,Tryz.ntmps187
     go_wp2_with fail
     go_ret3
     exact⟨by rw[HZ.out];rfl,Below.refl _ _⟩
    ·have HZ:Hid (rdV (rd (numsOf s))=rdV (rdX ((numsOf s).drop 2))):=by
      show _=_
      rw[HB.out,HT.out,h];rfl
     have f110:((s[1].toNat:Int) == 110)=false:=by simp;omega
     have f116:((s[1].toNat:Int) == 116)=false:=by simp;omega
     have f114:((s[1].toNat:Int) == 114)=false:=by simp;omega
     have f120:((s[1].toNat:Int) == 120)=true:=by simp;omega
     have HV:Hid (∀r,rdV r=.tuple #[.int .u8 (r.1:Int),.int .i64 (r.2.1:Int),.bool r.2.2]):=fun _=>rfl
     clear h
     go_enter Tryz.func187,Tryz.ntmps187
     go_wp2_with fail
     refine (znk s HS.out _).mono ?_
     rintro e w1 ⟨rfl,b1⟩
     rw[HV.out]
     go_wp2_with fail
     go_ret3
     exact⟨by rw[HZ.out,HV.out];rfl,b1⟩
    ·have HR:Hid (rd (numsOf s)=if isPrint s[1].toNat && !isWord s[1].toNat then (s[1].toNat,2,true) else rdNo):=by
      show _=_
      rw[HB.out,HT.out,if_neg h,if_neg h',if_neg h'',if_neg h3]
     have f110:((s[1].toNat:Int) == 110)=false:=by simp;omega
     have f116:((s[1].toNat:Int) == 116)=false:=by simp;omega
     have f114:((s[1].toNat:Int) == 114)=false:=by simp;omega
     have f120:((s[1].toNat:Int) == 120)=false:=by simp;omega
     clear h h' h'' h3
     rcases hp:isPrint s[1].toNat with _|_
     ·have HP:=hid hp
      have HZ:Hid (rdV (rd (numsOf s))=.tuple #[.int .u8 0,.int .i64 0,.bool false]):=by show _=_;rw[HR.out,hp];rfl
      clear hp
      go_enter Tryz.func187,Tryz.ntmps187
      go_wp2_with fail
      refine (zb4 s[1].toNat _).mono ?_
      rintro e w1 ⟨rfl,rfl⟩
      rw[HP.out]
      go_wp2_with fail
      go_ret3
      exact⟨by rw[HZ.out];rfl,Below.refl _ _⟩
     ·rcases hw:isWord s[1].toNat with _|_
      ·have HP:=hid hp
       have HW:=hid hw
       have HZ:Hid (rdV (rd (numsOf s))=.tuple #[.int .u8 ((s[1].toNat:Nat):Int),.int .i64 2,.bool true]):=by show _=_;rw[HR.out,hp,hw];rfl
       clear hp hw
       go_enter Tryz.func187,Tryz.ntmps187
       go_wp2_with fail
       refine (zb4 s[1].toNat _).mono ?_
       rintro e w1 ⟨rfl,rfl⟩
       rw[HP.out]
       go_wp2_with fail
       refine (zfB s[1].toNat hc _).mono ?_
       rintro e w1 ⟨rfl,rfl⟩
       rw[HW.out]
       go_wp2_with fail
       go_ret3
       exact⟨by rw[HZ.out];rfl,Below.refl _ _⟩
      ·have HP:=hid hp
       have HW:=hid hw
       have HZ:Hid (rdV (rd (numsOf s))=.tuple #[.int .u8 0,.int .i64 0,.bool false]):=by show _=_;rw[HR.out,hp,hw];rfl
       clear hp hw
       go_enter Tryz.func187,Tryz.ntmps187
       go_wp2_with fail
       refine (zb4 s[1].toNat _).mono ?_
       rintro e w1 ⟨rfl,rfl⟩
       rw[HP.out]
       go_wp2_with fail
       refine (zfB s[1].toNat hc _).mono ?_
       rintro e w1 ⟨rfl,rfl⟩
       rw[HW.out]
       go_wp2_with fail
       go_ret3
       exact⟨by rw[HZ.out];rfl,Below.refl _ _⟩
  ·have e0:((s[0].toNat:Int) != 92)=true:=by simp;omega
   have HZ:Hid (rdV (rd (numsOf s))=.tuple #[.int .u8 ((s[0].toNat:Nat):Int),.int .i64 1,.bool true]):=by show _=_;rw[zlj s hp h0];rfl
   clear h0
   go_enter Tryz.func187,Tryz.ntmps187
   go_wp2_with fail
   go_ret3
   exact⟨by rw[HZ.out];rfl,Below.refl _ _⟩
end Go.Proofs.YtjehgdjlncofeaaGreat
