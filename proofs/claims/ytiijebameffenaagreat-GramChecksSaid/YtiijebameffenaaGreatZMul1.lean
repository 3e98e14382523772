import Derived.Test.YtiijebameffenaaGreatZDBase
import Derived.IntWalk
import Derived.Laws.CopyOwn
set_option linter.all false
set_option maxHeartbeats 1000000
set_option maxRecDepth 100000
open Go.Lib (hid)
namespace Go.Proofs.YtiijebameffenaaGreat
open Go.RowKit Go.Proofs.Tryz
theorem Xh(x:Nat)(h:x<18446744073709551616):IntKind.u64.wrap (x:Int)=x:=by
 simp only[IntKind.wrap,IntKind.bits,IntKind.signed];simp;omega
theorem TB(N:Nat)(hN:N<4294967296):bits .and .u64 (N:Int) 4294967295=(N:Int):=by
 have h:=u64_and_nat N 4294967295 (by omega) (by omega);have e:N &&& 4294967295=N:=by
  rw[show (4294967295:Nat)=2 ^ 32-1 from rfl,Nat.and_two_pow_sub_one_eq_mod,Nat.mod_eq_of_lt hN]
 rw[e] at h;exact h
theorem zls(N:Nat)(hN:N<=100000)(w:World):Calls prog 204 #[.int .u64 1,.int .u64 (N:Int)] w fun e w'=>e=.returned (.tuple #[.int .u64 0,.int .u64 (N:Int)])/\w=w':=by
 have h1:(N:Int) % 4294967296=(N:Int):=by omega
 have h2:(N:Int) / 4294967296=0:=by omega
 have h3:=TB N (by omega);have h4:bits .and .u64 1 4294967295=1:=TB 1 (by omega);have h5:bits .and .u64 0 4294967295=0:=TB 0 (by omega);have h6:IntKind.u64.wrap (N:Int)=N:=Xh N (by omega);have h7:IntKind.u64.wrap 0=0:=by decide
 go_in;go_wp2;go_ret2;exact⟨rfl,rfl⟩
theorem znI(N:Nat)(hN:N<=100000)(w:World):Calls prog 192 #[.int .u64 1,.int .u64 (N:Int)] w fun e w'=>e=.returned (.tuple #[.int .u64 0,.int .u64 (N:Int)])/\w=w':=by
 have HM:=hid (zls N hN w);go_in;go_wp2_with fail;refine HM.o.mono ?_;rintro e w2 ⟨rfl,rfl⟩;go_wp2;go_ret2;exact⟨rfl,rfl⟩
