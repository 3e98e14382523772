import Derived.Lib.Hide
import Derived.Below
namespace Go.Proofs.YtiijebameffenaaGreat
theorem _root_.Go.RowKit.Hid.o{p:Prop}(h:Go.RowKit.Hid p):p:=h
theorem Ξ{α}(a:α):∃x,a=x:=⟨_,rfl⟩
abbrev ϐ(a b:World):=RowKit.Below a.heap.size a b
end Go.Proofs.YtiijebameffenaaGreat
