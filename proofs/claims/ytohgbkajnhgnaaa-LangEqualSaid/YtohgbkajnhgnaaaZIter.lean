import Derived.Test.YtohgbkajnhgnaaaProg
/-! No iterators at this seat: what the texts want of them. -/
namespace Go.Shelf
end Go.Shelf
namespace Go.Proofs.Ytohgbkajnhgnaaa
/-- The number of a value. -/
def intOf : Value → Int | .int _ q => q | _ => 0
end Go.Proofs.Ytohgbkajnhgnaaa
