/- Edges relaxed one by one: in the model. -/
import Derived.Test.YtjcfefpcilhelaaRelaxS
import Derived.Test.YtjcfefpcilhelaaLoose
namespace Go.Proofs.Ytjcfefpcilhelaa
open Go.RowKit Go.BigFrame Go.Deep
set_option linter.unusedVariables false
set_option linter.unusedSimpArgs false

theorem Wr.chg {w w' : World} {b off lo hi : Nat} {zs : List Int} (h : Wr w b off zs) (c : Chg lo hi w w') (d : b < lo ∨ hi ≤ b) : Wr w' b off zs :=
  ⟨Nat.lt_of_lt_of_le h.1 c.size, fun i hi => ⟨(c.cell (p := ⟨b, _, none⟩) h.1 d).trans (h.2 i hi).1, (c.frozen (p := ⟨b, _, none⟩) h.1 d).trans (h.2 i hi).2⟩⟩

end Go.Proofs.Ytjcfefpcilhelaa
