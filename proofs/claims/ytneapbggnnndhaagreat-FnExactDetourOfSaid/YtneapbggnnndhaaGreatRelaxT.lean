/- A round of relaxing: in the model. The value that an edge gives, in the model of kept views. RelaxAll: in the model. -/
import Derived.Test.YtneapbggnnndhaaGreatRelaxJ
namespace Go.Proofs.YtneapbggnnndhaaGreat
open Go.RowKit Go.BigFrame Go.Deep
set_option linter.unusedVariables false
set_option linter.unusedSimpArgs false

theorem quietS {P : Program} {f : FuncId} {args : Array Value} {W w : World} {v : Value} (h : Calls P f args w fun e w' => e = .returned v ∧ w = w') (hw : w = W) :
    Calls P f args w fun e w'' => e = .returned v ∧ w'' = W := h.mono fun e w' ⟨a, b⟩ => ⟨a, b ▸ hw⟩

end Go.Proofs.YtneapbggnnndhaaGreat
namespace Go.Proofs.YtneapbggnnndhaaGreat
open Go.RowKit Go.BigFrame Go.Deep
set_option linter.unusedVariables false
set_option linter.unusedSimpArgs false

end Go.Proofs.YtneapbggnnndhaaGreat
namespace Go.Proofs.YtneapbggnnndhaaGreat
open Go.RowKit Go.BigFrame Go.Deep
set_option linter.unusedVariables false
set_option linter.unusedSimpArgs false

end Go.Proofs.YtneapbggnnndhaaGreat
