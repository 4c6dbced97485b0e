/- RelaxEdge and RunSchedule: what they answer, written out. -/
import Derived.Test.YtgfipdompmkjiaaRunT
namespace Go.Proofs.Ytgfipdompmkjiaa
open Go.RowKit Go.BigFrame Go.Deep
set_option linter.unusedVariables false

theorem relaxEdgeU (n m a i : Int) (es : List Ed) (zs : List Int) (s t : Value) (w : World) (hs : RowE w s es) (ht : Row w t zs) (hl : es.length ≤ 281474976710656) (hl2 : zs.length ≤ 281474976710656) :
    Calls Try.prog 16 #[.agg #[.int .i64 n, s], .agg #[.int .i64 m, .int .i64 a, t], .int .i64 i] w fun e w' =>
      ∃ v, e = .returned (.tuple #[.agg #[.int .i64 (rsM n es m a zs [i]), .int .i64 (rsA n es m a zs [i]), v], .bool (rsB n es m a zs [i])]) ∧ OwnV w w' v (rsL n es m a zs [i]) ∧ okS v ∧ Below w.heap.size w w' := relaxEdge n m a i es zs s t w hs ht hl hl2
theorem sRelaxEdgeU (n m a i : Int) (es : List Ed) (zs : List Int) (s t : Value) (w : World) (hs : RowE w s es) (ht : Row w t zs) (hl : es.length ≤ 281474976710656) (hl2 : zs.length ≤ 281474976710656) :
    Calls Try.prog 13 #[.agg #[.int .i64 n, s], .agg #[.int .i64 m, .int .i64 a, t], .int .i64 i] w fun e w' =>
      ∃ v, e = .returned (.tuple #[.agg #[.int .i64 (rsM n es m a zs [i]), .int .i64 (rsA n es m a zs [i]), v], .bool (rsB n es m a zs [i])]) ∧ OwnV w w' v (rsL n es m a zs [i]) ∧ okS v ∧ Below w.heap.size w w' := sRelaxEdge n m a i es zs s t w hs ht hl hl2
theorem runScheduleU (n m a : Int) (es : List Ed) (zs os : List Int) (s t o : Value) (w : World) (hs : RowE w s es) (ht : Row w t zs) (hq : Row w o os) (hl : es.length ≤ 281474976710656) (hl2 : zs.length ≤ 281474976710656) (hl3 : os.length ≤ 281474976710656) :
    Calls Try.prog 24 #[.agg #[.int .i64 n, s], .agg #[.int .i64 m, .int .i64 a, t], o] w fun e w' =>
      ∃ v, e = .returned (.tuple #[.agg #[.int .i64 (rsM n es m a zs os), .int .i64 (rsA n es m a zs os), v], .bool (rsB n es m a zs os)]) ∧ OwnV w w' v (rsL n es m a zs os) ∧ okS v ∧ Below w.heap.size w w' := runSchedule n m a es zs os s t o w hs ht hq hl hl2 hl3
theorem sRunScheduleU (n m a : Int) (es : List Ed) (zs os : List Int) (s t o : Value) (w : World) (hs : RowE w s es) (ht : Row w t zs) (hq : Row w o os) (hl : es.length ≤ 281474976710656) (hl2 : zs.length ≤ 281474976710656) (hl3 : os.length ≤ 281474976710656) :
    Calls Try.prog 22 #[.agg #[.int .i64 n, s], .agg #[.int .i64 m, .int .i64 a, t], o] w fun e w' =>
      ∃ v, e = .returned (.tuple #[.agg #[.int .i64 (rsM n es m a zs os), .int .i64 (rsA n es m a zs os), v], .bool (rsB n es m a zs os)]) ∧ OwnV w w' v (rsL n es m a zs os) ∧ okS v ∧ Below w.heap.size w w' := sRunSchedule n m a es zs os s t o w hs ht hq hl hl2 hl3
end Go.Proofs.Ytgfipdompmkjiaa
