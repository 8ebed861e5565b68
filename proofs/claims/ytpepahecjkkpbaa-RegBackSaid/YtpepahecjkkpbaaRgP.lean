/- The program's own Start, Laid, Of, beside the document's own. -/
import Derived.Test.YtpepahecjkkpbaaRgRef
import Derived.Test.YtpepahecjkkpbaaRgProg
namespace Go.Proofs.Ytpepahecjkkpbaa
open Go.RowKit Opn
theorem gStart_any (o : O) (_ : Wf o) (w : World) : Calls Try.prog 13 #[opv o] w (Ret (frv (startF o)) w) := gStart0_any o w
theorem gOf_any (t A B C : Nat) (_ : t < 18446744073709551616) (hA : A < 18446744073709551616) (hB : B < 18446744073709551616) (hC : C < 18446744073709551616) (w : World) :
    Calls Try.prog 10 #[.agg #[.int .u64 t, .int .u64 A, .int .u64 B, .int .u64 C]] w (Ret (dsv (ofC t A B C)) w) := gOf0_any t A B C hA hB hC w
end Go.Proofs.Ytpepahecjkkpbaa
