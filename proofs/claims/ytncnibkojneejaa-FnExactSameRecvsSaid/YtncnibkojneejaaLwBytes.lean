/- The laws' lwBytes: two slices of the same bytes are the same text. -/
import Derived.Test.YtncnibkojneejaaBytes
import Derived.Laws.BytesArg
namespace Go.Proofs.Ytncnibkojneejaa
open Go.RowKit Go.Deep
theorem conv_bs (w : World) (A : Option Addr) (l : List Int) (c : Nat) (h : Bs w A l) : (convert 22 9 (.slice A l.length c)).run Try.prog w = .ok (.string (strOfNums l)) w := by
  rcases h with rfl | ⟨b, off, rfl, _, h⟩
  · rw [List.length_nil, run_convert_bytes_string w 22 9 5 _ 0 c Try.underlying22 Try.underlying5 Try.underlying9]
    cases A <;> simp [Conv.bytesToString, loadCells]
    all_goals rfl
  · exact run_convert_bytes_arg w 22 5 Try.underlying22 Try.underlying5 b off _ c l rfl h 9 Try.underlying9
end Go.Proofs.Ytncnibkojneejaa
