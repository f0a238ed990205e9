/- The laws' lwBytes: two slices of the same bytes are the same text. -/
import Derived.Test.YthljdikcpdokdaaBytes
import Derived.Laws.BytesArg
namespace Go.Proofs.Ythljdikcpdokdaa
open Go.RowKit Go.Deep
theorem conv_bs (w : World) (A : Option Addr) (l : List Int) (c : Nat) (h : Bs w A l) : (convert 22 9 (.slice A l.length c)).run Try.prog w = .ok (.string (strOfNums l)) w := by
  rcases h with rfl | ⟨b, off, rfl, _, h⟩
  · rw [List.length_nil, run_convert_bytes_string w 22 9 5 _ 0 c Try.underlying22 Try.underlying5 Try.underlying9]
    cases A <;> simp [Conv.bytesToString, loadCells]
    all_goals rfl
  · exact run_convert_bytes_arg w 22 5 Try.underlying22 Try.underlying5 b off _ c l rfl h 9 Try.underlying9
set_option maxHeartbeats 400000 in
theorem lwB_same (A B : Option Addr) (l : List Int) (c d : Nat) (w : World) (hA : Bs w A l) (hB : Bs w B l) :
    Calls Try.prog 34 #[.slice A l.length c, .slice B l.length d] w fun e w' => e = .returned (.bool true) ∧ w = w' := by
  have h1 := conv_bs w A l c hA
  have h2 := conv_bs w B l d hB
  clear hA hB
  go_enter Try.func34, Try.ntmps34
  go_wp2
  go_ret
  exact ⟨rfl, rfl⟩
end Go.Proofs.Ythljdikcpdokdaa
