/- The laws' lwBytes: two slices of the same bytes are the same text. -/
import Derived.Test.YtacdnednkglobaaGreatDoorBytes
import Derived.Laws.BytesArg
namespace Go.Proofs.YtacdnednkglobaaGreatDoor
open Go.RowKit Go.Deep
theorem conv_bs (w : World) (A : Option Addr) (l : List Int) (c : Nat) (h : Bs w A l) : (convert 22 9 (.slice A l.length c)).run Tryz.prog w = .ok (.string (strOfNums l)) w := by
  rcases h with rfl | ⟨b, off, rfl, _, h⟩
  · rw [List.length_nil, run_convert_bytes_string w 22 9 5 _ 0 c Tryz.underlying22 Tryz.underlying5 Tryz.underlying9]
    cases A <;> simp [Conv.bytesToString, loadCells]
    all_goals rfl
  · exact run_convert_bytes_arg w 22 5 Tryz.underlying22 Tryz.underlying5 b off _ c l rfl h 9 Tryz.underlying9
set_option maxHeartbeats 400000 in
theorem lwB_same (A B : Option Addr) (l : List Int) (c d : Nat) (w : World) (hA : Bs w A l) (hB : Bs w B l) :
    Calls Tryz.prog 22 #[.slice A l.length c, .slice B l.length d] w fun e w' => e = .returned (.bool true) ∧ w = w' := by
  have h1 := conv_bs w A l c hA
  have h2 := conv_bs w B l d hB
  clear hA hB
  go_enter Tryz.func22, Tryz.ntmps22
  go_wp2
  go_ret
  exact ⟨rfl, rfl⟩
end Go.Proofs.YtacdnednkglobaaGreatDoor
