/- What PackWord and WordAt answer, the program's and the model's. -/
import Derived.Test.YthljdikcpdokdaaBytes
namespace Go.Proofs.Ythljdikcpdokdaa
open Go.RowKit Go.Deep

/-- The four bytes of a word, the most significant first. -/
def pk (x : Int) : List Int := [x / 16777216, x / 65536 % 256, x / 256 % 256, x % 256]
def packC (x : Int) : Int := if IsW x then 0 else 3
def packL (x : Int) : List Int := if IsW x then pk x else []
/-- What a call that answers a BytesResult leaves: the answer in memory that was not there before. -/
def BRes (w : World) (c : Int) (l : List Int) (e : Ending) (w' : World) : Prop :=
  ∃ A cp, e = .returned (.agg #[.int .i64 c, .slice A l.length cp]) ∧ Ob w.heap.size w'.heap.size w' A l ∧ Below w.heap.size w w' ∧ l.length ≤ cp ∧ (cp : Int) ≤ 9223372036854775807

set_option maxHeartbeats 400000 in
theorem encode_any (x : Int) (w : World) (h1 : 0 ≤ x) (h2 : x ≤ 4294967295) :
    Calls Try.prog 212 #[.int .u32 x] w fun e w' => e = .returned (.agg #[.int .u8 (x / 16777216), .int .u8 (x / 65536 % 256), .int .u8 (x / 256 % 256), .int .u8 (x % 256)]) ∧ w.alloc (.cells #[.int .u8 (x / 16777216), .int .u8 (x / 65536 % 256), .int .u8 (x / 256 % 256), .int .u8 (x % 256)] 249) = w' := by
  go_enter Try.func212, Try.ntmps212
  go_wp2
  exact bodyPost_ret (v := .agg #[.int .u8 (x / 16777216), .int .u8 (x / 65536 % 256), .int .u8 (x / 256 % 256), .int .u8 (x % 256)]) (by simp [results, Try.results212, go_sem]) rfl ⟨rfl, rfl⟩
theorem row4 (w : World) (x : Int) (t : TypeId) : (w.alloc (.cells #[.int .u8 (x / 16777216), .int .u8 (x / 65536 % 256), .int .u8 (x / 256 % 256), .int .u8 (x % 256)] t)).rowIs w.heap.size t 4 (fun j => .int .u8 ((pk x).getD j 0)) :=
  World.rowIs_alloc w _ t _ (fun i hi => by
    have hi : i < 4 := hi
    rcases i with _ | _ | _ | _ | i
    · rfl
    · rfl
    · rfl
    · rfl
    · omega)
theorem bres4 {w0 w : World} (x : Int) (t : TypeId) (b : Nat) (h : Below w0.heap.size w0 w) (hb : b = w.heap.size) :
    BRes w0 0 (pk x) (.returned (.agg #[.int .i64 0, .slice (some ⟨b, 0, none⟩) 4 4])) (w.alloc (.cells #[.int .u8 (x / 16777216), .int .u8 (x / 65536 % 256), .int .u8 (x / 256 % 256), .int .u8 (x % 256)] t)) := by
  subst hb
  have hr := row4 w x t
  exact ⟨_, _, rfl, .inr ⟨_, 0, rfl, h.size, hr.lt, Nat.le_refl _, fun j hj => ⟨by rw [Nat.zero_add]; exact hr.cell hj, by rw [Nat.zero_add]; exact hr.frozen j⟩⟩, bal h _, Nat.le_refl _, by omega⟩
end Go.Proofs.Ythljdikcpdokdaa
