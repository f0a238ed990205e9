/- What PackWord and WordAt answer, the program's and the model's. -/
import Derived.Test.YtjjileefdjjijaaBytes
namespace Go.Proofs.Ytjjileefdjjijaa
open Go.RowKit Go.Deep

/-- The four bytes of a word, the most significant first. -/
def pk (x : Int) : List Int := [x / 16777216, x / 65536 % 256, x / 256 % 256, x % 256]
def packC (x : Int) : Int := if IsW x then 0 else 3
def packL (x : Int) : List Int := if IsW x then pk x else []
/-- What a call that answers a BytesResult leaves: the answer in memory that was not there before. -/
def BRes (w : World) (c : Int) (l : List Int) (e : Ending) (w' : World) : Prop :=
  ∃ A cp, e = .returned (.agg #[.int .i64 c, .slice A l.length cp]) ∧ Ob w.heap.size w'.heap.size w' A l ∧ Below w.heap.size w w' ∧ l.length ≤ cp ∧ (cp : Int) ≤ 9223372036854775807

set_option maxHeartbeats 400000 in
theorem encode_any (x : Int) (w : World) (h1 : 0 ≤ x) (h2 : x ≤ 4294967295) :
    Calls Try.prog 72 #[.int .u32 x] w fun e w' => e = .returned (.agg #[.int .u8 (x / 16777216), .int .u8 (x / 65536 % 256), .int .u8 (x / 256 % 256), .int .u8 (x % 256)]) ∧ w.alloc (.cells #[.int .u8 (x / 16777216), .int .u8 (x / 65536 % 256), .int .u8 (x / 256 % 256), .int .u8 (x % 256)] 100) = w' := by
  go_enter Try.func72, Try.ntmps72
  go_wp2
  exact bodyPost_ret (v := .agg #[.int .u8 (x / 16777216), .int .u8 (x / 65536 % 256), .int .u8 (x / 256 % 256), .int .u8 (x % 256)]) (by simp [results, Try.results72, go_sem]) rfl ⟨rfl, rfl⟩
set_option maxHeartbeats 400000 in
theorem l1Pack_any (x : Int) (w : World) (h1 : 0 ≤ x) (h2 : x ≤ 4294967295) :
    Calls Try.prog 69 #[.int .i64 x] w fun e w' => e = .returned (.slice (some ⟨w.heap.size, 0, none⟩) 4 4) ∧ w.alloc (.cells #[.int .u8 (x / 16777216), .int .u8 (x / 65536 % 256), .int .u8 (x / 256 % 256), .int .u8 (x % 256)] 5) = w' := by
  go_enter Try.func69, Try.ntmps69
  go_wp2
  go_ret
  exact ⟨rfl, rfl⟩
theorem row4 (w : World) (x : Int) (t : TypeId) : (w.alloc (.cells #[.int .u8 (x / 16777216), .int .u8 (x / 65536 % 256), .int .u8 (x / 256 % 256), .int .u8 (x % 256)] t)).rowIs w.heap.size t 4 (fun j => .int .u8 ((pk x).getD j 0)) :=
  World.rowIs_alloc w _ t _ (fun i hi => by
    have hi : i < 4 := hi
    rcases i with _ | _ | _ | _ | i
    · rfl
    · rfl
    · rfl
    · rfl
    · omega)
theorem bres4 {w0 w : World} (x : Int) (t : TypeId) (b : Nat) (h : Below w0.heap.size w0 w) (hb : b = w.heap.size) :
    BRes w0 0 (pk x) (.returned (.agg #[.int .i64 0, .slice (some ⟨b, 0, none⟩) 4 4])) (w.alloc (.cells #[.int .u8 (x / 16777216), .int .u8 (x / 65536 % 256), .int .u8 (x / 256 % 256), .int .u8 (x % 256)] t)) := by
  subst hb
  have hr := row4 w x t
  exact ⟨_, _, rfl, .inr ⟨_, 0, rfl, h.size, hr.lt, Nat.le_refl _, fun j hj => ⟨by rw [Nat.zero_add]; exact hr.cell hj, by rw [Nat.zero_add]; exact hr.frozen j⟩⟩, bal h _, Nat.le_refl _, by omega⟩
set_option maxHeartbeats 400000 in
theorem pack_impl (x : Int) (w : World) : Calls Try.prog 50 #[.int .i64 x] w (BRes w (packC x) (packL x)) := by
  by_cases h : IsW x
  · have v := wB_yes h
    rw [packC, packL, if_pos h, if_pos h]
    obtain ⟨h1, h2⟩ := h
    go_enter Try.func50, Try.ntmps50
    go_wp2_with (first | (go_at_call 71; refine (isWord_any _ _).mono ?_; rintro e w' ⟨rfl, rfl⟩) | (go_at_call 72; refine (encode_any _ _ h1 h2).mono ?_; rintro e w' ⟨rfl, rfl⟩))
    exact bodyPost_ret (v := .agg #[.int .i64 0, .slice (some ⟨w.heap.size + 1 + 1, 0, none⟩) 4 4]) (by simp [results, Try.results50, go_sem]) rfl (bres4 x _ _ (bal (bal (Below.refl _ _) _) _) (by simp))
  · rw [packC, packL, if_neg h, if_neg h]
    have v := wB_no h
    clear h
    go_enter Try.func50, Try.ntmps50
    go_wp2_with (first | (go_at_call 71; refine (isWord_any _ _).mono ?_; rintro e w' ⟨rfl, rfl⟩))
    exact bodyPost_ret (v := .agg #[.int .i64 3, .slice none 0 0]) (by simp [results, Try.results50, go_sem]) rfl ⟨_, _, rfl, .inl rfl, bal (Below.refl _ _) _, Nat.le_refl _, by omega⟩
end Go.Proofs.Ytjjileefdjjijaa
