/- What the law FnWords holds while it compares: four answers in blocks of its own, the drawn bytes, the packed bytes. -/
import Derived.Test.YthpokophigkhaaaLaw1
import Derived.Test.YthpokophigkhaaaRotate
import Derived.Test.YthpokophigkhaaaPack
import Derived.Test.YthpokophigkhaaaAt
import Derived.Test.YthpokophigkhaaaDrawAt
namespace Go.Proofs.Ythpokophigkhaaa
open Go.RowKit Go.Deep

/-- What FnWords keeps. -/
structure WS (w0 : World) (g7 g8 g9 g12 : Nat) (c7 v7 c8 v8 c9 : Int) (P : Option Addr) (pl : List Int) (cp : Nat) (c12 v12 : Int) (D : Option Addr) (d : List Int) (w' : World) : Prop where
  b7 : Blk w' g7 27 #[.int .i64 c7, .int .i64 v7]
  b8 : Blk w' g8 27 #[.int .i64 c8, .int .i64 v8]
  b9 : Blk w' g9 30 #[.int .i64 c9, .slice P pl.length cp]
  b12 : Blk w' g12 27 #[.int .i64 c12, .int .i64 v12]
  pack : Bs w' P pl
  data : Bs w' D d
  old : Below w0.heap.size w0 w'
section
variable {w0 : World} {g7 g8 g9 g12 : Nat} {c7 v7 c8 v8 c9 : Int} {P : Option Addr} {pl : List Int} {cp : Nat} {c12 v12 : Int} {D : Option Addr} {d : List Int} {a b : World}
theorem WS.below (h : WS w0 g7 g8 g9 g12 c7 v7 c8 v8 c9 P pl cp c12 v12 D d a) (hb : Below a.heap.size a b) : WS w0 g7 g8 g9 g12 c7 v7 c8 v8 c9 P pl cp c12 v12 D d b :=
  ⟨h.b7.below hb, h.b8.below hb, h.b9.below hb, h.b12.below hb, bs_below h.pack hb, bs_below h.data hb, btr h.old hb⟩
theorem WS.drew (h : WS w0 g7 g8 g9 g12 c7 v7 c8 v8 c9 P pl cp c12 v12 D d a) : WS w0 g7 g8 g9 g12 c7 v7 c8 v8 c9 P pl cp c12 v12 D d a.drew := h.below (Below.refl _ _).drew
theorem WS.s (h : WS w0 g7 g8 g9 g12 c7 v7 c8 v8 c9 P pl cp c12 v12 D d a) :
    a.cell? ⟨g7, 0, none⟩ = some (.int .i64 c7) ∧ a.cell? ⟨g7, 1, none⟩ = some (.int .i64 v7) ∧ a.cell? ⟨g8, 0, none⟩ = some (.int .i64 c8) ∧ a.cell? ⟨g8, 1, none⟩ = some (.int .i64 v8) ∧
    a.cell? ⟨g9, 0, none⟩ = some (.int .i64 c9) ∧ a.cell? ⟨g9, 1, none⟩ = some (.slice P pl.length cp) ∧ a.cell? ⟨g12, 0, none⟩ = some (.int .i64 c12) ∧ a.cell? ⟨g12, 1, none⟩ = some (.int .i64 v12) ∧
    WS w0 g7 g8 g9 g12 c7 v7 c8 v8 c9 P pl cp c12 v12 D d a :=
  ⟨h.b7.cell 0, h.b7.cell 1, h.b8.cell 0, h.b8.cell 1, h.b9.cell 0, h.b9.cell 1, h.b12.cell 0, h.b12.cell 1, h⟩
theorem WS.of_s (h : a.cell? ⟨g7, 0, none⟩ = some (.int .i64 c7) ∧ a.cell? ⟨g7, 1, none⟩ = some (.int .i64 v7) ∧ a.cell? ⟨g8, 0, none⟩ = some (.int .i64 c8) ∧ a.cell? ⟨g8, 1, none⟩ = some (.int .i64 v8) ∧
    a.cell? ⟨g9, 0, none⟩ = some (.int .i64 c9) ∧ a.cell? ⟨g9, 1, none⟩ = some (.slice P pl.length cp) ∧ a.cell? ⟨g12, 0, none⟩ = some (.int .i64 c12) ∧ a.cell? ⟨g12, 1, none⟩ = some (.int .i64 v12) ∧
    WS w0 g7 g8 g9 g12 c7 v7 c8 v8 c9 P pl cp c12 v12 D d a) : WS w0 g7 g8 g9 g12 c7 v7 c8 v8 c9 P pl cp c12 v12 D d a := h.2.2.2.2.2.2.2.2
end
theorem add_specB (a b : Int) (w : World) : Calls Try.prog 20 #[.int .i64 a, .int .i64 b] w (IB w (addC a b) (addV a b)) := (add_spec a b w).mono fun _ _ h => h.ib
theorem rot_implB (a b : Int) (w : World) : Calls Try.prog 16 #[.int .i64 a, .int .i64 b] w (IB w (rotC a b) (rotV a b)) := (rot_impl a b w).mono fun _ _ h => h.ib
theorem fldBC (c : Int) (A : Option Addr) (n cp : Nat) (w : World) : (Instr.field 30 (.agg #[.int .i64 c, .slice A n cp]) 0).run Try.prog w = .ok (.int .i64 c) w := by kernel_rfl
theorem fldBB (c : Int) (A : Option Addr) (n cp : Nat) (w : World) : (Instr.field 30 (.agg #[.int .i64 c, .slice A n cp]) 1).run Try.prog w = .ok (.slice A n cp) w := by kernel_rfl

/-- Turned right by n and then by 32 - n a word is itself. -/
theorem rotN_back (x n : Nat) (hx : x < 4294967296) (h1 : 1 ≤ n) (h2 : n ≤ 31) : rotN (rotN x n) (32 - n) = x := by
  have e := pow_split n (by omega)
  have hp : 0 < 2 ^ n := Nat.two_pow_pos n
  have hq : 0 < 2 ^ (32 - n) := Nat.two_pow_pos _
  have h3 : x / 2 ^ n < 2 ^ (32 - n) := by rw [Nat.div_lt_iff_lt_mul hp, Nat.mul_comm, ← e]; exact hx
  have d1 : rotN x n / 2 ^ (32 - n) = x % 2 ^ n := by
    unfold rotN
    rw [Nat.add_mul_div_right _ _ hq, Nat.div_eq_of_lt h3, Nat.zero_add]
  have d2 : rotN x n % 2 ^ (32 - n) = x / 2 ^ n := by
    unfold rotN
    rw [Nat.add_mul_mod_self_right, Nat.mod_eq_of_lt h3]
  rw [rotN, d1, d2, show 32 - (32 - n) = n from by omega]
  have := Nat.div_add_mod x (2 ^ n)
  rw [Nat.mul_comm] at this
  omega
theorem rot_back {x n : Int} (hx : IsW x) (h1 : 0 < n) (h2 : n ≤ 31) : rotC (rotV x n) (32 - n) = 0 ∧ rotV (rotV x n) (32 - n) = x := by
  have hv : rotV x n = (rotN x.toNat n.toNat : Int) := by rw [rotV, if_pos ⟨hx, by omega, h2⟩]
  obtain ⟨x0, x1⟩ := id hx
  have hl := rotN_lt x.toNat n.toNat (by omega) (by omega)
  have hw : IsW (rotV x n) := by rw [hv]; constructor <;> omega
  have hb := rotN_back x.toNat n.toNat (by omega) (by omega) (by omega)
  refine ⟨by rw [rotC, if_pos ⟨hw, by omega, by omega⟩], ?_⟩
  rw [rotV, if_pos ⟨hw, by omega, by omega⟩, hv, show (32 - n).toNat = 32 - n.toNat from by omega, Int.toNat_natCast, hb]
  omega
theorem at_pk {a : Int} (h : IsW a) : atC (pk a) 0 = 0 ∧ atV (pk a) 0 = a := by
  obtain ⟨h0, h1⟩ := h
  constructor
  · rw [atC, if_pos ⟨by omega, by simp [pk]⟩]
  · rw [atV, if_pos ⟨by omega, by simp [pk]⟩]
    simp [atW, pk]
    omega
theorem pk_bytes {a : Int} (h : IsW a) : Bytes (pk a) := by
  obtain ⟨h0, h1⟩ := h
  intro x hx
  simp [pk] at hx
  rcases hx with rfl | rfl | rfl | rfl <;> omega
theorem pack_bytes (a : Int) : Bytes (packL a) := by
  unfold packL
  split
  · exact pk_bytes ‹_›
  · intro x hx; simp at hx
theorem add_back {a b : Int} (h : IsW a ∧ IsW b) : addC b a = addC a b ∧ addV b a = addV a b ∧ addC a (addV a b) = 0 ∧ gapV a (addV a b) = b := by
  obtain ⟨⟨a0, a1⟩, b0, b1⟩ := id h
  have hs : IsW ((a + b) % 4294967296) := by constructor <;> omega
  refine ⟨by rw [addC_yes h, addC_yes ⟨h.2, h.1⟩], by rw [addV_yes h, addV_yes ⟨h.2, h.1⟩, Int.add_comm], ?_, ?_⟩
  · rw [addV_yes h, addC_yes ⟨h.1, hs⟩]
  · rw [addV_yes h, gapV_yes ⟨h.1, hs⟩]; omega
/-- The bytes of the word read at k are the four bytes there. -/
theorem pk_at {d : List Int} (hd : Bytes d) (k : Nat) : pk (atW d k) = [d.getD k 0, d.getD (k + 1) 0, d.getD (k + 2) 0, d.getD (k + 3) 0] := by
  obtain ⟨a0, a1⟩ := hd.get k
  obtain ⟨b0, b1⟩ := hd.get (k + 1)
  obtain ⟨c0, c1⟩ := hd.get (k + 2)
  obtain ⟨e0, e1⟩ := hd.get (k + 3)
  unfold atW pk
  generalize d.getD k 0 = a at *
  generalize d.getD (k + 1) 0 = b at *
  generalize d.getD (k + 2) 0 = c at *
  generalize d.getD (k + 3) 0 = e at *
  rw [show (a * 16777216 + b * 65536 + c * 256 + e) / 16777216 = a from by omega, show (a * 16777216 + b * 65536 + c * 256 + e) / 65536 % 256 = b from by omega, show (a * 16777216 + b * 65536 + c * 256 + e) / 256 % 256 = c from by omega, show (a * 16777216 + b * 65536 + c * 256 + e) % 256 = e from by omega]
theorem atW_w {d : List Int} (hd : Bytes d) (k : Nat) : IsW (atW d k) := by
  obtain ⟨a0, a1⟩ := hd.get k
  obtain ⟨b0, b1⟩ := hd.get (k + 1)
  obtain ⟨c0, c1⟩ := hd.get (k + 2)
  obtain ⟨e0, e1⟩ := hd.get (k + 3)
  unfold atW
  constructor <;> omega
/-- Four bytes in the midst of a slice of bytes. -/
theorem sub4 {w : World} {b off : Nat} {d : List Int} (h : Bs w (some ⟨b, off, none⟩) d) (k : Nat) (hk : k + 4 ≤ d.length) : Bs w (some ⟨b, off + k, none⟩) [d.getD k 0, d.getD (k + 1) 0, d.getD (k + 2) 0, d.getD (k + 3) 0] := by
  rcases h with rfl | ⟨b', off', h1, h2, h3⟩
  · simp at hk
  · injection h1 with h1
    injection h1 with h1 h4
    subst h1 h4
    refine .inr ⟨b, off + k, rfl, h2, fun j hj => ?_⟩
    have hj4 : j < 4 := hj
    have := h3 (k + j) (by omega)
    rw [Nat.add_assoc, this]
    rcases j with _ | _ | _ | _ | j
    · rfl
    · rfl
    · rfl
    · rfl
    · omega
end Go.Proofs.Ythpokophigkhaaa
