/- What the law FnSchedules holds while it compares. -/
import Derived.Test.YthpokophigkhaaaDraw3
import Derived.Test.YthpokophigkhaaaLaw1
namespace Go.Proofs.Ythpokophigkhaaa
open Go.RowKit Go.Deep

set_option maxHeartbeats 400000 in
theorem lwN_same (A B : Option Addr) (l : List Int) (c d : Nat) (w : World) (hA : Is w A l) (hB : Is w B l) (hm : (l.length : Int) ≤ 9223372036854775807) :
    Calls Try.prog 40 #[.slice A l.length c, .slice B l.length d] w fun e w' => e = .returned (.bool true) ∧ ∃ k, w.drewN k = w' := by
  rcases hA with rfl | ⟨b, off, rfl, _, hA⟩
  · go_enter Try.func40, Try.ntmps40
    go_wp2
    go_loopw [5] (fun i wr => i = .int .i64 0 ∧ wr = w) (fun _ _ => 0)
    case atStart => exact ⟨rfl, rfl⟩
    case round =>
      obtain ⟨rfl, rfl⟩ := hrel
      go_wp2
      go_ret
      exact ⟨rfl, 0, rfl⟩
  · rcases hB with rfl | ⟨b', off', rfl, _, hB⟩
    · go_enter Try.func40, Try.ntmps40
      go_wp2
      go_loopw [5] (fun i wr => i = .int .i64 0 ∧ wr = w) (fun _ _ => 0)
      case atStart => exact ⟨rfl, rfl⟩
      case round =>
        obtain ⟨rfl, rfl⟩ := hrel
        go_wp2
        go_ret
        exact ⟨rfl, 0, rfl⟩
    · go_enter Try.func40, Try.ntmps40
      go_wp2
      go_loopw [5] (fun i wr => ∃ k n : Nat, k ≤ l.length ∧ i = .int .i64 k ∧ wr = w.drewN n) (fun i _ => l.length - (intOf i).toNat)
      case atStart => exact ⟨0, 0, Nat.zero_le _, rfl, rfl⟩
      case round =>
        obtain ⟨k, n, hk, rfl, rfl⟩ := hrel
        by_cases hlt : k < l.length
        · have cA := hA k hlt
          have cB := hB k hlt
          clear hA hB
          have hi : (k : Int) < (l.length : Int) := by omega
          go_wp2
          go_quiet (fail)
          go_wp2
          go_roundw
          case rel => exact ⟨k + 1, n + nq, by omega, by go_num, rfl⟩
          case measure => simp [intOf]; omega
        · clear hA hB
          go_wp2
          go_ret
          exact ⟨rfl, n, rfl⟩
/-- What FnSchedules keeps. -/
structure SS (w0 : World) (g4 g7 : Nat) (c4 : Int) (P : Option Addr) (pl : List Int) (cp : Nat) (c7 : Int) (P7 : Option Addr) (pl7 : List Int) (cp7 : Nat) (B : Option Addr) (bl : List Int) (S : Option Addr) (st : List Int) (O : Option Addr) (ot : List Int) (w' : World) : Prop where
  b4 : Blk w' g4 42 #[.int .i64 c4, .slice P pl.length cp]
  b7 : Blk w' g7 42 #[.int .i64 c7, .slice P7 pl7.length cp7]
  words : Is w' P pl
  blk : Bs w' B bl
  sta : Is w' S st
  oth : Bs w' O ot
  old : Below w0.heap.size w0 w'
section
variable {w0 : World} {g4 g7 : Nat} {c4 : Int} {P : Option Addr} {pl : List Int} {cp : Nat} {c7 : Int} {P7 : Option Addr} {pl7 : List Int} {cp7 : Nat} {B : Option Addr} {bl : List Int} {S : Option Addr} {st : List Int} {O : Option Addr} {ot : List Int} {a b : World}
theorem SS.below (h : SS w0 g4 g7 c4 P pl cp c7 P7 pl7 cp7 B bl S st O ot a) (hb : Below a.heap.size a b) : SS w0 g4 g7 c4 P pl cp c7 P7 pl7 cp7 B bl S st O ot b :=
  ⟨h.b4.below hb, h.b7.below hb, is_below h.words hb, bs_below h.blk hb, is_below h.sta hb, bs_below h.oth hb, btr h.old hb⟩
theorem SS.drew (h : SS w0 g4 g7 c4 P pl cp c7 P7 pl7 cp7 B bl S st O ot a) : SS w0 g4 g7 c4 P pl cp c7 P7 pl7 cp7 B bl S st O ot a.drew := h.below (Below.refl _ _).drew
theorem SS.s (h : SS w0 g4 g7 c4 P pl cp c7 P7 pl7 cp7 B bl S st O ot a) :
    a.cell? ⟨g4, 0, none⟩ = some (.int .i64 c4) ∧ a.cell? ⟨g4, 1, none⟩ = some (.slice P pl.length cp) ∧ a.cell? ⟨g7, 0, none⟩ = some (.int .i64 c7) ∧ SS w0 g4 g7 c4 P pl cp c7 P7 pl7 cp7 B bl S st O ot a :=
  ⟨h.b4.cell 0, h.b4.cell 1, h.b7.cell 0, h⟩
theorem SS.of_s (h : a.cell? ⟨g4, 0, none⟩ = some (.int .i64 c4) ∧ a.cell? ⟨g4, 1, none⟩ = some (.slice P pl.length cp) ∧ a.cell? ⟨g7, 0, none⟩ = some (.int .i64 c7) ∧ SS w0 g4 g7 c4 P pl cp c7 P7 pl7 cp7 B bl S st O ot a) : SS w0 g4 g7 c4 P pl cp c7 P7 pl7 cp7 B bl S st O ot a := h.2.2.2
end
theorem SS.sk {w0 : World} {g4 g7 : Nat} {c4 : Int} {pb po : Nat} {pl : List Int} {cp : Nat} {c7 : Int} {P7 : Option Addr} {pl7 : List Int} {cp7 : Nat} {B : Option Addr} {bl : List Int} {S : Option Addr} {st : List Int} {O : Option Addr} {ot : List Int} {a : World} {k : Nat} {v : Int}
    (h : SS w0 g4 g7 c4 (some ⟨pb, po, none⟩) pl cp c7 P7 pl7 cp7 B bl S st O ot a) (hk : k < pl.length) (hv : pl.getD k 0 = v) :
    a.cell? ⟨g4, 0, none⟩ = some (.int .i64 c4) ∧ a.cell? ⟨g4, 1, none⟩ = some (.slice (some ⟨pb, po, none⟩) pl.length cp) ∧ a.cell? ⟨pb, po + k, none⟩ = some (.int .i64 v) ∧ SS w0 g4 g7 c4 (some ⟨pb, po, none⟩) pl cp c7 P7 pl7 cp7 B bl S st O ot a := by
  refine ⟨h.b4.cell 0, h.b4.cell 1, ?_, h⟩
  rcases h.words with h1 | ⟨b, off, h1, _, h3⟩
  · rw [h1] at hk; simp at hk
  · cases h1
    rw [h3 k hk, hv]
theorem SS.of_k {w0 : World} {g4 g7 : Nat} {c4 : Int} {pb po : Nat} {pl : List Int} {cp : Nat} {c7 : Int} {P7 : Option Addr} {pl7 : List Int} {cp7 : Nat} {B : Option Addr} {bl : List Int} {S : Option Addr} {st : List Int} {O : Option Addr} {ot : List Int} {a : World} {k : Nat} {v : Int}
    (h : a.cell? ⟨g4, 0, none⟩ = some (.int .i64 c4) ∧ a.cell? ⟨g4, 1, none⟩ = some (.slice (some ⟨pb, po, none⟩) pl.length cp) ∧ a.cell? ⟨pb, po + k, none⟩ = some (.int .i64 v) ∧ SS w0 g4 g7 c4 (some ⟨pb, po, none⟩) pl cp c7 P7 pl7 cp7 B bl S st O ot a) :
    SS w0 g4 g7 c4 (some ⟨pb, po, none⟩) pl cp c7 P7 pl7 cp7 B bl S st O ot a := h.2.2.2
theorem fldWC (c : Int) (A : Option Addr) (n cp : Nat) (w : World) : (Instr.field 42 (.agg #[.int .i64 c, .slice A n cp]) 0).run Try.prog w = .ok (.int .i64 c) w := by kernel_rfl
theorem fldWW (c : Int) (A : Option Addr) (n cp : Nat) (w : World) : (Instr.field 42 (.agg #[.int .i64 c, .slice A n cp]) 1).run Try.prog w = .ok (.slice A n cp) w := by kernel_rfl
end Go.Proofs.Ythpokophigkhaaa
