/- Bytes that are drawn: l1Some; and l1Max. -/
import Derived.Test.YthljdikcpdokdaaDraw
namespace Go.Proofs.Ythljdikcpdokdaa
open Go.RowKit Go.Deep

theorem Win.grown {g : Nat} {w w' : World} (h : Win g (g + 1) w w') : w.grownBy w' (some g) :=
  ⟨h.os, h.tape, h.output, h.size, fun k hk hne => h.block k hk (by have : k ≠ g := fun e => hne (by rw [e]); omega)⟩
theorem Src.grown {w w' : World} {g : Nat} {A : Option Addr} {l : List Int} {c at_ : Nat} (h : Src w g A l c at_) {row : Option Nat} (hg : w.grownBy w' row) (hr : ∀ k, row = some k → g < k) : Src w' g A l c at_ := by
  have hlt := h.lt
  refine ⟨(hg.block g hlt (fun e => by have := hr g e.symm; omega)).trans h.blk, h.bytes, ?_, h.len⟩
  rcases h.row with h1 | ⟨b, off, h1, h2, h3⟩
  · exact .inl h1
  · exact .inr ⟨b, off, h1, h2, fun j hj => (World.cell?_of_block (a := ⟨b, off + j, none⟩) (hg.block b (by omega) (fun e => by have := hr b e.symm; omega))).trans (h3 j hj)⟩
/-- A write into a row that was not there at w is no write to what was there. -/
theorem Win.row {B C : Nat} {w a b : World} (h : Win B C w a) {row : Option Nat} (hg : a.grownBy b row) (hr : ∀ k, row = some k → w.heap.size ≤ k) : Win B C w b :=
  ⟨hg.os.trans h.os, hg.tape.trans h.tape, hg.output.trans h.output, Nat.le_trans h.size hg.size,
   fun k hk ho => (hg.block k (Nat.lt_of_lt_of_le hk h.size) (fun e => by have := hr k e.symm; omega)).trans (h.block k hk ho),
   fun q hq => (World.frozen?_of_block (hg.block q.block (Nat.lt_of_lt_of_le hq h.size) (fun e => by have := hr _ e.symm; omega))).trans (h.frozen q hq)⟩
theorem own_kept {w w' : World} {B g : Nat} {e : TypeId} {v : Value} {n : Nat} {xs : List Value} (h : w.ownsRow B e 1 v n xs) (hw : Win g (g + 1) w w') (hg : g < B) : w'.ownsRow B e 1 v n xs :=
  h.kept hw.grown (.inr (fun e => by have := h.lt g e; omega))
/-- Bytes that were drawn: a slice of bytes of the call's own. -/
def SomeRes (N : Nat) (w : World) (g : Nat) (A : Option Addr) (l : List Int) (c at_ : Nat) (e : Ending) (w' : World) : Prop :=
  ∃ (v : Value) (d : List Int) (at' : Nat), e = .returned v ∧ Bytes d ∧ d.length = N ∧ w'.ownsRow w.heap.size 5 1 v d.length (d.map (Value.int .u8)) ∧ Src w' g A l c at' ∧ at' ≤ at_ + N ∧ Win g (g + 1) w w'
theorem some_step {w wr w1 w2 : World} {g : Nat} {A : Option Addr} {l : List Int} {c at1 : Nat} {v v' : Value} {d : List Int} {x : Int} (hw : Win g (g + 1) w wr) (hg : g < w.heap.size) (hown : wr.ownsRow w.heap.size 5 1 v d.length (d.map (Value.int .u8)))
    (S1 : Src w1 g A l c at1) (W1 : Win g (g + 1) wr w1) (hown' : w2.ownsRow w.heap.size 5 1 v' (d.length + 1) (d.map (Value.int .u8) ++ [.int .u8 x])) (hgrow : (w1.alloc (.cells #[.int .u8 x] 5)).grownBy w2 v.ownBlock) :
    w2.ownsRow w.heap.size 5 1 v' (d ++ [x]).length ((d ++ [x]).map (Value.int .u8)) ∧ Src w2 g A l c at1 ∧ Win g (g + 1) w w2 := by
  have hb : Below w1.heap.size w1 (w1.alloc (.cells #[.int .u8 x] 5)) := bal (Below.refl _ _) _
  have hl := hown.lt
  refine ⟨by simpa using hown', (S1.below hb).grown hgrow (fun k hk => by have := hl k hk; omega), ((hw.trans W1).trans (Win.of_below hb)).row hgrow (fun k hk => (hl k hk).1)⟩
set_option maxHeartbeats 1000000 in
theorem some_any (N : Nat) (g : Nat) (A : Option Addr) (l : List Int) (c at_ : Nat) (w : World) (h : Src w g A l c at_) (hN : N ≤ 1000) (ha : (at_ : Int) ≤ 700000000) :
    Calls Try.prog 91 #[.pointer (some ⟨g, 0, none⟩), .int .i64 N] w (SomeRes N w g A l c at_) := by
  have hg := h.lt
  have H := hidH h
  clear h
  obtain ⟨i0, hi, hzz⟩ := Option.map_eq_some_iff.1 infoU8
  simp only [Prod.mk.injEq] at hzz
  obtain ⟨hz0, hz1, hz2⟩ := hzz
  go_enter Try.func91, Try.ntmps91
  go_wp2
  go_loopw [1, 5] (fun n v wr => ∃ (k : Nat) (d : List Int) (at1 : Nat), n = .int .i64 k ∧ Bytes d ∧ d.length + k = N ∧ wr.ownsRow w.heap.size 5 1 v d.length (d.map (Value.int .u8)) ∧ Src wr g A l c at1 ∧ at1 + k ≤ at_ + N ∧ Win g (g + 1) w wr) (fun n _ _ => (intOf n).toNat)
  case atStart => exact ⟨N, [], at_, rfl, fun x hx => by simp at hx, by simp, World.ownsRow_lit w #[] 0 (Nat.le_refl _) (by unfold maxLen; omega) rfl, H.out.below (bal (Below.refl _ _) _), Nat.le_refl _, Win.of_below (bal (Below.refl _ _) _)⟩
  case round =>
    obtain ⟨k, d, at1, rfl, hd, hdk, hown, hS, hat, hW⟩ := hrel
    rcases k with _ | k
    · have O := hidH hown
      have S := hidH hS
      have W := hidH hW
      have D := hidH hd
      have K := hidH hdk
      clear hown hS hW hd hdk hz0 hz1 hz2 hi
      go_wp2
      go_ret
      exact ⟨_, d, at1, rfl, D.out, K.out, O.out, S.out, by omega, W.out⟩
    · have hgt : (0 : Int) < ((k + 1 : Nat) : Int) := by omega
      have hsz := hW.size
      have K := hidH hdk
      have hdl : d.length ≤ 1000 := by omega
      clear hdk
      go_wp2_with fail
      refine (next_any _ _ _ _ _ _ _ hS (by omega)).mono ?_
      rintro e w1 ⟨x, rfl, x0, x1, S1, W1, z1⟩
      have hown1 := own_kept hown W1 hg
      have hsz1 := W1.size
      clear z1
      have hx : x ≤ 255 := by omega
      go_wp2_with (at_builtin; refine wpList_append_own _ rfl _ _ 22 rfl w.heap.size 5 i0 (.int .u8 0) 1 1 Try.underlying22 hi hz0 hz1 hz2 rfl (by decide) _ _ _ rfl (hown1.alloc _) ⟨w1.heap.size, 0, none⟩ 1 1 [.int .u8 x] rfl rfl ?c1 ?c2 ?c3 ?c4 ?c5 ?_)
      case c1 => exact cell_one_new _ _ _
      case c2 => intro u hu; simp at hu; subst hu; rfl
      case c3 => unfold maxLen; omega
      case c4 => omega
      case c5 => simp; omega
      intro v' w2 hown' hgrow _
      obtain ⟨O, S, W⟩ := some_step hW hg hown S1 W1 hown' hgrow
      have hD : Bytes (d ++ [x]) := fun y hy => by
        rcases List.mem_append.1 hy with h | h
        · exact hd y h
        · simp at h; subst h; exact ⟨x0, hx⟩
      have O' := hidH O
      have S' := hidH S
      have W' := hidH W
      have D' := hidH hD
      clear O S W hD hown hown1 hown' hgrow hS S1 W1 hW hd
      go_wp2
      go_roundw
      case rel => exact ⟨k, d ++ [x], at1 + 1, rfl, D'.out, by have := K.out; simp; omega, O'.out, S'.out, by omega, W'.out⟩
      case measure => simp [intOf]
theorem own_drewN {w : World} {B : Nat} {e : TypeId} {s : Nat} {v : Value} {n : Nat} {xs : List Value} (h : w.ownsRow B e s v n xs) (m : Nat) : (w.drewN m).ownsRow B e s v n xs := h
theorem own_grow {w wr w2 : World} {e : TypeId} {s n m : Nat} {v : Value} {xs : List Value} {o : Obj} (hB : Below w.heap.size w wr) (hown : wr.ownsRow w.heap.size e s v n xs) (hgrow : ((wr.drewN m).alloc o).grownBy w2 v.ownBlock) : Below w.heap.size w w2 :=
  (bal (below_drewN hB m) o).grown hgrow (bal (below_drewN hB m) o).size (fun k hk => (hown.lt k hk).1)
theorem own_mono {w : World} {B C : Nat} {e : TypeId} {s n : Nat} {v : Value} {xs : List Value} (h : w.ownsRow C e s v n xs) (hB : B ≤ C) : w.ownsRow B e s v n xs := by
  obtain ⟨h1, h2 | ⟨g, cap, cur, hv, hg, r⟩⟩ := h
  · exact ⟨h1, .inl h2⟩
  · exact ⟨h1, .inr ⟨g, cap, cur, hv, Nat.le_trans hB hg, r⟩⟩
end Go.Proofs.Ythljdikcpdokdaa
