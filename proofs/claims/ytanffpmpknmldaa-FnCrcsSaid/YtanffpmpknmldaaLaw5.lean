/- What the law FnCrcs holds while it compares. -/
import Derived.Test.YtanffpmpknmldaaCrcI
import Derived.Test.YtanffpmpknmldaaLwAt
import Derived.Test.YtanffpmpknmldaaDraw2
import Derived.Test.YtanffpmpknmldaaLaw1
import Derived.Test.YtanffpmpknmldaaRegInv
namespace Go.Proofs.Ytanffpmpknmldaa
open Go.RowKit Go.Deep

theorem drawCrc_any (A : Option Addr) (l : List Int) (c : Nat) (w : World) (hA : Bs w A l) (hl : Bytes l) (hm : (l.length : Int) ≤ 1048576) :
    Calls Try.prog 19 #[.slice A l.length c] w (BOne w) := by
  go_enter Try.func19, Try.ntmps19
  go_wp2_with fail
  refine (drawPad_any _ _ _ _ hA hl hm).mono ?_
  rintro e w6 ⟨A3, c3, d, rfl, q1, q2, q3, q4, q5, q6⟩
  have HQ := hidH (And.intro q1 (And.intro q2 (And.intro q3 (And.intro q4 (And.intro q5 q6)))))
  clear q1 q2 q3 q4 q5 q6
  go_wp2
  go_ret
  exact ⟨A3, c3, d, rfl, HQ.out⟩
/-- A block of two numbers, bytes drawn and the bytes of the code stay as they are. -/
structure KS (w0 : World) (g : Nat) (c v : Int) (D : Option Addr) (d : List Int) (A : Option Addr) (l : List Int) (w' : World) : Prop where
  blk : Blk w' g 35 #[.int .i64 c, .int .i64 v]
  data : Bs w' D d
  code : Bs w' A l
  old : Below w0.heap.size w0 w'
section
variable {w0 : World} {g : Nat} {c v : Int} {D : Option Addr} {d : List Int} {A : Option Addr} {l : List Int} {a b : World}
theorem KS.below (h : KS w0 g c v D d A l a) (hb : Below a.heap.size a b) : KS w0 g c v D d A l b := ⟨h.blk.below hb, bs_below h.data hb, bs_below h.code hb, btr h.old hb⟩
theorem KS.drew (h : KS w0 g c v D d A l a) : KS w0 g c v D d A l a.drew := h.below (Below.refl _ _).drew
theorem KS.s (h : KS w0 g c v D d A l a) : a.cell? ⟨g, 0, none⟩ = some (.int .i64 c) ∧ a.cell? ⟨g, 1, none⟩ = some (.int .i64 v) ∧ KS w0 g c v D d A l a := ⟨h.blk.cell 0, h.blk.cell 1, h⟩
theorem KS.of_s (h : a.cell? ⟨g, 0, none⟩ = some (.int .i64 c) ∧ a.cell? ⟨g, 1, none⟩ = some (.int .i64 v) ∧ KS w0 g c v D d A l a) : KS w0 g c v D d A l a := h.2.2
end
theorem turnL_len (l : List Int) (k m : Nat) : (turnL l k m).length = l.length := List.length_set
theorem turnL_bytes {l : List Int} (h : Bytes l) (k m : Nat) (hm : m < 256) : Bytes (turnL l k m) := by
  intro x hx
  rcases List.mem_or_eq_of_mem_set hx with h1 | h1
  · exact h x h1
  · rw [h1]
    have := h.get k
    exact byteX_byte hm this.1 this.2
theorem turnL_nB {l : List Int} (k m : Nat) : nB (turnL l k m) = (nB l).set k (byteX m (l.getD k 0)).toNat := by simp [nB, turnL, List.map_set]
theorem crcN_turn {l : List Int} (hl : Bytes l) (k m : Nat) (hk : k < l.length) (h7 : l.length ≤ 700) (hm0 : 0 < m) (hm : m < 256) : crcN (turnL l k m) ≠ crcN l := by
  unfold crcN
  rw [turnL_len, if_pos h7, if_pos h7, turnL_nB]
  have p := hl.get k
  have q := byteX_byte hm p.1 p.2
  have hne := byteX_ne hm0 p.1 (m := m)
  have := crcV_turn k (byteX m (l.getD k 0)).toNat (nB_lt hl) (by simpa [nB] using hk) (by omega) (by rw [nB_get]; omega)
  intro h
  exact this (by omega)
theorem at_nat (A : Option Addr) (l : List Int) (c i : Nat) (n : Int) (w : World) (hA : Bs w A l) (hl : Bytes l) (hm : (l.length : Int) ≤ 1048576) (hi : i ≤ 100) (hn : 1 ≤ n) (hn2 : n ≤ 100000) :
    Calls Try.prog 18 #[.slice A l.length c, .int .i64 i, .int .i64 n] w fun e w' => ∃ k : Nat, e = .returned (.int .i64 (k : Int)) ∧ (k : Int) < n ∧ Below w.heap.size w w' :=
  (at_any A l c i n w hA hl hm hi hn hn2).mono fun _ _ ⟨v, h1, h2, h3, h4⟩ => ⟨v.toNat, by rw [h1, Int.toNat_of_nonneg h2], by omega, h4⟩
theorem turned_one (A : Option Addr) (l : List Int) (c k m : Nat) (w : World) (hA : Bs w A l) (hl : Bytes l) (hk : k < l.length) (hm : m < 255) (hn : l.length ≤ 100000) :
    Calls Try.prog 17 #[.slice A l.length c, .int .i64 k, .int .i64 (1 + (m : Int))] w fun e w' => ∃ A' c', e = .returned (.slice A' (turnL l k (1 + m)).length c') ∧ Bs w' A' (turnL l k (1 + m)) ∧ Below w.heap.size w w' := by
  have h := turned_any A l c k (1 + m) w hA hl hk (by omega) hn
  rw [show ((1 + m : Nat) : Int) = 1 + (m : Int) by omega] at h
  exact h.mono fun _ _ ⟨A', c', h1, h2, h3⟩ => ⟨A', c', h1, h2.bs, h3⟩
end Go.Proofs.Ytanffpmpknmldaa
