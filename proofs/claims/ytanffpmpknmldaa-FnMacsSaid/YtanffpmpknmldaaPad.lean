/- The model's padding of a message: l2Pad, PadMessage. -/
import Derived.Test.YtanffpmpknmldaaApp
import Derived.Test.YtanffpmpknmldaaDrawAt
import Derived.Deep.LoopGhost
namespace Go.Proofs.Ytanffpmpknmldaa
open Go.RowKit Go.Deep

/-- How many zero bytes. -/
def zerosN (n : Nat) : Nat := (119 - n % 64) % 64
def padTo (l : List Int) (k : Nat) : List Int := l ++ 128 :: List.replicate k 0
def padL (l : List Int) : List Int := padTo l (zerosN l.length) ++ [0, 0, 0, 0] ++ pk (8 * l.length)
theorem padTo_len (l : List Int) (k : Nat) : (padTo l k).length = l.length + 1 + k := by simp [padTo]; omega
theorem padTo_succ (l : List Int) (k : Nat) : padTo l (k + 1) = padTo l k ++ [0] := by simp [padTo, List.replicate_succ']
theorem zeros_test (n k : Nat) (hk : k ≤ zerosN n) : (n + 1 + k) % 64 = 56 ↔ k = zerosN n := by unfold zerosN at *; omega
theorem padL_len (l : List Int) : (padL l).length = l.length + 9 + zerosN l.length := by
  rw [padL, List.length_append, List.length_append, padTo_len]; simp [pk]; omega
set_option maxRecDepth 100000 in
set_option maxHeartbeats 2000000 in
theorem pad_any (A : Option Addr) (l : List Int) (c : Nat) (w : World) (hA : Bs w A l) (hm : l.length ≤ 50000) :
    Calls Try.prog 60 #[.slice A l.length c] w (OwnB w (padL l)) := by
  have hmi : (l.length : Int) ≤ 50000 := by omega
  go_enter Try.func60, Try.ntmps60
  go_wp2_with fail
  refine (copy_any _ _ _ _ hA (by omega)).mono ?_
  rintro e w1 ⟨v, rfl, o1, b1⟩
  have hb2 := b1.size
  have P1 := lit_bs w1 5 [128]
  go_wp2_with (at_builtin; refine wpList_append_bs rfl _ _ rfl w.heap.size _ _ _ rfl (o1.alloc _) (some ⟨w1.heap.size, 0, none⟩) [128] 1 rfl P1 (by simp; omega) (by simp; omega) ?_)
  intro v2 w2 o2 g2
  have B2 : Below w.heap.size w w2 := (bal b1 _).grown g2 (by simp; omega) (fun k hk => (o1.lt k hk).1)
  have O2 : w2.ownsRow w.heap.size 5 1 v2 (padTo l 0).length ((padTo l 0).map (Value.int .u8)) := by
    rw [padTo_len]; simpa [padTo] using o2
  clear o1 o2 g2 P1 b1 hb2 hA
  obtain ⟨z, hz⟩ : ∃ z, zerosN l.length = z := ⟨_, rfl⟩
  have hz64 : z < 64 := by rw [← hz]; exact Nat.mod_lt _ (by omega)
  have HZ := hidH hz
  clear hz
  go_wp2_with fail
  go_loopg [3] z (fun g v wr => ∃ k : Nat, k ≤ z ∧ g = z - k ∧ wr.ownsRow w.heap.size 5 1 v (padTo l k).length ((padTo l k).map (Value.int .u8)) ∧ Below w.heap.size w wr)
  case atStart => exact ⟨0, by omega, by omega, O2, B2⟩
  case round =>
    obtain ⟨k, hk, rfl, hown, hB⟩ := hrel
    have hsz := hB.size
    have HL := hidH (padTo_len l k)
    have hpl : ((padTo l k).length : Int) ≤ 60000 := by rw [HL.out]; omega
    by_cases hlt : k < z
    · have ht : (((padTo l k).length : Int) % 64 != 56) = true := by
        rw [HL.out]
        have := zeros_test l.length k (by rw [HZ.out]; exact hk)
        rw [HZ.out] at this
        rw [bne_iff_ne]; omega
      obtain ⟨A1, c1, rfl, ob, _, _⟩ := own_ob hown
      have P1 := lit_bs wr 5 [0]
      have PH := hidH P1
      have OH := hidH hown
      clear P1 ob
      go_wp2_with (at_builtin; refine wpList_append_bs rfl _ _ rfl w.heap.size _ _ _ rfl (OH.out.alloc _) (some ⟨wr.heap.size, 0, none⟩) [0] 1 rfl PH.out (by have := HL.out; simp; omega) (by simp; omega) ?_)
      intro v3 w3 o3 g3
      have B3 := hidH (own_grow (m := 0) hB hown g3)
      have O3 := hidH o3
      clear o3 g3 hown hB
      go_wp2
      go_roundg (z - (k + 1))
      case rel => exact ⟨k + 1, by omega, rfl, by rw [padTo_succ]; simpa using O3.out, B3.out⟩
      case measure => omega
    · obtain rfl : k = z := by omega
      have ht : (((padTo l k).length : Int) % 64 != 56) = false := by
        rw [HL.out]
        have := (zeros_test l.length k (by rw [HZ.out]; exact hk)).2 HZ.out.symm
        rw [bne_eq_false_iff_eq]; omega
      obtain ⟨A1, c1, rfl, ob, _, _⟩ := own_ob hown
      have P4 := hidH (lit_bs wr 5 [0, 0, 0, 0])
      have OH := hidH hown
      clear ob hlt hk
      go_wp2_with (at_builtin; refine wpList_append_bs rfl _ _ rfl w.heap.size _ _ _ rfl (OH.out.alloc _) (some ⟨wr.heap.size, 0, none⟩) [0, 0, 0, 0] 4 rfl P4.out (by have := HL.out; simp; omega) (by simp; omega) ?_)
      intro v4 w4 o4 g4
      have B4 := own_grow (m := 0) hB hown g4
      have hs4 := B4.size
      have P5 := hidH (lit_bs w4 5 (pk ((l.length : Int) * 8)))
      have O4 := hidH o4
      clear hown hB g4 o4 P4 OH
      go_wp2_with (first | (go_at_call 63; refine (l1Pack_any _ _ (by omega) (by omega)).mono ?_; rintro e w' ⟨rfl, rfl⟩) | (at_builtin; refine wpList_append_bs rfl _ _ rfl w.heap.size _ _ _ rfl (O4.out.alloc _) (some ⟨w4.heap.size, 0, none⟩) (pk ((l.length : Int) * 8)) 4 rfl P5.out (by have := HL.out; simp [pk]; omega) (by simp; omega) ?_))
      intro v6 w6 o6 g6
      have B6 := hidH (own_grow (m := 0) B4 O4.out g6)
      have O6 := hidH o6
      clear g6 o6 B4
      go_wp2
      go_ret
      refine ⟨_, rfl, ?_, B6.out⟩
      have e : padL l = padTo l k ++ [0, 0, 0, 0] ++ pk ((l.length : Int) * 8) := by rw [padL, HZ.out, Int.mul_comm]
      rw [e]
      have := O6.out
      simpa [Nat.add_assoc, Nat.add_comm 4] using this
theorem own_bres {w0 w : World} {v : Value} {l : List Int} (x : Int) (h : w.ownsRow w0.heap.size 5 1 v l.length (l.map (Value.int .u8))) (hb : Below w0.heap.size w0 w) :
    ∃ A cp, v = .slice A l.length cp ∧ BRes w0 x l (.returned (.agg #[.int .i64 x, .slice A l.length cp])) w := by
  obtain ⟨A, cp, rfl, ob, h1, h2⟩ := own_ob h
  exact ⟨A, cp, rfl, A, cp, rfl, ob, hb, h1, h2⟩
theorem Ob.setCell {B C : Nat} {w : World} {A : Option Addr} {l : List Int} (h : Ob B C w A l) {p : Addr} (hp : p.block < B) (u : Value) : Ob B C (w.setCell p u) A l := by
  rcases h with h | ⟨b, off, h1, h2, h3, h4, h5⟩
  · exact .inl h
  · exact .inr ⟨b, off, h1, h2, h3, by simpa [World.setCell] using h4, fun j hj => ⟨(World.cell?_setCell_other _ _ _ _ (fun e => by subst e; simp at hp; omega)).trans (h5 j hj).1, (World.frozen?_setCell _ _ _ _).trans (h5 j hj).2⟩⟩
theorem Ob.mono {B B' C : Nat} {w : World} {A : Option Addr} {l : List Int} (h : Ob B C w A l) (hB : B' ≤ B) : Ob B' C w A l := by
  rcases h with h | ⟨b, off, h1, h2, h3, h4, h5⟩
  · exact .inl h
  · exact .inr ⟨b, off, h1, by omega, h3, h4, h5⟩
theorem bres_set {w w1 : World} {A : Option Addr} {l : List Int} {cp : Nat} (x : Int) (hO : Ob (w.heap.size + 1) w1.heap.size w1 A l) (hb : Below w.heap.size w w1) (h1 : l.length ≤ cp) (h2 : (cp : Int) ≤ 9223372036854775807) (u0 u1 : Value) :
    BRes w x l (.returned (.agg #[.int .i64 x, .slice A l.length cp])) ((w1.setCell ⟨w.heap.size, 0, none⟩ u0).setCell ⟨w.heap.size, 1, none⟩ u1) := by
  have e : ((w1.setCell ⟨w.heap.size, 0, none⟩ u0).setCell ⟨w.heap.size, 1, none⟩ u1).heap.size = w1.heap.size := by simp [World.setCell]
  refine ⟨A, cp, rfl, ?_, bst (bst hb (Nat.le_refl _) _) (Nat.le_refl _) _, h1, h2⟩
  rw [e]
  exact ((hO.setCell (p := ⟨w.heap.size, 0, none⟩) (Nat.lt_succ_self _) _).setCell (p := ⟨w.heap.size, 1, none⟩) (Nat.lt_succ_self _) _).mono (Nat.le_succ _)
def padC (l : List Int) : Int := if l.length ≤ 700 then 0 else 2
def padM (l : List Int) : List Int := if l.length ≤ 700 then padL l else []
end Go.Proofs.Ytanffpmpknmldaa
