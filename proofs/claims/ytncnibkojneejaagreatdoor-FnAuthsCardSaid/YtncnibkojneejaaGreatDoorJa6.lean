import Derived.Test.YtncnibkojneejaaGreatDoorJa4
import Derived.Deep.LoopGhost
import Derived.Test.YtncnibkojneejaaGreatDoorComp
import Derived.Test.YtncnibkojneejaaGreatDoorJa0
import Derived.Laws.BitsAllLaws
import Derived.Laws.BytesArg
import Derived.Test.YtncnibkojneejaaGreatDoorJa5

/- The model's padding of a message: l2Pad, PadMessage. -/
namespace Go.Proofs.YtncnibkojneejaaGreatDoor
open Go.RowKit Go.Deep

/-- How many zero bytes. -/
def zerosN (n : Nat) : Nat := (119 - n % 64) % 64
def padTo (l : List Int) (k : Nat) : List Int := l ++ 128 :: List.replicate k 0
def padL (l : List Int) : List Int := padTo l (zerosN l.length) ++ [0, 0, 0, 0] ++ pk (8 * l.length)
theorem padTo_len (l : List Int) (k : Nat) : (padTo l k).length = l.length + 1 + k := by simp [padTo]; omega
theorem padTo_succ (l : List Int) (k : Nat) : padTo l (k + 1) = padTo l k ++ [0] := by simp [padTo, List.replicate_succ']
theorem zeros_test (n k : Nat) (hk : k ≤ zerosN n) : (n + 1 + k) % 64 = 56 ↔ k = zerosN n := by unfold zerosN at *; omega
theorem padL_len (l : List Int) : (padL l).length = l.length + 9 + zerosN l.length := by
  rw [padL, List.length_append, List.length_append, padTo_len]; simp [pk]; omega
set_option maxRecDepth 100000 in
set_option maxHeartbeats 2000000 in
theorem pad_any (A : Option Addr) (l : List Int) (c : Nat) (w : World) (hA : Bs w A l) (hm : l.length ≤ 50000) :
    Calls Tryz.prog 71 #[.slice A l.length c] w (OwnB w (padL l)) := by
  have hmi : (l.length : Int) ≤ 50000 := by omega
  go_enter Tryz.func71, Tryz.ntmps71
  go_wp2_with fail
  refine (copy_any _ _ _ _ hA (by omega)).mono ?_
  rintro e w1 ⟨v, rfl, o1, b1⟩
  have hb2 := b1.size
  have P1 := lit_bs w1 5 [128]
  go_wp2_with (at_builtin; refine wpList_append_bs rfl _ _ rfl w.heap.size _ _ _ rfl (o1.alloc _) (some ⟨w1.heap.size, 0, none⟩) [128] 1 rfl P1 (by simp; omega) (by simp; omega) ?_)
  intro v2 w2 o2 g2
  have B2 : Below w.heap.size w w2 := (bal b1 _).grown g2 (by simp; omega) (fun k hk => (o1.lt k hk).1)
  have O2 : w2.ownsRow w.heap.size 5 1 v2 (padTo l 0).length ((padTo l 0).map (Value.int .u8)) := by
    rw [padTo_len]; simpa [padTo] using o2
  clear o1 o2 g2 P1 b1 hb2 hA
  obtain ⟨z, hz⟩ : ∃ z, zerosN l.length = z := ⟨_, rfl⟩
  have hz64 : z < 64 := by rw [← hz]; exact Nat.mod_lt _ (by omega)
  have HZ := hidH hz
  clear hz
  go_wp2_with fail
  go_loopg [3] z (fun g v wr => ∃ k : Nat, k ≤ z ∧ g = z - k ∧ wr.ownsRow w.heap.size 5 1 v (padTo l k).length ((padTo l k).map (Value.int .u8)) ∧ Below w.heap.size w wr)
  case atStart => exact ⟨0, by omega, by omega, O2, B2⟩
  case round =>
    obtain ⟨k, hk, rfl, hown, hB⟩ := hrel
    have hsz := hB.size
    have HL := hidH (padTo_len l k)
    have hpl : ((padTo l k).length : Int) ≤ 60000 := by rw [HL.out]; omega
    by_cases hlt : k < z
    · have ht : (((padTo l k).length : Int) % 64 != 56) = true := by
        rw [HL.out]
        have := zeros_test l.length k (by rw [HZ.out]; exact hk)
        rw [HZ.out] at this
        rw [bne_iff_ne]; omega
      obtain ⟨A1, c1, rfl, ob, _, _⟩ := own_ob hown
      have P1 := lit_bs wr 5 [0]
      have PH := hidH P1
      have OH := hidH hown
      clear P1 ob
      go_wp2_with (at_builtin; refine wpList_append_bs rfl _ _ rfl w.heap.size _ _ _ rfl (OH.out.alloc _) (some ⟨wr.heap.size, 0, none⟩) [0] 1 rfl PH.out (by have := HL.out; simp; omega) (by simp; omega) ?_)
      intro v3 w3 o3 g3
      have B3 := hidH (own_grow (m := 0) hB hown g3)
      have O3 := hidH o3
      clear o3 g3 hown hB
      go_wp2
      go_roundg (z - (k + 1))
      case rel => exact ⟨k + 1, by omega, rfl, by rw [padTo_succ]; simpa using O3.out, B3.out⟩
      case measure => omega
    · obtain rfl : k = z := by omega
      have ht : (((padTo l k).length : Int) % 64 != 56) = false := by
        rw [HL.out]
        have := (zeros_test l.length k (by rw [HZ.out]; exact hk)).2 HZ.out.symm
        rw [bne_eq_false_iff_eq]; omega
      obtain ⟨A1, c1, rfl, ob, _, _⟩ := own_ob hown
      have P4 := hidH (lit_bs wr 5 [0, 0, 0, 0])
      have OH := hidH hown
      clear ob hlt hk
      go_wp2_with (at_builtin; refine wpList_append_bs rfl _ _ rfl w.heap.size _ _ _ rfl (OH.out.alloc _) (some ⟨wr.heap.size, 0, none⟩) [0, 0, 0, 0] 4 rfl P4.out (by have := HL.out; simp; omega) (by simp; omega) ?_)
      intro v4 w4 o4 g4
      have B4 := own_grow (m := 0) hB hown g4
      have hs4 := B4.size
      have P5 := hidH (lit_bs w4 5 (pk ((l.length : Int) * 8)))
      have O4 := hidH o4
      clear hown hB g4 o4 P4 OH
      go_wp2_with (first | (go_at_call 74; refine (l1Pack_any _ _ (by omega) (by omega)).mono ?_; rintro e w' ⟨rfl, rfl⟩) | (at_builtin; refine wpList_append_bs rfl _ _ rfl w.heap.size _ _ _ rfl (O4.out.alloc _) (some ⟨w4.heap.size, 0, none⟩) (pk ((l.length : Int) * 8)) 4 rfl P5.out (by have := HL.out; simp [pk]; omega) (by simp; omega) ?_))
      intro v6 w6 o6 g6
      have B6 := hidH (own_grow (m := 0) B4 O4.out g6)
      have O6 := hidH o6
      clear g6 o6 B4
      go_wp2
      go_ret
      refine ⟨_, rfl, ?_, B6.out⟩
      have e : padL l = padTo l k ++ [0, 0, 0, 0] ++ pk ((l.length : Int) * 8) := by rw [padL, HZ.out, Int.mul_comm]
      rw [e]
      have := O6.out
      simpa [Nat.add_assoc, Nat.add_comm 4] using this
theorem own_bres {w0 w : World} {v : Value} {l : List Int} (x : Int) (h : w.ownsRow w0.heap.size 5 1 v l.length (l.map (Value.int .u8))) (hb : Below w0.heap.size w0 w) :
    ∃ A cp, v = .slice A l.length cp ∧ BRes w0 x l (.returned (.agg #[.int .i64 x, .slice A l.length cp])) w := by
  obtain ⟨A, cp, rfl, ob, h1, h2⟩ := own_ob h
  exact ⟨A, cp, rfl, A, cp, rfl, ob, hb, h1, h2⟩
theorem Ob.setCell {B C : Nat} {w : World} {A : Option Addr} {l : List Int} (h : Ob B C w A l) {p : Addr} (hp : p.block < B) (u : Value) : Ob B C (w.setCell p u) A l := by
  rcases h with h | ⟨b, off, h1, h2, h3, h4, h5⟩
  · exact .inl h
  · exact .inr ⟨b, off, h1, h2, h3, by simpa [World.setCell] using h4, fun j hj => ⟨(World.cell?_setCell_other _ _ _ _ (fun e => by subst e; simp at hp; omega)).trans (h5 j hj).1, (World.frozen?_setCell _ _ _ _).trans (h5 j hj).2⟩⟩
theorem Ob.mono {B B' C : Nat} {w : World} {A : Option Addr} {l : List Int} (h : Ob B C w A l) (hB : B' ≤ B) : Ob B' C w A l := by
  rcases h with h | ⟨b, off, h1, h2, h3, h4, h5⟩
  · exact .inl h
  · exact .inr ⟨b, off, h1, by omega, h3, h4, h5⟩
theorem bres_set {w w1 : World} {A : Option Addr} {l : List Int} {cp : Nat} (x : Int) (hO : Ob (w.heap.size + 1) w1.heap.size w1 A l) (hb : Below w.heap.size w w1) (h1 : l.length ≤ cp) (h2 : (cp : Int) ≤ 9223372036854775807) (u0 u1 : Value) :
    BRes w x l (.returned (.agg #[.int .i64 x, .slice A l.length cp])) ((w1.setCell ⟨w.heap.size, 0, none⟩ u0).setCell ⟨w.heap.size, 1, none⟩ u1) := by
  have e : ((w1.setCell ⟨w.heap.size, 0, none⟩ u0).setCell ⟨w.heap.size, 1, none⟩ u1).heap.size = w1.heap.size := by simp [World.setCell]
  refine ⟨A, cp, rfl, ?_, bst (bst hb (Nat.le_refl _) _) (Nat.le_refl _) _, h1, h2⟩
  rw [e]
  exact ((hO.setCell (p := ⟨w.heap.size, 0, none⟩) (Nat.lt_succ_self _) _).setCell (p := ⟨w.heap.size, 1, none⟩) (Nat.lt_succ_self _) _).mono (Nat.le_succ _)
def padC (l : List Int) : Int := if l.length ≤ 700 then 0 else 2
def padM (l : List Int) : List Int := if l.length ≤ 700 then padL l else []
end Go.Proofs.YtncnibkojneejaaGreatDoor

/- The model's ScheduleOf and CompressBlock. -/
namespace Go.Proofs.YtncnibkojneejaaGreatDoor
open Go.RowKit Go.Deep

/-- What a call that answers a WordsResult leaves: the answer in memory that was not there before. -/
def IRes (w : World) (c : Int) (l : List Int) (e : Ending) (w' : World) : Prop :=
  ∃ A cp, e = .returned (.agg #[.int .i64 c, .slice A l.length cp]) ∧ Oi w.heap.size w'.heap.size w' A l ∧ Below w.heap.size w w' ∧ l.length ≤ cp ∧ (cp : Int) ≤ 9223372036854775807
theorem own_oi {w : World} {B : Nat} {v : Value} {ws : List Nat} (h : w.ownsRow B 2 1 v ws.length (ws.map wv)) :
    ∃ A cp, v = .slice A (ci ws).length cp ∧ Oi B w.heap.size w A (ci ws) ∧ (ci ws).length ≤ cp ∧ (cp : Int) ≤ 9223372036854775807 := by
  rcases Nat.eq_zero_or_pos ws.length with h0 | h0
  · have hw : ws = [] := List.eq_nil_of_length_eq_zero h0
    subst hw
    obtain ⟨_, ⟨rfl, hn⟩ | ⟨g, cap, cur, rfl, hg, hblk, hnc, hm, _, _⟩⟩ := h
    · exact ⟨none, 0, rfl, .inl rfl, Nat.le_refl _, by omega⟩
    · unfold maxLen at hm
      exact ⟨_, cap, rfl, .inl rfl, Nat.zero_le _, by omega⟩
  · obtain ⟨g, cap, rfl, hg, hc1, hc2, N, F⟩ := Nw.of_own h h0
    refine ⟨_, cap, by rw [ci_len], .inr ⟨g, 0, rfl, hg, N.1, Nat.le_refl _, fun j hj => ⟨?_, ?_⟩⟩, by rw [ci_len]; exact hc1, hc2⟩
    · have hj' : j < ws.length := by rw [ci_len] at hj; exact hj
      rw [Nat.zero_add, N.2 j hj']
      simp [ci, hj']
    · rw [Nat.zero_add]; exact F j
theorem Oi.setCell {B C : Nat} {w : World} {A : Option Addr} {l : List Int} (h : Oi B C w A l) {p : Addr} (hp : p.block < B) (u : Value) : Oi B C (w.setCell p u) A l := by
  rcases h with h | ⟨b, off, h1, h2, h3, h4, h5⟩
  · exact .inl h
  · exact .inr ⟨b, off, h1, h2, h3, by simpa [World.setCell] using h4, fun j hj => ⟨(World.cell?_setCell_other _ _ _ _ (fun e => by subst e; simp at hp; omega)).trans (h5 j hj).1, (World.frozen?_setCell _ _ _ _).trans (h5 j hj).2⟩⟩
theorem Oi.mono {B B' C : Nat} {w : World} {A : Option Addr} {l : List Int} (h : Oi B C w A l) (hB : B' ≤ B) : Oi B' C w A l := by
  rcases h with h | ⟨b, off, h1, h2, h3, h4, h5⟩
  · exact .inl h
  · exact .inr ⟨b, off, h1, by omega, h3, h4, h5⟩
theorem ires_set {w w1 : World} {A : Option Addr} {l : List Int} {cp : Nat} (x : Int) (hO : Oi (w.heap.size + 1) w1.heap.size w1 A l) (hb : Below w.heap.size w w1) (h1 : l.length ≤ cp) (h2 : (cp : Int) ≤ 9223372036854775807) (u0 u1 : Value) :
    IRes w x l (.returned (.agg #[.int .i64 x, .slice A l.length cp])) ((w1.setCell ⟨w.heap.size, 0, none⟩ u0).setCell ⟨w.heap.size, 1, none⟩ u1) := by
  have e : ((w1.setCell ⟨w.heap.size, 0, none⟩ u0).setCell ⟨w.heap.size, 1, none⟩ u1).heap.size = w1.heap.size := by simp [World.setCell]
  refine ⟨A, cp, rfl, ?_, bst (bst hb (Nat.le_refl _) _) (Nat.le_refl _) _, h1, h2⟩
  rw [e]
  exact ((hO.setCell (p := ⟨w.heap.size, 0, none⟩) (Nat.lt_succ_self _) _).setCell (p := ⟨w.heap.size, 1, none⟩) (Nat.lt_succ_self _) _).mono (Nat.le_succ _)
def schC (l : List Int) : Int := if l.length = 64 then 0 else 2
def schM (l : List Int) : List Int := if l.length = 64 then ci (schedN l) else []
/-- Whether all numbers are words. -/
def allB (s : List Int) (k : Nat) : Bool := (s.take k).all wB
theorem allB_succ (s : List Int) (k : Nat) (hk : k < s.length) : allB s (k + 1) = (allB s k && wB (s.getD k 0)) := by
  unfold allB
  rw [List.take_succ_eq_append_getElem hk, List.all_append]
  simp [List.getD_eq_getElem?_getD, hk]
theorem allB_false {s : List Int} {k n : Nat} (h : allB s k = false) (hk : k ≤ n) : allB s n = false := by
  unfold allB at *
  rw [List.all_eq_false] at *
  obtain ⟨x, hx, h2⟩ := h
  exact ⟨x, (List.take_subset_take_left s hk) hx, h2⟩
/-- Numbers that are words, as words. -/
def toW (s : List Int) : List Nat := s.map Int.toNat
theorem toW_ci {s : List Int} (h : allB s s.length = true) : ci (toW s) = s := by
  unfold allB at h
  rw [List.take_length] at h
  unfold ci toW
  rw [List.map_map]
  conv => rhs; rw [← List.map_id s]
  apply List.map_congr_left
  intro x hx
  have := List.all_eq_true.1 h x hx
  simp [wB, inB] at this
  simp; omega
theorem toW_all {s : List Int} (h : allB s s.length = true) : AllW (toW s) := by
  unfold allB at h
  rw [List.take_length] at h
  intro y hy
  simp [toW] at hy
  obtain ⟨x, hx, rfl⟩ := hy
  have := List.all_eq_true.1 h x hx
  simp [wB, inB] at this
  omega
def comC (s l : List Int) : Int := if s.length = 8 ∧ l.length = 64 then (if allB s 8 = true then 0 else 3) else 2
def comM (s l : List Int) : List Int := if s.length = 8 ∧ l.length = 64 then (if allB s 8 = true then ci (compN (toW s) l) else []) else []
theorem comp_any' (A B : Option Addr) (s l : List Int) (c d : Nat) (w : World) (hA : Is w A s) (hs : allB s 8 = true) (h8 : s.length = 8) (hB : Bs w B l) (hl : Bytes l) (h64 : l.length = 64) :
    Calls Tryz.prog 73 #[.slice A s.length c, .slice B l.length d] w (WsRes w (compN (toW s) l)) := by
  have e := toW_ci (s := s) (by rw [h8]; exact hs)
  have h := comp_any A B (toW s) l c d w (by rw [e]; exact hA) (toW_all (by rw [h8]; exact hs)) (by simp [toW, h8]) hB hl h64
  rwa [e] at h
end Go.Proofs.YtncnibkojneejaaGreatDoor

/- The model's digest: l2Sha, Sha256. -/
namespace Go.Proofs.YtncnibkojneejaaGreatDoor
open Go.RowKit Go.Deep

def startN : List Nat := [1779033703, 3144134277, 1013904242, 2773480762, 1359893119, 2600822924, 528734635, 1541459225]
theorem startN_all : AllW startN := by
  have : ∀ y ∈ startN, y < 4294967296 := by decide
  exact this
def blk (p : List Int) (a : Nat) : List Int := (p.drop a).take 64
/-- The state behind k blocks. -/
def shaTo (p : List Int) : Nat → List Nat
  | 0 => startN
  | k + 1 => compN (shaTo p k) (blk p (64 * k))
theorem shaTo_len (p : List Int) (k : Nat) : (shaTo p k).length = 8 := by
  cases k with
  | zero => rfl
  | succ k => simp [shaTo, compN]
theorem compN_all (st : List Nat) (l : List Int) : AllW (compN st l) := by
  intro x hx
  simp [compN] at hx
  obtain ⟨j, _, rfl⟩ := hx
  exact Nat.mod_lt _ (by omega)
theorem shaTo_all (p : List Int) (k : Nat) : AllW (shaTo p k) := by
  cases k with
  | zero => exact startN_all
  | succ k => exact compN_all _ _
def wordsL (st : List Nat) (k : Nat) : List Int := ((st.take k).map fun (x : Nat) => pk (x : Int)).flatten
/-- The digest. -/
def shaL (l : List Int) : List Int := wordsL (shaTo (padL l) ((padL l).length / 64)) 8
theorem wordsL_succ (st : List Nat) (k : Nat) (hk : k < st.length) : wordsL st (k + 1) = wordsL st k ++ pk ((st.getD k 0 : Nat) : Int) := by
  unfold wordsL
  rw [List.take_succ_eq_append_getElem hk, List.map_append, List.flatten_append]
  simp [List.getD_eq_getElem?_getD, hk]
theorem wordsL_len (st : List Nat) (k : Nat) (hk : k ≤ st.length) : (wordsL st k).length = 4 * k := by
  induction k with
  | zero => simp [wordsL]
  | succ k ih => rw [wordsL_succ st k (by omega), List.length_append, ih (by omega)]; simp [pk]; omega
theorem padL_mod (l : List Int) : (padL l).length % 64 = 0 := by rw [padL_len]; unfold zerosN; omega
theorem pk_bytes' {a : Int} (h0 : 0 ≤ a) (h1 : a ≤ 4294967295) : Bytes (pk a) := by
  intro x hx
  simp [pk] at hx
  rcases hx with rfl | rfl | rfl | rfl <;> omega
theorem padL_bytes {l : List Int} (h : Bytes l) (hl : l.length ≤ 50000) : Bytes (padL l) := by
  intro x hx
  simp only [padL, padTo, List.mem_append, List.mem_cons, List.mem_replicate, List.not_mem_nil, or_false] at hx
  rcases hx with ((hx | rfl | ⟨_, rfl⟩) | rfl | rfl | rfl | rfl) | hx
  · exact h x hx
  · omega
  · omega
  · omega
  · omega
  · omega
  · omega
  · exact pk_bytes' (by omega) (by omega) x hx
theorem blk_len {p : List Int} {a : Nat} (h : a + 64 ≤ p.length) : (blk p a).length = 64 := by simp [blk]; omega
theorem blk_bytes {p : List Int} (h : Bytes p) (a : Nat) : Bytes (blk p a) := fun x hx => h x (List.mem_of_mem_drop (List.mem_of_mem_take hx))
theorem blk_bs {w : World} {b off : Nat} {p : List Int} (h : Bs w (some ⟨b, off, none⟩) p) {a : Nat} (ha : a + 64 ≤ p.length) : Bs w (some ⟨b, off + a, none⟩) (blk p a) := by
  rcases h with rfl | ⟨b', off', h1, h2, h3⟩
  · simp at ha
  · injection h1 with h1
    injection h1 with h1 h4
    subst h1 h4
    refine .inr ⟨b, off + a, rfl, h2, fun j hj => ?_⟩
    rw [blk_len ha] at hj
    have h5 := h3 (a + j) (by omega)
    rw [Nat.add_assoc, h5]
    congr 2
    simp [blk, List.getD_eq_getElem?_getD, List.getElem?_take_of_lt hj, List.getElem?_drop]
set_option maxHeartbeats 1000000 in
theorem start_any (w : World) : Calls Tryz.prog 72 #[] w fun e w' => e = .returned (.slice (some ⟨w.heap.size, 0, none⟩) 8 8) ∧ Nw w' w.heap.size startN ∧ Below w.heap.size w w' := by
  go_enter Tryz.func72, Tryz.ntmps72
  go_wp2
  go_ret
  exact ⟨rfl, Nw.of_blk (t := 2) (Blk.new w _ _), bal (Below.refl _ _) _⟩
theorem Nw.is {w : World} {g : Nat} {ws : List Nat} (h : Nw w g ws) : Is w (some ⟨g, 0, none⟩) (ci ws) := .inr ⟨g, 0, rfl, h.1, fun j hj => by
  rw [ci_len] at hj
  rw [Nat.zero_add, h.2 j hj]; simp [ci, hj]⟩
set_option maxRecDepth 100000 in
set_option maxHeartbeats 4000000 in
theorem sha_any (A : Option Addr) (l : List Int) (c : Nat) (w : World) (hA : Bs w A l) (hl : Bytes l) (hm : l.length ≤ 50000) :
    Calls Tryz.prog 53 #[.slice A l.length c] w (OwnB w (shaL l)) := by
  go_enter Tryz.func53, Tryz.ntmps53
  go_wp2_with fail
  refine (pad_any _ _ _ _ hA hm).mono ?_
  rintro e w1 ⟨pv, rfl, o1, b1⟩
  obtain ⟨P, pc, rfl, ob, hpc, hpm⟩ := own_ob o1
  have P1 := ob.bs
  have hpb := padL_bytes hl hm
  have hp64 := padL_mod l
  have hpl : (padL l).length ≤ 60000 := by rw [padL_len]; unfold zerosN; omega
  have hp0 : 0 < (padL l).length := by rw [padL_len]; omega
  have hsha : shaL l = wordsL (shaTo (padL l) ((padL l).length / 64)) 8 := rfl
  generalize padL l = p at *
  have HSHA := hidH hsha
  have H64 := hidH hp64
  clear o1 ob hA hsha hp64
  go_wp2_with fail
  refine (start_any _).mono ?_
  rintro e w2 ⟨rfl, N2, b2⟩
  have P2 := bs_below P1 b2
  have B2 := btr b1 b2
  clear b1 b2 P1
  go_wp2_with fail
  go_loopw [4, 5] (fun v i wr => ∃ (k a c4 : Nat) (A4 : Option Addr), i = .int .i64 a ∧ a = 64 * k ∧ a ≤ p.length ∧ v = .slice A4 (ci (shaTo p k)).length c4 ∧ Is wr A4 (ci (shaTo p k)) ∧ Bs wr P p ∧ Below w.heap.size w wr) (fun _ i _ => p.length - (intOf i).toNat)
  case atStart => exact ⟨0, 0, 8, some ⟨w1.heap.size, 0, none⟩, rfl, rfl, Nat.zero_le _, rfl, N2.is, P2, B2⟩
  case round =>
    obtain ⟨k, a, c4, A4, rfl, hak, hap, rfl, hI, hP, hB⟩ := hrel
    have HAK := hidH hak
    clear hak N2 P2 B2
    by_cases hlt : a < p.length
    · have ha64 : a + 64 ≤ p.length := by have h1 := H64.out; have h2 := HAK.out; omega
      have hi0 : (0 : Int) ≤ (a : Int) := by omega
      have hi1 : (a : Int) < (p.length : Int) := by omega
      have hi2 : (a : Int) + 64 ≤ (pc : Int) := by omega
      have hi3 : (a : Int) ≤ (a : Int) + 64 := by omega
      obtain ⟨b, off, rfl⟩ : ∃ b off, P = some ⟨b, off, none⟩ := by
        rcases hP with h | ⟨b, off, h, _⟩
        · rw [h] at hp0; simp at hp0
        · exact ⟨b, off, h⟩
      have Q := blk_bs hP ha64
      have ql := blk_len (p := p) ha64
      have qb := blk_bytes hpb a
      have hne : ¬ pc = a := by omega
      have hs8 := shaTo_len p k
      have hsa := shaTo_all p k
      have hsn : shaTo p (k + 1) = compN (shaTo p k) (blk p a) := by rw [shaTo, HAK.out]
      have QL := hidH ql
      have HS8 := hidH hs8
      have HSN := hidH hsn
      have QH := hidH Q
      have IH := hidH hI
      clear Q ql hs8 hsn hI
      have CP : Calls Tryz.prog 73 #[.slice A4 (ci (shaTo p k)).length c4, .slice (some ⟨b, off + a, none⟩) 64 (pc - a)] wr (WsRes wr (shaTo p (k + 1))) := by
        have h := comp_any A4 (some ⟨b, off + a, none⟩) (shaTo p k) (blk p a) c4 (pc - a) wr IH.out hsa HS8.out QH.out qb QL.out
        rw [QL.out] at h
        rw [HSN.out]; exact h
      have CPH := hidH CP
      clear CP qb hsa
      go_wp2_with fail
      refine CPH.out.mono ?_
      rintro e w3 ⟨v3, rfl, o3, b3⟩
      obtain ⟨A5, c5, rfl, oi, _, _⟩ := own_oi o3
      have I5 := hidH oi.is
      have P5 := hidH (bs_below hP b3)
      have B5 := hidH (btr hB b3)
      clear o3 b3 oi hP hB
      go_wp2
      go_roundw
      case rel => first | exact ⟨k + 1, a + 64, c5, A5, by go_num, by have := HAK.out; omega, ha64, rfl, I5.out, P5.out, B5.out⟩ | ((repeat apply Exists.intro); exact ⟨⟨k + 1, a + 64, c5, A5, by go_num, by have := HAK.out; omega, ha64, rfl, I5.out, P5.out, B5.out⟩, rfl⟩)
      case measure => simp [intOf]; omega
    · have hae : a = p.length := by omega
      have hk : p.length / 64 = k := by have := HAK.out; omega
      have hge : (p.length : Int) ≤ (a : Int) := by omega
      have hd2 : decide (a < p.length) = false := by simp; omega
      have HKK := hidH hk
      have HB2 := hidH hB
      have st8 := shaTo_len p k
      have sta := shaTo_all p k
      obtain ⟨st, hst⟩ : ∃ st, shaTo p k = st := ⟨_, rfl⟩
      have I1 : Is wr A4 (ci st) := by rw [← hst]; exact hI
      rw [hst] at st8 sta
      have hcl : (ci (shaTo p k)).length = 8 := by rw [hst, ci_len, st8]
      have IH := hidH I1
      have ST8 := hidH st8
      have HST := hidH hst
      clear hae hk hI hP hB hst I1 st8 hlt
      rw [hcl]
      clear hcl
      go_wp2_with fail
      obtain ⟨wo, rfl⟩ : ∃ wo : World, wo = wr := ⟨_, rfl⟩
      go_loopw [6, 7] (fun o j wq => ∃ i : Nat, i ≤ 8 ∧ j = .int .i64 i ∧ wq.ownsRow wo.heap.size 5 1 o (wordsL st i).length ((wordsL st i).map (Value.int .u8)) ∧ Below wo.heap.size wo wq) (fun _ j _ => 8 - (intOf j).toNat)
      case atStart => exact ⟨0, by omega, rfl, World.ownsRow_lit wo #[] 0 (Nat.le_refl _) (by unfold maxLen; omega) rfl, bal (Below.refl _ _) _⟩
      case round =>
        obtain ⟨i, hi8, rfl, hown, hBq⟩ := hrel
        have hsz := hBq.size
        have WL := hidH (wordsL_len st i (by rw [ST8.out]; exact hi8))
        by_cases hlt : i < 8
        · have hi0 : (0 : Int) ≤ (i : Int) := by omega
          have hi1 : (i : Int) < 8 := by omega
          obtain ⟨b, off, rfl, _, hcc⟩ : ∃ b off, A4 = some ⟨b, off, none⟩ ∧ b < wr.heap.size ∧ ∀ j, j < (ci st).length → wr.cell? ⟨b, off + j, none⟩ = some (.int .i64 ((ci st).getD j 0)) := by
            rcases is_below IH.out hBq with h | h
            · have h1 := ST8.out; rw [← ci_len, h] at h1; simp at h1
            · exact h
          have c1 := hcc i (by rw [ci_len, ST8.out]; exact hlt)
          have hce : (ci st).getD i 0 = ((st.getD i 0 : Nat) : Int) := by
            have : i < st.length := by rw [ST8.out]; exact hlt
            simp [ci, this]
          rw [hce] at c1
          have x1 := sta.get i
          have hsucc := hidH (wordsL_succ st i (by rw [ST8.out]; exact hlt))
          obtain ⟨x, hx⟩ : ∃ x, st.getD i 0 = x := ⟨_, rfl⟩
          rw [hx] at c1 x1
          have HX := hidH hx
          have P5 := hidH (lit_bs wr 5 (pk (x : Int)))
          have OH := hidH hown
          clear hx hcc hce
          go_wp2_with (first | (go_at_call 74; refine (l1Pack_any _ _ (by omega) (by omega)).mono ?_; rintro e w' ⟨rfl, rfl⟩) | (at_builtin; refine wpList_append_bs rfl _ _ rfl wo.heap.size _ _ _ rfl (OH.out.alloc _) (some ⟨wr.heap.size, 0, none⟩) (pk (x : Int)) 4 rfl P5.out (by have := WL.out; simp [pk]; omega) (by simp; omega) ?_))
          intro v6 w6 o6 g6
          have B6 := hidH (own_grow (m := 0) hBq hown g6)
          have O6 := hidH o6
          clear g6 o6 hBq hown
          go_wp2
          go_roundw
          case rel => first | exact ⟨i + 1, by omega, by go_num, by rw [hsucc.out, HX.out]; simpa using O6.out, B6.out⟩ | ((repeat apply Exists.intro); exact ⟨⟨i + 1, by omega, by go_num, by rw [hsucc.out, HX.out]; simpa using O6.out, B6.out⟩, rfl⟩)
          case measure => simp [intOf]; omega
        · obtain rfl : i = 8 := by omega
          have O1 := own_mono hown HB2.out.size
          have O2 := hidH O1
          have B2 := hidH (btr HB2.out hBq)
          clear hown O1 hBq hlt hi8
          go_wp2
          go_ret
          exact ⟨_, rfl, by rw [HSHA.out, HKK.out, HST.out]; exact O2.out, B2.out⟩
end Go.Proofs.YtncnibkojneejaaGreatDoor

/- CRC-32C as a function on numbers: a byte that is turned always turns it. Nothing of the program. -/
namespace Go.Proofs.YtncnibkojneejaaGreatDoor

theorem xor_can {a b c : Nat} (h : a ^^^ c = b ^^^ c) : a = b := by
  have := congrArg (· ^^^ c) h
  simpa [Nat.xor_assoc] using this
theorem xor_can' {a b c : Nat} (h : c ^^^ a = c ^^^ b) : a = b := xor_can (c := c) (by rw [Nat.xor_comm a, Nat.xor_comm b]; exact h)
def crcBit (n : Nat) : Nat := if n % 2 = 1 then n / 2 ^^^ 2197175160 else n / 2
def crcBits (n : Nat) : Nat → Nat
  | 0 => n
  | k + 1 => crcBit (crcBits n k)
def crcStep (n b : Nat) : Nat := crcBits (n ^^^ b) 8
def crcTo (n : Nat) (l : List Nat) : Nat := l.foldl crcStep n
def crcV (l : List Nat) : Nat := crcTo 4294967295 l ^^^ 4294967295
theorem crcBit_lt {n : Nat} (h : n < 4294967296) : crcBit n < 4294967296 := by
  unfold crcBit
  split
  · exact Nat.xor_lt_two_pow (n := 32) (by omega) (by omega)
  · omega
theorem crcBits_lt {n : Nat} (h : n < 4294967296) (k : Nat) : crcBits n k < 4294967296 := by
  induction k with
  | zero => exact h
  | succ k ih => exact crcBit_lt ih
/-- The polynomial's highest bit tells whether the number was odd. -/
theorem crcBit_top {n : Nat} (h : n < 4294967296) : (crcBit n).testBit 31 = decide (n % 2 = 1) := by
  have hd : (n / 2).testBit 31 = false := Nat.testBit_lt_two_pow (by omega)
  unfold crcBit
  split
  · next ho => rw [Nat.testBit_xor, hd, ho]; decide
  · next ho => rw [hd]; simp [ho]
theorem crcBit_inj {a b : Nat} (ha : a < 4294967296) (hb : b < 4294967296) (h : crcBit a = crcBit b) : a = b := by
  have h1 := crcBit_top ha
  have h2 := crcBit_top hb
  rw [h, h2] at h1
  unfold crcBit at h
  by_cases hA : a % 2 = 1
  · have hB : b % 2 = 1 := by simpa [hA] using h1
    rw [if_pos hA, if_pos hB] at h
    have := xor_can h
    omega
  · have hB : ¬ b % 2 = 1 := by simpa [hA] using h1
    rw [if_neg hA, if_neg hB] at h
    omega
theorem crcBits_inj {a b : Nat} (ha : a < 4294967296) (hb : b < 4294967296) (k : Nat) (h : crcBits a k = crcBits b k) : a = b := by
  induction k with
  | zero => exact h
  | succ k ih => exact ih (crcBit_inj (crcBits_lt ha k) (crcBits_lt hb k) h)
theorem crc_xor_lt {n b : Nat} (hn : n < 4294967296) (hb : b < 256) : n ^^^ b < 4294967296 := Nat.xor_lt_two_pow (n := 32) hn (by omega)
theorem crcStep_lt {n b : Nat} (hn : n < 4294967296) (hb : b < 256) : crcStep n b < 4294967296 := crcBits_lt (crc_xor_lt hn hb) 8
theorem crcTo_lt {n : Nat} {l : List Nat} (hn : n < 4294967296) (hl : ∀ x ∈ l, x < 256) : crcTo n l < 4294967296 := by
  induction l generalizing n with
  | nil => exact hn
  | cons x l ih => exact ih (crcStep_lt hn (hl x (by simp))) (fun y hy => hl y (by simp [hy]))
theorem crcTo_inj {a b : Nat} {l : List Nat} (ha : a < 4294967296) (hb : b < 4294967296) (hl : ∀ x ∈ l, x < 256) (h : crcTo a l = crcTo b l) : a = b := by
  induction l generalizing a b with
  | nil => exact h
  | cons x l ih =>
    have hx := hl x (by simp)
    have := ih (crcStep_lt ha hx) (crcStep_lt hb hx) (fun y hy => hl y (by simp [hy])) h
    exact xor_can (crcBits_inj (crc_xor_lt ha hx) (crc_xor_lt hb hx) 8 this)
/-- One byte turned: another sum. -/
theorem crcTo_turn {n : Nat} {l : List Nat} (k v : Nat) (hn : n < 4294967296) (hl : ∀ x ∈ l, x < 256) (hk : k < l.length) (hv : v < 256) (hne : v ≠ l.getD k 0) : crcTo n (l.set k v) ≠ crcTo n l := by
  induction l generalizing n k with
  | nil => simp at hk
  | cons x l ih =>
    have hx := hl x (by simp)
    have hl' : ∀ y ∈ l, y < 256 := fun y hy => hl y (by simp [hy])
    cases k with
    | zero =>
      intro h
      simp only [List.set_cons_zero] at h
      have h2 := crcTo_inj (crcStep_lt hn hv) (crcStep_lt hn hx) hl' h
      have h3 := crcBits_inj (crc_xor_lt hn hv) (crc_xor_lt hn hx) 8 h2
      exact hne (by simpa using xor_can' h3)
    | succ k =>
      simp only [List.set_cons_succ]
      exact ih k (crcStep_lt hn hx) hl' (by simpa using hk) (by simpa using hne)
theorem crcV_lt {l : List Nat} (hl : ∀ x ∈ l, x < 256) : crcV l < 4294967296 := Nat.xor_lt_two_pow (n := 32) (crcTo_lt (by omega) hl) (by omega)
theorem crcV_turn {l : List Nat} (k v : Nat) (hl : ∀ x ∈ l, x < 256) (hk : k < l.length) (hv : v < 256) (hne : v ≠ l.getD k 0) : crcV (l.set k v) ≠ crcV l := fun h =>
  crcTo_turn k v (by decide) hl hk hv hne (xor_can h)
end Go.Proofs.YtncnibkojneejaaGreatDoor

/- A byte turned by a mask. Nothing of the program. -/
namespace Go.Proofs.YtncnibkojneejaaGreatDoor
open Go.RowKit Go.Deep

def byteX (m : Nat) (x : Int) : Int := ((x.toNat ^^^ m : Nat) : Int)
theorem byteX_byte {m : Nat} (hm : m < 256) {x : Int} (h0 : 0 ≤ x) (h1 : x ≤ 255) : 0 ≤ byteX m x ∧ byteX m x ≤ 255 := by
  have : x.toNat ^^^ m < 256 := Nat.xor_lt_two_pow (n := 8) (by omega) hm
  unfold byteX
  omega
theorem byteX_ne {m : Nat} (hm : 0 < m) {x : Int} (h0 : 0 ≤ x) : byteX m x ≠ x := by
  intro h
  have h2 : x.toNat ^^^ m = x.toNat ^^^ 0 := by unfold byteX at h; rw [Nat.xor_zero]; omega
  have := xor_can' h2
  omega
theorem u8_xor (x m : Int) (h0 : 0 ≤ x) (h1 : x ≤ 255) (h2 : 0 ≤ m) (h3 : m ≤ 255) : bits .xor .u8 x m = byteX m.toNat x := by
  obtain ⟨a, rfl⟩ : ∃ a : Nat, x = a := ⟨x.toNat, by omega⟩
  obtain ⟨b, rfl⟩ : ∃ b : Nat, m = b := ⟨m.toNat, by omega⟩
  have hx : a ^^^ b < 256 := Nat.xor_lt_two_pow (n := 8) (by omega) (by omega)
  show IntKind.u8.wrap ((BitVec.ofInt 8 (a : Int) ^^^ BitVec.ofInt 8 (b : Int)).toNat : Int) = _
  have e1 : (BitVec.ofInt 8 (a : Int)).toNat = a := by simp; omega
  have e2 : (BitVec.ofInt 8 (b : Int)).toNat = b := by simp; omega
  rw [BitVec.toNat_xor, e1, e2]
  unfold byteX IntKind.wrap
  simp only [Int.toNat_natCast]
  simp [IntKind.bits, IntKind.signed]
  omega
/-- Turned at one place a list is another one. -/
theorem turn_ne {l : List Int} (hl : Bytes l) (k m : Nat) (hk : k < l.length) (hm : 0 < m) : l.set k (byteX m (l.getD k 0)) ≠ l := by
  intro h
  have h2 := congrArg (fun x => x.getD k 0) h
  simp [List.getD_eq_getElem?_getD, hk] at h2
  have hb := hl.get k
  rw [List.getD_eq_getElem?_getD] at hb
  simp [hk] at hb
  exact byteX_ne hm hb.1 h2
end Go.Proofs.YtncnibkojneejaaGreatDoor

/- HMAC-SHA-256 as a function on lists of bytes. Nothing of the program. -/
namespace Go.Proofs.YtncnibkojneejaaGreatDoor
open Go.RowKit Go.Deep

def padZ (l : List Int) : List Int := l ++ List.replicate (64 - l.length) 0
def keyK (key : List Int) : List Int := if 64 < key.length then shaL key else key
def blockK (key : List Int) (m : Nat) : List Int := (padZ (keyK key)).map (byteX m)
def hmL (key data : List Int) : List Int := shaL (blockK key 92 ++ shaL (blockK key 54 ++ data))
def hmC (key data : List Int) : Int := if key.length ≤ 200 ∧ data.length ≤ 600 then 0 else 2
def hmM (key data : List Int) : List Int := if key.length ≤ 200 ∧ data.length ≤ 600 then hmL key data else []
theorem shaL_len' (l : List Int) : (shaL l).length = 32 := by rw [shaL, wordsL_len _ _ (by rw [shaTo_len]; omega)]
theorem wordsL_bytes {st : List Nat} (h : AllW st) (k : Nat) : Bytes (wordsL st k) := by
  intro x hx
  unfold wordsL at hx
  rw [List.mem_flatten] at hx
  obtain ⟨l, hl, hx⟩ := hx
  rw [List.mem_map] at hl
  obtain ⟨y, hy, rfl⟩ := hl
  have := h y (List.mem_of_mem_take hy)
  exact pk_bytes' (a := (y : Int)) (by omega) (by omega) x hx
theorem shaL_bytes (l : List Int) : Bytes (shaL l) := wordsL_bytes (shaTo_all _ _) _
theorem keyK_len (key : List Int) : (keyK key).length ≤ 64 := by
  unfold keyK; split
  · rw [shaL_len']; omega
  · omega
theorem blockK_len (key : List Int) (m : Nat) : (blockK key m).length = 64 := by
  have := keyK_len key
  simp [blockK, padZ]; omega
theorem keyK_bytes {key : List Int} (h : Bytes key) : Bytes (keyK key) := by
  unfold keyK; split
  · exact shaL_bytes key
  · exact h
theorem blockK_bytes {key : List Int} (h : Bytes key) {m : Nat} (hm : m < 256) : Bytes (blockK key m) := by
  intro x hx
  simp only [blockK, padZ, List.mem_map, List.mem_append, List.mem_replicate] at hx
  obtain ⟨y, hy | ⟨_, rfl⟩, rfl⟩ := hx
  · have := keyK_bytes h y hy
    exact byteX_byte hm this.1 this.2
  · exact byteX_byte hm (Int.le_refl _) (by omega)
/-- A key with a zero byte behind it is the same key. -/
theorem blockK_zero (key : List Int) (m : Nat) (h : key.length < 64) : blockK (key ++ [0]) m = blockK key m := by
  have e1 : keyK (key ++ [0]) = key ++ [0] := by rw [keyK, if_neg (by simp; omega)]
  have e2 : keyK key = key := by rw [keyK, if_neg (by omega)]
  rw [blockK, blockK, e1, e2, padZ, padZ]
  congr 1
  rw [List.append_assoc]
  congr 1
  simp only [List.length_append, List.length_cons, List.length_nil]
  rw [show 64 - key.length = (64 - (key.length + 1)) + 1 from by omega, List.replicate_succ]
  rfl
/-- A key that is too long and its digest are the same key. -/
theorem blockK_sha (key : List Int) (m : Nat) (h : 64 < key.length) : blockK (shaL key) m = blockK key m := by
  have e1 : keyK (shaL key) = shaL key := by rw [keyK, if_neg (by rw [shaL_len']; omega)]
  have e2 : keyK key = shaL key := by rw [keyK, if_pos h]
  rw [blockK, blockK, e1, e2]
theorem hmL_zero (key data : List Int) (h : key.length < 64) : hmL (key ++ [0]) data = hmL key data := by
  rw [hmL, hmL, blockK_zero _ _ h, blockK_zero _ _ h]
theorem hmL_sha (key data : List Int) (h : 64 < key.length) : hmL (shaL key) data = hmL key data := by
  rw [hmL, hmL, blockK_sha _ _ h, blockK_sha _ _ h]
theorem hmL_len (key data : List Int) : (hmL key data).length = 32 := shaL_len' _
theorem hmL_bytes (key data : List Int) : Bytes (hmL key data) := shaL_bytes _
theorem hmM_le (key data : List Int) : ((hmM key data).length : Int) ≤ 100000 := by
  unfold hmM; split
  · rw [hmL_len]; omega
  · simp
def sameL (a b : List Int) : Bool := decide (a.length = 32) && decide (a = b)
end Go.Proofs.YtncnibkojneejaaGreatDoor

/- The laws' lwBytes: two slices of the same bytes are the same text. -/
namespace Go.Proofs.YtncnibkojneejaaGreatDoor
open Go.RowKit Go.Deep
theorem conv_bs (w : World) (A : Option Addr) (l : List Int) (c : Nat) (h : Bs w A l) : (convert 22 9 (.slice A l.length c)).run Tryz.prog w = .ok (.string (strOfNums l)) w := by
  rcases h with rfl | ⟨b, off, rfl, _, h⟩
  · rw [List.length_nil, run_convert_bytes_string w 22 9 5 _ 0 c Tryz.underlying22 Tryz.underlying5 Tryz.underlying9]
    cases A <;> simp [Conv.bytesToString, loadCells]
    all_goals rfl
  · exact run_convert_bytes_arg w 22 5 Tryz.underlying22 Tryz.underlying5 b off _ c l rfl h 9 Tryz.underlying9
end Go.Proofs.YtncnibkojneejaaGreatDoor

/- The model's SameMac. -/
namespace Go.Proofs.YtncnibkojneejaaGreatDoor
open Go.RowKit Go.Deep

def sameM (a b : List Int) : Bool := a.length == 32 && a == b
theorem strOfNums_inj {a b : List Int} (ha : Bytes a) (hb : Bytes b) (h : strOfNums a = strOfNums b) : a = b := by
  have e : a.map (fun n => UInt8.ofNat n.toNat) = b.map (fun n => UInt8.ofNat n.toNat) := by
    rw [← strOfNums_data, ← strOfNums_data, h]
  have key : ∀ (l : List Int), Bytes l → (l.map (fun n => UInt8.ofNat n.toNat)).map (fun (u : UInt8) => (u.toNat : Int)) = l := by
    intro l hl
    rw [List.map_map]
    conv => rhs; rw [← List.map_id l]
    refine List.map_congr_left fun x hx => ?_
    have := hl x hx
    simp only [Function.comp, id, UInt8.toNat_ofNat']
    omega
  rw [← key a ha, ← key b hb, e]
set_option maxHeartbeats 1000000 in
theorem same_spec (A B : Option Addr) (a b : List Int) (c d : Nat) (w : World) (hA : Bs w A a) (hB : Bs w B b) (ha : Bytes a) (hb : Bytes b) :
    Calls Tryz.prog 34 #[.slice A a.length c, .slice B b.length d] w fun e w' => e = .returned (.bool (sameM a b)) ∧ w = w' := by
  have h1 := conv_bs w A a c hA
  have h2 := conv_bs w B b d hB
  clear hA hB
  by_cases h : a.length = 32
  · have h3 : ((a.length : Int) == 32) = true := by rw [beq_iff_eq]; omega
    have hs : ((strOfNums a).toList == (strOfNums b).toList) = sameM a b := by
      rw [sameM, h, ByteArray.toList_eq, ByteArray.toList_eq]
      by_cases e : a = b
      · subst e; simp
      · have : (strOfNums a).data.toList ≠ (strOfNums b).data.toList := fun x => e (strOfNums_inj ha hb (by
          cases hx : strOfNums a; cases hy : strOfNums b
          rw [hx, hy] at x
          simpa using x))
        rw [beq_eq_false_iff_ne.2 this, beq_eq_false_iff_ne.2 e]; rfl
    clear h
    go_enter Tryz.func34, Tryz.ntmps34
    go_wp2
    go_ret
    exact ⟨rfl, rfl⟩
  · have h3 : ((a.length : Int) == 32) = false := by rw [beq_eq_false_iff_ne]; omega
    have hs : sameM a b = false := by simp [sameM, h]
    rw [hs]
    clear h hs
    go_enter Tryz.func34, Tryz.ntmps34
    go_wp2
    go_ret
    exact ⟨rfl, rfl⟩
end Go.Proofs.YtncnibkojneejaaGreatDoor

/- Chapter 7 on lists: protecting, checking. -/
namespace Go.Proofs.YtncnibkojneejaaGreatDoor
open Go.RowKit Go.Deep

/-! Protecting. -/
def pcL (id : Int) (key : List Int) (r : List ChunkM) : List ChunkM := tagC id (hmL key (txtL id r)) :: r
def pcF (id : Int) (key : List Int) (r : List ChunkM) : Int := if key.length ≤ 200 then mtF id r else 2
def pcR (id : Int) (key : List Int) (r : List ChunkM) : ChunksResultM := if pcF id key r = 0 then ⟨0, pcL id key r⟩ else ⟨pcF id key r, []⟩

/-! Checking. -/
def caT (key : List Int) (r : List ChunkM) (f : AuthResultM) : AuthResultM :=
  if mtF f.KeyId (r.drop f.From.toNat) = 0 then (if sameM ((r.getD (f.From.toNat - 1) ⟨0, 0, []⟩).Body.drop 2) (hmL key (txtL f.KeyId (r.drop f.From.toNat))) then f else ⟨10, 0, 0⟩)
  else ⟨mtF f.KeyId (r.drop f.From.toNat), 0, 0⟩
def caR (key : List Int) (r : List ChunkM) : AuthResultM := if key.length ≤ 200 then (if (faR r).Code = 0 then caT key r (faR r) else faR r) else ⟨2, 0, 0⟩
end Go.Proofs.YtncnibkojneejaaGreatDoor
