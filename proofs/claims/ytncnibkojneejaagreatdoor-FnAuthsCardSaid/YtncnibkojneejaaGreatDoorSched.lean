/- The model's schedule of SHA-256: l2Schedule, as a function on lists of numbers. -/
import Derived.Test.YtncnibkojneejaaGreatDoorSha
import Derived.Test.YtncnibkojneejaaGreatDoorJa4
import Derived.Test.YtncnibkojneejaaGreatDoorJa0
import Derived.Deep.RegionLaw
import Derived.Deep.AppendLies
namespace Go.Proofs.YtncnibkojneejaaGreatDoor
open Go.RowKit Go.Deep

def wv (x : Nat) : Value := .int .i64 x
def wordN (l : List Int) (i : Nat) : Nat := (atW l (4 * i)).toNat
def nextN (ws : List Nat) : Nat :=
  (ws.getD (ws.length - 16) 0 + ws.getD (ws.length - 7) 0 + (smallN (ws.getD (ws.length - 15) 0) 7 18 3 + smallN (ws.getD (ws.length - 2) 0) 17 19 10)) % 4294967296
def schedTo (l : List Int) : Nat → List Nat
  | 0 => (List.range 16).map (wordN l)
  | n + 1 => schedTo l n ++ [nextN (schedTo l n)]
def schedN (l : List Int) : List Nat := schedTo l 48
theorem schedTo_len (l : List Int) (n : Nat) : (schedTo l n).length = 16 + n := by
  induction n with
  | zero => simp [schedTo]
  | succ n ih => simp [schedTo, ih]; omega
def AllW (ws : List Nat) : Prop := ∀ x ∈ ws, x < 4294967296
theorem AllW.get {ws : List Nat} (h : AllW ws) (k : Nat) : ws.getD k 0 < 4294967296 := by
  rw [List.getD_eq_getElem?_getD]
  rcases Nat.lt_or_ge k ws.length with hk | hk
  · rw [List.getElem?_eq_getElem hk]; exact h _ (List.getElem_mem hk)
  · rw [List.getElem?_eq_none hk]; simp
theorem wordN_lt {l : List Int} (hl : Bytes l) (i : Nat) : wordN l i < 4294967296 := by
  obtain ⟨a0, a1⟩ := hl.get (4 * i)
  obtain ⟨b0, b1⟩ := hl.get (4 * i + 1)
  obtain ⟨c0, c1⟩ := hl.get (4 * i + 2)
  obtain ⟨e0, e1⟩ := hl.get (4 * i + 3)
  unfold wordN atW
  omega
theorem wordN_cast {l : List Int} (hl : Bytes l) (i : Nat) : ((wordN l i : Nat) : Int) = atW l (4 * i) := by
  obtain ⟨a0, a1⟩ := hl.get (4 * i)
  obtain ⟨b0, b1⟩ := hl.get (4 * i + 1)
  obtain ⟨c0, c1⟩ := hl.get (4 * i + 2)
  obtain ⟨e0, e1⟩ := hl.get (4 * i + 3)
  unfold wordN atW
  omega
theorem schedTo_all {l : List Int} (hl : Bytes l) (n : Nat) : AllW (schedTo l n) := by
  induction n with
  | zero => intro x hx; simp [schedTo] at hx; obtain ⟨i, _, rfl⟩ := hx; exact wordN_lt hl i
  | succ n ih =>
    intro x hx
    simp only [schedTo, List.mem_append, List.mem_singleton] at hx
    rcases hx with h | rfl
    · exact ih x h
    · exact Nat.mod_lt _ (by omega)

theorem at4_any (A : Option Addr) (l : List Int) (c i : Nat) (w : World) (hA : Bs w A l) (hl : Bytes l) (hm : (l.length : Int) ≤ 9223372036854775807) (hi : 4 * i + 4 ≤ l.length) :
    Calls Tryz.prog 99 #[.slice A l.length c, .int .i64 (4 * (i : Int))] w (NR w ((wordN l i : Nat) : Int)) := by
  rcases hA with rfl | ⟨b, off, rfl, hb, hA⟩
  · simp at hi
  · rw [wordN_cast hl, show (4 * (i : Int)) = ((4 * i : Nat) : Int) from by omega]
    exact l1At_any b off _ c (4 * i) _ _ _ _ w hi hm (hA _ (by omega)) (hA _ (by omega)) (hA _ (by omega)) (hA _ (by omega)) (hl.get _).1 (hl.get _).2 (hl.get _).1 (hl.get _).2 (hl.get _).1 (hl.get _).2 (hl.get _).1 (hl.get _).2
/-- A slice of numbers of the call's own comes back; what was there has not turned. -/
def WsRes (w : World) (ws : List Nat) (e : Ending) (w' : World) : Prop :=
  ∃ v, e = .returned v ∧ w'.ownsRow w.heap.size 2 1 v ws.length (ws.map wv) ∧ Below w.heap.size w w'
set_option maxRecDepth 100000 in
set_option maxHeartbeats 4000000 in
theorem sched_any (A : Option Addr) (l : List Int) (c : Nat) (w : World) (hA : Bs w A l) (hl : Bytes l) (h64 : l.length = 64) :
    Calls Tryz.prog 86 #[.slice A l.length c] w (WsRes w (schedN l)) := by
  have hm : (l.length : Int) ≤ 64 := by omega
  have hlen : 64 ≤ l.length := by omega
  clear h64
  obtain ⟨i0, hi, hzz⟩ := Option.map_eq_some_iff.1 infoI64
  simp only [Prod.mk.injEq] at hzz
  obtain ⟨hz0, hz1, hz2⟩ := hzz
  go_enter Tryz.func86, Tryz.ntmps86
  go_wp2
  go_loopw [3, 4] (fun v i wr => ∃ k : Nat, k ≤ 16 ∧ i = .int .i64 k ∧ wr.ownsRow w.heap.size 2 1 v k (((List.range k).map (wordN l)).map wv) ∧ Below w.heap.size w wr) (fun _ i _ => 16 - (intOf i).toNat)
  case atStart => exact ⟨0, by omega, rfl, World.ownsRow_lit w #[] 0 (Nat.le_refl _) (by unfold maxLen; omega) rfl, bal (Below.refl _ _) _⟩
  case round =>
    obtain ⟨k, hk, rfl, hown, hB⟩ := hrel
    have hsz := hB.size
    by_cases hlt : k < 16
    · have hlti : (k : Int) < 16 := by omega
      go_wp2_with fail
      refine (at4_any _ _ _ k _ (bs_below hA hB) hl (by omega) (by omega)).mono ?_
      rintro e w1 ⟨rfl, m, rfl⟩
      have hown1 := own_drewN hown m
      go_wp2_with (at_builtin; refine wpList_append_own _ rfl _ _ 74 rfl w.heap.size 2 i0 (.int .i64 0) 1 8 Tryz.underlying74 hi hz0 hz1 hz2 rfl (by decide) _ _ _ rfl (hown1.alloc _) ⟨wr.heap.size, 0, none⟩ 1 1 [wv (wordN l k)] rfl rfl ?c1 ?c2 ?c3 ?c4 ?c5 ?_)
      case c1 => exact cell_one_new _ _ _
      case c2 => intro u hu; simp at hu; subst hu; rfl
      case c3 => unfold maxLen; omega
      case c4 => omega
      case c5 => simp; omega
      intro v' w2 hown' hgrow _
      have B2 := hidH (own_grow hB hown hgrow)
      have O2 := hidH hown'
      clear hown hown1 hown' hgrow hB
      go_wp2
      go_roundw
      case rel => exact ⟨k + 1, by omega, by go_num, by have := O2.out; simpa [List.range_succ] using this, B2.out⟩
      case measure => simp [intOf]; omega
    · obtain rfl : k = 16 := by omega
      have O1 : wr.ownsRow w.heap.size 2 1 _ (schedTo l 0).length ((schedTo l 0).map wv) := hown
      have O := hidH O1
      have B := hidH hB
      clear hown hB O1 hlt hk
      go_wp2
      go_loopw [3, 5] (fun v i wr => ∃ k : Nat, k ≤ 48 ∧ i = .int .i64 ((16 + k : Nat) : Int) ∧ wr.ownsRow w.heap.size 2 1 v (schedTo l k).length ((schedTo l k).map wv) ∧ Below w.heap.size w wr) (fun _ i _ => 64 - (intOf i).toNat)
      case atStart => exact ⟨0, by omega, rfl, O.out, B.out⟩
      case round =>
        obtain ⟨k, hk, rfl, hown, hB⟩ := hrel
        have hsz2 := hB.size
        have hL := schedTo_len l k
        have hW := schedTo_all hl k
        have hN : schedTo l (k + 1) = schedTo l k ++ [nextN (schedTo l k)] := rfl
        have HN := hidH hN
        clear hN
        generalize hws : schedTo l k = ws at *
        have HL := hidH hL
        by_cases hlt : k < 48
        · have hlti : (16 : Int) + (k : Int) < 64 := by omega
          obtain ⟨g, cap, rfl, hg1, hg2⟩ := hown.form (by omega)
          have n0 : (ws.length : Int) ≤ 64 := by omega
          have i1 : (16 : Int) + (k : Int) - 15 < (ws.length : Int) := by omega
          have i2 : (16 : Int) + (k : Int) - 2 < (ws.length : Int) := by omega
          have i3 : (16 : Int) + (k : Int) - 16 < (ws.length : Int) := by omega
          have i4 : (16 : Int) + (k : Int) - 7 < (ws.length : Int) := by omega
          have j1 : (0 : Int) ≤ (16 : Int) + (k : Int) - 15 := by omega
          have j2 : (0 : Int) ≤ (16 : Int) + (k : Int) - 2 := by omega
          have j3 : (0 : Int) ≤ (16 : Int) + (k : Int) - 16 := by omega
          have j4 : (0 : Int) ≤ (16 : Int) + (k : Int) - 7 := by omega
          have t1 : ((16 : Int) + (k : Int) - 15).toNat = k + 1 := by omega
          have t2 : ((16 : Int) + (k : Int) - 2).toNat = k + 14 := by omega
          have t3 : ((16 : Int) + (k : Int) - 16).toNat = k := by omega
          have t4 : ((16 : Int) + (k : Int) - 7).toNat = k + 9 := by omega
          have cell : ∀ j, j < ws.length → wr.cell? ⟨g, j, none⟩ = some (.int .i64 ((ws.getD j 0 : Nat) : Int)) := fun j hj => by
            rw [hown.cellAt j (by omega)]; simp [hj, wv]
          have c1 := cell (k + 1) (by omega)
          have c2 := cell (k + 14) (by omega)
          have c3 := cell k (by omega)
          have c4 := cell (k + 9) (by omega)
          have w1 := hW.get (k + 1)
          have w2 := hW.get (k + 14)
          have w3 := hW.get k
          have w4 := hW.get (k + 9)
          have hnx : ((nextN ws : Nat) : Int) = (((ws.getD k 0 : Nat) : Int) + ((ws.getD (k + 9) 0 : Nat) : Int) + (((smallN (ws.getD (k + 1) 0) 7 18 3 : Nat) : Int) + ((smallN (ws.getD (k + 14) 0) 17 19 10 : Nat) : Int))) % 4294967296 := by
            rw [nextN, show ws.length - 16 = k from by omega, show ws.length - 7 = k + 9 from by omega, show ws.length - 15 = k + 1 from by omega, show ws.length - 2 = k + 14 from by omega]
            omega
          generalize ws.getD (k + 1) 0 = x1 at *
          generalize ws.getD (k + 14) 0 = x2 at *
          generalize ws.getD k 0 = x3 at *
          generalize ws.getD (k + 9) 0 = x4 at *
          have s1 := smallN_lt x1 7 18 3 w1 (by omega) (by omega)
          have s2 := smallN_lt x2 17 19 10 w2 (by omega) (by omega)
          have NX := hidH hnx
          have HS := hidH hws
          clear cell hW hnx hws hL
          go_wp2_with fail
          refine (small_any x1 7 18 3 _ w1 (by omega) (by omega) (by omega)).mono ?_
          rintro e wa ⟨rfl, ma, rfl⟩
          go_wp2_with fail
          refine (small_any x2 17 19 10 _ w2 (by omega) (by omega) (by omega)).mono ?_
          rintro e wb ⟨rfl, mb, rfl⟩
          go_wp2_with fail
          generalize smallN x1 7 18 3 = y1 at *
          generalize smallN x2 17 19 10 = y2 at *
          have v3 : IntKind.i64.wrap ((16 : Int) + (k : Int) - 16) = (16 : Int) + (k : Int) - 16 := IntWalk.i64_in _ (by omega)
          have v4 : IntKind.i64.wrap ((16 : Int) + (k : Int) - 7) = (16 : Int) + (k : Int) - 7 := IntWalk.i64_in _ (by omega)
          have q3 : (16 : Int) ≤ (16 : Int) + (k : Int) := by omega
          have q4 : (7 : Int) ≤ (16 : Int) + (k : Int) := by omega
          go_region_law (first
            | (refine step_append_lies _ (by rfl) _ _ _ (by rfl) w.heap.size 2 i0 _ 1 8 Tryz.underlying74 hi hz0 hz1 hz2 rfl (by omega) _ ws.length (ws.map wv) (by rfl) (by exact World.ownsRow.alloc (by exact hown) _) ⟨wr.heap.size, 0, none⟩ 1 1 [wv (nextN ws)] (by rfl) (by rfl) (by rw [wv, NX.out]; exact World.news_of_block (cs := #[.int .i64 (((x3 : Int) + (x4 : Int) + ((y1 : Int) + (y2 : Int))) % 4294967296)]) (t := 2) (fr := (0, 0)) (by exact heap_alloc_new _ _)) (by simp [Value.oneCell', wv]) (by omega) (by unfold maxLen; omega) (by omega) (by simp; omega) (wr.heap.size + 1) (by simp) ?_; intro gg cp2 w9 hown9 hgrow9 hat9 hlt9)
            | (go_simp; go_at_call 90; refine (l1Add_any _ _ _ (by omega) (by omega) (by omega) (by omega)).mono ?_; rintro e w' ⟨rfl, rfl⟩))
          all_goals
            have B2 := hidH (own_grow hB hown hgrow9)
            have O2 := hidH hown9
            clear hown hown9 hgrow9 hat9 hlt9 hB
            go_wp2
            go_roundw
            case rel => (repeat apply Exists.intro); exact ⟨⟨k + 1, by omega, by go_num, by rw [HN.out]; have := O2.out; simpa using this, B2.out⟩, rfl⟩
            case measure => simp [intOf]; omega
        · obtain rfl : k = 48 := by omega
          have O2 := hidH hown
          have B2 := hidH hB
          have HS := hidH hws
          have g1 : (64 : Int) ≤ 16 + ((48 : Nat) : Int) := by omega
          clear hown hB hws hlt hk hW hL
          go_wp2
          go_ret
          exact ⟨_, rfl, by rw [schedN, HS.out]; exact O2.out, B2.out⟩
end Go.Proofs.YtncnibkojneejaaGreatDoor
