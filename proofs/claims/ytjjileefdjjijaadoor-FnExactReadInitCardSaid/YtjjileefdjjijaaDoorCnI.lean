/- The model's l5Count. -/
import Derived.Test.YtjjileefdjjijaaDoorMa8
import Derived.Test.YtjjileefdjjijaaDoorMa6
namespace Go.Proofs.YtjjileefdjjijaaDoor
open Go.RowKit Go.Deep

/-- What l5Count leaves. -/
def CnRes (l : List Int) (k : Nat) (w : World) (e : Ending) (w' : World) : Prop :=
  Below w.heap.size w w' ∧ ((cntOk l k ∧ ∃ A c, e = .returned (.tuple #[.slice A (cntL l k).length c, .int .i64 ((k + 1 + cntN l k : Nat) : Int), .bool true]) ∧ OwV w.heap.size w'.heap.size w' (.is (cntL l k)) (.slice A (cntL l k).length c))
    ∨ (¬ cntOk l k ∧ e = .returned (.tuple #[.slice none 0 0, .int .i64 (k : Int), .bool false])))
theorem cntL_take {l : List Int} {k j : Nat} (h : k + 1 + j < l.length) : (l.drop (k + 1)).take (j + 1) = (l.drop (k + 1)).take j ++ [l.getD (k + 1 + j) 0] := by
  rw [take_getD (by rw [List.length_drop]; omega), List.drop_drop, List.getD_eq_getElem?_getD, List.getElem?_drop, List.getD_eq_getElem?_getD]
  simp only [Nat.add_zero]
set_option maxRecDepth 100000 in
set_option maxHeartbeats 4000000 in
theorem l5Count_any (A : Option Addr) (l : List Int) (c k : Nat) (w : World) (hA : Bs w A l) (hb : Bytes l) (hm : l.length ≤ 4000000) (hk : k ≤ 4000000) :
    Calls Tryd.prog 94 #[.slice A l.length c, .int .i64 (k : Int)] w (CnRes l k w) := by
  have hlI : (l.length : Int) ≤ 4000000 := by omega
  have hkI : (k : Int) ≤ 4000000 := by omega
  have hk0 : (0 : Int) ≤ (k : Int) := by omega
  by_cases hkl : k < l.length
  · have g1 : (k : Int) < (l.length : Int) := by omega
    have gn1 : ¬ (l.length ≤ k) := by omega
    obtain ⟨b, off, rfl, hbb, hcell⟩ : ∃ b off, A = some ⟨b, off, none⟩ ∧ b < w.heap.size ∧ ∀ j, j < l.length → w.cell? ⟨b, off + j, none⟩ = some (.int .u8 (l.getD j 0)) := by
      rcases hA with h | ⟨b, off, e, hb, h⟩
      · rw [h] at hkl; simp at hkl
      · exact ⟨b, off, e, hb, h⟩
    have hx := hcell k hkl
    obtain ⟨b0, b1⟩ := hb.get k
    obtain ⟨n, hn⟩ : ∃ n, cntN l k = n := ⟨_, rfl⟩
    have hxn : l.getD k 0 = (n : Int) := by rw [← hn]; unfold cntN; omega
    rw [hxn] at hx b0 b1
    have hnI : (n : Int) ≤ 255 := b1
    by_cases hkn : k + 1 + n ≤ l.length
    · have g2 : (k : Int) + 1 + (n : Int) ≤ (l.length : Int) := by omega
      have HOK := hidH (show cntOk l k from ⟨hkl, by rw [hn]; exact hkn⟩)
      have HC := hidH (And.intro hcell hbb)
      have HB := hidH hb
      have HM := hidH (And.intro hm (And.intro hkn hn))
      clear hA hb hcell hm hk hkl hkn hn hxn
      go_enter Tryd.func94, Tryd.ntmps94
      have hown : (w.alloc (.cells #[] 2)).ownsRow w.heap.size 2 1 (.slice (some ⟨w.heap.size, 0, none⟩) 0 0) 0 [] := World.ownsRow_lit w #[] 0 (Nat.le_refl _) (by unfold maxLen; omega) rfl
      have HO := hidH hown
      have HB0 := hidH (bal (Below.refl w.heap.size w) (.cells #[] 2))
      clear hown
      go_wp2
      go_loopw [8, 9] (fun v i wr => ∃ j : Nat, j ≤ n ∧ i = .int .i64 j ∧ wr.ownsRow w.heap.size 2 1 v j (((l.drop (k + 1)).take j).map (Value.int .i64)) ∧ Below w.heap.size w wr) (fun _ i _ => n - (intOf i).toNat)
      case atStart => exact ⟨0, by omega, rfl, HO.out, HB0.out⟩
      case round =>
        obtain ⟨j, hj, rfl, hown, hB⟩ := hrel
        by_cases hlt : j < n
        · have hj1 : (j : Int) < (n : Int) := by omega
          have hjl : k + 1 + j < l.length := by have := HM.out; omega
          have hji : ((k : Int) + 1 + (j : Int)) < (l.length : Int) := by omega
          have hj0 : (0 : Int) ≤ (k : Int) + 1 + (j : Int) := by omega
          have hcl := (hB.cell (p := ⟨b, off + (k + 1 + j), none⟩) HC.out.2).trans (HC.out.1 _ hjl)
          obtain ⟨x0, x1⟩ := HB.out.get (k + 1 + j)
          obtain ⟨x, hx⟩ : ∃ x, l.getD (k + 1 + j) 0 = x := ⟨_, rfl⟩
          rw [hx] at hcl x0 x1
          have HT := hidH (show (l.drop (k + 1)).take (j + 1) = (l.drop (k + 1)).take j ++ [x] by rw [cntL_take hjl, hx])
          have OH := hidH hown
          have HBB := hidH hB
          have hsz := hB.size
          have hq := Blk.new wr 2 #[.int .i64 x]
          have hsz2 : w.heap.size ≤ (wr.alloc (.cells #[.int .i64 x] 2)).heap.size := by simp; omega
          have ow2 := hidH (own_below0 OH.out (bal (Below.refl _ _) (.cells #[.int .i64 x] 2)))
          clear hown hB hx hjl
          go_wp2_with (at_builtin; refine wpList_append_i1 rfl _ _ rfl w.heap.size _ _ _ rfl ow2.out wr.heap.size _ x rfl hq (by omega) hsz2 ?_)
          intro v4 w4 o4 g4
          have B4 := hidH (own_grow (m := 0) HBB.out OH.out g4)
          have O4 := hidH (show w4.ownsRow w.heap.size 2 1 v4 (j + 1) (((l.drop (k + 1)).take (j + 1)).map (Value.int .i64)) by rw [HT.out]; simpa using o4)
          clear o4 g4 hq ow2
          go_wp2
          go_roundw
          case rel => exact ⟨j + 1, by omega, by go_num, O4.out, B4.out⟩
          case measure => simp [intOf]; omega
        · obtain rfl : j = n := by omega
          have hl2 : ((l.drop (k + 1)).take j).length = j := by rw [List.length_take, List.length_drop]; have := HM.out; omega
          obtain ⟨A, c, e, ob, k1, k2⟩ := own_oiN hown hl2
          have HOB := hidH (ob.owv (Nat.le_refl _) ⟨k1, k2⟩)
          have HBB := hidH hB
          subst e
          have HL2 := hidH hl2
          clear hown hB ob k1 k2 hlt hj hl2
          go_wp2
          have e : cntL l k = (l.drop (k + 1)).take j := by unfold cntL; rw [HM.out.2.2]
          exact bodyPost_ret (v := .tuple #[.slice A j c, .int .i64 ((k : Int) + 1 + (j : Int)), .bool true]) (by simp [results, Tryd.results94, go_sem]) rfl ⟨HBB.out, .inl ⟨HOK.out, A, c, by rw [e, HL2.out, HM.out.2.2]; rfl, by rw [e]; exact HOB.out⟩⟩
    · have g2 : (l.length : Int) < (k : Int) + 1 + (n : Int) := by omega
      have HOK := hidH (show ¬ cntOk l k from fun q => hkn (by have := q.2; rw [hn] at this; exact this))
      clear hA hb hcell hm hk hkl hkn hn hxn
      go_enter Tryd.func94, Tryd.ntmps94
      go_wp2
      exact bodyPost_ret (v := .tuple #[.slice none 0 0, .int .i64 (k : Int), .bool false]) (by simp [results, Tryd.results94, go_sem]) rfl ⟨Below.refl _ _, .inr ⟨HOK.out, rfl⟩⟩
  · have g1 : (l.length : Int) ≤ (k : Int) := by omega
    have HOK := hidH (show ¬ cntOk l k from fun q => hkl q.1)
    clear hA hb hm hk hkl
    go_enter Tryd.func94, Tryd.ntmps94
    go_wp2
    exact bodyPost_ret (v := .tuple #[.slice none 0 0, .int .i64 (k : Int), .bool false]) (by simp [results, Tryd.results94, go_sem]) rfl ⟨Below.refl _ _, .inr ⟨HOK.out, rfl⟩⟩
end Go.Proofs.YtjjileefdjjijaaDoor
