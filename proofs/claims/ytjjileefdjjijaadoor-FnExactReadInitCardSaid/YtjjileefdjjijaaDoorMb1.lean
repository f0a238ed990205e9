import Derived.Test.YtjjileefdjjijaaDoorMa1
import Derived.Test.YtjjileefdjjijaaDoorMa4
import Derived.Test.YtjjileefdjjijaaDoorMa7

/- The program's byteWriter: put, number, pair, word, count, numbers. -/
namespace Go.Proofs.YtjjileefdjjijaaDoor
open Go.RowKit Go.Deep

/-- A writer in block r: what is written is l, in memory behind block r. -/
def WR (w : World) (r : Nat) (l : List Int) : Prop :=
  ∃ v, Blk w r 148 #[v] ∧ w.ownsRow (r + 1) 5 1 v l.length (l.map (Value.int .u8))
theorem WR.lt {w : World} {r : Nat} {l : List Int} (h : WR w r l) : r < w.heap.size := by
  obtain ⟨v, h1, _⟩ := h
  exact h1.lt
theorem wr_nil {w : World} {r : Nat} (h : Blk w r 148 #[.slice none 0 0]) : WR w r [] := ⟨_, h, rfl, .inl ⟨rfl, rfl⟩⟩
theorem WR.below {w w' : World} {r : Nat} {l : List Int} (h : WR w r l) (hb : Below w.heap.size w w') : WR w' r l := by
  obtain ⟨v, h1, h2⟩ := h
  exact ⟨v, h1.below hb, own_below0 h2 hb⟩
/-- Blocks of other types than bytes, but for the writer's own, are kept. -/
def OthK (r : Nat) (w w' : World) : Prop := ∀ (g : Nat) (t : TypeId) (cs : Array Value), g ≠ r → t ≠ 5 → Blk w g t cs → Blk w' g t cs
theorem OthK.of_below {r : Nat} {w w' : World} (hb : Below w.heap.size w w') : OthK r w w' := fun _ _ _ _ _ h => h.below hb
theorem OthK.trans {r : Nat} {a b c : World} (h : OthK r a b) (k : OthK r b c) : OthK r a c := fun g t cs hg ht x => k g t cs hg ht (h g t cs hg ht x)
/-- A call that wrote: what is written behind it; what lies below the writer is kept. -/
def Wrote (r : Nat) (l : List Int) (w : World) (e : Ending) (w' : World) : Prop := e = .returned (.tuple #[]) ∧ WR w' r l ∧ Below r w w' ∧ OthK r w w'
theorem bs_lo0 {w0 : World} {r : Nat} {A : Option Addr} {l : List Int} (h : Bs w0 A l) (h0 : w0.heap.size ≤ r) : ∀ a, A = some a → l = [] ∨ a.block < r := by
  rcases h with h | ⟨b, off, e, h1, _⟩
  · exact fun _ _ => .inl h
  · intro a e2
    rw [e] at e2
    obtain rfl := Option.some.inj e2
    exact .inr (Nat.lt_of_lt_of_le h1 h0)
theorem is_lo0 {w0 : World} {r : Nat} {A : Option Addr} {l : List Int} (h : Is w0 A l) (h0 : w0.heap.size ≤ r) : ∀ a, A = some a → l = [] ∨ a.block < r := by
  rcases h with h | ⟨b, off, e, h1, _⟩
  · exact fun _ _ => .inl h
  · intro a e2
    rw [e] at e2
    obtain rfl := Option.some.inj e2
    exact .inr (Nat.lt_of_lt_of_le h1 h0)
/-- What lies below a writer is read as before. -/
theorem bs_lo {w w' : World} {r : Nat} {A : Option Addr} {l : List Int} (h : Bs w A l) (hlo : ∀ a, A = some a → l = [] ∨ a.block < r) (hb : Below r w w') (_hr : r < w.heap.size) : Bs w' A l := by
  rcases h with h | ⟨b, off, e, h1, h2⟩
  · exact .inl h
  · rcases hlo _ e with h3 | h3
    · exact .inl h3
    · exact .inr ⟨b, off, e, Nat.lt_of_lt_of_le h1 hb.size, fun j hj => (hb.cell (p := ⟨b, off + j, none⟩) h3).trans (h2 j hj)⟩
theorem is_lo {w w' : World} {r : Nat} {A : Option Addr} {l : List Int} (h : Is w A l) (hlo : ∀ a, A = some a → l = [] ∨ a.block < r) (hb : Below r w w') (_hr : r < w.heap.size) : Is w' A l := by
  rcases h with h | ⟨b, off, e, h1, h2⟩
  · exact .inl h
  · rcases hlo _ e with h3 | h3
    · exact .inl h3
    · exact .inr ⟨b, off, e, Nat.lt_of_lt_of_le h1 hb.size, fun j hj => (hb.cell (p := ⟨b, off + j, none⟩) h3).trans (h2 j hj)⟩
set_option maxHeartbeats 1000000 in
theorem put_any (r : Nat) (l m : List Int) (A : Option Addr) (c : Nat) (w : World) (h : WR w r l) (hA : Bs w A m) (hm : l.length + m.length ≤ 100000) :
    Calls Tryd.prog 166 #[.pointer (some ⟨r, 0, none⟩), .slice A m.length c] w (Wrote r (l ++ m) w) := by
  obtain ⟨v, K, O⟩ := h
  have c0 := K.cell 0
  have hlt := K.lt
  simp only [List.getElem?_toArray, List.getElem?_cons_zero] at c0
  have HK := hidH K
  have HO := hidH O
  have HA := hidH hA
  have HM := hidH hm
  clear K O hA hm
  go_enter Tryd.func166, Tryd.ntmps166
  go_wp2_with (at_builtin; refine wpList_append_bs rfl _ _ rfl (r + 1) _ _ _ rfl HO.out A m c rfl HA.out (by have := HM.out; omega) hlt ?_)
  intro v2 w2 o2 g2
  have BB : Below (r + 1) w w2 := (Below.refl (r + 1) w).grown g2 hlt (fun x hx => (HO.out.lt x hx).1)
  have HOT := hidH (show OthK r w w2 from fun g t cs _ ht hk => by
    refine (g2.block g hk.lt (fun e => ?_)).trans hk
    rcases HO.out.2 with ⟨h1, _⟩ | ⟨g1, cap, cur, h1, _, h3, _⟩
    · rw [h1] at e; cases e
    · rw [h1] at e
      obtain rfl : g = g1 := by simpa [Value.ownBlock] using e
      have h4 : some (Obj.cells cur 5 (0, 0)) = some (Obj.cells cs t (0, 0)) := h3.symm.trans hk
      simp at h4
      exact ht h4.2.symm)
  have K2 : Blk w2 r 148 #[v] := (BB.block r (Nat.lt_succ_self r)).trans HK.out
  have hs2 := BB.size
  have d0 := K2.cell 0
  have f0 := K2.frozen 0
  simp only [List.getElem?_toArray, List.getElem?_cons_zero] at d0
  have o2' : w2.ownsRow (r + 1) 5 1 v2 (l ++ m).length ((l ++ m).map (Value.int .u8)) := by simpa using o2
  obtain ⟨A2, c2, e2, _⟩ := own_ob o2'
  have HO2 := hidH o2'
  obtain ⟨n2, hn2⟩ : ∃ n2, (l ++ m).length = n2 := ⟨_, rfl⟩
  rw [hn2] at e2
  subst e2
  have HB := hidH BB
  have HK2 := hidH K2
  clear o2 o2' g2 BB K2 c0 HK HO hn2
  go_wp2
  exact bodyPost_ret (v := .tuple #[]) (by simp [results, Tryd.results166, go_sem]) rfl ⟨rfl, ⟨_, HK2.out.put 0 _, own_kept HO2.out (set_win w2 r 0 _) (Nat.lt_succ_self r)⟩, (HB.out.mono (Nat.le_succ r)).trans ((set_win w2 r 0 _).below (by omega)), fun g t cs hg ht hk => (HOT.out g t cs hg ht hk).far (fun e => hg e.symm) _⟩
set_option maxHeartbeats 1000000 in
theorem wnumber_any (r : Nat) (l : List Int) (n : Int) (w : World) (h : WR w r l) (h0 : 0 ≤ n) (h1 : n ≤ 255) (hm : l.length ≤ 90000) :
    Calls Tryd.prog 171 #[.pointer (some ⟨r, 0, none⟩), .int .i64 n] w (Wrote r (l ++ [n]) w) := by
  have B1 := bal (Below.refl w.heap.size w) (.cells #[.int .u8 n] 5)
  have HP := hidH (put_any r l [n] (some ⟨w.heap.size, 0, none⟩) 1 _ (h.below B1) (lit_bs w 5 [n]) (by simp; omega))
  have HB := hidH (And.intro (B1.mono (Nat.le_of_lt h.lt)) (OthK.of_below (r := r) B1))
  clear h hm B1
  unfold Wrote at HP
  go_enter Tryd.func171, Tryd.ntmps171
  go_wp2_with fail
  refine HP.out.mono ?_
  rintro e w2 ⟨rfl, hw, hb, ho⟩
  have HR := hidH (And.intro hw (And.intro (HB.out.1.trans hb) (OthK.trans HB.out.2 ho)))
  clear HP hw hb ho
  go_wp2
  exact bodyPost_ret (v := .tuple #[]) (by simp [results, Tryd.results171, go_sem]) rfl ⟨rfl, HR.out⟩
set_option maxHeartbeats 1000000 in
theorem wpair_any (r : Nat) (l : List Int) (n : Int) (w : World) (h : WR w r l) (h0 : 0 ≤ n) (h1 : n ≤ 65535) (hm : l.length ≤ 90000) :
    Calls Tryd.prog 165 #[.pointer (some ⟨r, 0, none⟩), .int .i64 n] w (Wrote r (l ++ [n / 256, n % 256]) w) := by
  have B1 := bal (Below.refl w.heap.size w) (.cells #[.int .u8 (n / 256), .int .u8 (n % 256)] 5)
  have HP := hidH (put_any r l [n / 256, n % 256] (some ⟨w.heap.size, 0, none⟩) 2 _ (h.below B1) (lit_bs w 5 [n / 256, n % 256]) (by simp; omega))
  have HB := hidH (And.intro (B1.mono (Nat.le_of_lt h.lt)) (OthK.of_below (r := r) B1))
  clear h hm B1
  unfold Wrote at HP
  go_enter Tryd.func165, Tryd.ntmps165
  go_wp2_with fail
  refine HP.out.mono ?_
  rintro e w2 ⟨rfl, hw, hb, ho⟩
  have HR := hidH (And.intro hw (And.intro (HB.out.1.trans hb) (OthK.trans HB.out.2 ho)))
  clear HP hw hb ho
  go_wp2
  exact bodyPost_ret (v := .tuple #[]) (by simp [results, Tryd.results165, go_sem]) rfl ⟨rfl, HR.out⟩
set_option maxHeartbeats 1000000 in
theorem wword_any (r : Nat) (l : List Int) (n : Int) (w : World) (h : WR w r l) (h0 : 0 ≤ n) (h1 : n ≤ 4294967295) (hm : l.length ≤ 90000) :
    Calls Tryd.prog 164 #[.pointer (some ⟨r, 0, none⟩), .int .i64 n] w (Wrote r (l ++ pk n) w) := by
  have HE := hidH (fun u : World => encode_any n u h0 h1)
  have HW := hidH h
  have HM := hidH hm
  have hlt := h.lt
  clear h hm
  go_enter Tryd.func164, Tryd.ntmps164
  go_wp2_with fail
  refine (HE.out _).mono ?_
  rintro e w2 ⟨rfl, h2⟩
  have hb2 : Below w.heap.size w w2 := by rw [← h2]; exact bal (Below.refl _ _) _
  have B3 := bal (Below.refl w2.heap.size w2) (.cells #[.int .u8 (n / 16777216), .int .u8 (n / 65536 % 256), .int .u8 (n / 256 % 256), .int .u8 (n % 256)] 182)
  have HP := hidH (put_any r l (pk n) (some ⟨w2.heap.size, 0, none⟩) 4 _ ((HW.out.below hb2).below B3) (lit_bs w2 182 (pk n)) (by have := HM.out; simp [pk]; omega))
  have HB := hidH (And.intro ((hb2.mono (Nat.le_of_lt hlt)).trans (B3.mono (Nat.le_trans (Nat.le_of_lt hlt) hb2.size))) (OthK.trans (OthK.of_below (r := r) hb2) (OthK.of_below B3)))
  unfold Wrote at HP
  clear h2 hb2 B3 HE HW
  go_wp2_with fail
  refine HP.out.mono ?_
  rintro e w3 ⟨rfl, hw, hb, ho⟩
  have HR := hidH (And.intro hw (And.intro (HB.out.1.trans hb) (OthK.trans HB.out.2 ho)))
  clear HP hw hb ho
  go_wp2
  exact bodyPost_ret (v := .tuple #[]) (by simp [results, Tryd.results164, go_sem]) rfl ⟨rfl, HR.out⟩
set_option maxHeartbeats 1000000 in
theorem wcount_any (r : Nat) (l : List Int) (n : Int) (w : World) (h : WR w r l) (h0 : 0 ≤ n) (h1 : n ≤ 255) (hm : l.length ≤ 90000) :
    Calls Tryd.prog 170 #[.pointer (some ⟨r, 0, none⟩), .int .i64 n] w (Wrote r (l ++ [n]) w) := by
  have HN := hidH (wnumber_any r l n w h h0 h1 hm)
  clear h hm
  unfold Wrote at HN
  go_enter Tryd.func170, Tryd.ntmps170
  go_wp2_with fail
  refine HN.out.mono ?_
  rintro e w2 ⟨rfl, hr⟩
  have HR := hidH hr
  clear HN hr
  go_wp2
  exact bodyPost_ret (v := .tuple #[]) (by simp [results, Tryd.results170, go_sem]) rfl ⟨rfl, HR.out⟩
set_option maxRecDepth 100000 in
set_option maxHeartbeats 2000000 in
theorem wnumbers_any (r : Nat) (l m : List Int) (A : Option Addr) (c : Nat) (w : World) (h : WR w r l) (hA : Is w A m) (hlo : ∀ a, A = some a → m = [] ∨ a.block < r) (hv : ∀ j, j < m.length → 0 ≤ m.getD j 0 ∧ m.getD j 0 ≤ 255) (hm : l.length ≤ 40000) (hn : m.length ≤ 200) :
    Calls Tryd.prog 178 #[.pointer (some ⟨r, 0, none⟩), .slice A m.length c] w (Wrote r (l ++ ((m.length : Int) :: m)) w) := by
  have HC := hidH (wcount_any r l (m.length : Int) w h (by omega) (by omega) (by omega))
  have HA := hidH (And.intro hA (And.intro hlo hv))
  have HM := hidH hm
  have hnI : (m.length : Int) ≤ 200 := by omega
  unfold Wrote at HC
  clear h hA hlo hv hm
  go_enter Tryd.func178, Tryd.ntmps178
  go_wp2_with fail
  refine HC.out.mono ?_
  rintro e w2 ⟨rfl, hw, hb, ho⟩
  have HW := hidH (And.intro hw (And.intro hb ho))
  clear HC hw hb ho
  go_wp2
  go_loopw [12] (fun i wr => ∃ j : Nat, j ≤ m.length ∧ i = .int .i64 j ∧ WR wr r (l ++ ((m.length : Int) :: m.take j)) ∧ Below r w wr ∧ OthK r w wr) (fun i _ => m.length - (intOf i).toNat)
  case atStart => exact ⟨0, by omega, rfl, HW.out.1, HW.out.2⟩
  case round =>
    obtain ⟨j, hj, rfl, hw, hb, ho⟩ := hrel
    by_cases hlt : j < m.length
    · have hj0 : (0 : Int) ≤ (j : Int) := by omega
      have hj1 : (j : Int) < (m.length : Int) := by omega
      obtain ⟨b, off, rfl, hcell⟩ : ∃ b off, A = some ⟨b, off, none⟩ ∧ wr.cell? ⟨b, off + j, none⟩ = some (.int .i64 (m.getD j 0)) := by
        rcases HA.out.1 with h | ⟨b, off, e, hb', h⟩
        · rw [h] at hlt; simp at hlt
        · have hbr : b < r := by
            rcases HA.out.2.1 _ e with h9 | h9
            · rw [h9] at hlt; simp at hlt
            · exact h9
          exact ⟨b, off, e, (hb.cell (p := ⟨b, off + j, none⟩) hbr).trans (h j hlt)⟩
      obtain ⟨x0, x1⟩ := HA.out.2.2 j hlt
      have ht : m.take (j + 1) = m.take j ++ [m.getD j 0] := by
        rw [List.take_add_one, List.getElem?_eq_getElem hlt, Option.toList_some, List.getD_eq_getElem?_getD, List.getElem?_eq_getElem hlt, Option.getD_some]
      obtain ⟨x, hx⟩ : ∃ x, m.getD j 0 = x := ⟨_, rfl⟩
      rw [hx] at hcell x0 x1 ht
      have HT := hidH ht
      have HN := hidH (wnumber_any r _ x wr hw x0 x1 (by have := HM.out; simp; omega))
      unfold Wrote at HN
      have HB := hidH (And.intro hb ho)
      clear hw hb ho ht hx
      go_wp2_with fail
      refine HN.out.mono ?_
      rintro e w3 ⟨rfl, hw, hb, ho⟩
      have HR := hidH (show WR w3 r (l ++ ((m.length : Int) :: m.take (j + 1))) ∧ Below r w w3 ∧ OthK r w w3 from ⟨by rw [HT.out]; simpa using hw, HB.out.1.trans hb, OthK.trans HB.out.2 ho⟩)
      clear HN HB hw hb ho
      go_wp2
      go_roundw
      case rel => exact ⟨j + 1, by omega, by go_num, HR.out⟩
      case measure => simp [intOf]; omega
    · obtain rfl : j = m.length := by omega
      rw [List.take_length] at hw
      have HR := hidH (And.intro hw (And.intro hb ho))
      clear hw hb ho hlt hj
      go_wp2
      exact bodyPost_ret (v := .tuple #[]) (by simp [results, Tryd.results178, go_sem]) rfl ⟨rfl, HR.out⟩
end Go.Proofs.YtjjileefdjjijaaDoor

/- The program's isPair, isStream, isAddr; the faults' little tests. -/
namespace Go.Proofs.YtjjileefdjjijaaDoor
open Go.RowKit Go.Deep

set_option maxHeartbeats 400000 in
theorem isPair_any (a : Int) (w : World) : Calls Tryd.prog 163 #[.int .i64 a] w fun e w' => e = .returned (.bool (inB a 0 65535)) ∧ w = w' := by
  by_cases h0 : 0 ≤ a
  · by_cases h1 : a ≤ 65535
    · rw [inB_yes h0 h1]
      go_enter Tryd.func163, Tryd.ntmps163
      go_wp2
      go_ret
      exact ⟨rfl, rfl⟩
    · rw [inB_hi (by omega)]
      go_enter Tryd.func163, Tryd.ntmps163
      go_wp2
      go_ret
      exact ⟨rfl, rfl⟩
  · rw [inB_lo (by omega)]
    go_enter Tryd.func163, Tryd.ntmps163
    go_wp2
    go_ret
    exact ⟨rfl, rfl⟩
set_option maxHeartbeats 400000 in
theorem isAddr_any (a : Int) (w : World) : Calls Tryd.prog 175 #[.int .i64 a] w fun e w' => e = .returned (.bool (inB a 1 255)) ∧ w = w' := by
  by_cases h0 : 1 ≤ a
  · by_cases h1 : a ≤ 255
    · rw [inB_yes h0 h1]
      go_enter Tryd.func175, Tryd.ntmps175
      go_wp2
      go_ret
      exact ⟨rfl, rfl⟩
    · rw [inB_hi (by omega)]
      go_enter Tryd.func175, Tryd.ntmps175
      go_wp2
      go_ret
      exact ⟨rfl, rfl⟩
  · rw [inB_lo (by omega)]
    go_enter Tryd.func175, Tryd.ntmps175
    go_wp2
    go_ret
    exact ⟨rfl, rfl⟩
set_option maxHeartbeats 400000 in
theorem isStream_any (a : Int) (w : World) : Calls Tryd.prog 162 #[.int .i64 a] w fun e w' => e = .returned (.bool (inB a 0 9)) ∧ w = w' := by
  by_cases h0 : 0 ≤ a
  · by_cases h1 : a ≤ 9
    · rw [inB_yes h0 h1]
      have h2 : a < 10 := by omega
      go_enter Tryd.func162, Tryd.ntmps162
      go_wp2
      go_ret
      exact ⟨rfl, rfl⟩
    · rw [inB_hi (by omega)]
      have h2 : ¬ a < 10 := by omega
      go_enter Tryd.func162, Tryd.ntmps162
      go_wp2
      go_ret
      exact ⟨rfl, rfl⟩
  · rw [inB_lo (by omega)]
    go_enter Tryd.func162, Tryd.ntmps162
    go_wp2
    go_ret
    exact ⟨rfl, rfl⟩
set_option maxHeartbeats 400000 in
theorem isOp_any (k a : Int) (w : World) : Calls Tryd.prog 174 #[.agg #[.int .i64 k, .int .i64 a]] w fun e w' => e = .returned (.bool (inB k 1 3 && inB a 1 255)) ∧ w.alloc (.cells #[.int .i64 k, .int .i64 a] 70) = w' := by
  by_cases h0 : 1 ≤ k
  · by_cases h1 : k ≤ 3
    · rw [inB_yes h0 h1, Bool.true_and]
      go_enter Tryd.func174, Tryd.ntmps174
      go_wp2_with (go_at_call 175; refine (isAddr_any _ _).mono ?_; rintro e w' ⟨rfl, rfl⟩)
      go_ret
      exact ⟨rfl, rfl⟩
    · rw [inB_hi (by omega), Bool.false_and]
      go_enter Tryd.func174, Tryd.ntmps174
      go_wp2
      go_ret
      exact ⟨rfl, rfl⟩
  · rw [inB_lo (by omega), Bool.false_and]
    go_enter Tryd.func174, Tryd.ntmps174
    go_wp2
    go_ret
    exact ⟨rfl, rfl⟩
end Go.Proofs.YtjjileefdjjijaaDoor

/- The program's Data: fault, flags, write. -/
namespace Go.Proofs.YtjjileefdjjijaaDoor
open Go.RowKit Go.Deep

set_option maxRecDepth 100000 in
set_option maxHeartbeats 2000000 in
theorem pdF_impl (y : DataM) (vs : List Value) (w : World) (h : RdA w y.vs vs) :
    Calls Tryd.prog 159 #[.agg vs.toArray] w fun e w' => e = .returned (.int .i64 (pdF y)) ∧ Below w.heap.size w w' := by
  obtain ⟨A, c, rfl⟩ := shape_Data h
  have hm : (y.Piece.length : Int) ≤ 9223372036854775807 := by
    have h' : RdA w [.int y.Tsn, .int y.Stream, .int y.Seq, .bool y.First, .bool y.Last, .bool y.Unordered, .bs y.Piece] _ := h
    obtain ⟨_, _, e, k, _⟩ := h'.tl.tl.tl.tl.tl.tl.hd.bs_out
    exact k.len
  clear h
  by_cases h1 : wB y.Tsn = true
  · by_cases h2 : inB y.Stream 0 9 = true
    · by_cases h3 : inB y.Seq 0 65535 = true
      · by_cases h4 : y.Piece.length < 1
        · have e : pdF y = 2 := by simp only [pdF, h1, h2, h3, Bool.and_self, if_true]; rw [if_neg (by omega)]
          have h4' : ((y.Piece.length : Int) == 0) = true := by rw [beq_iff_eq]; omega
          rw [e]
          clear e h4
          go_enter Tryd.func159, Tryd.ntmps159
          go_wp2_with (first | (go_at_call 161; refine (isWord_any _ _).mono ?_; rintro e w' ⟨rfl, rfl⟩) | (go_at_call 162; refine (isStream_any _ _).mono ?_; rintro e w' ⟨rfl, rfl⟩) | (go_at_call 163; refine (isPair_any _ _).mono ?_; rintro e w' ⟨rfl, rfl⟩))
          go_ret
          exact ⟨rfl, bal (Below.refl _ _) _⟩
        · have h4' : ((y.Piece.length : Int) == 0) = false := by rw [beq_eq_false_iff_ne]; omega
          by_cases h5 : 100 < y.Piece.length
          · have e : pdF y = 2 := by simp only [pdF, h1, h2, h3, Bool.and_self, if_true]; rw [if_neg (by omega)]
            have h5' : (100 : Int) < (y.Piece.length : Int) := by omega
            rw [e]
            clear e h4 h5
            go_enter Tryd.func159, Tryd.ntmps159
            go_wp2_with (first | (go_at_call 161; refine (isWord_any _ _).mono ?_; rintro e w' ⟨rfl, rfl⟩) | (go_at_call 162; refine (isStream_any _ _).mono ?_; rintro e w' ⟨rfl, rfl⟩) | (go_at_call 163; refine (isPair_any _ _).mono ?_; rintro e w' ⟨rfl, rfl⟩))
            go_ret
            exact ⟨rfl, bal (Below.refl _ _) _⟩
          · have h5' : ¬ (100 : Int) < (y.Piece.length : Int) := by omega
            have e0 : pdF y = if y.Unordered = true ∧ y.Seq ≠ 0 then 1 else 0 := by simp only [pdF, h1, h2, h3, Bool.and_self, if_true]; rw [if_pos (by omega)]
            rw [e0]
            clear e0 h4 h5
            by_cases h6 : y.Unordered = true
            · by_cases h7 : y.Seq = 0
              · rw [if_neg (fun h => h.2 h7)]
                have h8 : (y.Seq != 0) = false := by rw [h7]; rfl
                go_enter Tryd.func159, Tryd.ntmps159
                go_wp2_with (first | (go_at_call 161; refine (isWord_any _ _).mono ?_; rintro e w' ⟨rfl, rfl⟩) | (go_at_call 162; refine (isStream_any _ _).mono ?_; rintro e w' ⟨rfl, rfl⟩) | (go_at_call 163; refine (isPair_any _ _).mono ?_; rintro e w' ⟨rfl, rfl⟩))
                go_ret
                exact ⟨rfl, bal (Below.refl _ _) _⟩
              · rw [if_pos ⟨h6, h7⟩]
                have h8 : (y.Seq != 0) = true := by rw [bne_iff_ne]; exact h7
                go_enter Tryd.func159, Tryd.ntmps159
                go_wp2_with (first | (go_at_call 161; refine (isWord_any _ _).mono ?_; rintro e w' ⟨rfl, rfl⟩) | (go_at_call 162; refine (isStream_any _ _).mono ?_; rintro e w' ⟨rfl, rfl⟩) | (go_at_call 163; refine (isPair_any _ _).mono ?_; rintro e w' ⟨rfl, rfl⟩))
                go_ret
                exact ⟨rfl, bal (Below.refl _ _) _⟩
            · have h6 : y.Unordered = false := by simpa using h6
              rw [if_neg (fun h => by rw [h6] at h; exact Bool.noConfusion h.1)]
              go_enter Tryd.func159, Tryd.ntmps159
              go_wp2_with (first | (go_at_call 161; refine (isWord_any _ _).mono ?_; rintro e w' ⟨rfl, rfl⟩) | (go_at_call 162; refine (isStream_any _ _).mono ?_; rintro e w' ⟨rfl, rfl⟩) | (go_at_call 163; refine (isPair_any _ _).mono ?_; rintro e w' ⟨rfl, rfl⟩))
              go_ret
              exact ⟨rfl, bal (Below.refl _ _) _⟩
      · have h3 : inB y.Seq 0 65535 = false := by simpa using h3
        have e : pdF y = 3 := by simp [pdF, h3]
        rw [e]
        clear e
        go_enter Tryd.func159, Tryd.ntmps159
        go_wp2_with (first | (go_at_call 161; refine (isWord_any _ _).mono ?_; rintro e w' ⟨rfl, rfl⟩) | (go_at_call 162; refine (isStream_any _ _).mono ?_; rintro e w' ⟨rfl, rfl⟩) | (go_at_call 163; refine (isPair_any _ _).mono ?_; rintro e w' ⟨rfl, rfl⟩))
        go_ret
        exact ⟨rfl, bal (Below.refl _ _) _⟩
    · have h2 : inB y.Stream 0 9 = false := by simpa using h2
      have e : pdF y = 3 := by simp [pdF, h2]
      rw [e]
      clear e
      go_enter Tryd.func159, Tryd.ntmps159
      go_wp2_with (first | (go_at_call 161; refine (isWord_any _ _).mono ?_; rintro e w' ⟨rfl, rfl⟩) | (go_at_call 162; refine (isStream_any _ _).mono ?_; rintro e w' ⟨rfl, rfl⟩) | (go_at_call 163; refine (isPair_any _ _).mono ?_; rintro e w' ⟨rfl, rfl⟩))
      go_ret
      exact ⟨rfl, bal (Below.refl _ _) _⟩
  · have h1 : wB y.Tsn = false := by simpa using h1
    have e : pdF y = 3 := by simp [pdF, h1]
    rw [e]
    clear e
    go_enter Tryd.func159, Tryd.ntmps159
    go_wp2_with (first | (go_at_call 161; refine (isWord_any _ _).mono ?_; rintro e w' ⟨rfl, rfl⟩) | (go_at_call 162; refine (isStream_any _ _).mono ?_; rintro e w' ⟨rfl, rfl⟩) | (go_at_call 163; refine (isPair_any _ _).mono ?_; rintro e w' ⟨rfl, rfl⟩))
    go_ret
    exact ⟨rfl, bal (Below.refl _ _) _⟩
set_option maxHeartbeats 1000000 in
theorem flags_impl (t s q : Int) (f l u : Bool) (v : Value) (w : World) :
    Calls Tryd.prog 126 #[.agg #[.int .i64 t, .int .i64 s, .int .i64 q, .bool f, .bool l, .bool u, v]] w fun e w' => e = .returned (.int .i64 (bitN l 1 + bitN f 2 + bitN u 4)) ∧ w.alloc (.cells #[.int .i64 t, .int .i64 s, .int .i64 q, .bool f, .bool l, .bool u, v] 25) = w' := by
  cases f <;> cases l <;> cases u
  all_goals
    go_enter Tryd.func126, Tryd.ntmps126
    go_wp2
    go_ret
    exact ⟨rfl, rfl⟩
end Go.Proofs.YtjjileefdjjijaaDoor

/- The program's Data: write. -/
namespace Go.Proofs.YtjjileefdjjijaaDoor
open Go.RowKit Go.Deep

set_option maxRecDepth 100000 in
set_option maxHeartbeats 2000000 in
theorem pdW_impl (r : Nat) (y : DataM) (A : Option Addr) (c : Nat) (w0 w : World) (h : RdA w0 y.vs [.int .i64 y.Tsn, .int .i64 y.Stream, .int .i64 y.Seq, .bool y.First, .bool y.Last, .bool y.Unordered, .slice A y.Piece.length c]) (hb0 : Below w0.heap.size w0 w) (h0 : w0.heap.size ≤ r) (hr : WR w r []) (hf : pdF y = 0) :
    Calls Tryd.prog 160 #[.agg #[.int .i64 y.Tsn, .int .i64 y.Stream, .int .i64 y.Seq, .bool y.First, .bool y.Last, .bool y.Unordered, .slice A y.Piece.length c], .pointer (some ⟨r, 0, none⟩)] w (Wrote r (pdC y).Body w) := by
  obtain ⟨⟨a1, a2⟩, ⟨b1, b2⟩, ⟨c1, c2⟩, d1, d2⟩ := pdF_zero hf
  have h' : RdA w0 [.int y.Tsn, .int y.Stream, .int y.Seq, .bool y.First, .bool y.Last, .bool y.Unordered, .bs y.Piece] _ := h
  have hA0 := bsOf h'.tl.tl.tl.tl.tl.tl.hd
  have HA := hidH (And.intro (bs_below hA0 hb0) (bs_lo0 hA0 h0))
  have HRL := hidH hr.lt
  have hse : y.Seq ≤ 65535 := c2
  have hst : y.Stream ≤ 65535 := by omega
  have K1 := Blk.new w 25 #[.int .i64 y.Tsn, .int .i64 y.Stream, .int .i64 y.Seq, .bool y.First, .bool y.Last, .bool y.Unordered, .slice A y.Piece.length c]
  have B1 := bal (Below.refl w.heap.size w) (.cells #[.int .i64 y.Tsn, .int .i64 y.Stream, .int .i64 y.Seq, .bool y.First, .bool y.Last, .bool y.Unordered, .slice A y.Piece.length c] 25)
  obtain ⟨w1, hw1⟩ : ∃ w1, w.alloc (.cells #[.int .i64 y.Tsn, .int .i64 y.Stream, .int .i64 y.Seq, .bool y.First, .bool y.Last, .bool y.Unordered, .slice A y.Piece.length c] 25) = w1 := ⟨_, rfl⟩
  rw [hw1] at K1 B1
  have hne : w.heap.size ≠ r := by have := hr.lt; omega
  have HW1 := hidH hw1
  have HN := hidH hne
  have HT := hidH (And.intro (hr.below B1) (And.intro (B1.mono (Nat.le_of_lt hr.lt)) (And.intro (OthK.of_below (r := r) B1) K1)))
  clear hw1 K1 B1 hne hr
  clear h h' hA0 hb0 h0 hf
  go_enter Tryd.func160, Tryd.ntmps160
  have k0 := HT.out.2.2.2.cell 0
  simp only [List.getElem?_toArray, List.getElem?_cons_zero] at k0
  have hk := HT.out.2.2.2.lt
  have HP := hidH (wword_any r ([]) y.Tsn w1 HT.out.1 a1 a2 (by simp))
  unfold Wrote at HP
  go_wp2_with fail
  rw [HW1.out]
  go_wp2_with fail
  refine HP.out.mono ?_
  rintro e w2 ⟨rfl, hw, hb, ho⟩
  replace HT := hidH (And.intro hw (And.intro (HT.out.2.1.trans hb) (And.intro (OthK.trans HT.out.2.2.1 ho) (ho _ _ _ HN.out (by decide) HT.out.2.2.2))))
  clear HP hw hb ho k0 hk
  have k1 := HT.out.2.2.2.cell 1
  simp only [List.getElem?_toArray, List.getElem?_cons_succ, List.getElem?_cons_zero] at k1
  have hk := HT.out.2.2.2.lt
  have HP := hidH (wpair_any r ([] ++ pk y.Tsn) y.Stream w2 HT.out.1 b1 hst (by simp [pk]))
  unfold Wrote at HP
  go_wp2_with fail
  refine HP.out.mono ?_
  rintro e w3 ⟨rfl, hw, hb, ho⟩
  replace HT := hidH (And.intro hw (And.intro (HT.out.2.1.trans hb) (And.intro (OthK.trans HT.out.2.2.1 ho) (ho _ _ _ HN.out (by decide) HT.out.2.2.2))))
  clear HP hw hb ho k1 hk
  have k2 := HT.out.2.2.2.cell 2
  simp only [List.getElem?_toArray, List.getElem?_cons_succ, List.getElem?_cons_zero] at k2
  have hk := HT.out.2.2.2.lt
  have HP := hidH (wpair_any r ([] ++ pk y.Tsn ++ [y.Stream / 256, y.Stream % 256]) y.Seq w3 HT.out.1 c1 hse (by simp [pk]))
  unfold Wrote at HP
  go_wp2_with fail
  refine HP.out.mono ?_
  rintro e w4 ⟨rfl, hw, hb, ho⟩
  replace HT := hidH (And.intro hw (And.intro (HT.out.2.1.trans hb) (And.intro (OthK.trans HT.out.2.2.1 ho) (ho _ _ _ HN.out (by decide) HT.out.2.2.2))))
  clear HP hw hb ho k2 hk
  have HAB := hidH (bs_lo HA.out.1 HA.out.2 HT.out.2.1 HRL.out)
  have k6 := HT.out.2.2.2.cell 6
  simp only [List.getElem?_toArray, List.getElem?_cons_succ, List.getElem?_cons_zero] at k6
  have hk := HT.out.2.2.2.lt
  have HP := hidH (put_any r ([] ++ pk y.Tsn ++ [y.Stream / 256, y.Stream % 256] ++ [y.Seq / 256, y.Seq % 256]) y.Piece A c w4 HT.out.1 HAB.out (by simp [pk]; omega))
  unfold Wrote at HP
  go_wp2_with fail
  refine HP.out.mono ?_
  rintro e w5 ⟨rfl, hw, hb, ho⟩
  replace HT := hidH (And.intro hw (And.intro (HT.out.2.1.trans hb) (And.intro (OthK.trans HT.out.2.2.1 ho) (ho _ _ _ HN.out (by decide) HT.out.2.2.2))))
  clear HP hw hb ho k6 hk
  go_wp2
  exact bodyPost_ret (v := .tuple #[]) (by simp [results, Tryd.results160, go_sem]) rfl ⟨rfl, by simpa [pdC, pairL] using HT.out.1, HT.out.2.1, HT.out.2.2.1⟩
end Go.Proofs.YtjjileefdjjijaaDoor

/- What a type assertion gives of each content. -/
namespace Go.Proofs.YtjjileefdjjijaaDoor
open Go.RowKit Go.Deep

theorem taND (w : World) : (Instr.typeAssert .nilIface 113 25 true).run Tryd.prog w = .ok (.tuple #[.agg #[.int .i64 0, .int .i64 0, .int .i64 0, .bool false, .bool false, .bool false, .slice none 0 0], .bool false]) w := by kernel_rfl
theorem taDD (v : Value) (w : World) : (Instr.typeAssert (.iface 25 v) 113 25 true).run Tryd.prog w = .ok (.tuple #[v, .bool true]) w := by kernel_rfl
theorem taSD (v : Value) (w : World) : (Instr.typeAssert (.iface 34 v) 113 25 true).run Tryd.prog w = .ok (.tuple #[.agg #[.int .i64 0, .int .i64 0, .int .i64 0, .bool false, .bool false, .bool false, .slice none 0 0], .bool false]) w := by kernel_rfl
theorem taGD (v : Value) (w : World) : (Instr.typeAssert (.iface 100 v) 113 25 true).run Tryd.prog w = .ok (.tuple #[.agg #[.int .i64 0, .int .i64 0, .int .i64 0, .bool false, .bool false, .bool false, .slice none 0 0], .bool false]) w := by kernel_rfl
theorem taQD (v : Value) (w : World) : (Instr.typeAssert (.iface 59 v) 113 25 true).run Tryd.prog w = .ok (.tuple #[.agg #[.int .i64 0, .int .i64 0, .int .i64 0, .bool false, .bool false, .bool false, .slice none 0 0], .bool false]) w := by kernel_rfl
theorem taWD (v : Value) (w : World) : (Instr.typeAssert (.iface 63 v) 113 25 true).run Tryd.prog w = .ok (.tuple #[.agg #[.int .i64 0, .int .i64 0, .int .i64 0, .bool false, .bool false, .bool false, .slice none 0 0], .bool false]) w := by kernel_rfl
theorem taNS (w : World) : (Instr.typeAssert .nilIface 113 34 true).run Tryd.prog w = .ok (.tuple #[.agg #[.int .i64 0, .slice none 0 0], .bool false]) w := by kernel_rfl
theorem taDS (v : Value) (w : World) : (Instr.typeAssert (.iface 25 v) 113 34 true).run Tryd.prog w = .ok (.tuple #[.agg #[.int .i64 0, .slice none 0 0], .bool false]) w := by kernel_rfl
theorem taSS (v : Value) (w : World) : (Instr.typeAssert (.iface 34 v) 113 34 true).run Tryd.prog w = .ok (.tuple #[v, .bool true]) w := by kernel_rfl
theorem taGS (v : Value) (w : World) : (Instr.typeAssert (.iface 100 v) 113 34 true).run Tryd.prog w = .ok (.tuple #[.agg #[.int .i64 0, .slice none 0 0], .bool false]) w := by kernel_rfl
theorem taQS (v : Value) (w : World) : (Instr.typeAssert (.iface 59 v) 113 34 true).run Tryd.prog w = .ok (.tuple #[.agg #[.int .i64 0, .slice none 0 0], .bool false]) w := by kernel_rfl
theorem taWS (v : Value) (w : World) : (Instr.typeAssert (.iface 63 v) 113 34 true).run Tryd.prog w = .ok (.tuple #[.agg #[.int .i64 0, .slice none 0 0], .bool false]) w := by kernel_rfl
theorem taNG (w : World) : (Instr.typeAssert .nilIface 113 100 true).run Tryd.prog w = .ok (.tuple #[.agg #[.int .i64 0, .int .i64 0, .slice none 0 0, .slice none 0 0, .slice none 0 0, .int .i64 0], .bool false]) w := by kernel_rfl
theorem taDG (v : Value) (w : World) : (Instr.typeAssert (.iface 25 v) 113 100 true).run Tryd.prog w = .ok (.tuple #[.agg #[.int .i64 0, .int .i64 0, .slice none 0 0, .slice none 0 0, .slice none 0 0, .int .i64 0], .bool false]) w := by kernel_rfl
theorem taSG (v : Value) (w : World) : (Instr.typeAssert (.iface 34 v) 113 100 true).run Tryd.prog w = .ok (.tuple #[.agg #[.int .i64 0, .int .i64 0, .slice none 0 0, .slice none 0 0, .slice none 0 0, .int .i64 0], .bool false]) w := by kernel_rfl
theorem taGG (v : Value) (w : World) : (Instr.typeAssert (.iface 100 v) 113 100 true).run Tryd.prog w = .ok (.tuple #[v, .bool true]) w := by kernel_rfl
theorem taQG (v : Value) (w : World) : (Instr.typeAssert (.iface 59 v) 113 100 true).run Tryd.prog w = .ok (.tuple #[.agg #[.int .i64 0, .int .i64 0, .slice none 0 0, .slice none 0 0, .slice none 0 0, .int .i64 0], .bool false]) w := by kernel_rfl
theorem taWG (v : Value) (w : World) : (Instr.typeAssert (.iface 63 v) 113 100 true).run Tryd.prog w = .ok (.tuple #[.agg #[.int .i64 0, .int .i64 0, .slice none 0 0, .slice none 0 0, .slice none 0 0, .int .i64 0], .bool false]) w := by kernel_rfl
theorem taNQ (w : World) : (Instr.typeAssert .nilIface 113 59 true).run Tryd.prog w = .ok (.tuple #[.agg #[.int .i64 0, .slice none 0 0], .bool false]) w := by kernel_rfl
theorem taDQ (v : Value) (w : World) : (Instr.typeAssert (.iface 25 v) 113 59 true).run Tryd.prog w = .ok (.tuple #[.agg #[.int .i64 0, .slice none 0 0], .bool false]) w := by kernel_rfl
theorem taSQ (v : Value) (w : World) : (Instr.typeAssert (.iface 34 v) 113 59 true).run Tryd.prog w = .ok (.tuple #[.agg #[.int .i64 0, .slice none 0 0], .bool false]) w := by kernel_rfl
theorem taGQ (v : Value) (w : World) : (Instr.typeAssert (.iface 100 v) 113 59 true).run Tryd.prog w = .ok (.tuple #[.agg #[.int .i64 0, .slice none 0 0], .bool false]) w := by kernel_rfl
theorem taQQ (v : Value) (w : World) : (Instr.typeAssert (.iface 59 v) 113 59 true).run Tryd.prog w = .ok (.tuple #[v, .bool true]) w := by kernel_rfl
theorem taWQ (v : Value) (w : World) : (Instr.typeAssert (.iface 63 v) 113 59 true).run Tryd.prog w = .ok (.tuple #[.agg #[.int .i64 0, .slice none 0 0], .bool false]) w := by kernel_rfl
theorem taNW (w : World) : (Instr.typeAssert .nilIface 113 63 true).run Tryd.prog w = .ok (.tuple #[.agg #[.int .i64 0, .slice none 0 0], .bool false]) w := by kernel_rfl
theorem taDW (v : Value) (w : World) : (Instr.typeAssert (.iface 25 v) 113 63 true).run Tryd.prog w = .ok (.tuple #[.agg #[.int .i64 0, .slice none 0 0], .bool false]) w := by kernel_rfl
theorem taSW (v : Value) (w : World) : (Instr.typeAssert (.iface 34 v) 113 63 true).run Tryd.prog w = .ok (.tuple #[.agg #[.int .i64 0, .slice none 0 0], .bool false]) w := by kernel_rfl
theorem taGW (v : Value) (w : World) : (Instr.typeAssert (.iface 100 v) 113 63 true).run Tryd.prog w = .ok (.tuple #[.agg #[.int .i64 0, .slice none 0 0], .bool false]) w := by kernel_rfl
theorem taQW (v : Value) (w : World) : (Instr.typeAssert (.iface 59 v) 113 63 true).run Tryd.prog w = .ok (.tuple #[.agg #[.int .i64 0, .slice none 0 0], .bool false]) w := by kernel_rfl
theorem taWW (v : Value) (w : World) : (Instr.typeAssert (.iface 63 v) 113 63 true).run Tryd.prog w = .ok (.tuple #[v, .bool true]) w := by kernel_rfl
end Go.Proofs.YtjjileefdjjijaaDoor
