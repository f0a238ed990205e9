/- Chapter 8: two pieces compared, the model's l8Same and the program's sameData. (WRITTEN BY tools/same8d.py) -/
import Derived.Test.YthljdikcpdokdaaM8
import Derived.Test.YthljdikcpdokdaaUniR
import Derived.Test.YthljdikcpdokdaaImB
import Derived.Test.YthljdikcpdokdaaIpD
import Derived.Test.YthljdikcpdokdaaS8DR
import Derived.BigQuiet
namespace Go.Proofs.Ythljdikcpdokdaa
open Go.RowKit Go.Deep Go.BigFrame

theorem sameG_yes {α : Type} {a b : α} (h : a = b) : sameG a b = true := by simp [sameG, h]
theorem sameG_no {α : Type} {a b : α} (h : ¬ a = b) : sameG a b = false := by simp [sameG, h]
set_option maxRecDepth 100000 in
set_option maxHeartbeats 4000000 in
theorem l8Same_any (x y : DataM) (A B : Option Addr) (ca cb gx ox gy oy : Nat) (w : World) (c0 : w.cell? ⟨gx, ox, none⟩ = some (.int .i64 x.Tsn)) (c1 : w.cell? ⟨gx, ox + 1, none⟩ = some (.int .i64 x.Stream)) (c2 : w.cell? ⟨gx, ox + 2, none⟩ = some (.int .i64 x.Seq)) (c3 : w.cell? ⟨gx, ox + 3, none⟩ = some (.bool x.First)) (c4 : w.cell? ⟨gx, ox + 4, none⟩ = some (.bool x.Last)) (c5 : w.cell? ⟨gx, ox + 5, none⟩ = some (.bool x.Unordered)) (c6 : w.cell? ⟨gx, ox + 6, none⟩ = some (.slice A x.Piece.length ca)) (d0 : w.cell? ⟨gy, oy, none⟩ = some (.int .i64 y.Tsn)) (d1 : w.cell? ⟨gy, oy + 1, none⟩ = some (.int .i64 y.Stream)) (d2 : w.cell? ⟨gy, oy + 2, none⟩ = some (.int .i64 y.Seq)) (d3 : w.cell? ⟨gy, oy + 3, none⟩ = some (.bool y.First)) (d4 : w.cell? ⟨gy, oy + 4, none⟩ = some (.bool y.Last)) (d5 : w.cell? ⟨gy, oy + 5, none⟩ = some (.bool y.Unordered)) (d6 : w.cell? ⟨gy, oy + 6, none⟩ = some (.slice B y.Piece.length cb)) (hA : Bs w A x.Piece) (hB : Bs w B y.Piece) (bx : Bytes x.Piece) (by_ : Bytes y.Piece) :
    Calls Try.prog 132 #[.pointer (some ⟨gx, ox, none⟩), .pointer (some ⟨gy, oy, none⟩)] w fun e w' => e = .returned (.bool (sameG x y)) ∧ ∃ m, w' = w.drewN m := by
  have h1 := fun n => conv_bs (w.drewN n) A x.Piece ca (bs_below hA (below_drewN (Below.refl _ _) n))
  have h2 := fun n => conv_bs (w.drewN n) B y.Piece cb (bs_below hB (below_drewN (Below.refl _ _) n))
  have HS := hidH (str_eqb bx by_)
  have HQ := hidH (@data_eq x y)
  clear hA hB bx by_
  go_enter Try.func132, Try.ntmps132
  go_wp2_with fail
  try simp only [List.append]
  refine wp_region_quiet_lit (by kernel_rfl) (by kernel_rfl) ?_
  by_cases e0 : x.Tsn = y.Tsn
  case neg =>
    have HXY := hidH (show ¬ x = y from fun h => e0 (HQ.out.1 h).1)
    have f0 : (x.Tsn == y.Tsn) = false := by rw [beq_eq_false_iff_ne]; exact e0
    clear HQ e0
    repeat (go_big_quiet_step (fail))
    refine wpQuiet_nil ?_
    intro _ hw'
    obtain ⟨nq, hw''⟩ := hw'
    subst hw''
    go_wp2
    go_ret
    exact ⟨by rw [sameG_no HXY.out]; rfl, _, rfl⟩
  have f0 : (x.Tsn == y.Tsn) = true := by rw [beq_iff_eq]; exact e0
  by_cases e1 : x.Stream = y.Stream
  case neg =>
    have HXY := hidH (show ¬ x = y from fun h => e1 (HQ.out.1 h).2.1)
    have f1 : (x.Stream == y.Stream) = false := by rw [beq_eq_false_iff_ne]; exact e1
    clear HQ e0 e1
    repeat (go_big_quiet_step (fail))
    refine wpQuiet_nil ?_
    intro _ hw'
    obtain ⟨nq, hw''⟩ := hw'
    subst hw''
    go_wp2
    go_ret
    exact ⟨by rw [sameG_no HXY.out]; rfl, _, rfl⟩
  have f1 : (x.Stream == y.Stream) = true := by rw [beq_iff_eq]; exact e1
  by_cases e2 : x.Seq = y.Seq
  case neg =>
    have HXY := hidH (show ¬ x = y from fun h => e2 (HQ.out.1 h).2.2.1)
    have f2 : (x.Seq == y.Seq) = false := by rw [beq_eq_false_iff_ne]; exact e2
    clear HQ e0 e1 e2
    repeat (go_big_quiet_step (fail))
    refine wpQuiet_nil ?_
    intro _ hw'
    obtain ⟨nq, hw''⟩ := hw'
    subst hw''
    go_wp2
    go_ret
    exact ⟨by rw [sameG_no HXY.out]; rfl, _, rfl⟩
  have f2 : (x.Seq == y.Seq) = true := by rw [beq_iff_eq]; exact e2
  by_cases e3 : x.First = y.First
  case neg =>
    have HXY := hidH (show ¬ x = y from fun h => e3 (HQ.out.1 h).2.2.2.1)
    obtain ⟨p, hp⟩ : ∃ p, y.First = p := ⟨_, rfl⟩
    have hq : x.First = !p := by rw [hp] at e3; revert e3; cases x.First <;> cases p <;> simp
    rw [hp] at d3
    rw [hq] at c3
    clear HQ hp hq e0 e1 e2 e3
    cases p
    all_goals
      repeat (go_big_quiet_step (fail))
      refine wpQuiet_nil ?_
      intro _ hw'
      obtain ⟨nq, hw''⟩ := hw'
      subst hw''
      go_wp2
      go_ret
      exact ⟨by rw [sameG_no HXY.out]; rfl, _, rfl⟩
  rw [e3] at c3
  by_cases e4 : x.Last = y.Last
  case neg =>
    have HXY := hidH (show ¬ x = y from fun h => e4 (HQ.out.1 h).2.2.2.2.1)
    obtain ⟨p, hp⟩ : ∃ p, y.Last = p := ⟨_, rfl⟩
    have hq : x.Last = !p := by rw [hp] at e4; revert e4; cases x.Last <;> cases p <;> simp
    rw [hp] at d4
    rw [hq] at c4
    clear HQ hp hq e0 e1 e2 e3 e4
    cases p
    all_goals
      repeat (go_big_quiet_step (fail))
      refine wpQuiet_nil ?_
      intro _ hw'
      obtain ⟨nq, hw''⟩ := hw'
      subst hw''
      go_wp2
      go_ret
      exact ⟨by rw [sameG_no HXY.out]; rfl, _, rfl⟩
  rw [e4] at c4
  by_cases e5 : x.Unordered = y.Unordered
  case neg =>
    have HXY := hidH (show ¬ x = y from fun h => e5 (HQ.out.1 h).2.2.2.2.2.1)
    obtain ⟨p, hp⟩ : ∃ p, y.Unordered = p := ⟨_, rfl⟩
    have hq : x.Unordered = !p := by rw [hp] at e5; revert e5; cases x.Unordered <;> cases p <;> simp
    rw [hp] at d5
    rw [hq] at c5
    clear HQ hp hq e0 e1 e2 e3 e4 e5
    cases p
    all_goals
      repeat (go_big_quiet_step (fail))
      refine wpQuiet_nil ?_
      intro _ hw'
      obtain ⟨nq, hw''⟩ := hw'
      subst hw''
      go_wp2
      go_ret
      exact ⟨by rw [sameG_no HXY.out]; rfl, _, rfl⟩
  rw [e5] at c5
  by_cases e6 : x.Piece = y.Piece
  · have HXY := hidH (HQ.out.2 ⟨e0, e1, e2, e3, e4, e5, e6⟩)
    have f6 : ((strOfNums x.Piece).toList == (strOfNums y.Piece).toList) = true := by rw [HS.out, decide_eq_true e6]
    clear HQ HS e6 e0 e1 e2 e3 e4 e5
    repeat (go_big_quiet_step (fail))
    refine wpQuiet_nil ?_
    intro _ hw'
    obtain ⟨nq, hw''⟩ := hw'
    subst hw''
    go_wp2
    go_ret
    exact ⟨by rw [sameG_yes HXY.out]; rfl, _, rfl⟩
  · have HXY := hidH (show ¬ x = y from fun h => e6 (HQ.out.1 h).2.2.2.2.2.2)
    have f6 : ((strOfNums x.Piece).toList == (strOfNums y.Piece).toList) = false := by rw [HS.out, decide_eq_false e6]
    clear HQ HS e6 e0 e1 e2 e3 e4 e5
    repeat (go_big_quiet_step (fail))
    refine wpQuiet_nil ?_
    intro _ hw'
    obtain ⟨nq, hw''⟩ := hw'
    subst hw''
    go_wp2
    go_ret
    exact ⟨by rw [sameG_no HXY.out]; rfl, _, rfl⟩
theorem flags_eq {x y : DataM} : bitN x.Last 1 + bitN x.First 2 + bitN x.Unordered 4 = bitN y.Last 1 + bitN y.First 2 + bitN y.Unordered 4 ↔ x.First = y.First ∧ x.Last = y.Last ∧ x.Unordered = y.Unordered := by
  cases x.Last <;> cases x.First <;> cases x.Unordered <;> cases y.Last <;> cases y.First <;> cases y.Unordered <;> simp [bitN]
set_option maxRecDepth 100000 in
set_option maxHeartbeats 4000000 in
theorem sameData_any (x y : DataM) (A B : Option Addr) (ca cb : Nat) (w : World) (hA : Bs w A x.Piece) (hB : Bs w B y.Piece) (bx : Bytes x.Piece) (by_ : Bytes y.Piece) :
    Calls Try.prog 107 #[.agg #[.int .i64 x.Tsn, .int .i64 x.Stream, .int .i64 x.Seq, .bool x.First, .bool x.Last, .bool x.Unordered, .slice A x.Piece.length ca], .agg #[.int .i64 y.Tsn, .int .i64 y.Stream, .int .i64 y.Seq, .bool y.First, .bool y.Last, .bool y.Unordered, .slice B y.Piece.length cb]] w (EqG x y w) := by
  have HQ := hidH (@data_eq x y)
  have HF := hidH (@flags_eq x y)
  have HE := hidH (fun u h1 h2 => bEqual_any A B x.Piece y.Piece ca cb u h1 h2 bx by_)
  have HA := hidH (fun (u : World) (h : Below w.heap.size w u) => bs_below hA h)
  have HB := hidH (fun (u : World) (h : Below w.heap.size w u) => bs_below hB h)
  clear hA hB bx by_
  have B2 := hidH (bal (bal (Below.refl w.heap.size w) (.cells #[.int .i64 x.Tsn, .int .i64 x.Stream, .int .i64 x.Seq, .bool x.First, .bool x.Last, .bool x.Unordered, .slice A x.Piece.length ca] 69)) (.cells #[.int .i64 y.Tsn, .int .i64 y.Stream, .int .i64 y.Seq, .bool y.First, .bool y.Last, .bool y.Unordered, .slice B y.Piece.length cb] 69))
  by_cases e0 : x.Tsn = y.Tsn
  case neg =>
    have HXY := hidH (show ¬ x = y from fun h => e0 (HQ.out.1 h).1)
    have f0 : (x.Tsn == y.Tsn) = false := by rw [beq_eq_false_iff_ne]; exact e0
    clear HQ HF e0
    go_enter Try.func107, Try.ntmps107
    go_wp2
    go_quiet (fail)
    go_wp2
    go_ret
    exact ⟨false, rfl, ⟨(fun h => by cases h), fun h => absurd h HXY.out⟩, below_drewN B2.out _⟩
  have f0 : (x.Tsn == y.Tsn) = true := by rw [beq_iff_eq]; exact e0
  by_cases e1 : x.Stream = y.Stream
  case neg =>
    have HXY := hidH (show ¬ x = y from fun h => e1 (HQ.out.1 h).2.1)
    have f1 : (x.Stream == y.Stream) = false := by rw [beq_eq_false_iff_ne]; exact e1
    clear HQ HF e0 e1
    go_enter Try.func107, Try.ntmps107
    go_wp2
    go_quiet (fail)
    go_wp2
    go_ret
    exact ⟨false, rfl, ⟨(fun h => by cases h), fun h => absurd h HXY.out⟩, below_drewN B2.out _⟩
  have f1 : (x.Stream == y.Stream) = true := by rw [beq_iff_eq]; exact e1
  by_cases e2 : x.Seq = y.Seq
  case neg =>
    have HXY := hidH (show ¬ x = y from fun h => e2 (HQ.out.1 h).2.2.1)
    have f2 : (x.Seq == y.Seq) = false := by rw [beq_eq_false_iff_ne]; exact e2
    clear HQ HF e0 e1 e2
    go_enter Try.func107, Try.ntmps107
    go_wp2
    go_quiet (fail)
    go_wp2
    go_ret
    exact ⟨false, rfl, ⟨(fun h => by cases h), fun h => absurd h HXY.out⟩, below_drewN B2.out _⟩
  have f2 : (x.Seq == y.Seq) = true := by rw [beq_iff_eq]; exact e2
  have HQ2 := hidH (show x = y ↔ (bitN x.Last 1 + bitN x.First 2 + bitN x.Unordered 4 = bitN y.Last 1 + bitN y.First 2 + bitN y.Unordered 4) ∧ x.Piece = y.Piece by
    rw [HQ.out, HF.out]
    exact ⟨fun h => ⟨⟨h.2.2.2.1, h.2.2.2.2.1, h.2.2.2.2.2.1⟩, h.2.2.2.2.2.2⟩, fun h => ⟨e0, e1, e2, h.1.1, h.1.2.1, h.1.2.2, h.2⟩⟩)
  clear HQ HF e0 e1 e2
  obtain ⟨zx, hzx⟩ : ∃ z, bitN x.Last 1 + bitN x.First 2 + bitN x.Unordered 4 = z := ⟨_, rfl⟩
  obtain ⟨zy, hzy⟩ : ∃ z, bitN y.Last 1 + bitN y.First 2 + bitN y.Unordered 4 = z := ⟨_, rfl⟩
  rw [hzx, hzy] at HQ2
  have FX := hidH (fun u => flags_impl x.Tsn x.Stream x.Seq x.First x.Last x.Unordered (.slice A x.Piece.length ca) u)
  have FY := hidH (fun u => flags_impl y.Tsn y.Stream y.Seq y.First y.Last y.Unordered (.slice B y.Piece.length cb) u)
  rw [hzx] at FX
  rw [hzy] at FY
  clear hzx hzy
  have BE := hidH (fun (u : World) (hu : Below w.heap.size w u) => (HE.out u (HA.out u hu) (HB.out u hu)))
  clear HE HA HB
  have FX2 := hidH (fun u : World => show Calls Try.prog 159 #[.agg #[.int .i64 x.Tsn, .int .i64 x.Stream, .int .i64 x.Seq, .bool x.First, .bool x.Last, .bool x.Unordered, .slice A x.Piece.length ca]] u (fun e w' => e = .returned (.int .i64 zx) ∧ Below u.heap.size u w') from (FX.out u).mono (fun e w' h => ⟨h.1, by rw [← h.2]; exact bal (Below.refl _ _) _⟩))
  have FY2 := hidH (fun u : World => show Calls Try.prog 159 #[.agg #[.int .i64 y.Tsn, .int .i64 y.Stream, .int .i64 y.Seq, .bool y.First, .bool y.Last, .bool y.Unordered, .slice B y.Piece.length cb]] u (fun e w' => e = .returned (.int .i64 zy) ∧ Below u.heap.size u w') from (FY.out u).mono (fun e w' h => ⟨h.1, by rw [← h.2]; exact bal (Below.refl _ _) _⟩))
  clear FX FY
  obtain ⟨d, hd⟩ : ∃ d : Bool, decide (x.Piece = y.Piece) = d := ⟨_, rfl⟩
  have BE2 := hidH (fun (u : World) (hu : Below w.heap.size w u) => show Calls Try.prog 160 #[.slice A x.Piece.length ca, .slice B y.Piece.length cb] u (fun e w' => e = .returned (.bool d) ∧ Below u.heap.size u w') from (BE.out u hu).mono (fun e w' h => ⟨by rw [← hd]; exact h.1, by rw [← h.2]; exact Below.refl _ _⟩))
  clear BE
  have KG := (Blk.new w 69 #[.int .i64 x.Tsn, .int .i64 x.Stream, .int .i64 x.Seq, .bool x.First, .bool x.Last, .bool x.Unordered, .slice A x.Piece.length ca]).alloc (.cells #[.int .i64 y.Tsn, .int .i64 y.Stream, .int .i64 y.Seq, .bool y.First, .bool y.Last, .bool y.Unordered, .slice B y.Piece.length cb] 69)
  have KK := Blk.new (w.alloc (.cells #[.int .i64 x.Tsn, .int .i64 x.Stream, .int .i64 x.Seq, .bool x.First, .bool x.Last, .bool x.Unordered, .slice A x.Piece.length ca] 69)) 69 #[.int .i64 y.Tsn, .int .i64 y.Stream, .int .i64 y.Seq, .bool y.First, .bool y.Last, .bool y.Unordered, .slice B y.Piece.length cb]
  have B3 := bal (bal (Below.refl w.heap.size w) (.cells #[.int .i64 x.Tsn, .int .i64 x.Stream, .int .i64 x.Seq, .bool x.First, .bool x.Last, .bool x.Unordered, .slice A x.Piece.length ca] 69)) (.cells #[.int .i64 y.Tsn, .int .i64 y.Stream, .int .i64 y.Seq, .bool y.First, .bool y.Last, .bool y.Unordered, .slice B y.Piece.length cb] 69)
  have HB3 := hidH B3
  obtain ⟨W, hW⟩ : ∃ W, (w.alloc (.cells #[.int .i64 x.Tsn, .int .i64 x.Stream, .int .i64 x.Seq, .bool x.First, .bool x.Last, .bool x.Unordered, .slice A x.Piece.length ca] 69)).alloc (.cells #[.int .i64 y.Tsn, .int .i64 y.Stream, .int .i64 y.Seq, .bool y.First, .bool y.Last, .bool y.Unordered, .slice B y.Piece.length cb] 69) = W := ⟨_, rfl⟩
  rw [hW] at KG KK B3 HB3
  rw [World.size_alloc] at KK
  have HKG := hidH KG
  have HKK := hidH KK
  have HW := hidH hW
  clear B2 B3 KG KK hW
  by_cases ez : zx = zy
  · have fz : (zx == zy) = true := by rw [beq_iff_eq]; exact ez
    have HR := hidH (show d = true ↔ x = y by rw [HQ2.out, ← hd]; simp [ez])
    clear HQ2 ez hd
    go_enter Try.func107, Try.ntmps107
    go_wp2_with fail
    rw [HW.out]
    refine wp_region_any (by kernel_rfl) ?_
    refine regSD W x y A B ca cb w.heap.size (w.heap.size + 1) zx zy f0 f1 f2 fz FX2.out FY2.out d (fun u hu => BE2.out u (btr HB3.out hu)) (by kernel_rfl) (by kernel_rfl) (by kernel_rfl) rfl (HKG.out.below (Below.refl _ _).drew) (HKK.out.below (Below.refl _ _).drew) (Below.refl _ _).drew ?_
    intros
    rename_i w9 b9
    have B9 := hidH (btr HB3.out b9)
    clear b9
    go_wp2
    go_ret
    exact ⟨d, rfl, HR.out, B9.out⟩
  · have fz : (zx == zy) = false := by rw [beq_eq_false_iff_ne]; exact ez
    have HR := hidH (show ¬ x = y from fun h => ez (HQ2.out.1 h).1)
    clear HQ2 ez hd BE2
    go_enter Try.func107, Try.ntmps107
    go_wp2_with fail
    rw [HW.out]
    refine wp_region_any (by kernel_rfl) ?_
    refine regSDn W x y A B ca cb w.heap.size (w.heap.size + 1) zx zy f0 f1 f2 fz FX2.out FY2.out (by kernel_rfl) (by kernel_rfl) (by kernel_rfl) rfl (HKG.out.below (Below.refl _ _).drew) (HKK.out.below (Below.refl _ _).drew) (Below.refl _ _).drew ?_
    intros
    rename_i w9 b9
    have B9 := hidH (btr HB3.out b9)
    clear b9
    go_wp2
    go_ret
    exact ⟨false, rfl, ⟨(fun h => by cases h), fun h => absurd h HR.out⟩, B9.out⟩
end Go.Proofs.Ythljdikcpdokdaa
