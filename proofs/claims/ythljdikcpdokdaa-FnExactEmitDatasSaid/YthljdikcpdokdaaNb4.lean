import Derived.Test.YthljdikcpdokdaaNa5
import Derived.Test.YthljdikcpdokdaaNa2
import Derived.Test.YthljdikcpdokdaaS10M
import Derived.Test.YthljdikcpdokdaaS10K

/- Chapter 9: NewRecv, the model's and the program's. -/
namespace Go.Proofs.Ythljdikcpdokdaa
open Go.RowKit Go.Deep

theorem OwN.nois9 {B C : Nat} {w : World} {xs : List V} {vs : List Value} (h : OwN B C w xs vs) : OwN B C w (.is [] :: xs) (.slice none 0 0 :: vs) :=
  ⟨h.1, by unfold OwA; exact ⟨fun _ _ => False, _, by unfold Ow; exact ⟨none, 0, rfl, ⟨Nat.le_refl _, by simp⟩, .inl rfl⟩, h.2, fun _ _ x => x.elim, Sub.refl _, fun _ _ x => x.elim⟩⟩
theorem OwN.nost9 {B C : Nat} {w : World} {xs : List V} {vs : List Value} (h : OwN B C w xs vs) : OwN B C w (.st 0 [] :: xs) (.slice none 0 0 :: vs) :=
  ⟨h.1, by unfold OwA; exact ⟨fun _ _ => False, _, by unfold Ow; exact ⟨none, 0, rfl, ⟨Nat.le_refl _, by simp⟩, .inl ⟨rfl, rfl⟩⟩, h.2, fun _ _ x => x.elim, Sub.refl _, fun _ _ x => x.elim⟩⟩
abbrev zs10 : List Int := [0, 0, 0, 0, 0, 0, 0, 0, 0, 0]
def nrR (c : Int) : RecvResultM := if wB c then ⟨0, c, [], [], zs10, false, []⟩ else ⟨3, 0, [], [], [], false, []⟩
theorem nrR_no {c : Int} (h : wB c = false) : (nrR c).vs = [.int 3, .int 0, .is [], .st 0 [], .is [], .bool false, .st 0 []] := by unfold nrR; rw [h]; rfl
theorem nrR_yes {c : Int} (h : wB c = true) : (nrR c).vs = [.int 0, .int c, .is [], .st 0 [], .is zs10, .bool false, .st 0 []] := by unfold nrR; rw [h]; rfl
abbrev Z10 : Array Value := #[.int .i64 0, .int .i64 0, .int .i64 0, .int .i64 0, .int .i64 0, .int .i64 0, .int .i64 0, .int .i64 0, .int .i64 0, .int .i64 0]
theorem mk10 (W : World) : (Instr.makeSlice 24 (.int .i64 10) (.int .i64 10)).run Try.prog W = .ok (.slice (some ⟨W.heap.size, 0, none⟩) 10 10) (W.alloc (.cells Z10 2)) := by kernel_rfl
theorem oi_blk {w : World} {g : Nat} (h : Blk w g 2 Z10) : Oi g (g + 1) w (some ⟨g, 0, none⟩) zs10 := by
  refine .inr ⟨g, 0, rfl, Nat.le_refl _, Nat.lt_succ_self _, h.lt, fun j hj => ?_⟩
  rw [Nat.zero_add]
  refine ⟨(h.cell j).trans ?_, h.frozen j⟩
  have hj : j < 10 := hj
  rcases (show j = 0 ∨ j = 1 ∨ j = 2 ∨ j = 3 ∨ j = 4 ∨ j = 5 ∨ j = 6 ∨ j = 7 ∨ j = 8 ∨ j = 9 by omega) with rfl | rfl | rfl | rfl | rfl | rfl | rfl | rfl | rfl | rfl <;> rfl
/-- The new receiver's values, its row of numbers in the block g. -/
theorem nr_own {w : World} {B g C : Nat} (c : Int) (h : Blk w g 2 Z10) (hC : g + 1 ≤ C) (hw : C ≤ w.heap.size) (hB : B ≤ g) :
    OwN B C w [.int 0, .int c, .is [], .st 0 [], .is zs10, .bool false, .st 0 []] [.int .i64 0, .int .i64 c, .slice none 0 0, .slice none 0 0, .slice (some ⟨g, 0, none⟩) 10 10, .bool false, .slice none 0 0] := by
  refine OwN.int _ (OwN.int _ (OwN.nois9 (OwN.nost9 ?_)))
  refine OwN.cons (C := C) (((oi_blk h).owv h.lt ⟨by simp, by simp⟩).mono hB hC hw) ?_ (by omega) (Nat.le_refl _)
  exact OwN.bool _ (OwN.nost9 (OwN.nil hw))
set_option maxRecDepth 100000 in
set_option maxHeartbeats 1000000 in
theorem l9New_any (c : Int) (w : World) : Calls Try.prog 183 #[.int .i64 c] w fun e w' => e = .returned (.agg #[.int .i64 c, .slice none 0 0, .slice none 0 0, .slice (some ⟨w.heap.size + 1, 0, none⟩) 10 10]) ∧
    ((w.alloc (.cells #[.int .i64 c, .slice none 0 0, .slice none 0 0, .slice (some ⟨w.heap.size + 1, 0, none⟩) 10 10] 27)).alloc (.cells Z10 2)) = w' := by
  have HM := mk10
  go_enter Try.func183, Try.ntmps183
  go_wp2
  exact bodyPost_ret (v := .agg #[.int .i64 c, .slice none 0 0, .slice none 0 0, .slice (some ⟨w.heap.size + 1, 0, none⟩) 10 10]) (by simp [results, Try.results183, go_sem]) rfl ⟨rfl, rfl⟩
theorem nrR_len (c : Int) (_ : WfV (.int c)) : vcA (nrR c).vs ≤ 1000000000 := by
  unfold nrR
  split
  · exact (show (10 : Nat) ≤ 1000000000 by omega)
  · exact (show (0 : Nat) ≤ 1000000000 by omega)
end Go.Proofs.Ythljdikcpdokdaa

/- A number's result (WRITTEN BY tools/kinds.py) -/
namespace Go.Proofs.Ythljdikcpdokdaa
open Go.RowKit Go.Deep Go.ChangeShapes Go.WideShapes Go.ChangeAt

structure IntResultM where
  Code : Int
  Value : Int
def IntResultM.vs (x : IntResultM) : List V := [.int x.Code, .int x.Value]
theorem shape_IntResult {w : World} {n0 : Int} {n1 : Int} {vs : List Value} (h : RdA w [.int n0, .int n1] vs) : vs = [.int .i64 n0, .int .i64 n1] := by
  obtain ⟨q0, e0, t0⟩ := h.int_out
  subst e0
  obtain ⟨q1, e1, t1⟩ := t0.int_out
  subst e1
  have z := t1.nil_out
  subst z
  exact rfl
set_option maxRecDepth 100000 in
set_option maxHeartbeats 1000000 in
theorem eq_IntResult (n0 : Int) (n1 : Int) (w : World)   :
    Calls Try.prog 54 #[.agg #[.int .i64 n0, .int .i64 n1], .agg #[.int .i64 n0, .int .i64 n1]] w (EqR w) := by
  go_enter Try.func54, Try.ntmps54
  go_wp2
  go_ret
  exact ⟨rfl, bal (bal (Below.refl _ _) _) _⟩
theorem eqA_IntResult (y : IntResultM) {vs us : List Value} {w : World} (h : RdA w y.vs vs) (k : RdA w y.vs us) : Calls Try.prog 54 #[.agg vs.toArray, .agg us.toArray] w (EqR w) := by
  obtain rfl := shape_IntResult (h)
  obtain rfl := shape_IntResult (k)
  exact eq_IntResult y.Code y.Value  w  
end Go.Proofs.Ythljdikcpdokdaa

/- Chapter 10: NewSend and LeftIn, the model's and the program's. -/
namespace Go.Proofs.Ythljdikcpdokdaa
open Go.RowKit Go.Deep

def nsR (c : Int) : SendResultM := if wB c then ⟨0, c, addV c 4294967295, zs10, [], [], false⟩ else ⟨3, 0, 0, [], [], [], false⟩
theorem nsR_no {c : Int} (h : wB c = false) : (nsR c).vs = [.int 3, .int 0, .int 0, .is [], .st 0 [], .st 0 [], .bool false] := by unfold nsR; rw [h]; rfl
theorem nsR_yes {c : Int} (h : wB c = true) : (nsR c).vs = [.int 0, .int c, .int (addV c 4294967295), .is zs10, .st 0 [], .st 0 [], .bool false] := by unfold nsR; rw [h]; rfl
theorem sr_none {B C : Nat} {w : World} (n : Int) (hC : C ≤ w.heap.size) : OwN B C w [.int n, .int 0, .int 0, .is [], .st 0 [], .st 0 [], .bool false] [.int .i64 n, .int .i64 0, .int .i64 0, .slice none 0 0, .slice none 0 0, .slice none 0 0, .bool false] :=
  OwN.int _ (OwN.int _ (OwN.int _ (OwN.nois9 (OwN.nost9 (OwN.nost9 (OwN.bool _ (OwN.nil hC)))))))
theorem ns_own {w : World} {B g C : Nat} (c a : Int) (h : Blk w g 2 Z10) (hC : g + 1 ≤ C) (hw : C ≤ w.heap.size) (hB : B ≤ g) :
    OwN B C w [.int 0, .int c, .int a, .is zs10, .st 0 [], .st 0 [], .bool false] [.int .i64 0, .int .i64 c, .int .i64 a, .slice (some ⟨g, 0, none⟩) 10 10, .slice none 0 0, .slice none 0 0, .bool false] := by
  refine OwN.int _ (OwN.int _ (OwN.int _ ?_))
  refine OwN.cons (C := C) (((oi_blk h).owv h.lt ⟨by simp, by simp⟩).mono hB hC hw) ?_ (by omega) (Nat.le_refl _)
  exact OwN.nost9 (OwN.nost9 (OwN.bool _ (OwN.nil hw)))
set_option maxRecDepth 100000 in
set_option maxHeartbeats 1000000 in
theorem ns_impl (c : Int) (u : World) (_ : WfV (.int c)) : Calls Try.prog 40 #[.int .i64 c] u (Res u (nsR c).vs) := by
  have HM := mk10
  have f1 := fldI10
  obtain ⟨b, hb⟩ : ∃ b, wB c = b := ⟨_, rfl⟩
  cases b
  · rw [nsR_no hb]
    go_enter Try.func40, Try.ntmps40
    go_wp2_with (first | (go_at_call 61; refine (isWord_any _ _).mono ?_; rintro e w' ⟨rfl, rfl⟩))
    exact bodyPost_ret (v := .agg #[.int .i64 3, .int .i64 0, .int .i64 0, .slice none 0 0, .slice none 0 0, .slice none 0 0, .bool false]) (by simp [results, Try.results40, go_sem]) rfl ⟨_, rfl, sr_none _ (Nat.le_refl _), bal (Below.refl _ _) _⟩
  · rw [nsR_yes hb]
    have HA := hidH (fun (w : World) => add_impl c 4294967295 w)
    obtain ⟨a, ha⟩ : ∃ a, addV c 4294967295 = a := ⟨_, rfl⟩
    rw [ha] at HA ⊢
    clear ha
    go_enter Try.func40, Try.ntmps40
    go_wp2_with (first | (go_at_call 61; refine (isWord_any _ _).mono ?_; rintro e w' ⟨rfl, rfl⟩) | (go_at_call 35; refine (HA.out _).mono ?_; rintro e w' ⟨rfl, rfl⟩))
    have BK := Blk.new ((u.alloc (.cells #[.int .i64 0, .int .i64 c, .int .i64 a, .slice (some ⟨u.heap.size + 1 + 1, 0, none⟩) 10 10, .slice none 0 0, .slice none 0 0, .bool false] 51)).alloc (.cells #[.int .i64 (addC c 4294967295), .int .i64 a] 38)) 2 Z10
    rw [World.size_alloc, World.size_alloc] at BK
    exact bodyPost_ret (v := .agg #[.int .i64 0, .int .i64 c, .int .i64 a, .slice (some ⟨u.heap.size + 1 + 1, 0, none⟩) 10 10, .slice none 0 0, .slice none 0 0, .bool false]) (by simp [results, Try.results40, go_sem]) rfl ⟨_, rfl, ns_own c a BK (by simp only [World.size_alloc]; omega) (Nat.le_refl _) (by omega), bal (bal (bal (Below.refl _ _) _) _) _⟩
/-- LeftIn's answer. -/
def liR (y : SendM) : IntResultM := if sdF y = 0 then ⟨0, y.Items.length⟩ else ⟨sdF y, 0⟩
theorem liR_no {y : SendM} (h : sdF y ≠ 0) : (liR y).vs = [.int (sdF y), .int 0] := by unfold liR; rw [if_neg h]; rfl
theorem liR_yes {y : SendM} (h : sdF y = 0) : (liR y).vs = [.int 0, .int y.Items.length] := by unfold liR; rw [if_pos h]; rfl
set_option maxRecDepth 100000 in
set_option maxHeartbeats 1000000 in
theorem li_impl (y : SendM) (vs : List Value) (u : World) (h : RdA u y.vs vs) (_ : WfA y.vs) (_ : tot.totL y.vs ≤ 1048576) : Calls Try.prog 25 #[.agg vs.toArray] u (Res u (liR y).vs) := by
  obtain ⟨A2, c2, A3, c3, rfl, _, _, _, _, _⟩ := send_sh h
  have KB := (Blk.new u 47 #[.int .i64 y.Next, .int .i64 y.Acked, .slice A2 y.Seqs.length c2, .slice A3 y.Items.length c3]).alloc (.cells #[.int .i64 0, .int .i64 0] 38)
  have KR := Blk.new (u.alloc (.cells #[.int .i64 y.Next, .int .i64 y.Acked, .slice A2 y.Seqs.length c2, .slice A3 y.Items.length c3] 47)) 38 #[.int .i64 0, .int .i64 0]
  have B1 := bal (bal (Below.refl u.heap.size u) (.cells #[.int .i64 y.Next, .int .i64 y.Acked, .slice A2 y.Seqs.length c2, .slice A3 y.Items.length c3] 47)) (.cells #[.int .i64 0, .int .i64 0] 38)
  have HF := hidH (sdw_impl y _ _ (RdA.below B1 h))
  obtain ⟨w1, hw1⟩ : ∃ W, (u.alloc (.cells #[.int .i64 y.Next, .int .i64 y.Acked, .slice A2 y.Seqs.length c2, .slice A3 y.Items.length c3] 47)).alloc (.cells #[.int .i64 0, .int .i64 0] 38) = W := ⟨_, rfl⟩
  rw [World.size_alloc] at KR
  rw [hw1] at KB B1 HF KR
  have H1 := hidH hw1
  have HB := hidH B1
  have HK := hidH KB
  have HR := hidH KR
  have HN := hidH (@liR_no y)
  have HY := hidH (@liR_yes y)
  obtain ⟨f, hf⟩ : ∃ f, sdF y = f := ⟨_, rfl⟩
  rw [hf] at HF HN HY
  clear h hw1 B1 KB KR hf
  go_enter Try.func25, Try.ntmps25
  go_wp2_with fail
  rw [H1.out]
  refine HF.out.mono ?_
  rintro e w2 ⟨rfl, b2⟩
  have HB2 := hidH (btr HB.out b2)
  have K2 := HK.out.below b2
  have R2 := HR.out.below b2
  have p3 := K2.cell 3
  have q0 := R2.cell 0
  have q1 := R2.cell 1
  have z0 := R2.frozen 0
  have z1 := R2.frozen 1
  simp only [List.getElem?_toArray, List.getElem?_cons_succ, List.getElem?_cons_zero] at p3 q0 q1
  have lp := K2.lt
  have lq := R2.lt
  clear b2 K2 R2 HF HK HR
  by_cases hz : f = 0
  case neg =>
    have hz2 : (f != 0) = true := by rw [bne_iff_ne]; exact hz
    have HV := hidH (HN.out hz)
    clear hz
    go_wp2
    exact bodyPost_ret (v := .agg #[.int .i64 f, .int .i64 0]) (by simp [results, Try.results25, go_sem, q0, q1]) rfl ⟨_, rfl, by rw [HV.out]; exact OwN.int _ (OwN.int _ (OwN.nil (Nat.le_refl _))), bst (bst HB2.out (p := ⟨u.heap.size + 1, 0, none⟩) (Nat.le_succ _) _) (p := ⟨u.heap.size + 1, 1, none⟩) (Nat.le_succ _) _⟩
  have hz2 : (f != 0) = false := by rw [bne_eq_false_iff_eq]; exact hz
  have HV := hidH (HY.out hz)
  clear hz
  go_wp2
  exact bodyPost_ret (v := .agg #[.int .i64 0, .int .i64 y.Items.length]) (by simp [results, Try.results25, go_sem, q0, q1]) rfl ⟨_, rfl, by rw [HV.out]; exact OwN.int _ (OwN.int _ (OwN.nil (Nat.le_refl _))), bst (bst HB2.out (p := ⟨u.heap.size + 1, 0, none⟩) (Nat.le_succ _) _) (p := ⟨u.heap.size + 1, 1, none⟩) (Nat.le_succ _) _⟩
set_option maxRecDepth 100000 in
set_option maxHeartbeats 1000000 in
theorem li_spec (y : SendM) (vs : List Value) (u : World) (h : RdA u y.vs vs) (_ : WfA y.vs) (_ : tot.totL y.vs ≤ 1048576) : Calls Try.prog 53 #[.agg vs.toArray] u (Res u (liR y).vs) := by
  obtain ⟨A2, c2, A3, c3, rfl, _, _, _, _, _⟩ := send_sh h
  have KB := (Blk.new u 47 #[.int .i64 y.Next, .int .i64 y.Acked, .slice A2 y.Seqs.length c2, .slice A3 y.Items.length c3]).alloc (.cells #[.int .i64 0, .int .i64 0] 38)
  have KR := Blk.new (u.alloc (.cells #[.int .i64 y.Next, .int .i64 y.Acked, .slice A2 y.Seqs.length c2, .slice A3 y.Items.length c3] 47)) 38 #[.int .i64 0, .int .i64 0]
  have B1 := bal (bal (Below.refl u.heap.size u) (.cells #[.int .i64 y.Next, .int .i64 y.Acked, .slice A2 y.Seqs.length c2, .slice A3 y.Items.length c3] 47)) (.cells #[.int .i64 0, .int .i64 0] 38)
  have HF := hidH (sdw_spec y _ _ (RdA.below B1 h))
  obtain ⟨w1, hw1⟩ : ∃ W, (u.alloc (.cells #[.int .i64 y.Next, .int .i64 y.Acked, .slice A2 y.Seqs.length c2, .slice A3 y.Items.length c3] 47)).alloc (.cells #[.int .i64 0, .int .i64 0] 38) = W := ⟨_, rfl⟩
  rw [World.size_alloc] at KR
  rw [hw1] at KB B1 HF KR
  have H1 := hidH hw1
  have HB := hidH B1
  have HK := hidH KB
  have HR := hidH KR
  have HN := hidH (@liR_no y)
  have HY := hidH (@liR_yes y)
  obtain ⟨f, hf⟩ : ∃ f, sdF y = f := ⟨_, rfl⟩
  rw [hf] at HF HN HY
  clear h hw1 B1 KB KR hf
  go_enter Try.func53, Try.ntmps53
  go_wp2_with fail
  rw [H1.out]
  refine HF.out.mono ?_
  rintro e w2 ⟨rfl, b2⟩
  have HB2 := hidH (btr HB.out b2)
  have K2 := HK.out.below b2
  have R2 := HR.out.below b2
  have p3 := K2.cell 3
  have q0 := R2.cell 0
  have q1 := R2.cell 1
  have z0 := R2.frozen 0
  have z1 := R2.frozen 1
  simp only [List.getElem?_toArray, List.getElem?_cons_succ, List.getElem?_cons_zero] at p3 q0 q1
  have lp := K2.lt
  have lq := R2.lt
  clear b2 K2 R2 HF HK HR
  by_cases hz : f = 0
  case neg =>
    have hz2 : (f != 0) = true := by rw [bne_iff_ne]; exact hz
    have HV := hidH (HN.out hz)
    clear hz
    go_wp2
    exact bodyPost_ret (v := .agg #[.int .i64 f, .int .i64 0]) (by simp [results, Try.results53, go_sem, q0, q1]) rfl ⟨_, rfl, by rw [HV.out]; exact OwN.int _ (OwN.int _ (OwN.nil (Nat.le_refl _))), bst (bst HB2.out (p := ⟨u.heap.size + 1, 0, none⟩) (Nat.le_succ _) _) (p := ⟨u.heap.size + 1, 1, none⟩) (Nat.le_succ _) _⟩
  have hz2 : (f != 0) = false := by rw [bne_eq_false_iff_eq]; exact hz
  have HV := hidH (HY.out hz)
  clear hz
  go_wp2
  exact bodyPost_ret (v := .agg #[.int .i64 0, .int .i64 y.Items.length]) (by simp [results, Try.results53, go_sem, q0, q1]) rfl ⟨_, rfl, by rw [HV.out]; exact OwN.int _ (OwN.int _ (OwN.nil (Nat.le_refl _))), bst (bst HB2.out (p := ⟨u.heap.size + 1, 0, none⟩) (Nat.le_succ _) _) (p := ⟨u.heap.size + 1, 1, none⟩) (Nat.le_succ _) _⟩
end Go.Proofs.Ythljdikcpdokdaa

/- Chapter 10: the model's TakeSack. (WRITTEN BY tools/sack10t.py) -/
namespace Go.Proofs.Ythljdikcpdokdaa
open Go.RowKit Go.Deep

theorem ccI_le : ∀ {r : List SendItemM}, (∀ x ∈ r, x.Data_Piece.length ≤ 100) → cc.ccL (r.flatMap SendItemM.vs) ≤ r.length * 200
  | [], _ => by simp [cc.ccL]
  | x :: r, h => by
    have ih := ccI_le (r := r) (fun y hy => h y (by simp [hy]))
    have hx := h x (by simp)
    rw [List.flatMap_cons, ccL_append, List.length_cons]
    have : cc.ccL x.vs ≤ 200 := by simp only [SendItemM.vs, cc.ccL, cc]; omega
    omega
theorem ccD_le : ∀ {r : List DataM}, (∀ x ∈ r, x.Piece.length ≤ 100) → cc.ccL (r.flatMap DataM.vs) ≤ r.length * 200
  | [], _ => by simp [cc.ccL]
  | x :: r, h => by
    have ih := ccD_le (r := r) (fun y hy => h y (by simp [hy]))
    have hx := h x (by simp)
    rw [List.flatMap_cons, ccL_append, List.length_cons]
    have : cc.ccL x.vs ≤ 200 := by simp only [DataM.vs, cc.ccL, cc]; omega
    omega
theorem own_winT {w w' : World} {B g s n : Nat} {e t : TypeId} {v : Value} {xs : List Value} {cs : Array Value} (h : w.ownsRow B e s v n xs) (hw : Win g (g + 1) w w') (k : Blk w g t cs) (ht : t ≠ e) : w'.ownsRow B e s v n xs := by
  obtain ⟨h1, h2 | ⟨g', cap, cur, h3, h4, h5, h6⟩⟩ := h
  · exact ⟨h1, .inl h2⟩
  · refine ⟨h1, .inr ⟨g', cap, cur, h3, h4, (hw.block g' (Array.getElem?_eq_some_iff.1 h5).1 ?_).trans h5, h6⟩⟩
    have : g' ≠ g := fun q => by
      subst q
      exact blk_ne k h5 ht
    omega
theorem sr_none10 {B C : Nat} {w : World} (n : Int) (hC : C ≤ w.heap.size) : OwN B C w [.int n, .int 0, .int 0, .is [], .st 0 [], .st 0 [], .bool false] [.int .i64 n, .int .i64 0, .int .i64 0, .slice none 0 0, .slice none 0 0, .slice none 0 0, .bool false] :=
  OwN.int _ (OwN.int _ (OwN.int _ (OwN.nois9 (OwN.nost9 (OwN.nost9 (OwN.bool _ (OwN.nil hC)))))))
theorem LZ.none (w : World) (B : Nat) : LZ w B (.slice none 0 0) [] [] := ⟨⟨rfl, .inl ⟨rfl, rfl⟩⟩, RTs.nil _ _, rfl⟩
theorem tsv_sd {y : SendM} {k : SackM} (h : sdF y ≠ 0) : (tsR y k).vs = [.int (sdF y), .int 0, .int 0, .is [], .st 0 [], .st 0 [], .bool false] := by rw [tsR_sd h]; rfl
theorem tsv_ks {y : SendM} {k : SackM} (h : sdF y = 0) (h2 : ksF k ≠ 0) : (tsR y k).vs = [.int (ksF k), .int 0, .int 0, .is [], .st 0 [], .st 0 [], .bool false] := by rw [tsR_ks h h2]; rfl
theorem tsv_st {y : SendM} {k : SackM} (h : sdF y = 0) (h2 : ksF k = 0) (h3 : ¬ 2147483647 < gapV y.Acked k.Cum) (h4 : gapV y.Acked y.Next ≤ topV y k) : (tsR y k).vs = [.int 8, .int 0, .int 0, .is [], .st 0 [], .st 0 [], .bool false] := by rw [tsR_st h h2 h3 h4]; rfl
theorem tsv_old {y : SendM} {k : SackM} (h : sdF y = 0) (h2 : ksF k = 0) (h3 : 2147483647 < gapV y.Acked k.Cum) : (tsR y k).vs = [.int 0, .int y.Next, .int y.Acked, .is y.Seqs, st_SendItem y.Items, st_Data [], .bool true] := by rw [tsR_old h h2 h3]; rfl
theorem tsv_ok {y : SendM} {k : SackM} (h : sdF y = 0) (h2 : ksF k = 0) (h3 : ¬ 2147483647 < gapV y.Acked k.Cum) (h4 : ¬ gapV y.Acked y.Next ≤ topV y k) : (tsR y k).vs = [.int 0, .int y.Next, .int k.Cum, .is y.Seqs, st_SendItem (y.Items.filter (fun x => !tkB y k x)), st_Data ((y.Items.filter (tkB y k)).map SendItemM.d), .bool false] := by rw [tsR_ok h h2 h3 h4]; rfl
theorem SdOk.piece {y : SendM} (h : SdOk y) : ∀ x ∈ y.Items, x.Data_Piece.length ≤ 4000000 := fun x hx => by
  have h1 := (siF_zero (itF_mem h.its x hx).1).1
  have h2 := (pdF_zero h1).2.2.2.2
  have h3 : x.d.Piece.length = x.Data_Piece.length := rfl
  omega
theorem sack_sh {k : SackM} {vs : List Value} {u : World} (h : RdA u k.vs vs) : ∃ (A : Option Addr) (c : Nat), vs = [.int .i64 k.Cum, .slice A k.Gaps.length c] ∧ Rd u (st_Gap k.Gaps) (.slice A k.Gaps.length c) := by
  obtain ⟨A, c, rfl⟩ := shape_Sack h
  have h' : RdA u [.int k.Cum, st_Gap k.Gaps] _ := h
  exact ⟨A, c, rfl, h'.tl.hd⟩
theorem rd_sack {k : SackM} {u : World} {A : Option Addr} {c : Nat} (h : Rd u (st_Gap k.Gaps) (.slice A k.Gaps.length c)) : RdA u k.vs [.int .i64 k.Cum, .slice A k.Gaps.length c] := RdA.int_mk (RdA.any_mk h RdA.nil_mk)
set_option maxRecDepth 100000 in
set_option maxHeartbeats 8000000 in
theorem tsw_spec (y : SendM) (vs : List Value) (k : SackM) (vk : List Value) (u : World) (h : RdA u y.vs vs) (h1 : RdA u k.vs vk) : Calls Try.prog 21 #[.agg vs.toArray, .agg vk.toArray] u (Res u (tsR y k).vs) := by
  obtain ⟨A2, c2, A3, c3, rfl, i2, i3, m2, m3, _⟩ := send_sh h
  obtain ⟨A, c, rfl, hG⟩ := sack_sh h1
  have KS := ((Blk.new u 47 #[.int .i64 y.Next, .int .i64 y.Acked, .slice A2 y.Seqs.length c2, .slice A3 y.Items.length c3]).alloc (.cells #[.int .i64 k.Cum, .slice A k.Gaps.length c] 31)).alloc (.cells #[.int .i64 0, .int .i64 0, .int .i64 0, .slice none 0 0, .slice none 0 0, .slice none 0 0, .bool false] 51)
  have KK := (Blk.new (u.alloc (.cells #[.int .i64 y.Next, .int .i64 y.Acked, .slice A2 y.Seqs.length c2, .slice A3 y.Items.length c3] 47)) 31 #[.int .i64 k.Cum, .slice A k.Gaps.length c]).alloc (.cells #[.int .i64 0, .int .i64 0, .int .i64 0, .slice none 0 0, .slice none 0 0, .slice none 0 0, .bool false] 51)
  have KR := Blk.new ((u.alloc (.cells #[.int .i64 y.Next, .int .i64 y.Acked, .slice A2 y.Seqs.length c2, .slice A3 y.Items.length c3] 47)).alloc (.cells #[.int .i64 k.Cum, .slice A k.Gaps.length c] 31)) 51 #[.int .i64 0, .int .i64 0, .int .i64 0, .slice none 0 0, .slice none 0 0, .slice none 0 0, .bool false]
  have B1 := bal (bal (bal (Below.refl u.heap.size u) (.cells #[.int .i64 y.Next, .int .i64 y.Acked, .slice A2 y.Seqs.length c2, .slice A3 y.Items.length c3] 47)) (.cells #[.int .i64 k.Cum, .slice A k.Gaps.length c] 31)) (.cells #[.int .i64 0, .int .i64 0, .int .i64 0, .slice none 0 0, .slice none 0 0, .slice none 0 0, .bool false] 51)
  rw [World.size_alloc] at KK
  rw [World.size_alloc, World.size_alloc] at KR
  have s1 : (((u.alloc (.cells #[.int .i64 y.Next, .int .i64 y.Acked, .slice A2 y.Seqs.length c2, .slice A3 y.Items.length c3] 47)).alloc (.cells #[.int .i64 k.Cum, .slice A k.Gaps.length c] 31)).alloc (.cells #[.int .i64 0, .int .i64 0, .int .i64 0, .slice none 0 0, .slice none 0 0, .slice none 0 0, .bool false] 51)).heap.size = u.heap.size + 1 + 1 + 1 := by simp only [World.size_alloc]
  obtain ⟨w1, hw1⟩ : ∃ W, ((u.alloc (.cells #[.int .i64 y.Next, .int .i64 y.Acked, .slice A2 y.Seqs.length c2, .slice A3 y.Items.length c3] 47)).alloc (.cells #[.int .i64 k.Cum, .slice A k.Gaps.length c] 31)).alloc (.cells #[.int .i64 0, .int .i64 0, .int .i64 0, .slice none 0 0, .slice none 0 0, .slice none 0 0, .bool false] 51) = W := ⟨_, rfl⟩
  rw [hw1] at KS KK KR B1 s1
  have HSF := hidH (sdw_spec y _ w1 (RdA.below B1 h))
  have HI2 := hidH (fun (W : World) (hW : Below u.heap.size u W) => is_below i2 hW)
  have HI3 := hidH (fun (W : World) (hW : Below u.heap.size u W) => Rd.below hW _ i3)
  have HGP := hidH (fun (W : World) (hW : Below u.heap.size u W) => Rd.below hW _ hG)
  have H1 := hidH hw1
  have HS := hidH KS
  have HK := hidH KK
  have HR := hidH KR
  have HB := hidH B1
  have HZ := hidH s1
  have HV1 := hidH (@tsv_sd y k)
  have HV2 := hidH (@tsv_ks y k)
  have HV3 := hidH (@tsv_st y k)
  have HV4 := hidH (@tsv_old y k)
  have HV5 := hidH (@tsv_ok y k)
  have HOK := hidH (@SdOk.of y)
  obtain ⟨f, hf⟩ : ∃ f, sdF y = f := ⟨_, rfl⟩
  rw [hf] at HSF HV1 HV2 HV3 HV4 HV5 HOK
  clear h h1 i2 i3 hG m2 m3 hw1 KS KK KR B1 s1 hf
  go_enter Try.func21, Try.ntmps21
  go_wp2_with fail
  rw [H1.out]
  refine HSF.out.mono ?_
  rintro e w2 ⟨rfl, b2⟩
  replace HS := hidH (HS.out.below b2)
  replace HK := hidH (HK.out.below b2)
  replace HR := hidH (HR.out.below b2)
  replace HZ := hidH (show u.heap.size + 1 + 1 + 1 ≤ w2.heap.size by have := HZ.out; have := b2.size; omega)
  replace HB := hidH (btr HB.out b2)
  clear b2 HSF H1
  by_cases hz : f = 0
  case neg =>
    have hz2 : (f != 0) = true := by rw [bne_iff_ne]; exact hz
    have HE := hidH (HV1.out hz)
    clear hz HV1 HV2 HV3 HV4 HV5 HOK
    have R9 := HR.out
    have q0 := R9.cell 0
    have z0 := R9.frozen 0
    have q1 := R9.cell 1
    have z1 := R9.frozen 1
    have q2 := R9.cell 2
    have z2 := R9.frozen 2
    have q3 := R9.cell 3
    have z3 := R9.frozen 3
    have q4 := R9.cell 4
    have z4 := R9.frozen 4
    have q5 := R9.cell 5
    have z5 := R9.frozen 5
    have q6 := R9.cell 6
    have z6 := R9.frozen 6
    simp only [List.getElem?_toArray, List.getElem?_cons_succ, List.getElem?_cons_zero] at q0 q1 q2 q3 q4 q5 q6
    have lq := R9.lt
    have HOWN := hidH (show OwN (u.heap.size + 1 + 1 + 1) w2.heap.size w2 _ _ from sr_none10 f (Nat.le_refl _))
    clear R9
    go_wp2
    have WN := ((((((set_win w2 (u.heap.size + 1 + 1) 0 (.int .i64 f)).trans (set_win _ (u.heap.size + 1 + 1) 1 (.int .i64 0))).trans (set_win _ (u.heap.size + 1 + 1) 2 (.int .i64 0))).trans (set_win _ (u.heap.size + 1 + 1) 3 (.slice none 0 0))).trans (set_win _ (u.heap.size + 1 + 1) 4 (.slice none 0 0))).trans (set_win _ (u.heap.size + 1 + 1) 5 (.slice none 0 0))).trans (set_win _ (u.heap.size + 1 + 1) 6 (.bool false))
    have sz9 : u.heap.size ≤ w2.heap.size := HB.out.size
    exact bodyPost_ret (v := .agg #[.int .i64 f, .int .i64 0, .int .i64 0, .slice none 0 0, .slice none 0 0, .slice none 0 0, .bool false]) (by simp [results, Try.results21, go_sem, q0, q1, q2, q3, q4, q5, q6]) rfl ⟨_, rfl, by rw [HE.out]; exact (HOWN.out.win WN (.inr (Nat.le_refl _))).mono (by omega) WN.size (Nat.le_refl _), (HB.out).trans (WN.below (by omega) |>.mono (by omega))⟩
  subst hz
  have hy := HOK.out rfl
  replace HV2 := hidH (HV2.out rfl)
  replace HV3 := hidH (HV3.out rfl)
  replace HV4 := hidH (HV4.out rfl)
  replace HV5 := hidH (HV5.out rfl)
  have HSK := hidH (ksF_any (u.heap.size + 1) 0 k w2 (RdL.blk (rd_sack (HGP.out w2 HB.out)) HK.out))
  have HY := hidH hy
  have HK0 := hidH (fun (h : ksF k = 0) => h)
  obtain ⟨f2, hf2⟩ : ∃ f2, ksF k = f2 := ⟨_, rfl⟩
  have HF2 := hidH hf2
  rw [hf2] at HSK HV2 HV3 HV4 HV5
  clear HV1 HOK hf2 hy HK0
  go_wp2_with fail
  refine HSK.out.mono ?_
  rintro e w3 ⟨rfl, b3⟩
  replace HS := hidH (HS.out.below b3)
  replace HK := hidH (HK.out.below b3)
  replace HR := hidH (HR.out.below b3)
  replace HZ := hidH (Nat.le_trans HZ.out b3.size)
  replace HB := hidH (btr HB.out b3)
  clear b3 HSK
  by_cases hz : f2 = 0
  case neg =>
    have hz2 : (f2 != 0) = true := by rw [bne_iff_ne]; exact hz
    have HE := hidH (HV2.out hz)
    clear hz HV2 HV3 HV4 HV5
    have R9 := HR.out
    have q0 := R9.cell 0
    have z0 := R9.frozen 0
    have q1 := R9.cell 1
    have z1 := R9.frozen 1
    have q2 := R9.cell 2
    have z2 := R9.frozen 2
    have q3 := R9.cell 3
    have z3 := R9.frozen 3
    have q4 := R9.cell 4
    have z4 := R9.frozen 4
    have q5 := R9.cell 5
    have z5 := R9.frozen 5
    have q6 := R9.cell 6
    have z6 := R9.frozen 6
    simp only [List.getElem?_toArray, List.getElem?_cons_succ, List.getElem?_cons_zero] at q0 q1 q2 q3 q4 q5 q6
    have lq := R9.lt
    have HOWN := hidH (show OwN (u.heap.size + 1 + 1 + 1) w3.heap.size w3 _ _ from sr_none10 f2 (Nat.le_refl _))
    clear R9
    go_wp2
    have WN := ((((((set_win w3 (u.heap.size + 1 + 1) 0 (.int .i64 f2)).trans (set_win _ (u.heap.size + 1 + 1) 1 (.int .i64 0))).trans (set_win _ (u.heap.size + 1 + 1) 2 (.int .i64 0))).trans (set_win _ (u.heap.size + 1 + 1) 3 (.slice none 0 0))).trans (set_win _ (u.heap.size + 1 + 1) 4 (.slice none 0 0))).trans (set_win _ (u.heap.size + 1 + 1) 5 (.slice none 0 0))).trans (set_win _ (u.heap.size + 1 + 1) 6 (.bool false))
    have sz9 : u.heap.size ≤ w3.heap.size := HB.out.size
    exact bodyPost_ret (v := .agg #[.int .i64 f2, .int .i64 0, .int .i64 0, .slice none 0 0, .slice none 0 0, .slice none 0 0, .bool false]) (by simp [results, Try.results21, go_sem, q0, q1, q2, q3, q4, q5, q6]) rfl ⟨_, rfl, by rw [HE.out]; exact (HOWN.out.win WN (.inr (Nat.le_refl _))).mono (by omega) WN.size (Nat.le_refl _), (HB.out).trans (WN.below (by omega) |>.mono (by omega))⟩
  subst hz
  replace HV3 := hidH (HV3.out rfl)
  replace HV4 := hidH (HV4.out rfl)
  replace HV5 := hidH (HV5.out rfl)
  have HCP := hidH (l10Copy_any y u.heap.size w3 A2 A3 c2 c3 HS.out (HI2.out w3 HB.out) (HI3.out w3 HB.out) HY.out.seqs (by have := HY.out.items; omega) HY.out.piece)
  clear HV2
  go_wp2_with fail
  refine HCP.out.mono ?_
  rintro e w4 ⟨S, I, ks, rfl, hS, hI, b4⟩
  replace HS := hidH (HS.out.below b4)
  replace HK := hidH (HK.out.below b4)
  replace HR := hidH (HR.out.below b4)
  replace HB := hidH (btr HB.out b4)
  obtain ⟨SA, sc, rfl⟩ := own_lenT hS
  obtain ⟨IA, ic, rfl⟩ := hI.shape
  have B5 := bal (Below.refl w4.heap.size w4) (.cells #[.int .i64 y.Next, .int .i64 y.Acked, .slice SA y.Seqs.length sc, .slice IA y.Items.length ic] 47)
  have K5 := Blk.new w4 47 #[.int .i64 y.Next, .int .i64 y.Acked, .slice SA y.Seqs.length sc, .slice IA y.Items.length ic]
  obtain ⟨w5, hw5⟩ : ∃ W, w4.alloc (.cells #[.int .i64 y.Next, .int .i64 y.Acked, .slice SA y.Seqs.length sc, .slice IA y.Items.length ic] 47) = W := ⟨_, rfl⟩
  rw [hw5] at B5 K5
  have hI5 := hI.below B5
  have HSL := hidH (l10Sack_any y k HY.out HF2.out w4.heap.size (u.heap.size + 1) _ _ ks w3.heap.size w3.heap.size w5 K5 hI5 A c (HK.out.below B5) (HGP.out w5 (btr HB.out B5)))
  replace HS := hidH (HS.out.below B5)
  replace HR := hidH (HR.out.below B5)
  replace HB := hidH (btr HB.out B5)
  have HS5 := hidH (own_below0 hS B5)
  have HI5 := hidH hI5
  have HK5 := hidH K5
  have H5 := hidH hw5
  have HZ5 := hidH (show w3.heap.size ≤ w5.heap.size from Nat.le_trans b4.size B5.size)
  have HZ4 := hidH (show w3.heap.size ≤ w4.heap.size from b4.size)
  clear hw5 hS hI b4 B5 K5 hI5 HCP HK
  go_wp2_with fail
  rw [H5.out]
  refine HSL.out.mono ?_
  rintro e w6 (⟨h3, rfl, m, rfl⟩ | ⟨h3, h4, rfl, m, rfl⟩ | ⟨h3, h4, D, I2, kl, kg, rfl, hbx, hlf, hgn, hlk, hwn⟩)
  · have b6 := below_drewN (Below.refl w5.heap.size w5) m
    obtain ⟨w6, hw6⟩ : ∃ W, w5.drewN m = W := ⟨_, rfl⟩
    rw [hw6] at b6 ⊢
    have HE := hidH (HV4.out (by omega))
    have K6 := HK5.out.below b6
    have O6 := res_own 0 y.Next y.Acked true (own_below0 HS5.out b6) (HI5.out.below b6) (LZ.none w6 w3.heap.size) (fun x _ z hz => by simp [RowZ] at hz)
    replace HR := hidH (HR.out.below b6)
    replace HB := hidH (btr HB.out b6)
    have p0 := K6.cell 0
    have p1 := K6.cell 1
    have p2 := K6.cell 2
    have p3 := K6.cell 3
    simp only [List.getElem?_toArray, List.getElem?_cons_succ, List.getElem?_cons_zero] at p0 p1 p2 p3
    have pl := K6.lt
    have O7 := O6.mono (B' := u.heap.size + 1 + 1 + 1) HZ.out (Nat.le_refl _) (Nat.le_refl _)
    clear hw6 b6 K6 h3 HV3 HV4 HV5 O6
    have R9 := HR.out
    have q0 := R9.cell 0
    have z0 := R9.frozen 0
    have q1 := R9.cell 1
    have z1 := R9.frozen 1
    have q2 := R9.cell 2
    have z2 := R9.frozen 2
    have q3 := R9.cell 3
    have z3 := R9.frozen 3
    have q4 := R9.cell 4
    have z4 := R9.frozen 4
    have q5 := R9.cell 5
    have z5 := R9.frozen 5
    have q6 := R9.cell 6
    have z6 := R9.frozen 6
    simp only [List.getElem?_toArray, List.getElem?_cons_succ, List.getElem?_cons_zero] at q0 q1 q2 q3 q4 q5 q6
    have lq := R9.lt
    have HOWN := hidH (O7)
    clear R9
    go_wp2
    have WN := ((((((set_win w6 (u.heap.size + 1 + 1) 0 (.int .i64 0)).trans (set_win _ (u.heap.size + 1 + 1) 1 (.int .i64 y.Next))).trans (set_win _ (u.heap.size + 1 + 1) 2 (.int .i64 y.Acked))).trans (set_win _ (u.heap.size + 1 + 1) 3 (.slice SA y.Seqs.length sc))).trans (set_win _ (u.heap.size + 1 + 1) 4 (.slice IA y.Items.length ic))).trans (set_win _ (u.heap.size + 1 + 1) 5 (.slice none 0 0))).trans (set_win _ (u.heap.size + 1 + 1) 6 (.bool true))
    have sz9 : u.heap.size ≤ w6.heap.size := HB.out.size
    exact bodyPost_ret (v := .agg #[.int .i64 0, .int .i64 y.Next, .int .i64 y.Acked, .slice SA y.Seqs.length sc, .slice IA y.Items.length ic, .slice none 0 0, .bool true]) (by simp [results, Try.results21, go_sem, q0, q1, q2, q3, q4, q5, q6]) rfl ⟨_, rfl, by rw [HE.out]; exact (HOWN.out.win WN (.inr (Nat.le_refl _))).mono (by omega) WN.size (Nat.le_refl _), (HB.out).trans (WN.below (by omega) |>.mono (by omega))⟩
  · have b6 := below_drewN (Below.refl w5.heap.size w5) m
    obtain ⟨w6, hw6⟩ : ∃ W, w5.drewN m = W := ⟨_, rfl⟩
    rw [hw6] at b6 ⊢
    have HE := hidH (HV3.out (by omega) (by omega))
    replace HR := hidH (HR.out.below b6)
    replace HB := hidH (btr HB.out b6)
    clear hw6 b6 h3 h4 HV3 HV4 HV5
    have R9 := HR.out
    have q0 := R9.cell 0
    have z0 := R9.frozen 0
    have q1 := R9.cell 1
    have z1 := R9.frozen 1
    have q2 := R9.cell 2
    have z2 := R9.frozen 2
    have q3 := R9.cell 3
    have z3 := R9.frozen 3
    have q4 := R9.cell 4
    have z4 := R9.frozen 4
    have q5 := R9.cell 5
    have z5 := R9.frozen 5
    have q6 := R9.cell 6
    have z6 := R9.frozen 6
    simp only [List.getElem?_toArray, List.getElem?_cons_succ, List.getElem?_cons_zero] at q0 q1 q2 q3 q4 q5 q6
    have lq := R9.lt
    have HOWN := hidH (show OwN (u.heap.size + 1 + 1 + 1) w6.heap.size w6 _ _ from sr_none10 8 (Nat.le_refl _))
    clear R9
    go_wp2
    have WN := ((((((set_win w6 (u.heap.size + 1 + 1) 0 (.int .i64 8)).trans (set_win _ (u.heap.size + 1 + 1) 1 (.int .i64 0))).trans (set_win _ (u.heap.size + 1 + 1) 2 (.int .i64 0))).trans (set_win _ (u.heap.size + 1 + 1) 3 (.slice none 0 0))).trans (set_win _ (u.heap.size + 1 + 1) 4 (.slice none 0 0))).trans (set_win _ (u.heap.size + 1 + 1) 5 (.slice none 0 0))).trans (set_win _ (u.heap.size + 1 + 1) 6 (.bool false))
    have sz9 : u.heap.size ≤ w6.heap.size := HB.out.size
    exact bodyPost_ret (v := .agg #[.int .i64 8, .int .i64 0, .int .i64 0, .slice none 0 0, .slice none 0 0, .slice none 0 0, .bool false]) (by simp [results, Try.results21, go_sem, q0, q1, q2, q3, q4, q5, q6]) rfl ⟨_, rfl, by rw [HE.out]; exact (HOWN.out.win WN (.inr (Nat.le_refl _))).mono (by omega) WN.size (Nat.le_refl _), (HB.out).trans (WN.below (by omega) |>.mono (by omega))⟩
  · have HE := hidH (HV5.out (by omega) (by omega))
    obtain ⟨DA, dc, rfl⟩ := own_lenT hgn
    obtain ⟨LA, lc, rfl⟩ := own_lenT hlf
    have h8 : B8 w5 w6 := B8.of_win hwn HK5.out (by decide)
    have hrf := (HI5.out.rts).turn hwn.size h8
    obtain ⟨r1, r2, r3⟩ := hlk.fin HI5.out.len hrf
    have ll := hlk.ll
    have lg := hlk.lg
    rw [lfI_all] at ll
    rw [gnI_all] at lg
    have hSZ : SZ w6 w3.heap.size w3.heap.size (.slice LA (y.Items.filter (fun x => !tkB y k x)).length lc) (y.Items.filter (fun x => !tkB y k x)) kl := ⟨own_monoT hlf HZ5.out, r1, ll⟩
    have hLZ : LZ w6 w3.heap.size (.slice DA (y.Items.filter (tkB y k)).length dc) ((y.Items.filter (tkB y k)).map SendItemM.d) kg := ⟨by rw [List.length_map]; exact own_monoT hgn HZ5.out, r2, by rw [List.length_map]; exact lg⟩
    have O6 := res_own 0 y.Next k.Cum false (own_winT HS5.out hwn HK5.out (by decide)) hSZ hLZ r3
    replace HR := hidH (HR.out.win2 hwn (.inl (by have := HZ.out; have := HZ4.out; omega)))
    replace HB := hidH (HB.out.trans (hwn.below (by have := HB.out.size; have := HZ5.out; have := HZ4.out; have := HK5.out.lt; omega) |>.mono (by have := HZ.out; have := HZ4.out; omega)))
    have p0 := hbx.cell 0
    have p1 := hbx.cell 1
    have p2 := hbx.cell 2
    have p3 := hbx.cell 3
    simp only [List.getElem?_toArray, List.getElem?_cons_succ, List.getElem?_cons_zero] at p0 p1 p2 p3
    have pl := hbx.lt
    have O7 := O6.mono (B' := u.heap.size + 1 + 1 + 1) HZ.out (Nat.le_refl _) (Nat.le_refl _)
    obtain ⟨nl, hnl⟩ : ∃ n, (y.Items.filter (fun x => !tkB y k x)).length = n := ⟨_, rfl⟩
    obtain ⟨ng, hng⟩ : ∃ n, (y.Items.filter (tkB y k)).length = n := ⟨_, rfl⟩
    rw [hnl] at p3 O7
    rw [hng] at O7 ⊢
    clear hbx hlf hgn hlk hwn h8 hrf r1 r2 r3 ll lg hSZ hLZ h3 h4 HV3 HV4 HV5 O6 hnl hng
    have R9 := HR.out
    have q0 := R9.cell 0
    have z0 := R9.frozen 0
    have q1 := R9.cell 1
    have z1 := R9.frozen 1
    have q2 := R9.cell 2
    have z2 := R9.frozen 2
    have q3 := R9.cell 3
    have z3 := R9.frozen 3
    have q4 := R9.cell 4
    have z4 := R9.frozen 4
    have q5 := R9.cell 5
    have z5 := R9.frozen 5
    have q6 := R9.cell 6
    have z6 := R9.frozen 6
    simp only [List.getElem?_toArray, List.getElem?_cons_succ, List.getElem?_cons_zero] at q0 q1 q2 q3 q4 q5 q6
    have lq := R9.lt
    have HOWN := hidH (O7)
    clear R9
    go_wp2
    have WN := ((((((set_win w6 (u.heap.size + 1 + 1) 0 (.int .i64 0)).trans (set_win _ (u.heap.size + 1 + 1) 1 (.int .i64 y.Next))).trans (set_win _ (u.heap.size + 1 + 1) 2 (.int .i64 k.Cum))).trans (set_win _ (u.heap.size + 1 + 1) 3 (.slice SA y.Seqs.length sc))).trans (set_win _ (u.heap.size + 1 + 1) 4 (.slice LA nl lc))).trans (set_win _ (u.heap.size + 1 + 1) 5 (.slice DA ng dc))).trans (set_win _ (u.heap.size + 1 + 1) 6 (.bool false))
    have sz9 : u.heap.size ≤ w6.heap.size := HB.out.size
    exact bodyPost_ret (v := .agg #[.int .i64 0, .int .i64 y.Next, .int .i64 k.Cum, .slice SA y.Seqs.length sc, .slice LA nl lc, .slice DA ng dc, .bool false]) (by simp [results, Try.results21, go_sem, q0, q1, q2, q3, q4, q5, q6]) rfl ⟨_, rfl, by rw [HE.out]; exact (HOWN.out.win WN (.inr (Nat.le_refl _))).mono (by omega) WN.size (Nat.le_refl _), (HB.out).trans (WN.below (by omega) |>.mono (by omega))⟩
theorem ts_spec (y : SendM) (vs : List Value) (k : SackM) (vk : List Value) (u : World) (h : RdA u y.vs vs) (_ : WfA y.vs) (_ : tot.totL y.vs ≤ 1048576) (h1 : RdA u k.vs vk) (_ : WfA k.vs) (_ : tot.totL k.vs ≤ 1048576) : Calls Try.prog 21 #[.agg vs.toArray, .agg vk.toArray] u (Res u (tsR y k).vs) := tsw_spec y vs k vk u h h1
theorem tsR_len (y : SendM) (k : SackM) (_ : WfA y.vs) (_ : tot.totL y.vs ≤ 1048576) (_ : WfA k.vs) (_ : tot.totL k.vs ≤ 1048576) : vcA (tsR y k).vs ≤ 1000000000 := by
  by_cases h : sdF y = 0
  case neg => rw [tsR_sd h]; simp [SendResultM.vs, vcA, vc, cc, cc.ccL, st_SendItem, st_Data]
  have hy := SdOk.of h
  have hp : ∀ x ∈ y.Items, x.Data_Piece.length ≤ 100 := fun x hx => (pdF_zero ((siF_zero (itF_mem hy.its x hx).1).1)).2.2.2.2
  by_cases h2 : ksF k = 0
  case neg => rw [tsR_ks h h2]; simp [SendResultM.vs, vcA, vc, cc, cc.ccL, st_SendItem, st_Data]
  have n1 := hy.items
  have n2 := hy.seqs
  by_cases h3 : 2147483647 < gapV y.Acked k.Cum
  · rw [tsR_old h h2 h3]
    have c1 := ccI_le hp
    simp only [SendResultM.vs, vcA, vc, st_SendItem, st_Data, cc, List.flatMap_nil, cc.ccL, n2]
    omega
  by_cases h4 : gapV y.Acked y.Next ≤ topV y k
  · rw [tsR_st h h2 h3 h4]; simp [SendResultM.vs, vcA, vc, cc, cc.ccL, st_SendItem, st_Data]
  · rw [tsR_ok h h2 h3 h4]
    have c1 := ccI_le (r := y.Items.filter (fun x => !tkB y k x)) (fun x hx => hp x (List.mem_filter.1 hx).1)
    have c2 := ccD_le (r := (y.Items.filter (tkB y k)).map SendItemM.d) (fun d hd => by obtain ⟨x, hx, rfl⟩ := List.mem_map.1 hd; exact hp x (List.mem_filter.1 hx).1)
    have l1 := List.length_filter_le (fun x => !tkB y k x) y.Items
    have l2 := List.length_filter_le (tkB y k) y.Items
    rw [List.length_map] at c2
    simp only [SendResultM.vs, vcA, vc, st_SendItem, st_Data, cc, n2]
    omega
end Go.Proofs.Ythljdikcpdokdaa
