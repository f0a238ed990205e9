/- Chapter 10: NewSend and LeftIn, the model's and the program's. -/
import Derived.Test.YthljdikcpdokdaaS10M
import Derived.Test.YthljdikcpdokdaaS9N
import Derived.Test.YthljdikcpdokdaaTyInt
namespace Go.Proofs.Ythljdikcpdokdaa
open Go.RowKit Go.Deep

def nsR (c : Int) : SendResultM := if wB c then ⟨0, c, addV c 4294967295, zs10, [], [], false⟩ else ⟨3, 0, 0, [], [], [], false⟩
theorem nsR_no {c : Int} (h : wB c = false) : (nsR c).vs = [.int 3, .int 0, .int 0, .is [], .st 0 [], .st 0 [], .bool false] := by unfold nsR; rw [h]; rfl
theorem nsR_yes {c : Int} (h : wB c = true) : (nsR c).vs = [.int 0, .int c, .int (addV c 4294967295), .is zs10, .st 0 [], .st 0 [], .bool false] := by unfold nsR; rw [h]; rfl
theorem sr_none {B C : Nat} {w : World} (n : Int) (hC : C ≤ w.heap.size) : OwN B C w [.int n, .int 0, .int 0, .is [], .st 0 [], .st 0 [], .bool false] [.int .i64 n, .int .i64 0, .int .i64 0, .slice none 0 0, .slice none 0 0, .slice none 0 0, .bool false] :=
  OwN.int _ (OwN.int _ (OwN.int _ (OwN.nois9 (OwN.nost9 (OwN.nost9 (OwN.bool _ (OwN.nil hC)))))))
theorem ns_own {w : World} {B g C : Nat} (c a : Int) (h : Blk w g 2 Z10) (hC : g + 1 ≤ C) (hw : C ≤ w.heap.size) (hB : B ≤ g) :
    OwN B C w [.int 0, .int c, .int a, .is zs10, .st 0 [], .st 0 [], .bool false] [.int .i64 0, .int .i64 c, .int .i64 a, .slice (some ⟨g, 0, none⟩) 10 10, .slice none 0 0, .slice none 0 0, .bool false] := by
  refine OwN.int _ (OwN.int _ (OwN.int _ ?_))
  refine OwN.cons (C := C) (((oi_blk h).owv h.lt ⟨by simp, by simp⟩).mono hB hC hw) ?_ (by omega) (Nat.le_refl _)
  exact OwN.nost9 (OwN.nost9 (OwN.bool _ (OwN.nil hw)))
set_option maxRecDepth 100000 in
set_option maxHeartbeats 1000000 in
theorem ns_impl (c : Int) (u : World) (_ : WfV (.int c)) : Calls Try.prog 40 #[.int .i64 c] u (Res u (nsR c).vs) := by
  have HM := mk10
  have f1 := fldI10
  obtain ⟨b, hb⟩ : ∃ b, wB c = b := ⟨_, rfl⟩
  cases b
  · rw [nsR_no hb]
    go_enter Try.func40, Try.ntmps40
    go_wp2_with (first | (go_at_call 61; refine (isWord_any _ _).mono ?_; rintro e w' ⟨rfl, rfl⟩))
    exact bodyPost_ret (v := .agg #[.int .i64 3, .int .i64 0, .int .i64 0, .slice none 0 0, .slice none 0 0, .slice none 0 0, .bool false]) (by simp [results, Try.results40, go_sem]) rfl ⟨_, rfl, sr_none _ (Nat.le_refl _), bal (Below.refl _ _) _⟩
  · rw [nsR_yes hb]
    have HA := hidH (fun (w : World) => add_impl c 4294967295 w)
    obtain ⟨a, ha⟩ : ∃ a, addV c 4294967295 = a := ⟨_, rfl⟩
    rw [ha] at HA ⊢
    clear ha
    go_enter Try.func40, Try.ntmps40
    go_wp2_with (first | (go_at_call 61; refine (isWord_any _ _).mono ?_; rintro e w' ⟨rfl, rfl⟩) | (go_at_call 35; refine (HA.out _).mono ?_; rintro e w' ⟨rfl, rfl⟩))
    have BK := Blk.new ((u.alloc (.cells #[.int .i64 0, .int .i64 c, .int .i64 a, .slice (some ⟨u.heap.size + 1 + 1, 0, none⟩) 10 10, .slice none 0 0, .slice none 0 0, .bool false] 51)).alloc (.cells #[.int .i64 (addC c 4294967295), .int .i64 a] 38)) 2 Z10
    rw [World.size_alloc, World.size_alloc] at BK
    exact bodyPost_ret (v := .agg #[.int .i64 0, .int .i64 c, .int .i64 a, .slice (some ⟨u.heap.size + 1 + 1, 0, none⟩) 10 10, .slice none 0 0, .slice none 0 0, .bool false]) (by simp [results, Try.results40, go_sem]) rfl ⟨_, rfl, ns_own c a BK (by simp only [World.size_alloc]; omega) (Nat.le_refl _) (by omega), bal (bal (bal (Below.refl _ _) _) _) _⟩
/-- LeftIn's answer. -/
def liR (y : SendM) : IntResultM := if sdF y = 0 then ⟨0, y.Items.length⟩ else ⟨sdF y, 0⟩
theorem liR_no {y : SendM} (h : sdF y ≠ 0) : (liR y).vs = [.int (sdF y), .int 0] := by unfold liR; rw [if_neg h]; rfl
theorem liR_yes {y : SendM} (h : sdF y = 0) : (liR y).vs = [.int 0, .int y.Items.length] := by unfold liR; rw [if_pos h]; rfl
set_option maxRecDepth 100000 in
set_option maxHeartbeats 1000000 in
theorem li_impl (y : SendM) (vs : List Value) (u : World) (h : RdA u y.vs vs) (_ : WfA y.vs) (_ : tot.totL y.vs ≤ 1048576) : Calls Try.prog 25 #[.agg vs.toArray] u (Res u (liR y).vs) := by
  obtain ⟨A2, c2, A3, c3, rfl, _, _, _, _, _⟩ := send_sh h
  have KB := (Blk.new u 47 #[.int .i64 y.Next, .int .i64 y.Acked, .slice A2 y.Seqs.length c2, .slice A3 y.Items.length c3]).alloc (.cells #[.int .i64 0, .int .i64 0] 38)
  have KR := Blk.new (u.alloc (.cells #[.int .i64 y.Next, .int .i64 y.Acked, .slice A2 y.Seqs.length c2, .slice A3 y.Items.length c3] 47)) 38 #[.int .i64 0, .int .i64 0]
  have B1 := bal (bal (Below.refl u.heap.size u) (.cells #[.int .i64 y.Next, .int .i64 y.Acked, .slice A2 y.Seqs.length c2, .slice A3 y.Items.length c3] 47)) (.cells #[.int .i64 0, .int .i64 0] 38)
  have HF := hidH (sdw_impl y _ _ (RdA.below B1 h))
  obtain ⟨w1, hw1⟩ : ∃ W, (u.alloc (.cells #[.int .i64 y.Next, .int .i64 y.Acked, .slice A2 y.Seqs.length c2, .slice A3 y.Items.length c3] 47)).alloc (.cells #[.int .i64 0, .int .i64 0] 38) = W := ⟨_, rfl⟩
  rw [World.size_alloc] at KR
  rw [hw1] at KB B1 HF KR
  have H1 := hidH hw1
  have HB := hidH B1
  have HK := hidH KB
  have HR := hidH KR
  have HN := hidH (@liR_no y)
  have HY := hidH (@liR_yes y)
  obtain ⟨f, hf⟩ : ∃ f, sdF y = f := ⟨_, rfl⟩
  rw [hf] at HF HN HY
  clear h hw1 B1 KB KR hf
  go_enter Try.func25, Try.ntmps25
  go_wp2_with fail
  rw [H1.out]
  refine HF.out.mono ?_
  rintro e w2 ⟨rfl, b2⟩
  have HB2 := hidH (btr HB.out b2)
  have K2 := HK.out.below b2
  have R2 := HR.out.below b2
  have p3 := K2.cell 3
  have q0 := R2.cell 0
  have q1 := R2.cell 1
  have z0 := R2.frozen 0
  have z1 := R2.frozen 1
  simp only [List.getElem?_toArray, List.getElem?_cons_succ, List.getElem?_cons_zero] at p3 q0 q1
  have lp := K2.lt
  have lq := R2.lt
  clear b2 K2 R2 HF HK HR
  by_cases hz : f = 0
  case neg =>
    have hz2 : (f != 0) = true := by rw [bne_iff_ne]; exact hz
    have HV := hidH (HN.out hz)
    clear hz
    go_wp2
    exact bodyPost_ret (v := .agg #[.int .i64 f, .int .i64 0]) (by simp [results, Try.results25, go_sem, q0, q1]) rfl ⟨_, rfl, by rw [HV.out]; exact OwN.int _ (OwN.int _ (OwN.nil (Nat.le_refl _))), bst (bst HB2.out (p := ⟨u.heap.size + 1, 0, none⟩) (Nat.le_succ _) _) (p := ⟨u.heap.size + 1, 1, none⟩) (Nat.le_succ _) _⟩
  have hz2 : (f != 0) = false := by rw [bne_eq_false_iff_eq]; exact hz
  have HV := hidH (HY.out hz)
  clear hz
  go_wp2
  exact bodyPost_ret (v := .agg #[.int .i64 0, .int .i64 y.Items.length]) (by simp [results, Try.results25, go_sem, q0, q1]) rfl ⟨_, rfl, by rw [HV.out]; exact OwN.int _ (OwN.int _ (OwN.nil (Nat.le_refl _))), bst (bst HB2.out (p := ⟨u.heap.size + 1, 0, none⟩) (Nat.le_succ _) _) (p := ⟨u.heap.size + 1, 1, none⟩) (Nat.le_succ _) _⟩
set_option maxRecDepth 100000 in
set_option maxHeartbeats 1000000 in
theorem li_spec (y : SendM) (vs : List Value) (u : World) (h : RdA u y.vs vs) (_ : WfA y.vs) (_ : tot.totL y.vs ≤ 1048576) : Calls Try.prog 53 #[.agg vs.toArray] u (Res u (liR y).vs) := by
  obtain ⟨A2, c2, A3, c3, rfl, _, _, _, _, _⟩ := send_sh h
  have KB := (Blk.new u 47 #[.int .i64 y.Next, .int .i64 y.Acked, .slice A2 y.Seqs.length c2, .slice A3 y.Items.length c3]).alloc (.cells #[.int .i64 0, .int .i64 0] 38)
  have KR := Blk.new (u.alloc (.cells #[.int .i64 y.Next, .int .i64 y.Acked, .slice A2 y.Seqs.length c2, .slice A3 y.Items.length c3] 47)) 38 #[.int .i64 0, .int .i64 0]
  have B1 := bal (bal (Below.refl u.heap.size u) (.cells #[.int .i64 y.Next, .int .i64 y.Acked, .slice A2 y.Seqs.length c2, .slice A3 y.Items.length c3] 47)) (.cells #[.int .i64 0, .int .i64 0] 38)
  have HF := hidH (sdw_spec y _ _ (RdA.below B1 h))
  obtain ⟨w1, hw1⟩ : ∃ W, (u.alloc (.cells #[.int .i64 y.Next, .int .i64 y.Acked, .slice A2 y.Seqs.length c2, .slice A3 y.Items.length c3] 47)).alloc (.cells #[.int .i64 0, .int .i64 0] 38) = W := ⟨_, rfl⟩
  rw [World.size_alloc] at KR
  rw [hw1] at KB B1 HF KR
  have H1 := hidH hw1
  have HB := hidH B1
  have HK := hidH KB
  have HR := hidH KR
  have HN := hidH (@liR_no y)
  have HY := hidH (@liR_yes y)
  obtain ⟨f, hf⟩ : ∃ f, sdF y = f := ⟨_, rfl⟩
  rw [hf] at HF HN HY
  clear h hw1 B1 KB KR hf
  go_enter Try.func53, Try.ntmps53
  go_wp2_with fail
  rw [H1.out]
  refine HF.out.mono ?_
  rintro e w2 ⟨rfl, b2⟩
  have HB2 := hidH (btr HB.out b2)
  have K2 := HK.out.below b2
  have R2 := HR.out.below b2
  have p3 := K2.cell 3
  have q0 := R2.cell 0
  have q1 := R2.cell 1
  have z0 := R2.frozen 0
  have z1 := R2.frozen 1
  simp only [List.getElem?_toArray, List.getElem?_cons_succ, List.getElem?_cons_zero] at p3 q0 q1
  have lp := K2.lt
  have lq := R2.lt
  clear b2 K2 R2 HF HK HR
  by_cases hz : f = 0
  case neg =>
    have hz2 : (f != 0) = true := by rw [bne_iff_ne]; exact hz
    have HV := hidH (HN.out hz)
    clear hz
    go_wp2
    exact bodyPost_ret (v := .agg #[.int .i64 f, .int .i64 0]) (by simp [results, Try.results53, go_sem, q0, q1]) rfl ⟨_, rfl, by rw [HV.out]; exact OwN.int _ (OwN.int _ (OwN.nil (Nat.le_refl _))), bst (bst HB2.out (p := ⟨u.heap.size + 1, 0, none⟩) (Nat.le_succ _) _) (p := ⟨u.heap.size + 1, 1, none⟩) (Nat.le_succ _) _⟩
  have hz2 : (f != 0) = false := by rw [bne_eq_false_iff_eq]; exact hz
  have HV := hidH (HY.out hz)
  clear hz
  go_wp2
  exact bodyPost_ret (v := .agg #[.int .i64 0, .int .i64 y.Items.length]) (by simp [results, Try.results53, go_sem, q0, q1]) rfl ⟨_, rfl, by rw [HV.out]; exact OwN.int _ (OwN.int _ (OwN.nil (Nat.le_refl _))), bst (bst HB2.out (p := ⟨u.heap.size + 1, 0, none⟩) (Nat.le_succ _) _) (p := ⟨u.heap.size + 1, 1, none⟩) (Nat.le_succ _) _⟩
end Go.Proofs.Ythljdikcpdokdaa
