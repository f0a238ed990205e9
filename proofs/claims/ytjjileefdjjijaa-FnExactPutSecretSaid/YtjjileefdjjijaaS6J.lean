/- Chapter 6: JoinKey, the model's. -/
import Derived.Test.YtjjileefdjjijaaM6
import Derived.Test.YtjjileefdjjijaaApp
import Derived.Test.YtjjileefdjjijaaSame
import Derived.Test.YtjjileefdjjijaaDrawAt
import Derived.Test.YtjjileefdjjijaaChS
import Derived.Lib.BytesEntry
import Derived.Shelf.Small.Strs
namespace Go.Proofs.Ytjjileefdjjijaa
open Go.RowKit Go.Deep

/-! Bytes in order. -/
def U8 (l : List Int) : List UInt8 := l.map fun n => UInt8.ofNat n.toNat
theorem U8_str (l : List Int) : (strOfNums l).toList = U8 l := by rw [ByteArray.toList_eq]; rfl
theorem u8_lt {x y : Int} (hx : 0 ≤ x ∧ x ≤ 255) (hy : 0 ≤ y ∧ y ≤ 255) : (UInt8.ofNat x.toNat < UInt8.ofNat y.toNat) ↔ x < y := by
  rw [UInt8.lt_iff_toNat_lt, UInt8.toNat_ofNat', UInt8.toNat_ofNat']; omega
theorem u8_eq {x y : Int} (hx : 0 ≤ x ∧ x ≤ 255) (hy : 0 ≤ y ∧ y ≤ 255) : (UInt8.ofNat x.toNat = UInt8.ofNat y.toNat) ↔ x = y := by
  rw [← UInt8.toNat_inj, UInt8.toNat_ofNat', UInt8.toNat_ofNat']; omega
theorem less_U8 : ∀ (a b : List Int), Bytes a → Bytes b → Op.bytesLess (U8 a) (U8 b) = ltL a b
  | _, [], _, _ => by simp [U8, Op.bytesLess, ltL]
  | [], _ :: _, _, _ => rfl
  | x :: a, y :: b, ha, hb => by
    have h1 := ha x (by simp)
    have h2 := hb y (by simp)
    have ih := less_U8 a b (fun z hz => ha z (by simp [hz])) (fun z hz => hb z (by simp [hz]))
    show (decide (UInt8.ofNat x.toNat < UInt8.ofNat y.toNat) || (UInt8.ofNat x.toNat == UInt8.ofNat y.toNat && Op.bytesLess (U8 a) (U8 b))) = (decide (x < y) || (x == y && ltL a b))
    rw [ih, decide_eq_decide.2 (u8_lt h1 h2)]
    congr 2
    rw [Bool.eq_iff_iff, beq_iff_eq, beq_iff_eq, u8_eq h1 h2]
theorem cmp_U8 : ∀ (a b : List Int), Bytes a → Bytes b → (0 < Lib.compareBytes (U8 a) (U8 b) ↔ ltL b a = true)
  | [], [], _, _ => by simp [U8, Lib.compareBytes, ltL]
  | [], _ :: _, _, _ => by simp [U8, Lib.compareBytes, ltL]
  | _ :: _, [], _, _ => by simp [U8, Lib.compareBytes, ltL]
  | x :: a, y :: b, ha, hb => by
    have h1 := ha x (by simp)
    have h2 := hb y (by simp)
    have ih := cmp_U8 a b (fun z hz => ha z (by simp [hz])) (fun z hz => hb z (by simp [hz]))
    show (0 < (if UInt8.ofNat x.toNat < UInt8.ofNat y.toNat then -1 else if UInt8.ofNat y.toNat < UInt8.ofNat x.toNat then 1 else Lib.compareBytes (U8 a) (U8 b)) ↔ (decide (y < x) || (y == x && ltL b a)) = true)
    simp only [u8_lt h1 h2, u8_lt h2 h1]
    by_cases e1 : x < y
    · rw [if_pos e1, decide_eq_false (by omega), beq_eq_false_iff_ne.2 (by omega)]
      simp
    · rw [if_neg e1]
      by_cases e2 : y < x
      · rw [if_pos e2, decide_eq_true e2]
        simp
      · obtain rfl : x = y := by omega
        rw [if_neg e2, ih, decide_eq_false e2]
        simp
def joinL (s a b : List Int) : List Int := s ++ (if ltL b a then b ++ a else a ++ b)
theorem jkR_ok {s a b : List Int} (h1 : s.length ≤ 40) (h2 : a.length = 20) (h3 : b.length = 20) : jkR s a b = ⟨0, joinL s a b⟩ := by rw [jkR, if_pos ⟨h1, h2, h3⟩]; rfl
theorem jkR_no {s a b : List Int} (h : ¬ (s.length ≤ 40 ∧ a.length = 20 ∧ b.length = 20)) : jkR s a b = ⟨2, []⟩ := by rw [jkR, if_neg h]
set_option maxRecDepth 100000 in
set_option maxHeartbeats 2000000 in
theorem l6Join_any (A B C : Option Addr) (s a b : List Int) (ca cb cc : Nat) (w : World) (hA : Bs w A s) (hB : Bs w B a) (hC : Bs w C b) (wa : Bytes a) (wb : Bytes b) (hs : s.length ≤ 1000) (ha : a.length ≤ 1000) (hb : b.length ≤ 1000) :
    Calls Try.prog 54 #[.slice A s.length ca, .slice B a.length cb, .slice C b.length cc] w (OwnB w (joinL s a b)) := by
  have c1 := conv_bs w B a cb hB
  have c2 := conv_bs w C b cc hC
  have HL := less_U8 b a wb wa
  rw [← U8_str, ← U8_str] at HL
  have HC := hidH (copy_any A s ca w hA (by omega))
  have HB2 := hidH hB
  have HC2 := hidH hC
  have HLN := hidH (And.intro hs (And.intro ha hb))
  obtain ⟨d, hd⟩ : ∃ d, ltL b a = d := ⟨_, rfl⟩
  have HJ := hidH (show joinL s a b = s ++ (if d then b ++ a else a ++ b) by rw [joinL, hd])
  rw [hd] at HL
  clear hA hB hC wa wb hs ha hb hd
  cases d
  · go_enter Try.func54, Try.ntmps54
    go_wp2_with fail
    refine HC.out.mono ?_
    rintro e w1 ⟨v1, rfl, o1, b1⟩
    have HO := hidH o1
    have HB1 := hidH b1
    have S1 := hidH (bs_below HB2.out b1)
    have hsz := b1.size
    clear o1 b1 c1 c2 HL
    go_wp2_with (at_builtin; refine wpList_append_bs rfl _ _ rfl w.heap.size _ _ _ rfl HO.out B a cb rfl S1.out (by have := HLN.out; omega) hsz ?_)
    intro v2 w2 o2 g2
    have K2 := hidH (HB1.out.trans ((Below.refl w.heap.size w1).grown g2 hsz (fun k hk => (HO.out.lt k hk).1)))
    obtain ⟨n2, hn2⟩ : ∃ n, s.length + a.length = n := ⟨_, rfl⟩
    obtain ⟨x2, hx2⟩ : ∃ x, s.map (Value.int .u8) ++ a.map (Value.int .u8) = x := ⟨_, rfl⟩
    rw [hn2, hx2] at o2
    have HN2 := hidH (And.intro hn2 hx2)
    have O2 := hidH o2
    have T2 := hidH (bs_below HC2.out K2.out)
    have hsz2 := K2.out.size
    clear o2 g2 hn2 hx2 hsz HO HB1 S1
    go_wp2_with (at_builtin; refine wpList_append_bs rfl _ _ rfl w.heap.size _ _ _ rfl O2.out C b cc rfl T2.out (by have := HLN.out; have := HN2.out.1; omega) hsz2 ?_)
    intro v3 w3 o3 g3
    have K3 := hidH (K2.out.trans ((Below.refl w.heap.size w2).grown g3 hsz2 (fun k hk => (O2.out.lt k hk).1)))
    have O3 := hidH o3
    clear o3 g3 hsz2
    go_wp2
    go_ret
    refine ⟨_, rfl, ?_, K3.out⟩
    have h3 := O3.out
    rw [← HN2.out.1, ← HN2.out.2] at h3
    rw [HJ.out]
    simpa [Nat.add_assoc] using h3
  · go_enter Try.func54, Try.ntmps54
    go_wp2_with fail
    refine HC.out.mono ?_
    rintro e w1 ⟨v1, rfl, o1, b1⟩
    have HO := hidH o1
    have HB1 := hidH b1
    have S1 := hidH (bs_below HC2.out b1)
    have hsz := b1.size
    clear o1 b1 c1 c2 HL
    go_wp2_with (at_builtin; refine wpList_append_bs rfl _ _ rfl w.heap.size _ _ _ rfl HO.out C b cc rfl S1.out (by have := HLN.out; omega) hsz ?_)
    intro v2 w2 o2 g2
    have K2 := hidH (HB1.out.trans ((Below.refl w.heap.size w1).grown g2 hsz (fun k hk => (HO.out.lt k hk).1)))
    obtain ⟨n2, hn2⟩ : ∃ n, s.length + b.length = n := ⟨_, rfl⟩
    obtain ⟨x2, hx2⟩ : ∃ x, s.map (Value.int .u8) ++ b.map (Value.int .u8) = x := ⟨_, rfl⟩
    rw [hn2, hx2] at o2
    have HN2 := hidH (And.intro hn2 hx2)
    have O2 := hidH o2
    have T2 := hidH (bs_below HB2.out K2.out)
    have hsz2 := K2.out.size
    clear o2 g2 hn2 hx2 hsz HO HB1 S1
    go_wp2_with (at_builtin; refine wpList_append_bs rfl _ _ rfl w.heap.size _ _ _ rfl O2.out B a cb rfl T2.out (by have := HLN.out; have := HN2.out.1; omega) hsz2 ?_)
    intro v3 w3 o3 g3
    have K3 := hidH (K2.out.trans ((Below.refl w.heap.size w2).grown g3 hsz2 (fun k hk => (O2.out.lt k hk).1)))
    have O3 := hidH o3
    clear o3 g3 hsz2
    go_wp2
    go_ret
    refine ⟨_, rfl, ?_, K3.out⟩
    have h3 := O3.out
    rw [← HN2.out.1, ← HN2.out.2] at h3
    rw [HJ.out]
    simpa [Nat.add_assoc] using h3
theorem OwN.nb {B C : Nat} {w : World} {xs : List V} {vs : List Value} (h : OwN B C w xs vs) : OwN B C w (.bs [] :: xs) (.slice none 0 0 :: vs) :=
  ⟨h.1, by unfold OwA; exact ⟨fun _ _ => False, _, by unfold Ow; exact ⟨none, 0, rfl, ⟨Nat.le_refl _, by simp⟩, .inl rfl⟩, h.2, fun _ _ x => x.elim, Sub.refl _, fun _ _ x => x.elim⟩⟩
set_option maxRecDepth 100000 in
set_option maxHeartbeats 4000000 in
theorem jk_spec (s : List Int) (v : Value) (a : List Int) (va : Value) (b : List Int) (vb : Value) (u : World) (h : Rd u (.bs s) v) (_ : WfV (.bs s)) (_ : tot (.bs s) ≤ 1048576) (h2 : Rd u (.bs a) va) (wa : WfV (.bs a)) (_ : tot (.bs a) ≤ 1048576) (h3 : Rd u (.bs b) vb) (wb : WfV (.bs b)) (_ : tot (.bs b) ≤ 1048576) :
    Calls Try.prog 23 #[v, va, vb] u (Res u (jkR s a b).vs) := by
  obtain ⟨A, ca, rfl, lc, hA⟩ := h.bs_out
  obtain ⟨B, cb, rfl, lb, hB⟩ := h2.bs_out
  obtain ⟨C, cc, rfl, lcc, hC⟩ := h3.bs_out
  have m1 := lc.len
  have m2 := lb.len
  have m3 := lcc.len
  have R1 := Blk.new u 35 #[.int .i64 0, .slice none 0 0]
  have B1 := bal (Below.refl u.heap.size u) (.cells #[.int .i64 0, .slice none 0 0] 35)
  obtain ⟨w1, hw1⟩ : ∃ w1, u.alloc (.cells #[.int .i64 0, .slice none 0 0] 35) = w1 := ⟨_, rfl⟩
  have hs1 : w1.heap.size = u.heap.size + 1 := by rw [← hw1]; simp
  rw [hw1] at R1 B1
  have HS := hidH hs1
  clear h h2 h3 lc lb lcc hs1
  by_cases hk : s.length ≤ 40 ∧ a.length = 20 ∧ b.length = 20
  · obtain ⟨k1, k2, k3⟩ := hk
    have HV := hidH (show (jkR s a b).vs = [.int 0, .bs (joinL s a b)] by rw [jkR_ok k1 k2 k3]; rfl)
    have HJ := hidH (l6Join_any A B C s a b ca cb cc w1 (bs_below hA B1) (bs_below hB B1) (bs_below hC B1) wa wb (by omega) (by omega) (by omega))
    have q1 : ¬ (40 : Int) < (s.length : Int) := by omega
    have q2 : ((a.length : Int) != 20) = false := by rw [bne_eq_false_iff_eq]; omega
    have q3 : ((b.length : Int) != 20) = false := by rw [bne_eq_false_iff_eq]; omega
    have HLN := hidH (And.intro k1 (And.intro k2 k3))
    have HR := hidH R1
    have HB := hidH B1
    have HW := hidH hw1
    clear R1 B1 hA hB hC wa wb k1 k2 k3 hw1
    go_enter Try.func23, Try.ntmps23
    go_wp2_with fail
    rw [HW.out]
    refine HJ.out.mono ?_
    rintro e w2 ⟨v2, rfl, o2, b2⟩
    obtain ⟨A5, c5, e5, ob5, k5, m5⟩ := own_ob o2
    obtain ⟨n9, hn9⟩ : ∃ n9, (joinL s a b).length = n9 := ⟨_, rfl⟩
    rw [hn9] at e5
    subst e5
    have HOB := hidH (show OwV (u.heap.size + 1) w2.heap.size w2 (.bs (joinL s a b)) (.slice A5 n9 c5) by rw [← hn9, ← HS.out]; exact ob5.owv (Nat.le_refl _) ⟨k5, m5⟩)
    have R2 := HR.out.below b2
    have HB2 := hidH (btr HB.out b2)
    have HZ := hidH b2.size
    have x0 := R2.cell 0
    have x1 := R2.cell 1
    have f0 := R2.frozen 0
    have f1 := R2.frozen 1
    simp only [List.getElem?_toArray, List.getElem?_cons_succ, List.getElem?_cons_zero] at x0 x1
    have hr := R2.lt
    clear o2 b2 ob5 k5 m5 hn9 R2 q1 q2 q3
    go_wp2
    exact bodyPost_ret (v := .agg #[.int .i64 0, .slice A5 n9 c5]) (by simp [results, Try.results23, go_sem, x0, x1]) rfl ⟨_, rfl, by
      rw [HV.out]
      refine OwN.int 0 ((OwN.cons (B := u.heap.size + 1) (C := w2.heap.size) (D := w2.heap.size) ?_ (OwN.nil (by simp [World.setCell])) (by have := HS.out; have := HZ.out; omega) (Nat.le_refl _)).mono (by omega) (by simp [World.setCell]) (Nat.le_refl _))
      iterate 2 (refine OwV.win (B' := u.heap.size) (C' := u.heap.size + 1) ?_ (set_win _ _ _ _) (.inr (by omega)))
      exact HOB.out, by
      iterate 2 (refine bst ?_ (Nat.le_refl _) _)
      exact HB2.out⟩
  · have PF := hidH (fun w2 : World => show OwN u.heap.size w2.heap.size w2 (jkR s a b).vs [.int .i64 2, .slice none 0 0] by rw [jkR_no hk]; exact OwN.int 2 (OwN.nb (OwN.nil (Nat.le_refl _))))
    clear R1 B1 hA hB hC wa wb hw1 HS
    by_cases k1 : s.length ≤ 40
    · have q1 : ¬ (40 : Int) < (s.length : Int) := by omega
      by_cases k2 : a.length = 20
      · have q2 : ((a.length : Int) != 20) = false := by rw [bne_eq_false_iff_eq]; omega
        have q3 : ((b.length : Int) != 20) = true := by rw [bne_iff_ne]; intro h; exact hk ⟨k1, k2, by omega⟩
        clear hk k1 k2
        go_enter Try.func23, Try.ntmps23
        go_wp2
        exact bodyPost_ret (v := .agg #[.int .i64 2, .slice none 0 0]) (by simp [results, Try.results23, go_sem]) rfl ⟨_, rfl, PF.out _, bal (Below.refl _ _) _⟩
      · have q2 : ((a.length : Int) != 20) = true := by rw [bne_iff_ne]; omega
        clear hk k1 k2
        go_enter Try.func23, Try.ntmps23
        go_wp2
        exact bodyPost_ret (v := .agg #[.int .i64 2, .slice none 0 0]) (by simp [results, Try.results23, go_sem]) rfl ⟨_, rfl, PF.out _, bal (Below.refl _ _) _⟩
    · have q1 : (40 : Int) < (s.length : Int) := by omega
      clear hk k1
      go_enter Try.func23, Try.ntmps23
      go_wp2
      exact bodyPost_ret (v := .agg #[.int .i64 2, .slice none 0 0]) (by simp [results, Try.results23, go_sem]) rfl ⟨_, rfl, PF.out _, bal (Below.refl _ _) _⟩
end Go.Proofs.Ytjjileefdjjijaa
