/- The program's byteReader in chapter 5: pair, copied, copiedRest, numbers, data. -/
import Derived.Test.YtacdnednkglobaaDoorRdI
import Derived.Test.YtacdnednkglobaaDoorP5
import Derived.Test.YtacdnednkglobaaDoorUniL
namespace Go.Proofs.YtacdnednkglobaaDoor
open Go.RowKit Go.Deep

theorem Win.andBelow5 {B C : Nat} {a b c : World} (h : Win B C a b) (k : Below a.heap.size b c) : Win B C a c :=
  ⟨k.os.trans h.os, k.tape.trans h.tape, k.output.trans h.output, Nat.le_trans h.size k.size, fun g hg ho => (k.block g hg).trans (h.block g hg ho), fun x hx => (k.frozen hx).trans (h.frozen x hx)⟩
theorem bsc {B : Nat} {a w : World} (h : Below B a w) {g i : Nat} (hg : B ≤ g) (u : Value) : Below B a (w.setCell ⟨g, i, none⟩ u) := h.setCell (p := ⟨g, i, none⟩) hg u
/-- Numbers of the call's own, in a row. -/
theorem own_oiI {w : World} {B : Nat} {v : Value} {d : List Int} (h : w.ownsRow B 2 1 v d.length (d.map (Value.int .i64))) :
    ∃ A cp, v = .slice A d.length cp ∧ Oi B w.heap.size w A d ∧ d.length ≤ cp ∧ (cp : Int) ≤ 9223372036854775807 := by
  have hc := fun g hg => h.cells (g := g) hg
  have hl := h.lt
  obtain ⟨_, ⟨rfl, hn⟩ | ⟨g, cap, cur, rfl, hg, hblk, hnc, hm, _, _⟩⟩ := h
  · have : d = [] := List.eq_nil_of_length_eq_zero hn
    subst this
    exact ⟨none, 0, rfl, .inl rfl, Nat.le_refl _, by omega⟩
  · unfold maxLen at hm
    refine ⟨_, cap, rfl, .inr ⟨g, 0, rfl, hg, (hl g rfl).2, Nat.le_refl _, fun j hj => ⟨?_, ?_⟩⟩, hnc, by omega⟩
    · have h1 := hc g rfl j (.int .i64 (d.getD j 0)) (by simp [hj])
      rw [add_off, Nat.zero_add] at h1
      rw [Nat.zero_add]
      exact h1
    · exact (show Blk w g 2 cur from hblk).frozen _
theorem own_oiN {w : World} {B n : Nat} {v : Value} {d : List Int} (h : w.ownsRow B 2 1 v n (d.map (Value.int .i64))) (hn : d.length = n) :
    ∃ A cp, v = .slice A n cp ∧ Oi B w.heap.size w A d ∧ d.length ≤ cp ∧ (cp : Int) ≤ 9223372036854775807 := by
  subst hn
  exact own_oiI h
theorem wpList_append_i1 {w : World} {ops : Array Oper} {rest : List Oper} {o : Oper} {a : Act} {Q : Exit → Act → World → Prop} (hgd : o.guard = none) (s x : Operand)
    (ho : o.op = .call { callee := .builtin .append, args := #[s, x], argTypes := #[37, 37] })
    (base : Nat) (v : Value) (n : Nat) (xs : List Value) (hs : a.eval s = v) (hown : w.ownsRow base 2 1 v n xs)
    (q t : Nat) (z : Int) (hx : a.eval x = .slice (some ⟨q, 0, none⟩) 1 1) (hq : Blk w q t #[.int .i64 z]) (hm : n ≤ 100000) (hbase : base ≤ w.heap.size)
    (h : ∀ v' w', w'.ownsRow base 2 1 v' (n + 1) (xs ++ [.int .i64 z]) → w.grownBy w' v.ownBlock → wpList Tryd.prog ops Q rest (a.put o.dst v') w') : wpList Tryd.prog ops Q (o :: rest) a w := by
  obtain ⟨i0, hi, hzz⟩ := Option.map_eq_some_iff.1 infoI64
  simp only [Prod.mk.injEq] at hzz
  obtain ⟨hz0, hz1, hz2⟩ := hzz
  refine wpList_append_own w hgd s x 37 ho base 2 i0 (.int .i64 0) 1 8 Tryd.underlying37 hi hz0 hz1 hz2 rfl (by decide) v n xs hs hown ⟨q, 0, none⟩ 1 1 [.int .i64 z] hx rfl
    (fun j u hu => ?_) (fun u hu => ?_) (by unfold maxLen; omega) (by omega) hbase (fun v' w' h1 h2 _ => h v' w' h1 h2)
  · have e : (⟨q, 0, none⟩ : Addr).add j = ⟨q, j, none⟩ := by rw [add_off, Nat.zero_add]
    rw [e, hq.cell, ← hu]
    simp
  · simp only [List.mem_cons, List.not_mem_nil, or_false] at hu
    subst hu; rfl
theorem RE.mem {w : World} {r : Nat} {ty : TypeId} {pv : Value} {l : List Int} (h : RE w r ty pv l) (k : Nat) : Bytes (l.drop k) := fun x hx => h.by_ x (List.mem_of_mem_drop hx)
theorem pair_ok' (r : Nat) (l : List Int) (w : World) (ty : TypeId) (pv : Value) (h : RE w r ty pv l) (h2 : 2 ≤ l.length) :
    Calls Tryd.prog 100 #[.pointer (some ⟨r, 0, none⟩)] w fun e w' => e = .returned (.int .i64 (pairAt l 0)) ∧ RE w' r ty pv (l.drop 2) ∧ Win r (r + 1) w w' ∧ w'.heap.size = w.heap.size := by
  match l, h2, h with
  | x :: y :: l, _, h => exact pair_ok r x y l w ty pv h
theorem number_ok' (r : Nat) (l : List Int) (w : World) (ty : TypeId) (pv : Value) (h : RE w r ty pv l) (h1 : 1 ≤ l.length) :
    Calls Tryd.prog 108 #[.pointer (some ⟨r, 0, none⟩)] w fun e w' => e = .returned (.int .i64 (l.getD 0 0)) ∧ RE w' r ty pv (l.drop 1) ∧ Win r (r + 1) w w' ∧ w'.heap.size = w.heap.size := by
  match l, h1, h with
  | x :: l, _, h => exact number_ok r x l w ty pv h
/-- A word that does not stand there. -/
theorem word_bad (r : Nat) (l : List Int) (w : World) (ty : TypeId) (pv : Value) (h : RE w r ty pv l) (h4 : l.length < 4) :
    Calls Tryd.prog 106 #[.pointer (some ⟨r, 0, none⟩)] w fun e w' => e = PanE (.iface ty pv) ∧ Win r (r + 1) w w' := by
  have HT := hidH (take_bad r 4 l w ty pv h.rd (.inr (by omega)) h.e)
  clear h h4
  unfold PanE at HT ⊢
  go_enter Tryd.func106, Tryd.ntmps106
  go_wp2_with fail
  refine HT.out.mono ?_
  rintro e w1 ⟨rfl, rfl⟩
  clear HT
  go_wp2
  exact ⟨rfl, rfl, Win.refl _ _ _⟩
/-- What a reader of bytes leaves: bytes of its own. -/
def CopRes (r : Nat) (ty : TypeId) (pv : Value) (d rest : List Int) (w : World) (e : Ending) (w' : World) : Prop :=
  ∃ A c, e = .returned (.slice A d.length c) ∧ OwV w.heap.size w'.heap.size w' (.bs d) (.slice A d.length c) ∧ RE w' r ty pv rest ∧ Win r (r + 1) w w'
set_option maxHeartbeats 1000000 in
theorem copied_ok (r n : Nat) (l : List Int) (w : World) (ty : TypeId) (pv : Value) (h : RE w r ty pv l) (hn : n ≤ l.length) (hm : l.length ≤ 4000000) :
    Calls Tryd.prog 109 #[.pointer (some ⟨r, 0, none⟩), .int .i64 (n : Int)] w (CopRes r ty pv (l.take n) (l.drop n) w) := by
  have HT := hidH (take_ok r n l w h.rd hn)
  have HH := hidH h
  have hll : (l.take n).length = n := by rw [List.length_take]; omega
  have HL := hidH (And.intro hll (And.intro hm hn))
  clear h hn hm hll
  go_enter Tryd.func109, Tryd.ntmps109
  go_wp2_with fail
  refine HT.out.mono ?_
  rintro e w1 ⟨A, c, rfl, hA, hc, hf, hr, hw, hs⟩
  have HCL := hidH (clone_any A (l.take n) c w1 hA (by rw [HL.out.1]; have := HL.out; omega))
  rw [HL.out.1] at HCL
  have HR := hidH (HH.out.turn hw hr (fun y hy => List.mem_of_mem_drop hy))
  have HW := hidH (And.intro hw hs)
  clear HT hA hc hf hr hw hs
  go_wp2_with fail
  refine HCL.out.mono ?_
  rintro e w2 ⟨v2, rfl, o2, b2⟩
  obtain ⟨A2, c2, e2, ob2, k2, m2⟩ := own_ob o2
  have HOB := hidH (show OwV w.heap.size w2.heap.size w2 (.bs (l.take n)) (.slice A2 (l.take n).length c2) by rw [← HW.out.2]; exact ob2.owv (Nat.le_refl _) ⟨k2, m2⟩)
  rw [HL.out.1] at e2
  subst e2
  have HR2 := hidH (HR.out.below b2)
  have HW2 := hidH (HW.out.1.trans (Win.of_below b2))
  clear HCL o2 ob2 k2 m2 b2
  go_wp2
  go_ret
  exact ⟨A2, c2, by rw [HL.out.1]; rfl, HOB.out, HR2.out, HW2.out⟩
set_option maxHeartbeats 1000000 in
theorem copied_bad (r : Nat) (n : Int) (l : List Int) (w : World) (ty : TypeId) (pv : Value) (h : RE w r ty pv l) (hn : n < 0 ∨ (l.length : Int) < n) :
    Calls Tryd.prog 109 #[.pointer (some ⟨r, 0, none⟩), .int .i64 n] w fun e w' => e = PanE (.iface ty pv) ∧ Win r (r + 1) w w' := by
  have HT := hidH (take_bad r n l w ty pv h.rd hn h.e)
  clear h hn
  unfold PanE at HT ⊢
  go_enter Tryd.func109, Tryd.ntmps109
  go_wp2_with fail
  refine HT.out.mono ?_
  rintro e w1 ⟨rfl, rfl⟩
  clear HT
  go_wp2
  exact ⟨rfl, rfl, Win.refl _ _ _⟩
set_option maxHeartbeats 1000000 in
theorem copiedRest_ok (r : Nat) (l : List Int) (w : World) (ty : TypeId) (pv : Value) (h : RE w r ty pv l) (hm : l.length ≤ 4000000) :
    Calls Tryd.prog 107 #[.pointer (some ⟨r, 0, none⟩)] w (CopRes r ty pv l [] w) := by
  have HC := copied_ok r l.length l w ty pv h (Nat.le_refl _) hm
  rw [List.take_length, List.drop_length] at HC
  replace HC := hidH HC
  obtain ⟨A, c, K, _, hc, hcm, _⟩ := h.rd
  have k0 := K.cell 0
  have hk := K.lt
  simp only [List.getElem?_toArray, List.getElem?_cons_zero] at k0
  have hlm : (l.length : Int) ≤ 4000000 := by omega
  clear h hm K hc hcm
  go_enter Tryd.func107, Tryd.ntmps107
  go_wp2_with fail
  refine HC.out.mono ?_
  rintro e w2 ⟨A2, c2, rfl, h2⟩
  have HR := hidH h2
  clear HC h2
  go_wp2
  go_ret
  exact ⟨A2, c2, rfl, HR.out⟩
end Go.Proofs.YtacdnednkglobaaDoor
