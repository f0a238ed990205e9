import Derived.Test.YtncnibkojneejaaGreatDoorJb9
import Derived.Test.YtncnibkojneejaaGreatDoorJa5
import Derived.Test.YtncnibkojneejaaGreatDoorJa1
import Derived.Test.YtncnibkojneejaaGreatDoorJb3

/- The program's byteReader in chapter 5: pair, copied, copiedRest, numbers, data. -/
namespace Go.Proofs.YtncnibkojneejaaGreatDoor
open Go.RowKit Go.Deep

theorem Win.andBelow5 {B C : Nat} {a b c : World} (h : Win B C a b) (k : Below a.heap.size b c) : Win B C a c :=
  ⟨k.os.trans h.os, k.tape.trans h.tape, k.output.trans h.output, Nat.le_trans h.size k.size, fun g hg ho => (k.block g hg).trans (h.block g hg ho), fun x hx => (k.frozen hx).trans (h.frozen x hx)⟩
theorem bsc {B : Nat} {a w : World} (h : Below B a w) {g i : Nat} (hg : B ≤ g) (u : Value) : Below B a (w.setCell ⟨g, i, none⟩ u) := h.setCell (p := ⟨g, i, none⟩) hg u
/-- Numbers of the call's own, in a row. -/
theorem own_oiI {w : World} {B : Nat} {v : Value} {d : List Int} (h : w.ownsRow B 2 1 v d.length (d.map (Value.int .i64))) :
    ∃ A cp, v = .slice A d.length cp ∧ Oi B w.heap.size w A d ∧ d.length ≤ cp ∧ (cp : Int) ≤ 9223372036854775807 := by
  have hc := fun g hg => h.cells (g := g) hg
  have hl := h.lt
  obtain ⟨_, ⟨rfl, hn⟩ | ⟨g, cap, cur, rfl, hg, hblk, hnc, hm, _, _⟩⟩ := h
  · have : d = [] := List.eq_nil_of_length_eq_zero hn
    subst this
    exact ⟨none, 0, rfl, .inl rfl, Nat.le_refl _, by omega⟩
  · unfold maxLen at hm
    refine ⟨_, cap, rfl, .inr ⟨g, 0, rfl, hg, (hl g rfl).2, Nat.le_refl _, fun j hj => ⟨?_, ?_⟩⟩, hnc, by omega⟩
    · have h1 := hc g rfl j (.int .i64 (d.getD j 0)) (by simp [hj])
      rw [add_off, Nat.zero_add] at h1
      rw [Nat.zero_add]
      exact h1
    · exact (show Blk w g 2 cur from hblk).frozen _
theorem own_oiN {w : World} {B n : Nat} {v : Value} {d : List Int} (h : w.ownsRow B 2 1 v n (d.map (Value.int .i64))) (hn : d.length = n) :
    ∃ A cp, v = .slice A n cp ∧ Oi B w.heap.size w A d ∧ d.length ≤ cp ∧ (cp : Int) ≤ 9223372036854775807 := by
  subst hn
  exact own_oiI h
theorem wpList_append_i1 {w : World} {ops : Array Oper} {rest : List Oper} {o : Oper} {a : Act} {Q : Exit → Act → World → Prop} (hgd : o.guard = none) (s x : Operand)
    (ho : o.op = .call { callee := .builtin .append, args := #[s, x], argTypes := #[74, 74] })
    (base : Nat) (v : Value) (n : Nat) (xs : List Value) (hs : a.eval s = v) (hown : w.ownsRow base 2 1 v n xs)
    (q t : Nat) (z : Int) (hx : a.eval x = .slice (some ⟨q, 0, none⟩) 1 1) (hq : Blk w q t #[.int .i64 z]) (hm : n ≤ 100000) (hbase : base ≤ w.heap.size)
    (h : ∀ v' w', w'.ownsRow base 2 1 v' (n + 1) (xs ++ [.int .i64 z]) → w.grownBy w' v.ownBlock → wpList Tryz.prog ops Q rest (a.put o.dst v') w') : wpList Tryz.prog ops Q (o :: rest) a w := by
  obtain ⟨i0, hi, hzz⟩ := Option.map_eq_some_iff.1 infoI64
  simp only [Prod.mk.injEq] at hzz
  obtain ⟨hz0, hz1, hz2⟩ := hzz
  refine wpList_append_own w hgd s x 74 ho base 2 i0 (.int .i64 0) 1 8 Tryz.underlying74 hi hz0 hz1 hz2 rfl (by decide) v n xs hs hown ⟨q, 0, none⟩ 1 1 [.int .i64 z] hx rfl
    (fun j u hu => ?_) (fun u hu => ?_) (by unfold maxLen; omega) (by omega) hbase (fun v' w' h1 h2 _ => h v' w' h1 h2)
  · have e : (⟨q, 0, none⟩ : Addr).add j = ⟨q, j, none⟩ := by rw [add_off, Nat.zero_add]
    rw [e, hq.cell, ← hu]
    simp
  · simp only [List.mem_cons, List.not_mem_nil, or_false] at hu
    subst hu; rfl
theorem RE.mem {w : World} {r : Nat} {ty : TypeId} {pv : Value} {l : List Int} (h : RE w r ty pv l) (k : Nat) : Bytes (l.drop k) := fun x hx => h.by_ x (List.mem_of_mem_drop hx)
theorem pair_ok' (r : Nat) (l : List Int) (w : World) (ty : TypeId) (pv : Value) (h : RE w r ty pv l) (h2 : 2 ≤ l.length) :
    Calls Tryz.prog 66 #[.pointer (some ⟨r, 0, none⟩)] w fun e w' => e = .returned (.int .i64 (pairAt l 0)) ∧ RE w' r ty pv (l.drop 2) ∧ Win r (r + 1) w w' ∧ w'.heap.size = w.heap.size := by
  match l, h2, h with
  | x :: y :: l, _, h => exact pair_ok r x y l w ty pv h
theorem number_ok' (r : Nat) (l : List Int) (w : World) (ty : TypeId) (pv : Value) (h : RE w r ty pv l) (h1 : 1 ≤ l.length) :
    Calls Tryz.prog 81 #[.pointer (some ⟨r, 0, none⟩)] w fun e w' => e = .returned (.int .i64 (l.getD 0 0)) ∧ RE w' r ty pv (l.drop 1) ∧ Win r (r + 1) w w' ∧ w'.heap.size = w.heap.size := by
  match l, h1, h with
  | x :: l, _, h => exact number_ok r x l w ty pv h
end Go.Proofs.YtncnibkojneejaaGreatDoor

/- Chapter 7: the program's isAuth, readTag, findTag. -/
namespace Go.Proofs.YtncnibkojneejaaGreatDoor
open Go.RowKit Go.Deep

set_option maxHeartbeats 1000000 in
theorem isAuth_any (k f : Int) (A : Option Addr) (n c : Nat) (w : World) : Calls Tryz.prog 48 #[.agg #[.int .i64 k, .int .i64 f, .slice A n c]] w fun e w' => e = .returned (.bool (k == 15)) ∧ w.alloc (.cells #[.int .i64 k, .int .i64 f, .slice A n c] 37) = w' := by
  go_enter Tryz.func48, Tryz.ntmps48
  go_wp2
  go_ret
  exact ⟨rfl, rfl⟩
/-- Where the first one stands. -/
def Idx (r : List ChunkM) (n : Int) : Prop := (n = -1 ∧ ∀ x ∈ r, x.Kind ≠ 15) ∨ ∃ (j : Nat) (f : Int) (l : List Int), n = (j : Int) ∧ r[j]? = some ⟨15, f, l⟩ ∧ ∀ x ∈ r.take j, x.Kind ≠ 15
set_option maxRecDepth 100000 in
set_option maxHeartbeats 4000000 in
theorem idx_any (r : List ChunkM) (v : Value) (u : World) (h : Rd u (st_Chunk r) v) (hn : r.length ≤ 8) :
    Calls Tryz.prog 47 #[v, .func (.func 48) #[] #[]] u fun e w' => ∃ n, e = .returned (.int .i64 n) ∧ Idx r n ∧ Below u.heap.size u w' := by
  obtain ⟨AR, cr, rfl⟩ := st_Chunk_sh h
  have HI := hidH (fun (w : World) (hb : Below u.heap.size u w) => Rd.below hb _ h)
  have hnI : (r.length : Int) ≤ 8 := by omega
  clear h hn
  go_enter Tryz.func47, Tryz.ntmps47
  go_wp2
  go_loopw [8] (fun i wr => ∃ j : Nat, j ≤ r.length ∧ i = .int .i64 j ∧ (∀ x ∈ r.take j, x.Kind ≠ 15) ∧ Below u.heap.size u wr) (fun i _ => r.length - (intOf i).toNat)
  case atStart => exact ⟨0, by omega, rfl, fun x hx => by simp at hx, Below.refl _ _⟩
  case round =>
    obtain ⟨j, hj, rfl, hk, hB⟩ := hrel
    by_cases hlt : j < r.length
    · have hj0 : (0 : Int) ≤ (j : Int) := by omega
      have hj1 : (j : Int) < (r.length : Int) := by omega
      obtain ⟨k, f, l, g, o, c', B, cB, hx, e, CK, _⟩ := chunk_x (HI.out _ hB) hlt
      injection e with e1 e2 e3
      subst e1 e3
      have p0 := CK.c0
      have p1 := CK.c1
      have p2 := CK.c2
      have hg := CK.lt
      have HB5 := hidH (btr hB (bal (Below.refl wr.heap.size wr) (.cells #[.int .i64 k, .int .i64 f, .slice B l.length cB] 37)))
      have HX := hidH hx
      have HK := hidH hk
      have HNXT := hidH (fun (q : k ≠ 15) => take_next hk hx q)
      clear CK hx hk hB
      by_cases hkd : k = 15
      · subst hkd
        go_wp2_with (first | (go_at_call 48; refine (isAuth_any _ _ _ _ _ _).mono ?_; rintro e w' ⟨rfl, rfl⟩))
        go_ret
        exact ⟨_, rfl, .inr ⟨j, f, l, rfl, HX.out, HK.out⟩, HB5.out⟩
      · have qk : (k == 15) = false := by rw [beq_eq_false_iff_ne]; exact hkd
        have HN2 := hidH (HNXT.out hkd)
        clear hkd HNXT
        go_wp2_with (first | (go_at_call 48; refine (isAuth_any _ _ _ _ _ _).mono ?_; rintro e w' ⟨rfl, rfl⟩))
        go_roundw
        case rel => exact ⟨j + 1, by omega, by go_num, HN2.out, HB5.out⟩
        case measure => simp [intOf]; omega
    · obtain rfl : j = r.length := by omega
      rw [List.take_length] at hk
      have HK := hidH hk
      have HBW := hidH hB
      clear hk hB hlt hj
      go_wp2
      go_ret
      exact ⟨_, rfl, .inl ⟨rfl, HK.out⟩, HBW.out⟩
/-- An error of the program's own type. -/
def errU (c : Int) : Value := .iface 83 (.agg #[.int .i64 c])
def tagV (id : Int) (A : Option Addr) (n c : Nat) (from_ : Int) : Value := .agg #[.int .i64 id, .slice A n c, .int .i64 from_]
def RtR (f : Int) (l : List Int) (u : World) (e : Ending) (w' : World) : Prop :=
  (isTag ⟨15, f, l⟩ = false ∧ e = .returned (.tuple #[tagV 0 none 0 0 0, errU 5]) ∧ Below u.heap.size u w') ∨
  (isTag ⟨15, f, l⟩ = true ∧ ∃ (A : Option Addr) (c : Nat), e = .returned (.tuple #[tagV (pairAt l 0) A 32 c 0, .nilIface]) ∧ Bs w' A (l.drop 2) ∧ Below u.heap.size u w')
theorem readB_at {w : World} {A : Option Addr} {l : List Int} {r : Nat} (h : Bs w A l) (hl : 0 < l.length) (hr : w.heap.size ≤ r) : ∀ a, A = some a → a.block < r := by
  rcases h with h | ⟨b, off, rfl, hb, _⟩
  · rw [h] at hl; simp at hl
  · intro a e
    obtain rfl := Option.some.inj e
    exact Nat.lt_of_lt_of_le hb hr
theorem Bs.setR {w : World} {A : Option Addr} {l : List Int} (h : Bs w A l) (p : Addr) (u : Value) (hp : ∀ a, A = some a → a.block ≠ p.block) : Bs (w.setCell p u) A l := by
  rcases h with h | ⟨b, off, h1, h2, h3⟩
  · exact .inl h
  · exact .inr ⟨b, off, h1, by simpa [World.setCell] using h2, fun j hj => (World.cell?_setCell_other _ _ _ _ (fun e => hp _ h1 (by rw [e]))).trans (h3 j hj)⟩
theorem bs_far {w : World} {A : Option Addr} {l : List Int} {g : Nat} {t : TypeId} {cs : Array Value} (h : Bs w A l) (hl : 0 < l.length) (k : Blk w g t cs) (hc : ∀ v ∈ cs, ∀ x, v ≠ .int .u8 x) : ∀ a, A = some a → a.block ≠ g := by
  rcases h with h | ⟨b, off, rfl, _, h3⟩
  · rw [h] at hl; simp at hl
  · intro a e q
    obtain rfl := Option.some.inj e
    have h4 := h3 0 hl
    have q' : b = g := q
    rw [q', k.cell] at h4
    exact hc _ (Array.mem_of_getElem? h4) _ rfl
set_option maxRecDepth 100000 in
set_option maxHeartbeats 4000000 in
theorem readTag_any (f : Int) (B : Option Addr) (l : List Int) (cB : Nat) (u : World) (ty : TypeId) (pv : Value) (hE : u.cell? ⟨1, 0, none⟩ = some (.iface ty pv)) (hB : Bs u B l) (hy : Bytes l) (hc : l.length ≤ cB) (hm : (cB : Int) ≤ 9223372036854775807) :
    Calls Tryz.prog 49 #[.agg #[.int .i64 15, .int .i64 f, .slice B l.length cB]] u (RtR f l u) := by
  have h0lt := World.block_lt_of_cell? _ _ hE
  have K1 := (Blk.new u 37 #[.int .i64 15, .int .i64 f, .slice B l.length cB]).alloc (.cells #[.int .i64 0, .slice none 0 0, .int .i64 0] 60)
  have R1 := Blk.new (u.alloc (.cells #[.int .i64 15, .int .i64 f, .slice B l.length cB] 37)) 60 #[.int .i64 0, .slice none 0 0, .int .i64 0]
  have b1 := bal (bal (Below.refl u.heap.size u) (.cells #[.int .i64 15, .int .i64 f, .slice B l.length cB] 37)) (.cells #[.int .i64 0, .slice none 0 0, .int .i64 0] 60)
  rw [World.size_alloc] at R1
  obtain ⟨w1, hw1⟩ : ∃ w1, (u.alloc (.cells #[.int .i64 15, .int .i64 f, .slice B l.length cB] 37)).alloc (.cells #[.int .i64 0, .slice none 0 0, .int .i64 0] 60) = w1 := ⟨_, rfl⟩
  have hs1 : w1.heap.size = u.heap.size + 1 + 1 := by rw [← hw1]; simp
  rw [hw1] at K1 R1 b1
  have z0 := K1.cell 0
  have z1 := K1.cell 1
  have z2 := K1.cell 2
  simp only [List.getElem?_toArray, List.getElem?_cons_succ, List.getElem?_cons_zero] at z0 z1 z2
  have x0 := R1.cell 0
  have x1 := R1.cell 1
  have x2 := R1.cell 2
  have f0 := R1.frozen 0
  have f1 := R1.frozen 1
  have f2 := R1.frozen 2
  simp only [List.getElem?_toArray, List.getElem?_cons_succ, List.getElem?_cons_zero] at x0 x1 x2
  have hk1 := K1.lt
  have hr1 := R1.lt
  have HB1 := hidH b1
  have HK1 := hidH K1
  have HR1 := hidH R1
  have HS1 := hidH hs1
  have HW1 := hidH hw1
  have HBS := hidH (bs_below hB b1)
  have HE := hidH ((b1.cell (p := ⟨1, 0, none⟩) h0lt).trans hE)
  have H0 := hidH h0lt
  have HC := hidH (And.intro hc (And.intro hm hy))
  clear K1 R1 b1 hs1 hw1 hB hE h0lt hc hm hy
  by_cases hf : f = 0
  · subst hf
    by_cases hl : l.length = 34
    · have HTT := hidH (show isTag ⟨15, 0, l⟩ = decide (pairAt l 0 ≤ 99) by simp [isTag, hl])
      have ba := bal (Below.refl w1.heap.size w1) (.cells #[.slice B l.length cB] 105)
      have KR := Blk.new w1 105 #[.slice B l.length cB]
      have RE1 : RE (w1.alloc (.cells #[.slice B l.length cB] 105)) w1.heap.size ty pv l :=
        ⟨⟨B, cB, KR, bs_below HBS.out ba, HC.out.1, HC.out.2.1, readB_at HBS.out (by omega) (Nat.le_refl _)⟩, (ba.cell (p := ⟨1, 0, none⟩) (World.block_lt_of_cell? _ _ HE.out)).trans HE.out, by have := HS1.out; omega, HC.out.2.2⟩
      rw [HS1.out] at RE1
      have HPR := hidH (pair_ok' (u.heap.size + 1 + 1) l _ ty pv RE1 (by omega))
      have HBA := hidH (btr HB1.out ba)
      have HRA := hidH (HR1.out.below ba)
      obtain ⟨P, hP⟩ : ∃ P, pairAt l 0 = P := ⟨_, rfl⟩
      rw [hP] at HPR HTT
      unfold RtR
      rw [hP, HTT.out]
      have HPP := hidH hP
      have ql : ((l.length : Int) != 34) = false := by rw [bne_eq_false_iff_eq]; omega
      have HL := hidH (show (l.drop 2).length = 32 by simp [hl])
      clear hl hP ba KR RE1
      go_enter Tryz.func49, Tryz.ntmps49
      clear x0 x1 x2 f0 f1 f2 hr1
      go_wp2_with fail
      rw [HW1.out]
      refine HPR.out.mono ?_
      rintro e w2 ⟨rfl, RE2, hw2, hs2⟩
      obtain ⟨A2, c2, K2, S2, h21, h22, _⟩ := RE2.rd
      have hR2 := hw2.blk HRA.out (.inl (by omega))
      have HB2 := hidH (HBA.out.trans ((hw2.below (by rw [World.size_alloc, HS1.out]; omega)).mono (by omega)))
      have HS2 := hidH S2
      have HFA := hidH (bs_far S2 (by rw [HL.out]; omega) hR2 (fun v hv x => by
        simp only [List.mem_toArray, List.mem_cons, List.not_mem_nil, or_false] at hv
        rcases hv with rfl | rfl | rfl <;> exact fun q => by cases q))
      have hA2 := HL.out
      rw [hA2] at K2
      have y0 := K2.cell 0
      simp only [List.getElem?_toArray, List.getElem?_cons_zero] at y0
      have hl2 := K2.lt
      have HIN := hidH (show inB P 0 99 = decide (P ≤ 99) by
        have h1 := (HC.out.2.2).get 0
        have h2 := (HC.out.2.2).get 1
        have h3 : 0 ≤ P := by rw [← HPP.out]; show 0 ≤ l.getD 0 0 * 256 + l.getD 1 0; omega
        simp [inB, h3])
      have x0 := hR2.cell 0
      have x1 := hR2.cell 1
      have x2 := hR2.cell 2
      have f0 := hR2.frozen 0
      have f1 := hR2.frozen 1
      have f2 := hR2.frozen 2
      simp only [List.getElem?_toArray, List.getElem?_cons_succ, List.getElem?_cons_zero] at x0 x1 x2
      have hr1 := hR2.lt
      clear RE2 hw2 hs2 S2 h21 h22 hR2 K2 hA2
      by_cases h99 : P ≤ 99
      · have e1 := HIN.out.trans (decide_eq_true h99)
        have e2 := decide_eq_true h99
        have HE2 := hidH e2
        clear h99 e2
        go_wp2_with (first | (go_at_call 57; refine (isId_any _ _).mono ?_; rintro e w' ⟨rfl, rfl⟩))
        exact bodyPost_ret (v := .tuple #[tagV P A2 32 c2 0, .nilIface]) (by simp [results, Tryz.results49, go_sem, x0, x1, x2, tagV]) rfl (.inr ⟨HE2.out, A2, c2, rfl, Bs.setR (Bs.setR (Bs.setR HS2.out _ _ HFA.out) _ _ HFA.out) _ _ HFA.out, (bst (bst (bst HB2.out (Nat.le_succ _) _) (Nat.le_succ _) _) (Nat.le_succ _) _)⟩)
      · have e1 := HIN.out.trans (decide_eq_false h99)
        have HE2 := hidH (decide_eq_false h99)
        clear h99 y0
        go_wp2_with (first | (go_at_call 57; refine (isId_any _ _).mono ?_; rintro e w' ⟨rfl, rfl⟩))
        exact bodyPost_ret (v := .tuple #[tagV 0 none 0 0 0, errU 5]) (by simp [results, Tryz.results49, go_sem, x0, x1, x2, tagV, errU]) rfl (.inl ⟨HE2.out, rfl, (bst (bst (bst HB2.out (Nat.le_succ _) _) (Nat.le_succ _) _) (Nat.le_succ _) _)⟩)
    · have ql : ((l.length : Int) != 34) = true := by rw [bne_iff_ne]; omega
      have HF := hidH (show isTag ⟨15, 0, l⟩ = false by simp [isTag, hl])
      clear hl
      unfold RtR
      clear z0 z1 z2 x0 x1 x2 f0 f1 f2 hk1 hr1
      have K2 : Blk ((u.alloc (.cells #[.int .i64 15, .int .i64 0, .slice B l.length cB] 37)).alloc (.cells #[.int .i64 0, .slice none 0 0, .int .i64 0] 60)) u.heap.size 37 #[.int .i64 15, .int .i64 0, .slice B l.length cB] := by rw [HW1.out]; exact HK1.out
      have R2 : Blk ((u.alloc (.cells #[.int .i64 15, .int .i64 0, .slice B l.length cB] 37)).alloc (.cells #[.int .i64 0, .slice none 0 0, .int .i64 0] 60)) (u.heap.size + 1) 60 #[.int .i64 0, .slice none 0 0, .int .i64 0] := by rw [HW1.out]; exact HR1.out
      have HBB := hidH (show Below u.heap.size u ((u.alloc (.cells #[.int .i64 15, .int .i64 0, .slice B l.length cB] 37)).alloc (.cells #[.int .i64 0, .slice none 0 0, .int .i64 0] 60)) by rw [HW1.out]; exact HB1.out)
      have z1 := K2.cell 1
      have z2 := K2.cell 2
      simp only [List.getElem?_toArray, List.getElem?_cons_succ, List.getElem?_cons_zero] at z1 z2
      have hk1 := K2.lt
      have x0 := R2.cell 0
      have x1 := R2.cell 1
      have x2 := R2.cell 2
      have f0 := R2.frozen 0
      have f1 := R2.frozen 1
      have f2 := R2.frozen 2
      simp only [List.getElem?_toArray, List.getElem?_cons_succ, List.getElem?_cons_zero] at x0 x1 x2
      have hr1 := R2.lt
      clear K2 R2
      go_enter Tryz.func49, Tryz.ntmps49
      go_wp2
      exact bodyPost_ret (v := .tuple #[tagV 0 none 0 0 0, errU 5]) (by simp [results, Tryz.results49, go_sem, x0, x1, x2, tagV, errU]) rfl (.inl ⟨HF.out, rfl, HBB.out⟩)
  · have qf : (f != 0) = true := by rw [bne_iff_ne]; exact hf
    have HF := hidH (show isTag ⟨15, f, l⟩ = false by simp [isTag, hf])
    clear hf
    unfold RtR
    clear z0 z1 z2 x0 x1 x2 f0 f1 f2 hk1 hr1
    have K2 : Blk ((u.alloc (.cells #[.int .i64 15, .int .i64 f, .slice B l.length cB] 37)).alloc (.cells #[.int .i64 0, .slice none 0 0, .int .i64 0] 60)) u.heap.size 37 #[.int .i64 15, .int .i64 f, .slice B l.length cB] := by rw [HW1.out]; exact HK1.out
    have R2 : Blk ((u.alloc (.cells #[.int .i64 15, .int .i64 f, .slice B l.length cB] 37)).alloc (.cells #[.int .i64 0, .slice none 0 0, .int .i64 0] 60)) (u.heap.size + 1) 60 #[.int .i64 0, .slice none 0 0, .int .i64 0] := by rw [HW1.out]; exact HR1.out
    have HBB := hidH (show Below u.heap.size u ((u.alloc (.cells #[.int .i64 15, .int .i64 f, .slice B l.length cB] 37)).alloc (.cells #[.int .i64 0, .slice none 0 0, .int .i64 0] 60)) by rw [HW1.out]; exact HB1.out)
    have z1 := K2.cell 1
    have z2 := K2.cell 2
    simp only [List.getElem?_toArray, List.getElem?_cons_succ, List.getElem?_cons_zero] at z1 z2
    have hk1 := K2.lt
    have x0 := R2.cell 0
    have x1 := R2.cell 1
    have x2 := R2.cell 2
    have f0 := R2.frozen 0
    have f1 := R2.frozen 1
    have f2 := R2.frozen 2
    simp only [List.getElem?_toArray, List.getElem?_cons_succ, List.getElem?_cons_zero] at x0 x1 x2
    have hr1 := R2.lt
    clear K2 R2
    go_enter Tryz.func49, Tryz.ntmps49
    go_wp2
    exact bodyPost_ret (v := .tuple #[tagV 0 none 0 0 0, errU 5]) (by simp [results, Tryz.results49, go_sem, x0, x1, x2, tagV, errU]) rfl (.inl ⟨HF.out, rfl, HBB.out⟩)
end Go.Proofs.YtncnibkojneejaaGreatDoor
