/- The program's Sha256. -/
import Derived.Test.YtacdnednkglobaaShaR
namespace Go.Proofs.Ytacdnednkglobaa
open Go.RowKit Go.Deep Go.Shelf
attribute [local go_sem] Oper.semAt_some

theorem blk_own {β : Type} (B g : Nat) (t : TypeId) (f : β → Array Value) : OwnFrom B (fun (s : β) W => Blk W g t (f s)) := fun _ _ _ _ hs hg hr =>
  (hg.block g (Blk.lt hs) (fun e => by
    obtain ⟨_, o, ho, hc⟩ := hr g e.symm
    unfold Blk at hs
    rw [hs] at ho
    cases ho
    simp [Obj.isCells] at hc)).trans hs
theorem keep_win {g : Nat} {t : TypeId} {cs : Array Value} {W W' : World} (h : Win g (g + 1) W W') (hb : Blk W g t cs) : KeepsOthers W W' :=
  ⟨h.size, fun k o hk ho => by
    by_cases e : k = g
    · subst e
      unfold Blk at hb
      rw [hb] at hk
      cases hk
      simp [Obj.isCells] at ho
    · exact (h.block k (Array.getElem?_eq_some_iff.1 hk).1 (by omega)).trans hk⟩
theorem ob_put {B C D : Nat} {w : World} {A : Option Addr} {l : List Int} {o o' : Obj} (h : Ob B C w A l) (hD : w.heap[D]? = some o) (ho : o.isCells = false) : Ob B C (w.putObj D o') A l := by
  rcases h with h | ⟨b, off, h1, h2, h3, h4, h5⟩
  · exact .inl h
  · refine .inr ⟨b, off, h1, h2, h3, by simpa using h4, fun j hj => ?_⟩
    have hg := grownBy_putObj' w D o'
    have hr : ∀ r, some D = some r → ∃ o : Obj, w.heap[r]? = some o ∧ o.isCells = false := fun r e => by cases e; exact ⟨o, hD, ho⟩
    exact ⟨cell_kept (h5 j hj).1 hg hr, (frozen_kept (h5 j hj).1 hg hr).trans (h5 j hj).2⟩
theorem bres_put {w0 w : World} {x : Int} {l : List Int} {e : Ending} {D : Nat} {o o' : Obj} (h : BRes w0 x l e w) (hD : w.heap[D]? = some o) (ho : o.isCells = false) (hn : w0.heap.size ≤ D) : BRes w0 x l e (w.putObj D o') := by
  obtain ⟨A, cp, rfl, hO, hB, h1, h2⟩ := h
  refine ⟨A, cp, rfl, ?_, hB.grown (grownBy_putObj' w D o') hB.size (fun k e => by cases e; exact hn), h1, h2⟩
  rw [World.putObj_size]
  exact ob_put hO hD ho
/-- The state when the pieces of these numbers have come. -/
def foldB (p : List Int) (m : Nat) (pre : List Nat) : List Nat := pre.foldl (fun st k => compN st (blk p (64 * min k (m - 1)))) startN
theorem foldB_snoc (p : List Int) (m : Nat) (pre : List Nat) (x : Nat) : foldB p m (pre ++ [x]) = compN (foldB p m pre) (blk p (64 * min x (m - 1))) := by simp [foldB]
theorem foldB_range (p : List Int) (m k : Nat) (hk : k ≤ m) : foldB p m (List.range k) = shaTo p k := by
  induction k with
  | zero => rfl
  | succ k ih => rw [List.range_succ, foldB_snoc, ih (by omega), Nat.min_eq_left (by omega)]; rfl
theorem foldB_inv (p : List Int) (m : Nat) (pre : List Nat) : (foldB p m pre).length = 8 ∧ AllW (foldB p m pre) := by
  have gen : ∀ (pre : List Nat) (st : List Nat), st.length = 8 ∧ AllW st → (pre.foldl (fun st k => compN st (blk p (64 * min k (m - 1)))) st).length = 8 ∧ AllW (pre.foldl (fun st k => compN st (blk p (64 * min k (m - 1)))) st) := by
    intro pre
    induction pre with
    | nil => exact fun st h => h
    | cons x pre ih => exact fun st h => ih _ ⟨by simp [compN], compN_all _ _⟩
  exact gen pre startN ⟨rfl, startN_all⟩
/-- What the loop keeps. -/
def IS (w0 : World) (g4 b off N5 : Nat) (p : List Int) (m : Nat) (pre : List Nat) (W : World) : Prop :=
  (Blk W g4 96 (U (foldB p m pre)) ∧ Blk W w0.heap.size 27 #[.int .i64 0, .slice none 0 0]) ∧ ((∀ j, j < p.length → W.cell? ⟨b, off + j, none⟩ = some (.int .u8 (p.getD j 0))) ∧ N5 < W.heap.size ∧ b < W.heap.size) ∧ Below w0.heap.size w0 W
theorem IS.own (w0 : World) (g4 b off N5 B : Nat) (p : List Int) (m : Nat) (hB : w0.heap.size ≤ B) : OwnFrom B (IS w0 g4 b off N5 p m) :=
  ((blk_own B g4 _ (fun pre => U (foldB p m pre))).and (blk_own B w0.heap.size _ (fun _ => _))).and ((Own.from (fun _ _ _ _ hs hg hr => ⟨fun j hj => cell_kept (hs.1 j hj) hg hr, Nat.lt_of_lt_of_le hs.2.1 hg.size, Nat.lt_of_lt_of_le hs.2.2 hg.size⟩) B).and (ownFrom_below (Nat.le_refl _) hB))
set_option maxRecDepth 100000 in
set_option maxHeartbeats 4000000 in
theorem sha_impl (A : Option Addr) (l : List Int) (c : Nat) (w : World) (hA : Bs w A l) (hl : Bytes l) (hm : (l.length : Int) ≤ 9223372036854775807) :
    Calls Try.prog 67 #[.slice A l.length c] w (BRes w (padC l) (shaM l)) := by
  have hA2 := bs_below hA (bal (Below.refl _ w) (.cells #[.int .i64 0, .slice none 0 0] 27))
  have hpad := padm_impl A l c _ hA2 hm
  clear hA hA2
  by_cases h : l.length ≤ 700
  · have e1 : padC l = 0 := by rw [padC, if_pos h]
    have e2 : padM l = padL l := by rw [padM, if_pos h]
    have e3 : shaM l = shaL l := by rw [shaM, if_pos h]
    rw [e1, e2] at hpad
    rw [e1, e3]
    have HPAD := hidH hpad
    have HP := hidH (padL_bytes hl (by omega))
    have H64 := hidH (padL_mod l)
    have hpl : (padL l).length ≤ 1000 := by rw [padL_len]; unfold zerosN; omega
    have hp0 : 0 < (padL l).length := by rw [padL_len]; omega
    have HSHA := hidH (show shaL l = wordsL (shaTo (padL l) ((padL l).length / 64)) 8 from rfl)
    have HZ := hidH (zero77)
    obtain ⟨z, hz⟩ : ∃ z, U (List.replicate 8 0) = z := ⟨_, rfl⟩
    obtain ⟨s0, hs0⟩ : ∃ s0, U startN = s0 := ⟨_, rfl⟩
    rw [hz] at HZ
    have HFST := hidH (show ∀ w : World, Calls Try.prog 76 #[] w fun e w' => e = .returned (.agg s0) ∧ Below w.heap.size w w' from hs0 ▸ first_any)
    have HSS := hidH (show (Try.prog.info? 96).map (·.size) = some s0.size by rw [← hs0]; kernel_rfl)
    have HZS := hidH (show z.size = s0.size by rw [← hs0, ← hz]; rfl)
    have HS1 := hidH (show s0.all (·.oneCell') = true from hs0 ▸ U_one _)
    have HS0 := hidH hs0
    generalize padL l = p at *
    clear hpad e1 e2 e3 h hz hs0
    refine (callsIn_wide (n := 9)).1 ?_
    refine callsIn_of_wp_marks Try.func67 rfl trivial ?_ rfl
    refine wpIn_wide.2 ?_
    simp only [Try.ntmps67, List.size_toArray, List.length_cons, List.length_nil, Nat.reduceAdd, Nat.reduceSub, Array.replicate_succ, Array.replicate_zero, List.push_toArray, List.append_toArray, List.nil_append, List.cons_append]
    go_wp2_with fail
    refine HPAD.out.mono ?_
    rintro e w1 ⟨P, cp, rfl, P1, b1, hcp, hcm⟩
    obtain ⟨X0, HB1⟩ := xb b1
    have X1 := hidH (Blk.new w1 27 #[.int .i64 0, .slice P p.length cp])
    have X0' := hidH (X0.out.alloc (.cells #[.int .i64 0, .slice P p.length cp] 27))
    have HB1' := hidH (bal HB1.out (.cells #[.int .i64 0, .slice P p.length cp] 27))
    have P1' := hidH (P1.bs)
    have P2 := hidH (bs_below P1.bs (bal (Below.refl _ _) (.cells #[.int .i64 0, .slice P p.length cp] 27)))
    have HC := hidH (And.intro hcp hcm)
    clear P1 b1 HB1 X0 P1' hcp hcm HPAD
    go_wp2_with fail
    refine (HFST.out _).mono ?_
    rintro e w2 ⟨rfl, b2⟩
    have Y1 := X1.out.below b2
    have Y0 := X0'.out.below b2
    have P3 := bs_below P2.out b2
    have B2 := btr HB1'.out b2
    obtain ⟨b, off, rfl, hbl, hcc⟩ : ∃ b off, P = some ⟨b, off, none⟩ ∧ b < w2.heap.size ∧ ∀ j, j < p.length → w2.cell? ⟨b, off + j, none⟩ = some (.int .u8 (p.getD j 0)) := by
      rcases P3 with h0 | h0
      · rw [h0] at hp0; simp at hp0
      · exact h0
    have HCC := hidH hcc
    have hng : w.heap.size < w2.heap.size := Y0.lt
    have Z1 := Y1.alloc (.cells s0 96)
    obtain ⟨q0, q1, qz⟩ := Z1.two
    clear b2 P2 P3 hcc X1 X0' HB1' Z1
    obtain ⟨W3, hW3⟩ : ∃ W3, w2.alloc (.cells s0 96) = W3 := ⟨_, rfl⟩
    have hs3 : W3.heap.size = w2.heap.size + 1 := by rw [← hW3]; simp
    have G4 := hidH (show Blk W3 w2.heap.size 96 s0 from hW3 ▸ Blk.new w2 96 s0)
    have Y0' := hidH (show Blk W3 w.heap.size 27 #[.int .i64 0, .slice none 0 0] from hW3 ▸ Y0.alloc (.cells s0 96))
    have B3 := hidH (show Below w.heap.size w W3 from hW3 ▸ bal B2 (.cells s0 96))
    have C3 := hidH (show Below w2.heap.size w2 W3 from hW3 ▸ bal (Below.refl _ _) (.cells s0 96))
    have HW3 := hidH hW3
    have HS3 := hidH hs3
    rw [hW3] at q0 q1 qz
    clear hW3 hs3 Y0 Y1 B2
    go_wp2_with (first | refine wpList_allocRow rfl 96 rfl _ rfl z HZ.out ?_ | (refine wpList_store_rowTo rfl _ _ _ rfl rfl w2.heap.size s0 rfl rfl 96 _ (heap_alloc_last w2 _) HSS.out HZS.out HS1.out ?_; rw [World.setRow_alloc_new, HW3.out]) | (go_at_call 77; refine (chunk_any _ _ _ _).mono ?_; rintro e w' ⟨rfl, rfl⟩))
    obtain ⟨m, hm64⟩ : ∃ m, p.length = 64 * m := ⟨p.length / 64, by have := H64.out; omega⟩
    have hdiv : p.length / 64 = m := by omega
    have hm1 : 1 ≤ m := by omega
    have hg4 : w2.heap.size < W3.heap.size := by have := HS3.out; omega
    have hseq := chunk_stops 8 W3.heap.size (W3.heap.size + 1) b off m p.length cp (by omega) hm64 (by omega) HC.out.1 HC.out.2 ((W3.alloc (.cells #[.slice (some ⟨b, off, none⟩) p.length cp] 25)).alloc (.cells #[.int .i64 64] 3))
      ((Blk.new W3 25 _).alloc _) (by have := Blk.new (W3.alloc (.cells #[.slice (some ⟨b, off, none⟩) p.length cp] 25)) 3 #[.int .i64 64]; simpa [Blk] using this)
    have HM64 := hidH hm64
    have HDIV := hidH hdiv
    clear hm64 hdiv
    refine (wpIn_wide (n := 9)).1 ?_
    refine wpIn_rangeFunc_ownF (F := Fence.wide) (n := 9) rfl (by omega) (gf := 84) (lb := #[.pointer (some ⟨W3.heap.size, 0, none⟩), .pointer (some ⟨W3.heap.size + 1, 0, none⟩)]) rfl trivial (enters_of Try.func84 (by kernel_rfl) rfl)
      hseq (fun h k => kpp_t h k) (kpp_b (by simp; omega) (by simp)) (Below.refl _ _) (fun _ => rfl)
      (IS w w2.heap.size b off (W3.heap.size + 1) p m) (fun _ _ _ => False) (IS.own _ _ _ _ _ _ _ _ (by simp; omega)) (fun _ _ _ _ _ hs _ _ => hs)
      ?start (fun x => { tmps := #[.slice A l.length c, undef, .pointer (some ⟨w.heap.size, 0, none⟩), .pointer (some ⟨w1.heap.size, 0, none⟩), .pointer (some ⟨w2.heap.size, 0, none⟩), ck b off m x, .slice A l.length c, .agg #[.int .i64 0, .slice (some ⟨b, off, none⟩) p.length cp], .pointer (some ⟨w1.heap.size, 0, none⟩), .int .i64 0, .bool false, undef, undef, undef, .agg s0, .pointer (some ⟨w1.heap.size, 1, none⟩), .slice (some ⟨b, off, none⟩) p.length cp, .func (.func 84) #[] #[.pointer (some ⟨W3.heap.size, 0, none⟩), .pointer (some ⟨W3.heap.size + 1, 0, none⟩)], ck b off m x, undef, undef, undef, undef, undef, undef, undef, undef], defers := [] }) ?assign ?body ?done ?stop
    case start =>
      refine ⟨⟨?_, (Y0'.out.alloc _).alloc _⟩, ⟨fun j hj => ?_, by simp, by simp; omega⟩, bal (bal B3.out _) _⟩
      · rw [show U (foldB p m []) = s0 from HS0.out]; exact (G4.out.alloc _).alloc _
      · exact ((bal (bal C3.out _) _).cell (p := ⟨b, off + j, none⟩) hbl).trans (HCC.out j hj)
    case assign =>
      intro l x W K hK
      gi_wp2
      exact hK
    case body =>
      rintro lo pre x W hI _
      obtain ⟨⟨hG, hR⟩, ⟨hD, hN5, hbW⟩, hB⟩ := hI
      have hm64 := HM64.out
      obtain ⟨h8, hst⟩ := foldB_inv p m pre
      have hmin : min x (m - 1) < m := by omega
      obtain ⟨q, hq⟩ : ∃ q, min x (m - 1) = q := ⟨_, rfl⟩
      have hsn := foldB_snoc p m pre x
      rw [hq] at hmin hsn
      have hq64 : 64 * q + 64 ≤ p.length := by omega
      have hbl64 := blk_len (p := p) (a := 64 * q) hq64
      obtain ⟨ns, hns⟩ : ∃ ns, U (foldB p m (pre ++ [x])) = ns := ⟨_, rfl⟩
      obtain ⟨s, hs⟩ : ∃ s, U (foldB p m pre) = s := ⟨_, rfl⟩
      obtain ⟨cl, hcl⟩ : ∃ cl, (blk p (64 * q)).map (Value.int .u8) = cl := ⟨_, rfl⟩
      have hcL : (foldB p m (pre ++ [x])).length = 8 := (foldB_inv p m (pre ++ [x])).1
      have hcall : ∀ w', Calls Try.prog 78 #[.agg s, .agg cl.toArray] w' fun e w'' => e = .returned (.agg ns) ∧ Below w'.heap.size w' w'' := fun w' => by
        have := cmp_impl (foldB p m pre) (blk p (64 * q)) w' hst h8 (blk_bytes HP.out _) hbl64
        rwa [← hsn, hns, hs, show Ub (blk p (64 * q)) = cl.toArray from by rw [← hcl]; rfl] at this
      have hrng : W.rangeAt b (off + 64 * q) cl := by
        rw [← hcl]
        refine bs_range (fun j hj => ?_)
        rw [hbl64] at hj
        have := hD (64 * q + j) (by omega)
        rw [Nat.add_assoc, this]
        simp [blk, List.getD_eq_getElem?_getD, hj]
      have hck : ck b off m x = .slice (some ⟨b, off + 64 * q, none⟩) 64 64 := by rw [ck, hq]
      have s1 : (Try.prog.info? 85).map (·.size) = some cl.length := by rw [← hcl, List.length_map, hbl64]; kernel_rfl
      have s2 : (Try.prog.info? 96).map (·.size) = some s.size := by rw [← hs, U_size, h8]; kernel_rfl
      have s3 : (Try.prog.info? 96).map (·.size) = some ns.size := by rw [← hns, U_size, hcL]; kernel_rfl
      have s4 : s.size = ns.size := by rw [← hs, ← hns, U_size, U_size, hcL, h8]
      have s5 : ns.all (·.oneCell') = true := hns ▸ U_one _
      rw [hs] at hG
      have hW0 : Win w2.heap.size (w2.heap.size + 1) W W.drew := Win.of_below (Below.refl _ _).drew
      have HCK := hidH hck
      rw [hck]
      refine wpIn_block ?_
      refine wpIn_region_any (by kernel_rfl) ?_
      refine reg28 lo _ W.drew ?x0 ?x1 ?x2 ?x3 ?x4 ?x5 ?x6 ?x7 ?x8 ?x9 ?x10 ?x11 ?x12 ?x13 ?x14 ?x15 ?x16 ?x17 ?x18 ?x24 ?x25 ?x26 w2.heap.size s b (off + 64 * q) 64 64 cl ns _ ?h5 (by omega) ?h4 hrng hbW (by omega) hcall s1 s2 s3 s4 s5 ?hQ 6 false false false false false false _ _ (by decide) ?J
      case J => exact ⟨undef, undef, undef, undef, undef, by rfl, Win.refl _ _ _, hG, (fun h => by cases h), (fun h => by cases h), (fun h => by cases h), (fun h => by cases h), (fun h => by cases h), (fun h => by cases h)⟩
      case h5 => rfl
      case h4 => rfl
      case hQ =>
        intro a w' hW hBk
        have hWW := hW0.trans hW
        refine ⟨keep_win hWW hG, ⟨hWW.block _ (by omega) (by omega), hWW.block _ (by omega) (by omega)⟩, ⟨by rw [hns]; exact hBk, hWW.blk hR (.inl hng)⟩, ⟨fun j hj => (hWW.cell (p := ⟨b, off + j, none⟩) hbW (.inl hbl)).trans (hD j hj), Nat.lt_of_lt_of_le hN5 hWW.size, Nat.lt_of_lt_of_le hbW hWW.size⟩, hB.trans ((hWW.below (by omega)).mono (by omega))⟩
    case stop =>
      rintro D c pre W _ _ h _
      exact h.elim
    case done =>
      rintro D xs W hD rfl hI hK
      obtain ⟨⟨hG, hR⟩, ⟨_, _, _⟩, hB⟩ := hI
      rw [foldB_range p m m (Nat.le_refl _)] at hG
      have hst := shaTo_all p m
      have h8 := shaTo_len p m
      have hsh : shaL l = wordsL (shaTo p m) 8 := by rw [HSHA.out, HDIV.out]
      obtain ⟨st, hse⟩ : ∃ st, shaTo p m = st := ⟨_, rfl⟩
      rw [hse] at hG hst h8 hsh
      have hdig := fun w' => dig_any st w' h8 hst
      obtain ⟨s, hs⟩ : ∃ s, U st = s := ⟨_, rfl⟩
      rw [hs] at hG
      simp only [hs] at hdig
      have HDIG := hidH hdig
      have HSZ := hidH (show (Try.prog.info? 96).map (·.size) = some s.size by rw [← hs, U_size, h8]; kernel_rfl)
      have HG := hidH hG
      have HR := hidH hR
      have HB := hidH hB
      have HK := hidH hK
      have HSH := hidH hsh
      have hDn : w.heap.size < D := by simp at hD; omega
      clear hdig hse hs hG hR hB hK hsh h8 hD
      go_wp2_with (refine wpList_load_row rfl 96 _ rfl w2.heap.size rfl 96 s (0, 0) (.array 8 94) HG.out (by kernel_rfl) rfl HSZ.out ?_)
      refine (HDIG.out _).mono ?_
      rintro e w6 ⟨v, rfl, o6, b6⟩
      have X := HR.out.below b6
      obtain ⟨q0, q1, qz⟩ := X.two
      have f0 := X.frozen 0
      have f1 := X.frozen 1
      obtain ⟨A6, c6, rfl, ob, hc1, hc2⟩ := own_ob o6
      have OB := hidH (ob.mono (B' := w.heap.size + 1) (by have := HR.out.lt; omega))
      have HB6 := hidH (btr HB.out b6)
      have HK6 := hidH ((b6.block D (Array.getElem?_eq_some_iff.1 HK.out).1).trans HK.out)
      have C1 := hidH (And.intro hc1 hc2)
      have X6 := hidH X
      clear X ob hc1 hc2 o6 b6 HDIG HG HR HB HK
      go_wp2
      have hK7 : ((w6.setCell ⟨w.heap.size, 0, none⟩ (.int .i64 0)).setCell ⟨w.heap.size, 1, none⟩ (.slice A6 (wordsL st 8).length c6)).heap[D]? = some (.deferred (some [])) := by
        rw [heap_setCell_other _ _ _ _ (by show D ≠ w.heap.size; omega), heap_setCell_other _ _ _ _ (by show D ≠ w.heap.size; omega)]
        exact HK6.out
      have hX7 : Blk ((w6.setCell ⟨w.heap.size, 0, none⟩ (.int .i64 0)).setCell ⟨w.heap.size, 1, none⟩ (.slice A6 (wordsL st 8).length c6)) w.heap.size 27 #[.int .i64 0, .slice A6 (wordsL st 8).length c6] :=
        heap_setCell_same _ _ _ _ _ _ (heap_setCell_same _ _ _ _ _ _ X6.out)
      refine ⟨by simp, .inl ⟨_, _, rfl, run_takeDeferred hK7, ?_⟩⟩
      refine ⟨_, results_cell_row rfl _ _ w.heap.size 27 #[.int .i64 0, .slice A6 (wordsL st 8).length c6] (0, 0) _ rfl ((World.putObj_heap_other (by omega)).trans hX7) Try.underlying27 rfl (by kernel_rfl), ?_⟩
      rw [HSH.out]
      exact bres_put (bres_set 0 OB.out HB6.out C1.out.1 C1.out.2 _ _) hK7 rfl (by omega)
  · have e1 : padC l = 2 := by rw [padC, if_neg h]
    have e2 : padM l = [] := by rw [padM, if_neg h]
    have e3 : shaM l = [] := by rw [shaM, if_neg h]
    rw [e1, e2] at hpad
    rw [e1, e3]
    have HPAD := hidH hpad
    clear hpad e1 e2 e3 h
    go_enter Try.func67, Try.ntmps67
    go_wp2_with fail
    refine HPAD.out.mono ?_
    rintro e w1 ⟨P, cp, rfl, P1, b1, _, _⟩
    obtain ⟨X0, HB1⟩ := xb b1
    obtain ⟨q0, q1, qz⟩ := (X0.out.alloc (.cells #[.int .i64 2, .slice P ([] : List Int).length cp] 27)).two
    have f0 := (X0.out.alloc (.cells #[.int .i64 2, .slice P ([] : List Int).length cp] 27)).frozen 0
    have f1 := (X0.out.alloc (.cells #[.int .i64 2, .slice P ([] : List Int).length cp] 27)).frozen 1
    clear P1 b1 HPAD
    simp only [List.length_nil] at q0 q1 qz f0 f1 ⊢
    go_wp2
    exact bodyPost_ret (v := .agg #[.int .i64 2, .slice none 0 0]) (by simp [results, Try.results67, go_sem, q0, q1]) rfl ⟨_, _, rfl, .inl rfl, bst (bst (bal HB1.out _) (Nat.le_refl _) _) (Nat.le_refl _) _, Nat.le_refl _, by omega⟩
end Go.Proofs.Ytacdnednkglobaa
