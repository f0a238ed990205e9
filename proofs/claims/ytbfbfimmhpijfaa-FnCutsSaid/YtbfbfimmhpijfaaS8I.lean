/- Chapter 8: the program's CutMessage. -/
import Derived.Test.YtbfbfimmhpijfaaNa7
import Derived.Test.YtbfbfimmhpijfaaNa6
namespace Go.Proofs.Ytbfbfimmhpijfaa
open Go.RowKit Go.Deep Go.Shelf
attribute [local go_sem] Oper.semAt_some

/-- What the loop keeps, but for what lies below it. -/
def I8 (y : MessageM) (b off c sn : Nat) (t q : Int) (m g gl : Nat) (pre : List Nat) (W : World) : Prop :=
  (Blk W g 25 #[.int .i64 y.Stream, .bool y.Unordered, .slice (some ⟨b, off, none⟩) y.Bytes.length c] ∧ Blk W (g + 1) 2 #[.int .i64 ((t + (pre.length : Int)) % 4294967296)] ∧ Blk W (g + 1 + 1) 2 #[.int .i64 q] ∧ Blk W (g + 1 + 1 + 1) 30 #[.int .i64 0, .slice none 0 0]) ∧
  (Blk W (gl + 1) 22 #[.slice (some ⟨b, off, none⟩) y.Bytes.length c] ∧ Blk W (gl + 1 + 1) 3 #[.int .i64 (sn : Int)]) ∧
  ∃ (v : Value) (ks : List (Value × Nat × Nat)), Blk W gl 28 #[v] ∧ ks.length = pre.length ∧ W.ownsRow (gl + 1) 38 7 v pre.length (flatR (RowZ (datP y sn t q m pre) ks)) ∧ RTs (gl + 1) W (RowZ (datP y sn t q m pre) ks)
theorem map_fin (r0 : List DataM) (k : Nat) : r0.map DataM.Piece = ((r0.set 0 { r0.getD 0 dat0 with First := true }).set k { (r0.set 0 { r0.getD 0 dat0 with First := true }).getD k dat0 with Last := true }).map DataM.Piece := by
  have gen : ∀ (r : List DataM) (i : Nat) (f : DataM → DataM), (∀ x, (f x).Piece = x.Piece) → (r.set i (f (r.getD i dat0))).map DataM.Piece = r.map DataM.Piece := by
    intro r i f hf
    by_cases h : i < r.length
    · rw [getD_at8 h, List.map_set, hf, ← List.getElem_map DataM.Piece (h := by simpa using h), List.set_getElem_self]
    · rw [List.set_eq_of_length_le (by omega)]
  rw [gen _ k (fun x => { x with Last := true }) (fun _ => rfl), gen r0 0 (fun x => { x with First := true }) (fun _ => rfl)]
theorem noDefer_of {ops : Array Oper} (h : (ops.all fun o => match o.op with | .defer _ => false | _ => true) = true) : ∀ (i : Nat) (o : Oper), ops[i]? = some o → ∀ c, o.op ≠ .defer c := by
  intro i o ho c hc
  obtain ⟨hi, rfl⟩ := Array.getElem?_eq_some_iff.1 ho
  have := Array.all_eq_true.1 h i hi
  rw [hc] at this
  cases this
theorem own_keepC {W W' : World} {B s n : Nat} {e : TypeId} {v : Value} {xs : List Value} (h : W.ownsRow B e s v n xs) (hc : ∀ (k : Nat) (cs : Array Value) (ty : TypeId) (f : Nat × Nat), W.heap[k]? = some (Obj.cells cs ty f) → W'.heap[k]? = some (Obj.cells cs ty f)) : W'.ownsRow B e s v n xs := by
  obtain ⟨h1, h2 | ⟨g, cap, cur, h3, h4, h5, h6⟩⟩ := h
  · exact ⟨h1, .inl h2⟩
  · exact ⟨h1, .inr ⟨g, cap, cur, h3, h4, hc _ _ _ _ h5, h6⟩⟩
theorem I8.own (y : MessageM) (b off c sn : Nat) (t q : Int) (m g gl B : Nat) : OwnFrom B (I8 y b off c sn t q m g gl) := by
  intro pre W W' row ⟨⟨a1, a2, a3, a4⟩, ⟨b1, b2⟩, v, ks, k1, k2, k3, k4⟩ hg hr
  have hc : ∀ (k : Nat) (cs : Array Value) (ty : TypeId) (f : Nat × Nat), W.heap[k]? = some (Obj.cells cs ty f) → W'.heap[k]? = some (Obj.cells cs ty f) := fun k cs ty f e =>
    (hg.block k (Array.getElem?_eq_some_iff.1 e).1 (fun e2 => by
      obtain ⟨_, o, ho, hn⟩ := hr k e2.symm
      rw [e] at ho
      cases ho
      simp [Obj.isCells] at hn)).trans e
  exact ⟨⟨hc _ _ _ _ a1, hc _ _ _ _ a2, hc _ _ _ _ a3, hc _ _ _ _ a4⟩, ⟨hc _ _ _ _ b1, hc _ _ _ _ b2⟩, v, ks, hc _ _ _ _ k1, k2, own_keepC k3 hc, k4.turn hg.size (fun g cs e => hc _ _ _ _ e)⟩
set_option maxRecDepth 100000 in
set_option maxHeartbeats 8000000 in
theorem ct_impl (y : MessageM) (vs : List Value) (s t q : Int) (u : World) (h : RdA u y.vs vs) (_ : WfA y.vs) (_ : tot.totL y.vs ≤ 1048576) (_ : WfV (.int s)) (_ : WfV (.int t)) (_ : WfV (.int q)) : Calls Try.prog 11 #[.agg vs.toArray, .int .i64 s, .int .i64 t, .int .i64 q] u (Res u (cutR y s t q).vs) := by
  have hh := h
  obtain ⟨A, c, rfl, _⟩ := msg_sh h
  obtain ⟨w1, hw1⟩ : ∃ w1, (((u.alloc (.cells #[.int .i64 y.Stream, .bool y.Unordered, .slice A y.Bytes.length c] 25)).alloc (.cells #[.int .i64 t] 2)).alloc (.cells #[.int .i64 q] 2)).alloc (.cells #[.int .i64 0, .slice none 0 0] 30) = w1 := ⟨_, rfl⟩
  have KM := (((Blk.new u 25 #[.int .i64 y.Stream, .bool y.Unordered, .slice A y.Bytes.length c]).alloc (.cells #[.int .i64 t] 2)).alloc (.cells #[.int .i64 q] 2)).alloc (.cells #[.int .i64 0, .slice none 0 0] 30)
  have KT := ((Blk.new (u.alloc (.cells #[.int .i64 y.Stream, .bool y.Unordered, .slice A y.Bytes.length c] 25)) 2 #[.int .i64 t]).alloc (.cells #[.int .i64 q] 2)).alloc (.cells #[.int .i64 0, .slice none 0 0] 30)
  have KS := (Blk.new ((u.alloc (.cells #[.int .i64 y.Stream, .bool y.Unordered, .slice A y.Bytes.length c] 25)).alloc (.cells #[.int .i64 t] 2)) 2 #[.int .i64 q]).alloc (.cells #[.int .i64 0, .slice none 0 0] 30)
  have KR := Blk.new (((u.alloc (.cells #[.int .i64 y.Stream, .bool y.Unordered, .slice A y.Bytes.length c] 25)).alloc (.cells #[.int .i64 t] 2)).alloc (.cells #[.int .i64 q] 2)) 30 #[.int .i64 0, .slice none 0 0]
  have B1 := bal (bal (bal (bal (Below.refl u.heap.size u) (.cells #[.int .i64 y.Stream, .bool y.Unordered, .slice A y.Bytes.length c] 25)) (.cells #[.int .i64 t] 2)) (.cells #[.int .i64 q] 2)) (.cells #[.int .i64 0, .slice none 0 0] 30)
  rw [hw1] at KM KT KS KR B1
  simp only [World.size_alloc] at KT KS KR
  have HCF := hidH (cf_impl y _ s t q w1 (RdA.below B1 hh))
  have HW1 := hidH hw1
  have HB1 := hidH B1
  have HKR := hidH KR
  have HKM := hidH KM
  have HKT := hidH KT
  have HKS := hidH KS
  have y0 := KM.cell 0
  have y1 := KM.cell 1
  have y2 := KM.cell 2
  have t0 := KT.cell 0
  have s0 := KS.cell 0
  simp only [List.getElem?_toArray, List.getElem?_cons_succ, List.getElem?_cons_zero] at y0 y1 y2 t0 s0
  have g1 := KR.lt
  have g2 := KM.lt
  have g3 := KT.lt
  have g4 := KS.lt
  obtain ⟨F, hF⟩ : ∃ F, cutF y s t q = F := ⟨_, rfl⟩
  rw [hF] at HCF
  have HF := hidH hF
  clear hF hw1 B1 KM KT KS KR
  by_cases hz : F = 0
  case neg =>
    have hz2 : (F != 0) = true := by rw [bne_iff_ne]; exact hz
    have HE := hidH (cutR_bad HF.out hz)
    clear hz hh h
    go_enter Try.func11, Try.ntmps11
    go_wp2_with fail
    rw [HW1.out]
    go_wp2_with fail
    refine HCF.out.mono ?_
    rintro e w2 ⟨rfl, b2⟩
    have R9 := HKR.out.below b2
    have x0 := R9.cell 0
    have x1 := R9.cell 1
    have v0 := R9.frozen 0
    have v1 := R9.frozen 1
    simp only [List.getElem?_toArray, List.getElem?_cons_succ, List.getElem?_cons_zero] at x0 x1
    have hr9 := R9.lt
    have HB2 := hidH (btr HB1.out b2)
    clear R9 b2 HCF y0 y1 y2 t0 s0
    go_wp2
    exact bodyPost_ret (v := .agg #[.int .i64 F, .slice none 0 0]) (by simp [results, Try.results11, go_sem, x0, x1]) rfl ⟨_, rfl, by rw [HE.out]; exact OwN.int _ (OwN.noD (OwN.nil (Nat.le_refl _))), bst (bst HB2.out (by show u.heap.size ≤ u.heap.size + 1 + 1 + 1; omega) _) (by show u.heap.size ≤ u.heap.size + 1 + 1 + 1; omega) _⟩
  subst hz
  have hms : msF y = 0 := by
    by_cases k : msF y = 0
    · exact k
    · have := HF.out; rw [cutF_msg k] at this; exact this
  have hrg : (inB s 4 100 && wB t && inB q 0 65535) = true := by
    by_cases k : (inB s 4 100 && wB t && inB q 0 65535) = true
    · exact k
    · have := HF.out; rw [cutF_range hms (by simpa using k)] at this; cases this
  simp only [Bool.and_eq_true] at hrg
  have hs := inB_out hrg.1.1
  have ht := wB_out hrg.1.2
  have hml := (msF_zero hms).2
  have HE := hidH (cutR_ok HF.out)
  obtain ⟨sn, rfl⟩ : ∃ n : Nat, s = (n : Int) := ⟨s.toNat, by omega⟩
  rw [Int.toNat_natCast] at HE
  have hs4 : 4 ≤ sn := by omega
  have hs1 : sn ≤ 100 := by omega
  have h' : RdA u [.int y.Stream, .bool y.Unordered, .bs y.Bytes] _ := hh
  obtain ⟨_, _, e2, hcaps, hbs⟩ := h'.tl.tl.hd.bs_out
  injection e2 with e21 e22 e23
  subst e21 e23
  have hlen0 : y.Bytes ≠ [] := fun e => by rw [e] at hml; simp at hml
  obtain ⟨b, off, rfl, hbl, hcc⟩ : ∃ b off, A = some ⟨b, off, none⟩ ∧ b < u.heap.size ∧ ∀ j, j < y.Bytes.length → u.cell? ⟨b, off + j, none⟩ = some (.int .u8 (y.Bytes.getD j 0)) := by
    rcases hbs with h0 | h0
    · exact absurd h0 hlen0
    · exact h0
  have HCC := hidH hcc
  have HCAP := hidH hcaps
  clear hcc hcaps h' hrg hs hh h hbs
  refine (callsIn_wide (n := 9)).1 ?_
  refine callsIn_of_wp_marks Try.func11 rfl trivial ?_ rfl
  refine wpIn_wide.2 ?_
  simp only [Try.ntmps11, List.size_toArray, List.length_cons, List.length_nil, Nat.reduceAdd, Nat.reduceSub, Array.replicate_succ, Array.replicate_zero, List.push_toArray, List.append_toArray, List.nil_append, List.cons_append]
  go_wp2_with fail
  rw [HW1.out]
  go_wp2_with fail
  refine HCF.out.mono ?_
  rintro e w2 ⟨rfl, b2⟩
  have hgs : u.heap.size + 4 ≤ w2.heap.size := by have := b2.size; omega
  have HB2 := hidH (btr HB1.out b2)
  have KM2 := HKM.out.below b2
  have HKM2 := hidH KM2
  have HKT2 := hidH (HKT.out.below b2)
  have HKS2 := hidH (HKS.out.below b2)
  have HKR2 := hidH (HKR.out.below b2)
  clear y0 y1 y2 t0 s0 g1 g2 g3 g4 b2 HCF HKM HKT HKS HKR HW1
  have y0 := KM2.cell 0
  have y1 := KM2.cell 1
  have y2 := KM2.cell 2
  simp only [List.getElem?_toArray, List.getElem?_cons_succ, List.getElem?_cons_zero] at y0 y1 y2
  have g2 := KM2.lt
  clear KM2
  obtain ⟨W3, hW3⟩ : ∃ W3, w2.alloc (.cells #[.slice none 0 0] 28) = W3 := ⟨_, rfl⟩
  have hs3 : W3.heap.size = w2.heap.size + 1 := by rw [← hW3]; simp
  have HW3 := hidH hW3
  have HB3 := hidH (show Below u.heap.size u W3 from hW3 ▸ bal HB2.out (.cells #[.slice none 0 0] 28))
  have HL3 := hidH (show Blk W3 w2.heap.size 28 #[.slice none 0 0] from hW3 ▸ Blk.new w2 _ _)
  have C3 := hidH (show Below w2.heap.size w2 W3 from hW3 ▸ bal (Below.refl _ _) (.cells #[.slice none 0 0] 28))
  clear hW3
  go_wp2_with fail
  rw [HW3.out]
  refine (pieces_any _ _ _ _ _).mono ?_
  rintro e w' ⟨rfl, rfl⟩
  clear y0 y1 y2 g2
  obtain ⟨m, hm⟩ : ∃ m, cutN y.Bytes.length sn = m := ⟨_, rfl⟩
  have hm1 : 1 ≤ m := by
    have := (cutN_lt (K := y.Bytes.length) (i := 0) (show 0 < sn by omega)).2 (by omega)
    omega
  have hm100 : m ≤ 100 := by rw [← hm]; exact cutN_le hs4 hml.2
  have HMM := hidH hm
  have hseq := pc_stops 8 W3.heap.size (W3.heap.size + 1) b off m y.Bytes.length sn c (by omega) hs4 hs1 hml.1 hml.2 hm.symm HCAP.out.1 HCAP.out.2 ((W3.alloc (.cells #[.slice (some ⟨b, off, none⟩) y.Bytes.length c] 22)).alloc (.cells #[.int .i64 (sn : Int)] 3))
    ((Blk.new W3 22 _).alloc _) (by have := Blk.new (W3.alloc (.cells #[.slice (some ⟨b, off, none⟩) y.Bytes.length c] 22)) 3 #[.int .i64 (sn : Int)]; simpa [Blk] using this)
  rw [hs3] at hseq
  clear hm
  go_wp2_with fail
  refine (wpIn_wide (n := 9)).1 ?_
  refine wpIn_rangeFunc_ownF (F := Fence.wide) (n := 9) rfl (by omega) (gf := 77) (lb := #[.pointer (some ⟨w2.heap.size + 1, 0, none⟩), .pointer (some ⟨w2.heap.size + 1 + 1, 0, none⟩)]) rfl trivial (enters_of Try.func77 (by kernel_rfl) rfl)
    hseq (fun h k => kpp_t h k) (kpp_b (by simp [hs3]) (by simp [hs3])) (Below.refl _ _) (fun _ => rfl)
    (fun pre W => I8 y b off c sn t q m u.heap.size w2.heap.size pre W ∧ Below u.heap.size u W) (fun _ _ _ => False) ((I8.own _ _ _ _ _ _ _ _ _ _ _).and (ownFrom_below (Nat.le_refl _) (by simp; omega))) (fun _ _ _ _ _ hs _ _ => hs)
    ?start (fun x => { tmps := #[.agg #[.int .i64 y.Stream, .bool y.Unordered, .slice (some ⟨b, off, none⟩) y.Bytes.length c], .int .i64 (sn : Int), .int .i64 t, .int .i64 q, .pointer (some ⟨u.heap.size, 0, none⟩), undef, .pointer (some ⟨u.heap.size + 1, 0, none⟩), .pointer (some ⟨u.heap.size + 1 + 1, 0, none⟩), .pointer (some ⟨u.heap.size + 1 + 1 + 1, 0, none⟩), .int .i64 0, .pointer (some ⟨w2.heap.size, 0, none⟩), pcV b off sn m y.Bytes.length x, .agg #[.int .i64 y.Stream, .bool y.Unordered, .slice (some ⟨b, off, none⟩) y.Bytes.length c], .int .i64 (sn : Int), .int .i64 t, .int .i64 q, .int .i64 0, .int .i64 0, .bool false, undef, undef, .pointer (some ⟨u.heap.size, 2, none⟩), .slice (some ⟨b, off, none⟩) y.Bytes.length c, .int .i64 (sn : Int), .func (.func 77) #[] #[.pointer (some ⟨w2.heap.size + 1, 0, none⟩), .pointer (some ⟨w2.heap.size + 1 + 1, 0, none⟩)], pcV b off sn m y.Bytes.length x, undef, undef, undef, undef, undef, undef, undef, undef, undef, undef, undef, undef, undef, undef, undef, undef, undef, undef, undef, undef, undef, undef, undef, undef, undef], defers := [] }) ?assign ?body ?done ?stop
  case start =>
    have hb3 := Blk.new W3 22 #[.slice (some ⟨b, off, none⟩) y.Bytes.length c]
    have hb4 := Blk.new (W3.alloc (.cells #[.slice (some ⟨b, off, none⟩) y.Bytes.length c] 22)) 3 #[.int .i64 (sn : Int)]
    rw [hs3] at hb3
    rw [World.size_alloc, hs3] at hb4
    refine ⟨⟨⟨((HKM2.out.below C3).alloc _).alloc _, by rw [show (t + (([] : List Nat).length : Int)) % 4294967296 = t by simp; omega]; exact ((HKT2.out.below C3).alloc _).alloc _, ((HKS2.out.below C3).alloc _).alloc _, ((HKR2.out.below C3).alloc _).alloc _⟩, ⟨hb3.alloc _, hb4⟩, .slice none 0 0, [], (HL3.out.alloc _).alloc _, rfl, ⟨rfl, .inl ⟨rfl, rfl⟩⟩, RTs.nil _ _⟩, bal (bal HB3.out _) _⟩
  case assign =>
    intro l x W K hK
    gi_wp2
    exact hK
  case body =>
    rintro lo pre x W ⟨hI, hB⟩ hlen
    obtain ⟨⟨a1, a2, a3, a4⟩, ⟨b1, b2⟩, v, ks, k1, k2, k3, k4⟩ := hI
    obtain ⟨k, hk⟩ : ∃ k, min x (m - 1) = k := ⟨_, rfl⟩
    have hkm : k < m := by omega
    have hks : k * sn < y.Bytes.length := (cutN_lt (show 0 < sn by omega)).1 (by rw [HMM.out]; exact hkm)
    obtain ⟨l, hl⟩ : ∃ l, (y.Bytes.drop (k * sn)).take sn = l := ⟨_, rfl⟩
    have hll := piece_len y.Bytes (k * sn) sn
    rw [hl] at hll
    have hpv : pcV b off sn m y.Bytes.length x = .slice (some ⟨b, off + k * sn, none⟩) l.length l.length := by rw [pcV, hk, hll]
    have hbu : Bs u (some ⟨b, off + k * sn, none⟩) l := .inr ⟨b, off + k * sn, rfl, hbl, fun j hj => by
      have h1 := HCC.out (k * sn + j) (by omega)
      rw [Nat.add_assoc, h1, ← hl]
      simp [List.getD_eq_getElem?_getD, List.getElem?_take_of_lt (show j < sn by omega)]⟩
    have hug : u.heap.size ≤ w2.heap.size := by omega
    have HA := hidH (fun (W' : World) (hb : Below w2.heap.size W W') => bs_below hbu (hB.trans (hb.mono hug)))
    have hdat : datAt y sn t q m pre.length x = ⟨(t + (pre.length : Int)) % 4294967296, y.Stream, q, false, false, y.Unordered, l⟩ := by rw [← hl, ← hk]; rfl
    obtain ⟨ts, hts⟩ : ∃ ts, (t + (pre.length : Int)) % 4294967296 = ts := ⟨_, rfl⟩
    rw [hts] at a2 hdat
    have hts0 : 0 ≤ ts ∧ ts ≤ 4294967295 := by omega
    have htn : (ts + 1) % 4294967296 = (t + ((pre ++ [x]).length : Int)) % 4294967296 := by rw [← hts, List.length_append, List.length_singleton]; push_cast; omega
    obtain ⟨tn2, htn2⟩ : ∃ z, (t + ((pre ++ [x]).length : Int)) % 4294967296 = z := ⟨_, rfl⟩
    rw [htn2] at htn
    have HTN := hidH htn
    have HTN2 := hidH htn2
    have HTS := hidH hts0
    have HDAT := hidH hdat
    have HA4 := hidH (And.intro a1 (And.intro a2 (And.intro a3 (And.intro a4 (And.intro b1 b2)))))
    have r0 := a2.cell 0
    have r1 := a1.cell 0
    have r2 := a3.cell 0
    have r3 := a1.cell 1
    simp only [List.getElem?_toArray, List.getElem?_cons_succ, List.getElem?_cons_zero] at r0 r1 r2 r3
    have HK1 := hidH (k1.below (Below.refl _ W).drew)
    have HK3 := hidH (own_below0 k3 (Below.refl _ W).drew)
    have hgl1 : w2.heap.size + 1 ≤ W.heap.size := k1.lt
    have HK2 := hidH k2
    have HK4 := hidH k4
    have HBB := hidH hB
    have hn9 : pre.length ≤ 90000 := by omega
    have hl9 : l.length ≤ 4000000 := by omega
    have HR := hidH (And.intro r0 (And.intro r1 (And.intro r2 r3)))
    rw [hpv]
    clear hl hll hk hks hpv hbu hdat hts a1 a2 a3 a4 b1 b2 k1 k2 k3 k4 hB r0 r1 r2 r3 htn htn2 hts0
    gi_wp2_with fail
    refine wpIn_region_any (by kernel_rfl) ?_
    refine wpAnyIn_of (noDefer_of (by kernel_rfl)) (fun _ _ h => h) _ _ _ _ ?_
    refine regI7 _ _ _ _ _ _ _ _ _ _ _ _ _ _ _ _ _ _ _ _ _ _ _ _ _ _ _ _ _ _ _ _ _ _ _ _ _ _ _ _ _ _ _ _ _ _ v (flatR (RowZ (datP y sn t q m pre) ks)) W w2.heap.size u.heap.size (u.heap.size + 1) (u.heap.size + 1 + 1) pre.length ts y.Stream q y.Unordered (some ⟨b, off + k * sn, none⟩) l l.length (by omega) (by omega) (by omega) (hidH hn9) (hidH hl9) HA HR.out.1 HR.out.2.1 HR.out.2.2.1 HR.out.2.2.2 (by kernel_rfl) (by kernel_rfl) (by kernel_rfl) rfl ⟨(fun h => by cases h), (fun h => by cases h)⟩ (fun _ => HK1.out) (fun _ => HK3.out) (Below.refl _ W).drew (B8.of_below (Below.refl _ W).drew) hgl1 (Nat.le_refl _) ((OthD.refl _ W).below (Below.refl _ W).drew) (KeepsOthers.drew W) ?_
    intros
    rename_i W9 gO gU gL gW gT gK gF
    refine ⟨rfl, ?_⟩
    obtain ⟨v2, A9, c9, K9, O9, S9⟩ := gF
    have T1 := gT _ _ _ (by omega) (by decide) HA4.out.1
    have T2 := gT _ _ _ (by omega) (by decide) HA4.out.2.1
    have T3 := gT _ _ _ (by omega) (by decide) HA4.out.2.2.1
    have T4 := gT _ _ _ (by omega) (by decide) HA4.out.2.2.2.1
    have T5 := gT _ _ _ (by omega) (by decide) HA4.out.2.2.2.2.1
    have T6 := gT _ _ _ (by omega) (by decide) HA4.out.2.2.2.2.2
    have z0 := T2.cell 0
    have f0 := T2.frozen 0
    have hz := T2.lt
    simp only [List.getElem?_toArray, List.getElem?_cons_zero] at z0
    have HT := hidH (And.intro T1 (And.intro T2 (And.intro T3 (And.intro T4 (And.intro T5 T6)))))
    have H9 := hidH (And.intro K9 (And.intro O9 S9))
    have HG := hidH (And.intro gO (And.intro gU (And.intro gW gK)))
    clear T1 T2 T3 T4 T5 T6 K9 O9 S9 gO gU gW gK gT gL HK1 HK3 HR HA
    gi_wp2_with fail
    refine ⟨trivial, (CallsIn.inRound lo (callsIn_wide.2 (wa_any ts W9 HTS.out.1 HTS.out.2))).mono ?_⟩
    rintro e w' ⟨rfl, rfl⟩
    rw [HTN.out]
    gi_wp2
    obtain ⟨T1, T2, T3, T4, T5, T6⟩ := HT.out
    obtain ⟨gO, gU, gW, gK⟩ := HG.out
    obtain ⟨K9, O9, S9⟩ := H9.out
    obtain ⟨lo9, hi9, hlo, hkt⟩ := RT.of_row S9 gW [.int ts, .int y.Stream, .int q, .bool false, .bool false, .bool y.Unordered]
    have hgg : ∀ {g : Nat}, g ≠ u.heap.size + 1 → (⟨u.heap.size + 1, 0, none⟩ : Addr).block ≠ g := fun h e => h e.symm
    have hkt2 := HK4.out.turn gW gU
    have hsn := hkt2.snoc hkt (Nat.le_trans hgl1 hlo) (fun z hz => Nat.le_trans (HK4.out.top z hz) hlo)
    have hdz : RowZ (datP y sn t q m (pre ++ [x])) (ks ++ [(.slice A9 l.length c9, lo9, hi9)]) = RowZ (datP y sn t q m pre) ks ++ [⟨[.int ts, .int y.Stream, .int q, .bool false, .bool false, .bool y.Unordered], .slice A9 l.length c9, l, lo9, hi9⟩] := by
      rw [datP_snoc, RowZ.snoc (by rw [HK2.out, datP_len]), HDAT.out]
      rfl
    have hW2 := set_win w' (u.heap.size + 1) 0 (.int .i64 tn2)
    refine ⟨gK.trans (KeepsOthers.setCell _ _ _), ⟨(T5.far (hgg (by omega)) _).trans HA4.out.2.2.2.2.1.symm, (T6.far (hgg (by omega)) _).trans HA4.out.2.2.2.2.2.symm⟩, ⟨⟨T1.far (hgg (by omega)) _, by rw [HTN2.out]; exact T2.put 0 _, T3.far (hgg (by omega)) _, T4.far (hgg (by omega)) _⟩, ⟨T5.far (hgg (by omega)) _, T6.far (hgg (by omega)) _⟩, v2, ks ++ [(.slice A9 l.length c9, lo9, hi9)], K9.far (hgg (by omega)) _, by simp [HK2.out], ?_, ?_⟩, bst (HBB.out.trans (gO.mono hug)) (by show u.heap.size ≤ u.heap.size + 1; omega) _⟩
    · rw [hdz, flatR_app, List.length_append, List.length_singleton]
      exact own_far9 O9 (show u.heap.size + 1 < w2.heap.size + 1 by omega) 0 _
    · rw [hdz]
      exact hsn.turn hW2.size (B8.of_win hW2 T2 (by decide))
  case stop =>
    rintro D c pre W _ _ h _
    exact h.elim
  case done =>
    rintro D xs W hD rfl ⟨hI, hB⟩ hK
    obtain ⟨⟨_, _, _, a4⟩, _, v, ks, k1, k2, k3, k4⟩ := hI
    rw [List.length_range] at k2 k3
    obtain ⟨k, rfl⟩ : ∃ k, m = k + 1 := ⟨m - 1, by omega⟩
    have hfin := cut_fin (y := y) (t := t) (q := q) (show 0 < sn by omega) HMM.out.symm hm1
    obtain ⟨r0, hr0⟩ : ∃ r0, datP y sn t q (k + 1) (List.range (k + 1)) = r0 := ⟨_, rfl⟩
    have hr0l : r0.length = k + 1 := by rw [← hr0, datP_len, List.length_range]
    rw [hr0] at k3 k4 hfin
    rw [Nat.add_sub_cancel] at hfin
    obtain ⟨hx1, ⟨_, h0⟩ | ⟨g, cap, cur, rfl, hgB, hc, hnc, hmx, hsz, htk⟩⟩ := k3
    · omega
    have hD2 : w2.heap.size + 3 ≤ D := by simp [hs3] at hD; omega
    have hcB : Blk W g 38 cur := hc
    have hgD : g ≠ D := fun e => by subst e; rw [hK] at hc; cases hc
    have hc3 : 3 < cur.size := by rw [hsz]; omega
    have hc4 : k * 7 + 4 < cur.size := by rw [hsz]; omega
    have p3 := hcB.cell 3
    obtain ⟨o3, ho3⟩ : ∃ o, cur[3]? = some o := ⟨_, Array.getElem?_eq_getElem hc3⟩
    rw [ho3] at p3
    have fz3 := hcB.frozen 3
    have hgl := hcB.lt
    have u0 := k1.cell 0
    simp only [List.getElem?_toArray, List.getElem?_cons_zero] at u0
    have hll := k1.lt
    have B2 := hcB.put 3 (.bool true)
    have L2 := k1.far (p := ⟨g, 3, none⟩) (show g ≠ w2.heap.size by omega) (.bool true)
    have p4 := B2.cell (k * 7 + 4)
    have fz4 := B2.frozen (k * 7 + 4)
    obtain ⟨o4, ho4⟩ : ∃ o, (cur.setIfInBounds 3 (Value.bool true))[k * 7 + 4]? = some o := ⟨_, Array.getElem?_eq_getElem (by simpa using hc4)⟩
    rw [ho4] at p4
    have u2 := L2.cell 0
    simp only [List.getElem?_toArray, List.getElem?_cons_zero] at u2
    have L3 := L2.far (p := ⟨g, k * 7 + 4, none⟩) (show g ≠ w2.heap.size by omega) (.bool true)
    have u3 := L3.cell 0
    simp only [List.getElem?_toArray, List.getElem?_cons_zero] at u3
    have R3 := (a4.far (p := ⟨g, 3, none⟩) (show g ≠ u.heap.size + 1 + 1 + 1 by omega) (.bool true)).far (p := ⟨g, k * 7 + 4, none⟩) (show g ≠ u.heap.size + 1 + 1 + 1 by omega) (.bool true)
    have x0 := R3.cell 0
    have x1 := R3.cell 1
    have v0 := R3.frozen 0
    have v1 := R3.frozen 1
    simp only [List.getElem?_toArray, List.getElem?_cons_succ, List.getElem?_cons_zero] at x0 x1
    have hr3 := R3.lt
    have hk0 : (0 : Int) ≤ (k : Int) := by omega
    have hk1 : (0 : Int) < (k : Int) + 1 := by omega
    have hk2 : (k : Int) < (k : Int) + 1 := by omega
    have HX := hidH (And.intro hcB (And.intro hsz (And.intro htk (And.intro hnc (And.intro hmx hx1)))))
    have HK4 := hidH (And.intro k4 k2)
    have HR3 := hidH R3
    have HB2' := hidH B2
    have HBB := hidH hB
    have HKD := hidH hK
    have HFIN := hidH (And.intro hfin hr0l)
    clear hc hcB hsz htk hnc hmx k4 R3 B2 L2 L3 k1 hB hK hfin hr0l hx1 hr0 a4 ho3 ho4 hc3 hc4
    go_wp2
    obtain ⟨hcB, hsz, htk, hnc, hmx, hx1⟩ := HX.out
    obtain ⟨hfin, hr0l⟩ := HFIN.out
    obtain ⟨k4, k2⟩ := HK4.out
    obtain ⟨Wa, hWa⟩ : ∃ Wa, W.setCell ⟨g, 3, none⟩ (.bool true) = Wa := ⟨_, rfl⟩
    have eB2 : Blk Wa g 38 (cur.setIfInBounds 3 (.bool true)) := by rw [← hWa]; exact HB2'.out
    have U1 : B8 W Wa := by rw [← hWa]; exact B8.of_win (set_win W g 3 _) hcB (by decide)
    have S1 : W.heap.size = Wa.heap.size := by rw [← hWa]; simp [World.setCell]
    have D1 : Wa.heap[D]? = some (.deferred (some [])) := by rw [← hWa]; exact (heap_setCell_other _ _ _ _ (show D ≠ g from fun e => hgD e.symm)).trans HKD.out
    have E1 : Below u.heap.size u Wa := by rw [← hWa]; exact HBB.out.setCell (p := ⟨g, 3, none⟩) (by show u.heap.size ≤ g; omega) _
    have HR4 := HR3.out
    rw [hWa] at HR4 ⊢
    obtain ⟨Wb, hWb⟩ : ∃ Wb, Wa.setCell ⟨g, k * 7 + 4, none⟩ (.bool true) = Wb := ⟨_, rfl⟩
    have eB3 : Blk Wb g 38 ((cur.setIfInBounds 3 (.bool true)).setIfInBounds (k * 7 + 4) (.bool true)) := by rw [← hWb]; exact eB2.put (k * 7 + 4) _
    have U2 : B8 W Wb := by rw [← hWb]; exact U1.trans (B8.of_win (set_win Wa g (k * 7 + 4) _) eB2 (by decide))
    have S2 : W.heap.size = Wb.heap.size := by rw [S1, ← hWb]; simp [World.setCell]
    have D2 : Wb.heap[D]? = some (.deferred (some [])) := by rw [← hWb]; exact (heap_setCell_other _ _ _ _ (show D ≠ g from fun e => hgD e.symm)).trans D1
    have E2 : Below u.heap.size u Wb := by rw [← hWb]; exact E1.setCell (p := ⟨g, k * 7 + 4, none⟩) (by show u.heap.size ≤ g; omega) _
    rw [hWb] at HR4 ⊢
    have hgr : g ≠ u.heap.size + 1 + 1 + 1 := by omega
    have hDr : D ≠ u.heap.size + 1 + 1 + 1 := by omega
    obtain ⟨Wc, hWc⟩ : ∃ Wc, Wb.setCell ⟨u.heap.size + 1 + 1 + 1, 0, none⟩ (.int .i64 0) = Wc := ⟨_, rfl⟩
    have eB4 : Blk Wc g 38 ((cur.setIfInBounds 3 (.bool true)).setIfInBounds (k * 7 + 4) (.bool true)) := by rw [← hWc]; exact eB3.far (p := ⟨u.heap.size + 1 + 1 + 1, 0, none⟩) (fun e => hgr e.symm) _
    have HR5 : Blk Wc (u.heap.size + 1 + 1 + 1) 30 #[.int .i64 0, .slice none 0 0] := by rw [← hWc]; exact HR4.put 0 _
    have U3 : B8 W Wc := by rw [← hWc]; exact U2.trans (B8.of_win (set_win Wb (u.heap.size + 1 + 1 + 1) 0 _) HR4 (by decide))
    have S3 : W.heap.size = Wc.heap.size := by rw [S2, ← hWc]; simp [World.setCell]
    have D3 : Wc.heap[D]? = some (.deferred (some [])) := by rw [← hWc]; exact (heap_setCell_other _ _ _ _ hDr).trans D2
    have E3 : Below u.heap.size u Wc := by rw [← hWc]; exact E2.setCell (p := ⟨u.heap.size + 1 + 1 + 1, 0, none⟩) (by show u.heap.size ≤ u.heap.size + 1 + 1 + 1; omega) _
    rw [hWc]
    obtain ⟨Wd, hWd⟩ : ∃ Wd, Wc.setCell ⟨u.heap.size + 1 + 1 + 1, 1, none⟩ (.slice (some ⟨g, 0, none⟩) (k + 1) cap) = Wd := ⟨_, rfl⟩
    have eB5 : Blk Wd g 38 ((cur.setIfInBounds 3 (.bool true)).setIfInBounds (k * 7 + 4) (.bool true)) := by rw [← hWd]; exact eB4.far (p := ⟨u.heap.size + 1 + 1 + 1, 1, none⟩) (fun e => hgr e.symm) _
    have HR6 : Blk Wd (u.heap.size + 1 + 1 + 1) 30 #[.int .i64 0, .slice (some ⟨g, 0, none⟩) (k + 1) cap] := by rw [← hWd]; exact HR5.put 1 _
    have U4 : B8 W Wd := by rw [← hWd]; exact U3.trans (B8.of_win (set_win Wc (u.heap.size + 1 + 1 + 1) 1 _) HR5 (by decide))
    have S4 : W.heap.size = Wd.heap.size := by rw [S3, ← hWd]; simp [World.setCell]
    have D4 : Wd.heap[D]? = some (.deferred (some [])) := by rw [← hWd]; exact (heap_setCell_other _ _ _ _ hDr).trans D3
    have E4 : Below u.heap.size u Wd := by rw [← hWd]; exact E3.setCell (p := ⟨u.heap.size + 1 + 1 + 1, 1, none⟩) (by show u.heap.size ≤ u.heap.size + 1 + 1 + 1; omega) _
    rw [hWd]
    refine ⟨by simp, .inl ⟨_, _, rfl, run_takeDeferred D4, ?_⟩⟩
    refine ⟨_, results_cell_row rfl _ _ (u.heap.size + 1 + 1 + 1) 30 #[.int .i64 0, .slice (some ⟨g, 0, none⟩) (k + 1) cap] (0, 0) _ rfl ((World.putObj_heap_other (by omega)).trans HR6) Try.underlying30 rfl (by kernel_rfl), ?_⟩
    rw [HE.out]
    have hDlt : D < Wd.heap.size := (Array.getElem?_eq_some_iff.1 D4).1
    have U5 : B8 W (Wd.putObj D (.deferred none)) := U4.trans (fun gg cs e => (World.putObj_heap_other (fun e2 => by subst e2; rw [D4] at e; cases e)).trans e)
    have S5 : W.heap.size = (Wd.putObj D (.deferred none)).heap.size := by rw [World.putObj_size]; exact S4
    have hrow : (Wd.putObj D (.deferred none)).ownsRow (w2.heap.size + 1) 38 7 (.slice (some ⟨g, 0, none⟩) (k + 1) cap) (cutL y sn t q).length (flatR (RowZ (cutL y sn t q) ks)) := by
      have hl2 : (cutL y sn t q).length = k + 1 := by rw [← hfin, List.length_set, List.length_set, hr0l]
      have e1 := flatZ_first r0 ks 0 true (by omega) (by omega)
      have e2 := flatZ_last (r0.set 0 { r0.getD 0 dat0 with First := true }) ks k true (by rw [List.length_set]; omega) (by rw [List.length_set]; omega)
      rw [hfin] at e2
      rw [Nat.zero_mul, Nat.zero_add] at e1
      rw [hl2]
      refine ⟨?_, .inr ⟨g, cap, _, rfl, hgB, (World.putObj_heap_other (fun e => hgD e)).trans eB5, hnc, hmx, by simpa using hsz, ?_⟩⟩
      · rw [← e2, List.length_set, ← e1, List.length_set]; exact hx1
      · rw [Array.toList_setIfInBounds, Array.toList_setIfInBounds, List.take_set, List.take_set, htk, e1, e2]
    have hrts := (k4.turn (Nat.le_of_eq S5) U5).alike (r' := cutL y sn t q) (by rw [← hfin]; exact map_fin r0 k) (by rw [k2, hr0l])
    have hown := (RowZ.da (r := cutL y sn t q) (ks := ks) (by rw [k2, ← hfin, List.length_set, List.length_set, hr0l])).own hrow (Nat.le_refl _) hrts
    have hl2 : (cutL y sn t q).length = k + 1 := by rw [← hfin, List.length_set, List.length_set, hr0l]
    refine ⟨_, rfl, ?_, E4.grown (grownBy_putObj' Wd D _) (Nat.le_trans E4.size (Nat.le_refl _)) (fun kk e => by cases e; omega)⟩
    exact OwN.int 0 (OwN.cons (hown.mono (B' := u.heap.size) (by omega) (Nat.le_refl _) (Nat.le_refl _)) (OwN.nil (Nat.le_refl _)) (by have := E4.size; rw [World.putObj_size]; omega) (Nat.le_refl _))
end Go.Proofs.Ytbfbfimmhpijfaa
