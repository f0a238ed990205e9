/- The model's compression of one block: l2Compress, as a function on lists of words. -/
import Derived.Test.YtncnibkojneejaaGreatDoorKeys
import Derived.Deep.RegionHeld3
namespace Go.Proofs.YtncnibkojneejaaGreatDoor
open Go.RowKit Go.Deep

def chN (e f g : Nat) : Nat := (e &&& f) ^^^ ((4294967295 - e) &&& g)
def majN (a b c : Nat) : Nat := ((a &&& b) ^^^ (a &&& c)) ^^^ (b &&& c)
def t1N (v : List Nat) (k w : Nat) : Nat := (v.getD 7 0 + bigN (v.getD 4 0) 6 11 25 + chN (v.getD 4 0) (v.getD 5 0) (v.getD 6 0) + (k + w)) % 4294967296
def t2N (v : List Nat) : Nat := (bigN (v.getD 0 0) 2 13 22 + majN (v.getD 0 0) (v.getD 1 0) (v.getD 2 0)) % 4294967296
/-- One round. -/
def stepN (v : List Nat) (k w : Nat) : List Nat :=
  [(t1N v k w + t2N v) % 4294967296, v.getD 0 0, v.getD 1 0, v.getD 2 0, (v.getD 3 0 + t1N v k w) % 4294967296, v.getD 4 0, v.getD 5 0, v.getD 6 0]
def roundsN (st ws : List Nat) : Nat → List Nat
  | 0 => st
  | i + 1 => stepN (roundsN st ws i) (keysN.getD i 0) (ws.getD i 0)
def sumN (a b : List Nat) (j : Nat) : Nat := (a.getD j 0 + b.getD j 0) % 4294967296
/-- The new state. -/
def compN (st : List Nat) (l : List Int) : List Nat := (List.range 8).map (sumN st (roundsN st (schedN l) 64))
theorem chN_lt (e f g : Nat) (hf : f < 4294967296) (hg : g < 4294967296) : chN e f g < 4294967296 := xor_lt _ _ (and_lt _ _ hf) (and_lt _ _ hg)
theorem majN_lt (a b c : Nat) (hb : b < 4294967296) (hc : c < 4294967296) : majN a b c < 4294967296 := xor_lt _ _ (xor_lt _ _ (and_lt _ _ hb) (and_lt _ _ hc)) (and_lt _ _ hc)
theorem stepN_all {v : List Nat} (hv : AllW v) (k w : Nat) : AllW (stepN v k w) := by
  intro x hx
  simp only [stepN, List.mem_cons, List.not_mem_nil, or_false] at hx
  rcases hx with rfl | rfl | rfl | rfl | rfl | rfl | rfl | rfl
  · exact Nat.mod_lt _ (by omega)
  · exact hv.get _
  · exact hv.get _
  · exact hv.get _
  · exact Nat.mod_lt _ (by omega)
  · exact hv.get _
  · exact hv.get _
  · exact hv.get _
theorem roundsN_all {st ws : List Nat} (hs : AllW st) (i : Nat) : AllW (roundsN st ws i) := by
  induction i with
  | zero => exact hs
  | succ i ih => exact stepN_all ih _ _
theorem roundsN_len {st ws : List Nat} (hs : st.length = 8) (i : Nat) : (roundsN st ws i).length = 8 := by
  cases i with
  | zero => exact hs
  | succ i => rfl
theorem eight {v : List Nat} (h : v.length = 8) : ∃ x0 x1 x2 x3 x4 x5 x6 x7, v = [x0, x1, x2, x3, x4, x5, x6, x7] := by
  match v, h with
  | [x0, x1, x2, x3, x4, x5, x6, x7], _ => exact ⟨x0, x1, x2, x3, x4, x5, x6, x7, rfl⟩

/-- What the compression keeps: the constants, the schedule, the state that came in, the state of the round. -/
structure CS (w0 : World) (gk gw : Nat) (A : Option Addr) (st : List Int) (c g : Nat) (v ws : List Nat) (w' : World) : Prop where
  keys : Nw w' gk keysN
  words : Nw w' gw ws
  came : Is w' A st
  cur : Nw w' g v
  old : Below w0.heap.size w0 w'
section
variable {w0 a b : World} {gk gw c g : Nat} {A : Option Addr} {st : List Int} {v ws : List Nat}
theorem CS.below (h : CS w0 gk gw A st c g v ws a) (hb : Below a.heap.size a b) : CS w0 gk gw A st c g v ws b :=
  ⟨h.keys.below hb, h.words.below hb, is_below h.came hb, h.cur.below hb, btr h.old hb⟩
theorem CS.drew (h : CS w0 gk gw A st c g v ws a) : CS w0 gk gw A st c g v ws a.drew := h.below (Below.refl _ _).drew
variable {x0 x1 x2 x3 x4 x5 x6 x7 i kk ww : Nat}
theorem CS.s (h : CS w0 gk gw A st c g [x0, x1, x2, x3, x4, x5, x6, x7] ws a) (hk : keysN.getD i 0 = kk) (hw : ws.getD i 0 = ww) (hi : i < 64 ∧ ws.length = 64) :
    a.cell? ⟨g, 0, none⟩ = some (.int .i64 (x0 : Nat)) ∧ a.cell? ⟨g, 1, none⟩ = some (.int .i64 (x1 : Nat)) ∧ a.cell? ⟨g, 2, none⟩ = some (.int .i64 (x2 : Nat)) ∧ a.cell? ⟨g, 3, none⟩ = some (.int .i64 (x3 : Nat)) ∧ a.cell? ⟨g, 4, none⟩ = some (.int .i64 (x4 : Nat)) ∧ a.cell? ⟨g, 5, none⟩ = some (.int .i64 (x5 : Nat)) ∧ a.cell? ⟨g, 6, none⟩ = some (.int .i64 (x6 : Nat)) ∧ a.cell? ⟨g, 7, none⟩ = some (.int .i64 (x7 : Nat)) ∧ a.cell? ⟨gk, i, none⟩ = some (.int .i64 (kk : Nat)) ∧ a.cell? ⟨gw, i, none⟩ = some (.int .i64 (ww : Nat)) ∧ CS w0 gk gw A st c g [x0, x1, x2, x3, x4, x5, x6, x7] ws a :=
  ⟨h.cur.2 0 (by simp), h.cur.2 1 (by simp), h.cur.2 2 (by simp), h.cur.2 3 (by simp), h.cur.2 4 (by simp), h.cur.2 5 (by simp), h.cur.2 6 (by simp), h.cur.2 7 (by simp), by rw [← hk]; exact h.keys.2 i (by rw [keysN_len]; exact hi.1), by rw [← hw]; exact h.words.2 i (by rw [hi.2]; exact hi.1), h⟩
theorem CS.of_s (h : a.cell? ⟨g, 0, none⟩ = some (.int .i64 (x0 : Nat)) ∧ a.cell? ⟨g, 1, none⟩ = some (.int .i64 (x1 : Nat)) ∧ a.cell? ⟨g, 2, none⟩ = some (.int .i64 (x2 : Nat)) ∧ a.cell? ⟨g, 3, none⟩ = some (.int .i64 (x3 : Nat)) ∧ a.cell? ⟨g, 4, none⟩ = some (.int .i64 (x4 : Nat)) ∧ a.cell? ⟨g, 5, none⟩ = some (.int .i64 (x5 : Nat)) ∧ a.cell? ⟨g, 6, none⟩ = some (.int .i64 (x6 : Nat)) ∧ a.cell? ⟨g, 7, none⟩ = some (.int .i64 (x7 : Nat)) ∧ a.cell? ⟨gk, i, none⟩ = some (.int .i64 (kk : Nat)) ∧ a.cell? ⟨gw, i, none⟩ = some (.int .i64 (ww : Nat)) ∧ CS w0 gk gw A st c g [x0, x1, x2, x3, x4, x5, x6, x7] ws a) :
    CS w0 gk gw A st c g [x0, x1, x2, x3, x4, x5, x6, x7] ws a := h.2.2.2.2.2.2.2.2.2.2
end
theorem NR.b {w : World} {v : Int} {e : Ending} {w' : World} (h : NR w v e w') : e = .returned (.int .i64 v) ∧ Below w.heap.size w w' := by
  obtain ⟨h1, k, rfl⟩ := h
  exact ⟨h1, below_drewN (Below.refl _ _) _⟩
theorem and_b (a b : Nat) (w : World) (ha : a < 4294967296) (hb : b < 4294967296) : Calls Tryz.prog 89 #[.int .i64 a, .int .i64 b] w fun e w' => e = .returned (.int .i64 ((a &&& b : Nat) : Int)) ∧ Below w.heap.size w w' :=
  (and_any a b w ha hb).mono fun _ _ h => ⟨h.1, by rw [← h.2]; exact Below.refl _ _⟩
theorem andnot_b (a b : Nat) (w : World) (ha : a < 4294967296) (hb : b < 4294967296) : Calls Tryz.prog 89 #[.int .i64 (4294967295 - (a : Int)), .int .i64 b] w fun e w' => e = .returned (.int .i64 (((4294967295 - a) &&& b : Nat) : Int)) ∧ Below w.heap.size w w' := by
  rw [show (4294967295 - (a : Int)) = ((4294967295 - a : Nat) : Int) from by omega]
  exact and_b _ b w (by omega) hb
/-- Words as the numbers of a slice. -/
def ci (ws : List Nat) : List Int := ws.map fun (x : Nat) => (x : Int)
theorem ci_len (ws : List Nat) : (ci ws).length = ws.length := by simp [ci]
theorem ci_map (ws : List Nat) : (ci ws).map (Value.int .i64) = ws.map wv := by simp [ci, wv]
theorem comp_own {w : World} {B : Nat} {e : TypeId} {v : Value} {st R : List Nat} {l : List Int} (h : w.ownsRow B e 1 v 8 (((List.range 8).map (sumN st R)).map wv)) (hR : compN st l = (List.range 8).map (sumN st R)) :
    w.ownsRow B e 1 v (compN st l).length ((compN st l).map wv) := by
  rw [hR]; exact h
set_option maxHeartbeats 1000000 in
theorem ints_any (A : Option Addr) (l : List Int) (c : Nat) (w : World) (hA : Is w A l) (hl : 0 < l.length) (hm : l.length ≤ 1000) :
    Calls Tryz.prog 87 #[.slice A l.length c] w fun e w' => ∃ v, e = .returned v ∧ w'.ownsRow w.heap.size 2 1 v l.length (l.map (Value.int .i64)) ∧ Below w.heap.size w w' := by
  rcases hA with rfl | ⟨b, off, rfl, hb, hA⟩
  · simp at hl
  obtain ⟨i0, hi, hzz⟩ := Option.map_eq_some_iff.1 infoI64
  simp only [Prod.mk.injEq] at hzz
  obtain ⟨hz0, hz1, hz2⟩ := hzz
  have hown : (w.alloc (.cells #[] 2)).ownsRow w.heap.size 2 1 (.slice (some ⟨w.heap.size, 0, none⟩) 0 0) 0 [] := World.ownsRow_lit w #[] 0 (Nat.le_refl _) (by unfold maxLen; omega) rfl
  have hcell : ∀ j u, (l.map (Value.int .i64))[j]? = some u → (w.alloc (.cells #[] 2)).cell? ((⟨b, off, none⟩ : Addr).add j) = some u := fun j u hu => by
    have hj : j < l.length := by
      rcases Nat.lt_or_ge j l.length with h | h
      · exact h
      · rw [List.getElem?_eq_none (by simpa using h)] at hu; cases hu
    have hadd : (⟨b, off, none⟩ : Addr).add j = ⟨b, off + j, none⟩ := by unfold Addr.add; split <;> simp_all
    rw [hadd, (Below.refl w.heap.size w |>.alloc (Nat.le_refl _) (.cells #[] 2)).cell (p := ⟨b, off + j, none⟩) hb, hA j hj, ← hu]
    simp [hj]
  have HO := hidH hown
  have HC := hidH hcell
  have hb2 := hidH (bal (Below.refl _ w) (.cells #[] 2))
  clear hown hcell hA
  go_enter Tryz.func87, Tryz.ntmps87
  go_wp2_with (at_builtin; refine wpList_append_own _ rfl _ _ 74 rfl w.heap.size 2 i0 (.int .i64 0) 1 8 Tryz.underlying74 hi hz0 hz1 hz2 rfl (by decide) _ _ _ rfl HO.out ⟨b, off, none⟩ l.length c (l.map (Value.int .i64)) rfl (by simp) HC.out ?c2 ?c3 ?c4 ?c5 ?_)
  case c2 => intro u hu; simp at hu; obtain ⟨x, _, rfl⟩ := hu; rfl
  case c3 => unfold maxLen; omega
  case c4 => omega
  case c5 => simp
  intro v' w2 hown' hgrow _
  have B2 := hidH (hb2.out.grown hgrow (by simp) (fun k hk => by simp [Value.ownBlock] at hk; omega))
  have O2 := hidH hown'
  clear hown' hgrow
  go_wp2
  go_ret
  exact ⟨_, rfl, by simpa using O2.out, B2.out⟩
theorem xor_b (a b : Nat) (w : World) (ha : a < 4294967296) (hb : b < 4294967296) : Calls Tryz.prog 88 #[.int .i64 a, .int .i64 b] w fun e w' => e = .returned (.int .i64 ((a ^^^ b : Nat) : Int)) ∧ Below w.heap.size w w' :=
  (xor_any a b w ha hb).mono fun _ _ h => h.b
theorem big2_b (x a b c : Nat) (w : World) (hx : x < 4294967296) (ha : a ≤ 31) (hb : b ≤ 31) (hc : c ≤ 31) : Calls Tryz.prog 91 #[.int .i64 x, .int .i64 a, .int .i64 b, .int .i64 c] w fun e w' => e = .returned (.int .i64 ((bigN x a b c : Nat) : Int)) ∧ Below w.heap.size w w' :=
  (big2_any x a b c w hx ha hb hc).mono fun _ _ h => h.b
set_option maxRecDepth 100000 in
set_option maxHeartbeats 4000000 in
theorem comp_any (A B : Option Addr) (st : List Nat) (l : List Int) (c d : Nat) (w : World) (hA : Is w A (ci st)) (hst : AllW st) (h8 : st.length = 8) (hB : Bs w B l) (hl : Bytes l) (h64 : l.length = 64) :
    Calls Tryz.prog 73 #[.slice A (ci st).length c, .slice B l.length d] w (WsRes w (compN st l)) := by
  have hcl : (ci st).length = 8 := by rw [ci_len, h8]
  have H64 := hidH h64
  have H8 := hidH h8
  have HCL := hidH hcl
  clear h64 h8 hcl
  go_enter Tryz.func73, Tryz.ntmps73
  go_wp2_with fail
  refine (keys_any _).mono ?_
  rintro e w1 ⟨rfl, K1, b1⟩
  go_wp2_with fail
  refine (sched_any _ _ _ _ (bs_below hB b1) hl H64.out).mono ?_
  rintro e w2 ⟨sv, rfl, so, b2⟩
  have sl : (schedN l).length = 64 := schedTo_len l 48
  obtain ⟨gw, cw, rfl, _, _, _, W2, _⟩ := Nw.of_own so (by omega)
  have K2 := K1.below b2
  have A2 := is_below (is_below hA b1) b2
  have b12 := btr b1 b2
  have SL := hidH sl
  clear so K1 b1 b2 sl hA hB
  go_wp2_with fail
  refine (ints_any _ _ _ _ A2 (by rw [HCL.out]; omega) (by rw [HCL.out]; omega)).mono ?_
  rintro e w3 ⟨vv, rfl, vo, b3⟩
  rw [ci_map, ci_len] at vo
  obtain ⟨g0, c0, rfl, hg0, _, _, V3, _⟩ := Nw.of_own vo (by rw [H8.out]; omega)
  have C3 : CS w w.heap.size gw A (ci st) c g0 (roundsN st (schedN l) 0) (schedN l) w3 := ⟨K2.below b3, W2.below b3, is_below A2 b3, V3, btr b12 b3⟩
  clear K2 W2 A2 V3 b12 vo b3
  rw [H8.out]
  go_wp2_with fail
  go_loopw [7, 8] (fun v i wr => ∃ k g cp : Nat, k ≤ 64 ∧ i = .int .i64 k ∧ v = .slice (some ⟨g, 0, none⟩) 8 cp ∧ CS w w.heap.size gw A (ci st) c g (roundsN st (schedN l) k) (schedN l) wr) (fun _ i _ => 64 - (intOf i).toNat)
  case atStart => exact ⟨0, g0, c0, by omega, rfl, rfl, C3⟩
  case round =>
    obtain ⟨i, g, cp, hk, rfl, rfl, hC⟩ := hrel
    clear C3 hg0
    by_cases hlt : i < 64
    · have hi0 : (0 : Int) ≤ (i : Int) := by omega
      have hi1 : (i : Int) < 64 := by omega
      have hi64 : i < 64 ∧ (schedN l).length = 64 := ⟨hlt, SL.out⟩
      have HI := hidH hi64
      have hv8 := roundsN_len (ws := schedN l) H8.out i
      have hva := roundsN_all (ws := schedN l) hst i
      have hnext : roundsN st (schedN l) (i + 1) = stepN (roundsN st (schedN l) i) (keysN.getD i 0) ((schedN l).getD i 0) := rfl
      obtain ⟨kk, hkk⟩ : ∃ kk, keysN.getD i 0 = kk := ⟨_, rfl⟩
      obtain ⟨ww, hww⟩ : ∃ ww, (schedN l).getD i 0 = ww := ⟨_, rfl⟩
      have k1 : kk < 4294967296 := by rw [← hkk]; exact keysN_all.get i
      have u1 : ww < 4294967296 := by rw [← hww]; exact (schedTo_all hl 48).get i
      obtain ⟨x0, x1, x2, x3, x4, x5, x6, x7, hx⟩ := eight hv8
      rw [hx] at hva hC hnext
      rw [hkk, hww] at hnext
      have HN := hidH hnext
      have HK := hidH hkk
      have HW := hidH hww
      have y0 : x0 < 4294967296 := hva x0 (by simp)
      have y1 : x1 < 4294967296 := hva x1 (by simp)
      have y2 : x2 < 4294967296 := hva x2 (by simp)
      have y3 : x3 < 4294967296 := hva x3 (by simp)
      have y4 : x4 < 4294967296 := hva x4 (by simp)
      have y5 : x5 < 4294967296 := hva x5 (by simp)
      have y6 : x6 < 4294967296 := hva x6 (by simp)
      have y7 : x7 < 4294967296 := hva x7 (by simp)
      have z1 := and_lt x4 x5 y5
      have z2 := and_lt (4294967295 - x4) x6 y6
      clear hnext hkk hww hx hv8 hva hi64 hlt
      have n4 : IntKind.i64.wrap (4294967295 - (x4 : Int)) = 4294967295 - (x4 : Int) := IntWalk.i64_in _ (by omega)
      go_wp2_with fail
      go_region_held3 (fun w' => (w'.cell? ⟨g, 0, none⟩ = some (.int .i64 (x0 : Nat)) ∧ w'.cell? ⟨g, 1, none⟩ = some (.int .i64 (x1 : Nat)) ∧ w'.cell? ⟨g, 2, none⟩ = some (.int .i64 (x2 : Nat)) ∧ w'.cell? ⟨g, 3, none⟩ = some (.int .i64 (x3 : Nat)) ∧ w'.cell? ⟨g, 4, none⟩ = some (.int .i64 (x4 : Nat)) ∧ w'.cell? ⟨g, 5, none⟩ = some (.int .i64 (x5 : Nat)) ∧ w'.cell? ⟨g, 6, none⟩ = some (.int .i64 (x6 : Nat)) ∧ w'.cell? ⟨g, 7, none⟩ = some (.int .i64 (x7 : Nat)) ∧ w'.cell? ⟨w.heap.size, i, none⟩ = some (.int .i64 (kk : Nat)) ∧ w'.cell? ⟨gw, i, none⟩ = some (.int .i64 (ww : Nat)) ∧ CS w w.heap.size gw A (ci st) c g [x0, x1, x2, x3, x4, x5, x6, x7] (schedN l) w')) (first | assumption | exact CS.s (CS.drew (by assumption)) HK.out HW.out HI.out | exact CS.s ((CS.of_s (by assumption)).below (by assumption)) HK.out HW.out HI.out | exact CS.s ((CS.of_s (by assumption)).below (bal (Below.refl _ _) _)) HK.out HW.out HI.out | exact CS.s (CS.of_s (by assumption)).drew HK.out HW.out HI.out)
        (first | (go_at_call 89; first | ((with_reducible refine (and_b x4 x5 _ y4 y5).mono ?_); rintro e w' ⟨rfl, hb⟩) | ((with_reducible refine (andnot_b x4 x6 _ y4 y6).mono ?_); rintro e w' ⟨rfl, hb⟩)) | (go_at_call 88; ((with_reducible refine (xor_b (x4 &&& x5) ((4294967295 - x4) &&& x6) _ z1 z2).mono ?_); rintro e w' ⟨rfl, hb⟩)))
      rename_i hHeld
      have C7 := CS.of_s hHeld
      have z3 := xor_lt _ _ z1 z2
      generalize hch : (x4 &&& x5) ^^^ ((4294967295 - x4) &&& x6) = ch at *
      have HCH := hidH hch
      have z4 := and_lt x0 x1 y1
      have z5 := and_lt x0 x2 y2
      have z6 := and_lt x1 x2 y2
      have z7 := xor_lt _ _ z4 z5
      clear hHeld hC hch n4 z1 z2
      go_wp2_with fail
      go_region_held3 (fun w' => (w'.cell? ⟨g, 0, none⟩ = some (.int .i64 (x0 : Nat)) ∧ w'.cell? ⟨g, 1, none⟩ = some (.int .i64 (x1 : Nat)) ∧ w'.cell? ⟨g, 2, none⟩ = some (.int .i64 (x2 : Nat)) ∧ w'.cell? ⟨g, 3, none⟩ = some (.int .i64 (x3 : Nat)) ∧ w'.cell? ⟨g, 4, none⟩ = some (.int .i64 (x4 : Nat)) ∧ w'.cell? ⟨g, 5, none⟩ = some (.int .i64 (x5 : Nat)) ∧ w'.cell? ⟨g, 6, none⟩ = some (.int .i64 (x6 : Nat)) ∧ w'.cell? ⟨g, 7, none⟩ = some (.int .i64 (x7 : Nat)) ∧ w'.cell? ⟨w.heap.size, i, none⟩ = some (.int .i64 (kk : Nat)) ∧ w'.cell? ⟨gw, i, none⟩ = some (.int .i64 (ww : Nat)) ∧ CS w w.heap.size gw A (ci st) c g [x0, x1, x2, x3, x4, x5, x6, x7] (schedN l) w')) (first | assumption | exact CS.s (CS.drew (by assumption)) HK.out HW.out HI.out | exact CS.s ((CS.of_s (by assumption)).below (by assumption)) HK.out HW.out HI.out | exact CS.s ((CS.of_s (by assumption)).below (bal (Below.refl _ _) _)) HK.out HW.out HI.out | exact CS.s (CS.of_s (by assumption)).drew HK.out HW.out HI.out)
        (first | (go_at_call 89; first | ((with_reducible refine (and_b x0 x1 _ y0 y1).mono ?_); rintro e w' ⟨rfl, hb⟩) | ((with_reducible refine (and_b x0 x2 _ y0 y2).mono ?_); rintro e w' ⟨rfl, hb⟩) | ((with_reducible refine (and_b x1 x2 _ y1 y2).mono ?_); rintro e w' ⟨rfl, hb⟩)) | (go_at_call 88; first | ((with_reducible refine (xor_b (x0 &&& x1) (x0 &&& x2) _ z4 z5).mono ?_); rintro e w' ⟨rfl, hb⟩) | ((with_reducible refine (xor_b ((x0 &&& x1) ^^^ (x0 &&& x2)) (x1 &&& x2) _ z7 z6).mono ?_); rintro e w' ⟨rfl, hb⟩)))
      rename_i hHeld
      have C8 := CS.of_s hHeld
      have z8 := xor_lt _ _ z7 z6
      generalize hmj : ((x0 &&& x1) ^^^ (x0 &&& x2)) ^^^ (x1 &&& x2) = mj at *
      have HMJ := hidH hmj
      have q1 := bigN_lt x4 6 11 25 y4 (by omega) (by omega) (by omega)
      have hi2 : (i : Int) < ((schedN l).length : Int) := by rw [SL.out]; omega
      clear hHeld C7 hmj z4 z5 z6 z7
      go_wp2_with fail
      go_region_held3 (fun w' => (w'.cell? ⟨g, 0, none⟩ = some (.int .i64 (x0 : Nat)) ∧ w'.cell? ⟨g, 1, none⟩ = some (.int .i64 (x1 : Nat)) ∧ w'.cell? ⟨g, 2, none⟩ = some (.int .i64 (x2 : Nat)) ∧ w'.cell? ⟨g, 3, none⟩ = some (.int .i64 (x3 : Nat)) ∧ w'.cell? ⟨g, 4, none⟩ = some (.int .i64 (x4 : Nat)) ∧ w'.cell? ⟨g, 5, none⟩ = some (.int .i64 (x5 : Nat)) ∧ w'.cell? ⟨g, 6, none⟩ = some (.int .i64 (x6 : Nat)) ∧ w'.cell? ⟨g, 7, none⟩ = some (.int .i64 (x7 : Nat)) ∧ w'.cell? ⟨w.heap.size, i, none⟩ = some (.int .i64 (kk : Nat)) ∧ w'.cell? ⟨gw, i, none⟩ = some (.int .i64 (ww : Nat)) ∧ CS w w.heap.size gw A (ci st) c g [x0, x1, x2, x3, x4, x5, x6, x7] (schedN l) w')) (first | assumption | exact CS.s (CS.drew (by assumption)) HK.out HW.out HI.out | exact CS.s ((CS.of_s (by assumption)).below (by assumption)) HK.out HW.out HI.out | exact CS.s ((CS.of_s (by assumption)).below (bal (Below.refl _ _) _)) HK.out HW.out HI.out | exact CS.s (CS.of_s (by assumption)).drew HK.out HW.out HI.out)
        (first | (go_at_call 91; refine (big2_b x4 6 11 25 _ y4 (by omega) (by omega) (by omega)).mono ?_; rintro e w' ⟨rfl, hb⟩) | (go_at_call 90; refine (l1Add_any _ _ _ (by omega) (by omega) (by omega) (by omega)).mono ?_; rintro e w' ⟨rfl, rfl⟩))
      rename_i hHeld
      have C9 := CS.of_s hHeld
      have ht1 : ((x7 : Int) + (bigN x4 6 11 25 : Nat) + (ch : Int) + ((kk : Int) + (ww : Int))) % 4294967296 = ((t1N [x0, x1, x2, x3, x4, x5, x6, x7] kk ww : Nat) : Int) := by
        show _ = (((x7 + bigN x4 6 11 25 + chN x4 x5 x6 + (kk + ww)) % 4294967296 : Nat) : Int)
        rw [show chN x4 x5 x6 = ch from HCH.out]; omega
      rw [ht1]
      have l1 : t1N [x0, x1, x2, x3, x4, x5, x6, x7] kk ww < 4294967296 := Nat.mod_lt _ (by omega)
      generalize hT1 : t1N [x0, x1, x2, x3, x4, x5, x6, x7] kk ww = t1 at *
      have HT1 := hidH hT1
      have q2 := bigN_lt x0 2 13 22 y0 (by omega) (by omega) (by omega)
      obtain ⟨p0, p1, p2, p3, p4, p5, p6, p7, _⟩ := hHeld
      clear C8 ht1 hT1 q1
      go_wp2_with (first | (go_at_call 91; refine (big2_any x0 2 13 22 _ y0 (by omega) (by omega) (by omega)).mono ?_; rintro e w' ⟨rfl, nb, rfl⟩) | (go_at_call 90; refine (l1Add_any _ _ _ (by omega) (by omega) (by omega) (by omega)).mono ?_; rintro e w' ⟨rfl, rfl⟩))
      have C10 := C9.below (below_drewN (Below.refl _ _) nb)
      have ht2 : (((bigN x0 2 13 22 : Nat) : Int) + (mj : Int)) % 4294967296 = ((t2N [x0, x1, x2, x3, x4, x5, x6, x7] : Nat) : Int) := by
        show _ = (((bigN x0 2 13 22 + majN x0 x1 x2) % 4294967296 : Nat) : Int)
        rw [show majN x0 x1 x2 = mj from HMJ.out]; omega
      rw [ht2]
      have l2 : t2N [x0, x1, x2, x3, x4, x5, x6, x7] < 4294967296 := Nat.mod_lt _ (by omega)
      generalize hT2 : t2N [x0, x1, x2, x3, x4, x5, x6, x7] = t2 at *
      have HT2 := hidH hT2
      clear C9 ht2 hT2 q2 p0 p1 p2 p3 p4 p5 p6 p7
      go_region_held3 (fun w' => (w'.cell? ⟨g, 0, none⟩ = some (.int .i64 (x0 : Nat)) ∧ w'.cell? ⟨g, 1, none⟩ = some (.int .i64 (x1 : Nat)) ∧ w'.cell? ⟨g, 2, none⟩ = some (.int .i64 (x2 : Nat)) ∧ w'.cell? ⟨g, 3, none⟩ = some (.int .i64 (x3 : Nat)) ∧ w'.cell? ⟨g, 4, none⟩ = some (.int .i64 (x4 : Nat)) ∧ w'.cell? ⟨g, 5, none⟩ = some (.int .i64 (x5 : Nat)) ∧ w'.cell? ⟨g, 6, none⟩ = some (.int .i64 (x6 : Nat)) ∧ w'.cell? ⟨g, 7, none⟩ = some (.int .i64 (x7 : Nat)) ∧ w'.cell? ⟨w.heap.size, i, none⟩ = some (.int .i64 (kk : Nat)) ∧ w'.cell? ⟨gw, i, none⟩ = some (.int .i64 (ww : Nat)) ∧ CS w w.heap.size gw A (ci st) c g [x0, x1, x2, x3, x4, x5, x6, x7] (schedN l) w')) (first | assumption | exact CS.s (CS.drew (by assumption)) HK.out HW.out HI.out | exact CS.s ((CS.of_s (by assumption)).below (by assumption)) HK.out HW.out HI.out | exact CS.s ((CS.of_s (by assumption)).below (bal (Below.refl _ _) _)) HK.out HW.out HI.out | exact CS.s (CS.of_s (by assumption)).drew HK.out HW.out HI.out)
        (first | (go_at_call 90; refine (l1Add_any _ _ _ (by omega) (by omega) (by omega) (by omega)).mono ?_; rintro e w' ⟨rfl, rfl⟩))
      rename_i hHeld
      have n1 : ((t1 : Int) + (t2 : Int)) % 4294967296 = (((t1 + t2) % 4294967296 : Nat) : Int) := by omega
      have n2 : ((x3 : Int) + (t1 : Int)) % 4294967296 = (((x3 + t1) % 4294967296 : Nat) : Int) := by omega
      rw [n1, n2] at hHeld
      rw [n1, n2]
      have C11 := CS.of_s hHeld
      have CN : CS w w.heap.size gw A (ci st) c w'.heap.size [(t1 + t2) % 4294967296, x0, x1, x2, (x3 + t1) % 4294967296, x4, x5, x6] (schedN l) _ := ⟨C11.keys, C11.words, C11.came, Nw.of_blk (t := 2) (Blk.new _ _ _), C11.old⟩
      have hst2 : roundsN st (schedN l) (i + 1) = [(t1 + t2) % 4294967296, x0, x1, x2, (x3 + t1) % 4294967296, x4, x5, x6] := by
        rw [HN.out]
        show [(t1N [x0, x1, x2, x3, x4, x5, x6, x7] kk ww + t2N [x0, x1, x2, x3, x4, x5, x6, x7]) % 4294967296, x0, x1, x2, (x3 + t1N [x0, x1, x2, x3, x4, x5, x6, x7] kk ww) % 4294967296, x4, x5, x6] = _
        rw [HT1.out, HT2.out]
      have HS2 := hidH hst2
      clear hHeld C10 C11 n1 n2 hst2
      generalize (t1 + t2) % 4294967296 = m1 at *
      generalize (x3 + t1) % 4294967296 = m2 at *
      go_wp2
      go_roundw
      case rel => first | exact ⟨i + 1, _, 8, by omega, by go_num, rfl, by rw [HS2.out]; exact CN⟩ | ((repeat apply Exists.intro); exact ⟨⟨i + 1, _, 8, by omega, by go_num, rfl, by rw [HS2.out]; exact CN⟩, rfl⟩)
      case measure => simp [intOf]; omega
    · obtain rfl : i = 64 := by omega
      have CC := hidH hC
      clear hC hlt hk
      rw [show ((64 : Nat) : Int) = 64 from rfl]
      go_wp2_with fail
      obtain ⟨i0, hi, hzz⟩ := Option.map_eq_some_iff.1 infoI64
      simp only [Prod.mk.injEq] at hzz
      obtain ⟨hz0, hz1, hz2⟩ := hzz
      obtain ⟨wo, rfl⟩ : ∃ wo : World, wo = wr := ⟨_, rfl⟩
      have hgz : w.heap.size ≤ wo.heap.size := CC.out.old.size
      have hr8 := roundsN_len (ws := schedN l) H8.out 64
      have hra := roundsN_all (ws := schedN l) hst 64
      obtain ⟨R, hR⟩ : ∃ R, roundsN st (schedN l) 64 = R := ⟨_, rfl⟩
      rw [hR] at hra hr8
      have C0 : CS w w.heap.size gw A (ci st) c g R (schedN l) wo := by rw [← hR]; exact CC.out
      have HR := hidH hr8
      have HRR := hidH hR
      have HC0 := hidH C0
      clear hR hr8 C0
      go_loopw [13, 14] (fun o j wq => ∃ k : Nat, k ≤ 8 ∧ j = .int .i64 k ∧ wq.ownsRow wo.heap.size 2 1 o k (((List.range k).map (sumN st R)).map wv) ∧ Below wo.heap.size wo wq) (fun _ j _ => 8 - (intOf j).toNat)
      case atStart => exact ⟨0, by omega, rfl, World.ownsRow_lit wo #[] 0 (Nat.le_refl _) (by unfold maxLen; omega) rfl, bal (Below.refl _ _) _⟩
      case round =>
        obtain ⟨k, hk, rfl, hown, hB⟩ := hrel
        have hsz := hB.size
        by_cases hlt : k < 8
        · have hC := HC0.out.below hB
          have hk0 : (0 : Int) ≤ (k : Int) := by omega
          have hk1 : (k : Int) < 8 := by omega
          have hk2 : (k : Int) < ((ci st).length : Int) := by rw [HCL.out]; omega
          obtain ⟨b, off, rfl, hbl, hcc⟩ : ∃ b off, A = some ⟨b, off, none⟩ ∧ b < wr.heap.size ∧ ∀ j, j < (ci st).length → wr.cell? ⟨b, off + j, none⟩ = some (.int .i64 ((ci st).getD j 0)) := by
            rcases hC.came with h | h
            · have := HCL.out; rw [h] at this; simp at this
            · exact h
          have c1 := hcc k (by omega)
          have hce : (ci st).getD k 0 = ((st.getD k 0 : Nat) : Int) := by
            have : k < st.length := by rw [H8.out]; exact hlt
            simp [ci, this]
          rw [hce] at c1
          have c2 := hC.cur.2 k (by rw [HR.out]; exact hlt)
          have s1 := hst.get k
          have s2 := hra.get k
          have hsum : ((sumN st R k : Nat) : Int) = (((st.getD k 0 : Nat) : Int) + ((R.getD k 0 : Nat) : Int)) % 4294967296 := by unfold sumN; omega
          generalize st.getD k 0 = a1 at *
          generalize R.getD k 0 = a2 at *
          have HSUM := hidH hsum
          clear hsum hce hcc hC
          go_wp2_with fail
          go_region_law (first
            | (refine step_append_lies _ (by rfl) _ _ _ (by rfl) wo.heap.size 2 i0 _ 1 8 Tryz.underlying74 hi hz0 hz1 hz2 rfl (by omega) _ k _ (by rfl) (by exact World.ownsRow.alloc (by exact hown) _) ⟨wr.heap.size, 0, none⟩ 1 1 [wv (sumN st R k)] (by rfl) (by rfl) (by rw [wv, HSUM.out]; exact World.news_of_block (cs := #[.int .i64 (((a1 : Int) + (a2 : Int)) % 4294967296)]) (t := 2) (fr := (0, 0)) (by exact heap_alloc_new _ _)) (by simp [Value.oneCell', wv]) (by omega) (by unfold maxLen; omega) (by omega) (by simp; omega) (wr.heap.size + 1) (by simp) ?_; intro gg cp2 w9 hown9 hgrow9 hat9 hlt9)
            | (go_simp; go_at_call 90; refine (l1Add_any _ _ _ (by omega) (by omega) (by omega) (by omega)).mono ?_; rintro e w' ⟨rfl, rfl⟩))
          all_goals
            have B2 := hidH (own_grow (m := 1) hB hown hgrow9)
            have O2 := hidH hown9
            clear hown hown9 hgrow9 hat9 hlt9 hB c1 c2
            go_wp2
            go_roundw
            case rel => first | exact ⟨k + 1, by omega, by go_num, by have := O2.out; simpa [List.range_succ] using this, B2.out⟩ | ((repeat apply Exists.intro); exact ⟨⟨k + 1, by omega, by go_num, by have := O2.out; simpa [List.range_succ] using this, B2.out⟩, rfl⟩)
            case measure => simp [intOf]; omega
        · obtain rfl : k = 8 := by omega
          have O1 := comp_own (l := l) hown (by rw [compN, HRR.out])
          have O2 := hidH (own_mono O1 hgz)
          have B2 := hidH (btr HC0.out.old hB)
          clear hown hB O1 hlt hk
          go_wp2
          go_ret
          exact ⟨_, rfl, O2.out, B2.out⟩
end Go.Proofs.YtncnibkojneejaaGreatDoor
