/- The model's digest: l2Sha, Sha256. -/
import Derived.Test.YtanffpmpknmldaaWordsRes
namespace Go.Proofs.Ytanffpmpknmldaa
open Go.RowKit Go.Deep

def startN : List Nat := [1779033703, 3144134277, 1013904242, 2773480762, 1359893119, 2600822924, 528734635, 1541459225]
theorem startN_all : AllW startN := by
  have : ∀ y ∈ startN, y < 4294967296 := by decide
  exact this
def blk (p : List Int) (a : Nat) : List Int := (p.drop a).take 64
/-- The state behind k blocks. -/
def shaTo (p : List Int) : Nat → List Nat
  | 0 => startN
  | k + 1 => compN (shaTo p k) (blk p (64 * k))
theorem shaTo_len (p : List Int) (k : Nat) : (shaTo p k).length = 8 := by
  cases k with
  | zero => rfl
  | succ k => simp [shaTo, compN]
theorem compN_all (st : List Nat) (l : List Int) : AllW (compN st l) := by
  intro x hx
  simp [compN] at hx
  obtain ⟨j, _, rfl⟩ := hx
  exact Nat.mod_lt _ (by omega)
theorem shaTo_all (p : List Int) (k : Nat) : AllW (shaTo p k) := by
  cases k with
  | zero => exact startN_all
  | succ k => exact compN_all _ _
def wordsL (st : List Nat) (k : Nat) : List Int := ((st.take k).map fun (x : Nat) => pk (x : Int)).flatten
/-- The digest. -/
def shaL (l : List Int) : List Int := wordsL (shaTo (padL l) ((padL l).length / 64)) 8
theorem wordsL_succ (st : List Nat) (k : Nat) (hk : k < st.length) : wordsL st (k + 1) = wordsL st k ++ pk ((st.getD k 0 : Nat) : Int) := by
  unfold wordsL
  rw [List.take_succ_eq_append_getElem hk, List.map_append, List.flatten_append]
  simp [List.getD_eq_getElem?_getD, hk]
theorem wordsL_len (st : List Nat) (k : Nat) (hk : k ≤ st.length) : (wordsL st k).length = 4 * k := by
  induction k with
  | zero => simp [wordsL]
  | succ k ih => rw [wordsL_succ st k (by omega), List.length_append, ih (by omega)]; simp [pk]; omega
theorem padL_mod (l : List Int) : (padL l).length % 64 = 0 := by rw [padL_len]; unfold zerosN; omega
theorem pk_bytes' {a : Int} (h0 : 0 ≤ a) (h1 : a ≤ 4294967295) : Bytes (pk a) := by
  intro x hx
  simp [pk] at hx
  rcases hx with rfl | rfl | rfl | rfl <;> omega
theorem padL_bytes {l : List Int} (h : Bytes l) (hl : l.length ≤ 50000) : Bytes (padL l) := by
  intro x hx
  simp only [padL, padTo, List.mem_append, List.mem_cons, List.mem_replicate, List.not_mem_nil, or_false] at hx
  rcases hx with ((hx | rfl | ⟨_, rfl⟩) | rfl | rfl | rfl | rfl) | hx
  · exact h x hx
  · omega
  · omega
  · omega
  · omega
  · omega
  · omega
  · exact pk_bytes' (by omega) (by omega) x hx
theorem blk_len {p : List Int} {a : Nat} (h : a + 64 ≤ p.length) : (blk p a).length = 64 := by simp [blk]; omega
theorem blk_bytes {p : List Int} (h : Bytes p) (a : Nat) : Bytes (blk p a) := fun x hx => h x (List.mem_of_mem_drop (List.mem_of_mem_take hx))
theorem blk_bs {w : World} {b off : Nat} {p : List Int} (h : Bs w (some ⟨b, off, none⟩) p) {a : Nat} (ha : a + 64 ≤ p.length) : Bs w (some ⟨b, off + a, none⟩) (blk p a) := by
  rcases h with rfl | ⟨b', off', h1, h2, h3⟩
  · simp at ha
  · injection h1 with h1
    injection h1 with h1 h4
    subst h1 h4
    refine .inr ⟨b, off + a, rfl, h2, fun j hj => ?_⟩
    rw [blk_len ha] at hj
    have h5 := h3 (a + j) (by omega)
    rw [Nat.add_assoc, h5]
    congr 2
    simp [blk, List.getD_eq_getElem?_getD, List.getElem?_take_of_lt hj, List.getElem?_drop]
set_option maxHeartbeats 1000000 in
theorem start_any (w : World) : Calls Try.prog 61 #[] w fun e w' => e = .returned (.slice (some ⟨w.heap.size, 0, none⟩) 8 8) ∧ Nw w' w.heap.size startN ∧ Below w.heap.size w w' := by
  go_enter Try.func61, Try.ntmps61
  go_wp2
  go_ret
  exact ⟨rfl, Nw.of_blk (t := 2) (Blk.new w _ _), bal (Below.refl _ _) _⟩
theorem Nw.is {w : World} {g : Nat} {ws : List Nat} (h : Nw w g ws) : Is w (some ⟨g, 0, none⟩) (ci ws) := .inr ⟨g, 0, rfl, h.1, fun j hj => by
  rw [ci_len] at hj
  rw [Nat.zero_add, h.2 j hj]; simp [ci, hj]⟩
set_option maxRecDepth 100000 in
set_option maxHeartbeats 4000000 in
theorem sha_any (A : Option Addr) (l : List Int) (c : Nat) (w : World) (hA : Bs w A l) (hl : Bytes l) (hm : l.length ≤ 50000) :
    Calls Try.prog 51 #[.slice A l.length c] w (OwnB w (shaL l)) := by
  go_enter Try.func51, Try.ntmps51
  go_wp2_with fail
  refine (pad_any _ _ _ _ hA hm).mono ?_
  rintro e w1 ⟨pv, rfl, o1, b1⟩
  obtain ⟨P, pc, rfl, ob, hpc, hpm⟩ := own_ob o1
  have P1 := ob.bs
  have hpb := padL_bytes hl hm
  have hp64 := padL_mod l
  have hpl : (padL l).length ≤ 60000 := by rw [padL_len]; unfold zerosN; omega
  have hp0 : 0 < (padL l).length := by rw [padL_len]; omega
  have hsha : shaL l = wordsL (shaTo (padL l) ((padL l).length / 64)) 8 := rfl
  generalize padL l = p at *
  have HSHA := hidH hsha
  have H64 := hidH hp64
  clear o1 ob hA hsha hp64
  go_wp2_with fail
  refine (start_any _).mono ?_
  rintro e w2 ⟨rfl, N2, b2⟩
  have P2 := bs_below P1 b2
  have B2 := btr b1 b2
  clear b1 b2 P1
  go_wp2_with fail
  go_loopw [4, 5] (fun v i wr => ∃ (k a c4 : Nat) (A4 : Option Addr), i = .int .i64 a ∧ a = 64 * k ∧ a ≤ p.length ∧ v = .slice A4 (ci (shaTo p k)).length c4 ∧ Is wr A4 (ci (shaTo p k)) ∧ Bs wr P p ∧ Below w.heap.size w wr) (fun _ i _ => p.length - (intOf i).toNat)
  case atStart => exact ⟨0, 0, 8, some ⟨w1.heap.size, 0, none⟩, rfl, rfl, Nat.zero_le _, rfl, N2.is, P2, B2⟩
  case round =>
    obtain ⟨k, a, c4, A4, rfl, hak, hap, rfl, hI, hP, hB⟩ := hrel
    have HAK := hidH hak
    clear hak N2 P2 B2
    by_cases hlt : a < p.length
    · have ha64 : a + 64 ≤ p.length := by have h1 := H64.out; have h2 := HAK.out; omega
      have hi0 : (0 : Int) ≤ (a : Int) := by omega
      have hi1 : (a : Int) < (p.length : Int) := by omega
      have hi2 : (a : Int) + 64 ≤ (pc : Int) := by omega
      have hi3 : (a : Int) ≤ (a : Int) + 64 := by omega
      obtain ⟨b, off, rfl⟩ : ∃ b off, P = some ⟨b, off, none⟩ := by
        rcases hP with h | ⟨b, off, h, _⟩
        · rw [h] at hp0; simp at hp0
        · exact ⟨b, off, h⟩
      have Q := blk_bs hP ha64
      have ql := blk_len (p := p) ha64
      have qb := blk_bytes hpb a
      have hne : ¬ pc = a := by omega
      have hs8 := shaTo_len p k
      have hsa := shaTo_all p k
      have hsn : shaTo p (k + 1) = compN (shaTo p k) (blk p a) := by rw [shaTo, HAK.out]
      have QL := hidH ql
      have HS8 := hidH hs8
      have HSN := hidH hsn
      have QH := hidH Q
      have IH := hidH hI
      clear Q ql hs8 hsn hI
      have CP : Calls Try.prog 62 #[.slice A4 (ci (shaTo p k)).length c4, .slice (some ⟨b, off + a, none⟩) 64 (pc - a)] wr (WsRes wr (shaTo p (k + 1))) := by
        have h := comp_any A4 (some ⟨b, off + a, none⟩) (shaTo p k) (blk p a) c4 (pc - a) wr IH.out hsa HS8.out QH.out qb QL.out
        rw [QL.out] at h
        rw [HSN.out]; exact h
      have CPH := hidH CP
      clear CP qb hsa
      go_wp2_with fail
      refine CPH.out.mono ?_
      rintro e w3 ⟨v3, rfl, o3, b3⟩
      obtain ⟨A5, c5, rfl, oi, _, _⟩ := own_oi o3
      have I5 := hidH oi.is
      have P5 := hidH (bs_below hP b3)
      have B5 := hidH (btr hB b3)
      clear o3 b3 oi hP hB
      go_wp2
      go_roundw
      case rel => first | exact ⟨k + 1, a + 64, c5, A5, by go_num, by have := HAK.out; omega, ha64, rfl, I5.out, P5.out, B5.out⟩ | ((repeat apply Exists.intro); exact ⟨⟨k + 1, a + 64, c5, A5, by go_num, by have := HAK.out; omega, ha64, rfl, I5.out, P5.out, B5.out⟩, rfl⟩)
      case measure => simp [intOf]; omega
    · have hae : a = p.length := by omega
      have hk : p.length / 64 = k := by have := HAK.out; omega
      have hge : (p.length : Int) ≤ (a : Int) := by omega
      have hd2 : decide (a < p.length) = false := by simp; omega
      have HKK := hidH hk
      have HB2 := hidH hB
      have st8 := shaTo_len p k
      have sta := shaTo_all p k
      obtain ⟨st, hst⟩ : ∃ st, shaTo p k = st := ⟨_, rfl⟩
      have I1 : Is wr A4 (ci st) := by rw [← hst]; exact hI
      rw [hst] at st8 sta
      have hcl : (ci (shaTo p k)).length = 8 := by rw [hst, ci_len, st8]
      have IH := hidH I1
      have ST8 := hidH st8
      have HST := hidH hst
      clear hae hk hI hP hB hst I1 st8 hlt
      rw [hcl]
      clear hcl
      go_wp2_with fail
      obtain ⟨wo, rfl⟩ : ∃ wo : World, wo = wr := ⟨_, rfl⟩
      go_loopw [6, 7] (fun o j wq => ∃ i : Nat, i ≤ 8 ∧ j = .int .i64 i ∧ wq.ownsRow wo.heap.size 5 1 o (wordsL st i).length ((wordsL st i).map (Value.int .u8)) ∧ Below wo.heap.size wo wq) (fun _ j _ => 8 - (intOf j).toNat)
      case atStart => exact ⟨0, by omega, rfl, World.ownsRow_lit wo #[] 0 (Nat.le_refl _) (by unfold maxLen; omega) rfl, bal (Below.refl _ _) _⟩
      case round =>
        obtain ⟨i, hi8, rfl, hown, hBq⟩ := hrel
        have hsz := hBq.size
        have WL := hidH (wordsL_len st i (by rw [ST8.out]; exact hi8))
        by_cases hlt : i < 8
        · have hi0 : (0 : Int) ≤ (i : Int) := by omega
          have hi1 : (i : Int) < 8 := by omega
          obtain ⟨b, off, rfl, _, hcc⟩ : ∃ b off, A4 = some ⟨b, off, none⟩ ∧ b < wr.heap.size ∧ ∀ j, j < (ci st).length → wr.cell? ⟨b, off + j, none⟩ = some (.int .i64 ((ci st).getD j 0)) := by
            rcases is_below IH.out hBq with h | h
            · have h1 := ST8.out; rw [← ci_len, h] at h1; simp at h1
            · exact h
          have c1 := hcc i (by rw [ci_len, ST8.out]; exact hlt)
          have hce : (ci st).getD i 0 = ((st.getD i 0 : Nat) : Int) := by
            have : i < st.length := by rw [ST8.out]; exact hlt
            simp [ci, this]
          rw [hce] at c1
          have x1 := sta.get i
          have hsucc := hidH (wordsL_succ st i (by rw [ST8.out]; exact hlt))
          obtain ⟨x, hx⟩ : ∃ x, st.getD i 0 = x := ⟨_, rfl⟩
          rw [hx] at c1 x1
          have HX := hidH hx
          have P5 := hidH (lit_bs wr 5 (pk (x : Int)))
          have OH := hidH hown
          clear hx hcc hce
          go_wp2_with (first | (go_at_call 63; refine (l1Pack_any _ _ (by omega) (by omega)).mono ?_; rintro e w' ⟨rfl, rfl⟩) | (at_builtin; refine wpList_append_bs rfl _ _ rfl wo.heap.size _ _ _ rfl (OH.out.alloc _) (some ⟨wr.heap.size, 0, none⟩) (pk (x : Int)) 4 rfl P5.out (by have := WL.out; simp [pk]; omega) (by simp; omega) ?_))
          intro v6 w6 o6 g6
          have B6 := hidH (own_grow (m := 0) hBq hown g6)
          have O6 := hidH o6
          clear g6 o6 hBq hown
          go_wp2
          go_roundw
          case rel => first | exact ⟨i + 1, by omega, by go_num, by rw [hsucc.out, HX.out]; simpa using O6.out, B6.out⟩ | ((repeat apply Exists.intro); exact ⟨⟨i + 1, by omega, by go_num, by rw [hsucc.out, HX.out]; simpa using O6.out, B6.out⟩, rfl⟩)
          case measure => simp [intOf]; omega
        · obtain rfl : i = 8 := by omega
          have O1 := own_mono hown HB2.out.size
          have O2 := hidH O1
          have B2 := hidH (btr HB2.out hBq)
          clear hown O1 hBq hlt hi8
          go_wp2
          go_ret
          exact ⟨_, rfl, by rw [HSHA.out, HKK.out, HST.out]; exact O2.out, B2.out⟩
end Go.Proofs.Ytanffpmpknmldaa
