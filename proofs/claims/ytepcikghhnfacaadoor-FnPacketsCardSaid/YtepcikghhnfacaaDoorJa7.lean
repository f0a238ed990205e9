import Derived.Test.YtepcikghhnfacaaDoorJa5
import Derived.Test.YtepcikghhnfacaaDoorJa6
import Derived.Test.YtepcikghhnfacaaDoorJa4
import Derived.Test.YtepcikghhnfacaaDoorJa3
import Derived.Lib.LazyBuf

/- The model's l4Pack and PackPacket. -/
namespace Go.Proofs.YtepcikghhnfacaaDoor
open Go.RowKit Go.Deep

theorem bytes_app0 {a b : List Int} (ha : Bytes a) (hb : Bytes b) : Bytes (a ++ b) := fun x hx => (List.mem_append.1 hx).elim (ha x) (hb x)
theorem pk_bytes0 {a : Int} (h0 : 0 ≤ a) (h1 : a ≤ 4294967295) : Bytes (pk a) := by
  intro x hx
  simp only [pk, List.mem_cons, List.not_mem_nil, or_false] at hx
  rcases hx with rfl | rfl | rfl | rfl <;> omega
theorem chkL_bytes {x : Chk} (h : chkOk x) (hb : Bytes x.body) : Bytes (chkL x) := by
  obtain ⟨⟨h1, h2⟩, ⟨h3, h4⟩, h5⟩ := h
  unfold chkL chL
  refine bytes_app0 (bytes_app0 ?_ hb) ?_
  · intro y hy
    simp only [List.mem_cons, List.not_mem_nil, or_false] at hy
    rcases hy with rfl | rfl | rfl | rfl <;> omega
  · intro y hy
    obtain ⟨_, rfl⟩ := List.mem_replicate.1 hy
    omega
theorem rawL_bytes {tag sum : Int} {cs : List Chk} (ht0 : 0 ≤ tag) (ht1 : tag ≤ 4294967295) (hs0 : 0 ≤ sum) (hs1 : sum ≤ 4294967295) (hc : ∀ x ∈ cs, chkOk x) (hb : ∀ x ∈ cs, Bytes x.body) : Bytes (rawL tag sum cs) := by
  unfold rawL rawTo
  rw [List.take_length]
  refine bytes_app0 (bytes_app0 (pk_bytes0 ht0 ht1) (pk_bytes0 hs0 hs1)) ?_
  intro y hy
  obtain ⟨x, hx, hy⟩ := List.mem_flatMap.1 hy
  exact chkL_bytes (hc x hx) (hb x hx) y hy
def sumOf (tag : Int) (cs : List Chk) : Int := ((crcV (nB (rawL tag 0 cs)) : Nat) : Int)
def pkL (tag : Int) (cs : List Chk) : List Int := rawL tag (sumOf tag cs) cs
theorem sumOf_word {tag : Int} {cs : List Chk} (ht0 : 0 ≤ tag) (ht1 : tag ≤ 4294967295) (hc : ∀ x ∈ cs, chkOk x) (hb : ∀ x ∈ cs, Bytes x.body) : 0 ≤ sumOf tag cs ∧ sumOf tag cs ≤ 4294967295 := by
  have := crcV_lt (nB_lt (rawL_bytes (sum := 0) ht0 ht1 (by omega) (by omega) hc hb))
  unfold sumOf
  omega
set_option maxHeartbeats 1000000 in
theorem l4Pack_any (g o : Nat) (tag : Int) (P : Option Addr) (cs : List Chk) (c : Nat) (w : World) (hP : PkB w g o tag P cs c) (ht0 : 0 ≤ tag) (ht1 : tag ≤ 4294967295) (hc : ∀ x ∈ cs, chkOk x) (hb : ∀ x ∈ cs, Bytes x.body) (hn : cs.length ≤ 20) :
    Calls Tryd.prog 31 #[.pointer (some ⟨g, o, none⟩)] w (OwnB w (pkL tag cs)) := by
  have HR0 := hidH (l4Raw_any g o tag 0 P cs c w hP ht0 ht1 (by omega) (by omega) hc hn)
  have hs := sumOf_word ht0 ht1 hc hb
  have HR1 := hidH (fun (u : World) (h : PkB u g o tag P cs c) => l4Raw_any g o tag (sumOf tag cs) P cs c u h ht0 ht1 hs.1 hs.2 hc hn)
  have HBY := hidH (rawL_bytes (sum := 0) ht0 ht1 (by omega) (by omega) hc hb)
  have HLEN := hidH (rawTo_len tag 0 cs hc cs.length (Nat.le_refl _))
  have HP := hidH hP
  have HS := hidH (show sumOf tag cs = ((crcV (nB (rawL tag 0 cs)) : Nat) : Int) from rfl)
  have HN := hidH hn
  obtain ⟨R, hR⟩ : ∃ R, rawL tag 0 cs = R := ⟨_, rfl⟩
  have HL2 := hidH (show R.length ≤ 8 + 168 * cs.length by rw [← hR]; exact HLEN.out)
  rw [hR] at HR0 HBY HS
  obtain ⟨S, hS⟩ : ∃ S, sumOf tag cs = S := ⟨_, rfl⟩
  have hpk : pkL tag cs = rawL tag S cs := by rw [pkL, hS]
  rw [hpk]
  rw [hS] at HR1 HS
  clear hP ht0 ht1 hc hb hs hR hS hn hpk HLEN
  go_enter Tryd.func31, Tryd.ntmps31
  go_wp2_with fail
  refine HR0.out.mono ?_
  rintro e w1 ⟨v, rfl, O1, b1⟩
  obtain ⟨A1, c1, rfl, ob1, _, _⟩ := own_ob O1
  have S1 := hidH ob1.bs
  have P1 := HP.out.below b1
  have HP1 := hidH P1
  have HB1 := hidH b1
  clear O1 ob1 P1 b1 HR0 HP
  go_wp2_with fail
  refine (crc_any A1 R c1 w1 S1.out HBY.out (by have := HL2.out; have := HN.out; omega)).mono ?_
  rintro e w2 ⟨rfl, m, rfl⟩
  rw [← HS.out]
  have bm := below_drewN (Below.refl w1.heap.size w1) m
  have HP2 := hidH (HP1.out.below bm)
  have HB2 := hidH (btr HB1.out bm)
  clear bm HP1 HB1 S1
  go_wp2_with fail
  refine (HR1.out _ HP2.out).mono ?_
  rintro e w3 ⟨v3, rfl, O3, b3⟩
  have HO3 := hidH (own_mono O3 HB2.out.size)
  have HB3 := hidH (btr HB2.out b3)
  clear O3 b3 HP2 HB2
  go_wp2
  go_ret
  exact ⟨v3, rfl, HO3.out, HB3.out⟩
def pkM (tag : Int) (cs : List Chk) : List Int := if pkF tag cs = 0 then pkL tag cs else []
theorem pkF_zero {tag : Int} {cs : List Chk} (h : pkF tag cs = 0) : (0 ≤ tag ∧ tag ≤ 4294967295) ∧ (1 ≤ cs.length ∧ cs.length ≤ 8) ∧ (∀ x ∈ cs, chkOk x) ∧ (rawL tag 0 cs).length ≤ 500 := by
  unfold pkF at h
  split at h
  · next h1 =>
    split at h
    · next h2 =>
      split at h
      · next h3 =>
        split at h
        · next h4 => exact ⟨by simpa [wB, inB] using h1, h2, firstF_ok h3, h4⟩
        · cases h
      · next h3 => exact absurd h h3
    · cases h
  · cases h
end Go.Proofs.YtepcikghhnfacaaDoor

/- The model's SameMac. -/
namespace Go.Proofs.YtepcikghhnfacaaDoor
open Go.RowKit Go.Deep

def sameM (a b : List Int) : Bool := a.length == 32 && a == b
theorem strOfNums_inj {a b : List Int} (ha : Bytes a) (hb : Bytes b) (h : strOfNums a = strOfNums b) : a = b := by
  have e : a.map (fun n => UInt8.ofNat n.toNat) = b.map (fun n => UInt8.ofNat n.toNat) := by
    rw [← strOfNums_data, ← strOfNums_data, h]
  have key : ∀ (l : List Int), Bytes l → (l.map (fun n => UInt8.ofNat n.toNat)).map (fun (u : UInt8) => (u.toNat : Int)) = l := by
    intro l hl
    rw [List.map_map]
    conv => rhs; rw [← List.map_id l]
    refine List.map_congr_left fun x hx => ?_
    have := hl x hx
    simp only [Function.comp, id, UInt8.toNat_ofNat']
    omega
  rw [← key a ha, ← key b hb, e]
end Go.Proofs.YtepcikghhnfacaaDoor

/- The model's ActionOf, SamePackets. -/
namespace Go.Proofs.YtepcikghhnfacaaDoor
open Go.RowKit Go.Deep

def actC (k : Int) : Int := if inB k 0 255 then 0 else 3
def actV (k : Int) : Int := if inB k 0 255 then k / 64 else 0
theorem str_eqb {x y : List Int} (hx : Bytes x) (hy : Bytes y) : ((strOfNums x).toList == (strOfNums y).toList) = decide (x = y) := by
  rw [ByteArray.toList_eq, ByteArray.toList_eq]
  by_cases e : x = y
  · subst e; simp
  · have : (strOfNums x).data.toList ≠ (strOfNums y).data.toList := fun h => e (strOfNums_inj hx hy (by
      cases hx : strOfNums x; cases hy : strOfNums y
      rw [hx, hy] at h
      simpa using h))
    rw [beq_eq_false_iff_ne.2 this, decide_eq_false e]
theorem chk_eq {x y : Chk} : x = y ↔ x.kind = y.kind ∧ x.flags = y.flags ∧ x.body = y.body := by
  cases x; cases y; simp
set_option maxRecDepth 100000 in
set_option maxHeartbeats 2000000 in
theorem same4_any (PA PB : Option Addr) (a b : List Chk) (ca cb : Nat) (w : World) (hA : Cs w PA a) (hB : Cs w PB b) (ba : ∀ x ∈ a, Bytes x.body) (bb : ∀ x ∈ b, Bytes x.body) (hm : (a.length : Int) ≤ 9223372036854775807) (_hm2 : (b.length : Int) ≤ 9223372036854775807) :
    Calls Tryd.prog 51 #[.slice PA a.length ca, .slice PB b.length cb] w fun e w' => ∃ r : Bool, e = .returned (.bool r) ∧ (r = true ↔ a = b) ∧ Below w.heap.size w w' := by
  by_cases hl : a.length = b.length
  · have hd : ((a.length : Int) != (b.length : Int)) = false := by rw [bne_eq_false_iff_eq]; omega
    have HA := hidH hA
    have HB := hidH hB
    have HBA := hidH ba
    have HBB := hidH bb
    have HL := hidH hl
    clear hA hB ba bb hl _hm2
    go_enter Tryd.func51, Tryd.ntmps51
    go_wp2
    go_loopw [5] (fun i wr => ∃ j : Nat, j ≤ a.length ∧ i = .int .i64 j ∧ (∀ t, t < j → a[t]? = b[t]?) ∧ Below w.heap.size w wr) (fun i _ => a.length - (intOf i).toNat)
    case atStart => exact ⟨0, by omega, rfl, fun t ht => by omega, Below.refl _ _⟩
    case round =>
      obtain ⟨j, hj, rfl, hEq, hBw⟩ := hrel
      by_cases hlt : j < a.length
      · have hj0 : (0 : Int) ≤ (j : Int) := by omega
        have hj1 : (j : Int) < (a.length : Int) := by omega
        have hlb : j < b.length := by have := HL.out; omega
        have hj2 : (j : Int) < (b.length : Int) := by omega
        obtain ⟨ga, oa, rfl, hga, hca⟩ : ∃ g o, PA = some ⟨g, o, none⟩ ∧ g < wr.heap.size ∧ ∀ j (hj : j < a.length), ∃ A c, CkB wr g (o + j * 3) a[j].kind a[j].flags A a[j].body c := by
          rcases HA.out.below hBw with h | h
          · rw [h] at hlt; simp at hlt
          · exact h
        obtain ⟨gb, ob, rfl, hgb, hcb⟩ : ∃ g o, PB = some ⟨g, o, none⟩ ∧ g < wr.heap.size ∧ ∀ j (hj : j < b.length), ∃ A c, CkB wr g (o + j * 3) b[j].kind b[j].flags A b[j].body c := by
          rcases HB.out.below hBw with h | h
          · rw [h] at hlb; simp at hlb
          · exact h
        obtain ⟨A, cA, CA⟩ := hca j hlt
        obtain ⟨B, cB, CB⟩ := hcb j hlb
        have c0 := CA.c0
        have c1 := CA.c1
        have c2 := CA.c2
        have d0 := CB.c0
        have d1 := CB.c1
        have d2 := CB.c2
        have HX := hidH (HBA.out _ (List.getElem_mem hlt))
        have HY := hidH (HBB.out _ (List.getElem_mem hlb))
        have h1 := fun n => conv_bs (wr.drewN n) A a[j].body cA (bs_below CA.body (below_drewN (Below.refl _ _) n))
        have h2 := fun n => conv_bs (wr.drewN n) B b[j].body cB (bs_below CB.body (below_drewN (Below.refl _ _) n))
        have HNE := hidH (fun (h : a[j] ≠ b[j]) => show ¬ (a = b) from fun e => h (by subst e; rfl))
        have HEQ := hidH (fun (h : a[j] = b[j]) => show (∀ t, t < j + 1 → a[t]? = b[t]?) from fun t ht => by
          by_cases e : t = j
          · subst e; rw [List.getElem?_eq_getElem hlt, List.getElem?_eq_getElem hlb, h]
          · exact hEq t (by omega))
        have HS := hidH (str_eqb HX.out HY.out)
        obtain ⟨x, hx⟩ : ∃ x, a[j] = x := ⟨_, rfl⟩
        obtain ⟨y, hy⟩ : ∃ y, b[j] = y := ⟨_, rfl⟩
        simp only [hx] at c0 c1 c2 h1 HX HNE HEQ HS
        simp only [hy] at d0 d1 d2 h2 HY HNE HEQ HS
        have HBW := hidH hBw
        clear hca hcb CA CB hEq hBw hx hy
        by_cases e1 : x.kind = y.kind
        · have f1 : (x.kind != y.kind) = false := by rw [bne_eq_false_iff_eq]; exact e1
          by_cases e2 : x.flags = y.flags
          · have f2 : (x.flags != y.flags) = false := by rw [bne_eq_false_iff_eq]; exact e2
            by_cases e3 : x.body = y.body
            · have HXY := hidH (chk_eq.2 ⟨e1, e2, e3⟩)
              have f3 : ((strOfNums x.body).toList == (strOfNums y.body).toList) = true := by rw [HS.out, decide_eq_true e3]
              clear e1 e2 e3
              go_wp2
              go_quiet (fail)
              go_wp2
              exact ⟨⟨j + 1, by omega, by go_num, HEQ.out HXY.out, below_drewN HBW.out _⟩, by simp [intOf]; omega⟩
            · have HXY := hidH (HNE.out (fun h => e3 (chk_eq.1 h).2.2))
              have f3 : ((strOfNums x.body).toList == (strOfNums y.body).toList) = false := by rw [HS.out, decide_eq_false e3]
              clear e1 e2 e3
              go_wp2
              go_quiet (fail)
              go_wp2
              go_ret
              exact ⟨false, rfl, ⟨(fun h => by cases h), fun h => absurd h HXY.out⟩, below_drewN HBW.out _⟩
          · have f2 : (x.flags != y.flags) = true := by rw [bne_iff_ne]; exact e2
            have HXY := hidH (HNE.out (fun h => e2 (chk_eq.1 h).2.1))
            clear e1 e2
            go_wp2
            go_quiet (fail)
            go_wp2
            go_ret
            exact ⟨false, rfl, ⟨(fun h => by cases h), fun h => absurd h HXY.out⟩, below_drewN HBW.out _⟩
        · have f1 : (x.kind != y.kind) = true := by rw [bne_iff_ne]; exact e1
          have HXY := hidH (HNE.out (fun h => e1 (chk_eq.1 h).1))
          clear e1
          go_wp2
          go_quiet (fail)
          go_wp2
          go_ret
          exact ⟨false, rfl, ⟨(fun h => by cases h), fun h => absurd h HXY.out⟩, below_drewN HBW.out _⟩
      · obtain rfl : j = a.length := by omega
        have HE := hidH (show a = b from List.ext_getElem? fun t => by
          by_cases h : t < a.length
          · exact hEq t h
          · have := HL.out
            rw [List.getElem?_eq_none (by omega), List.getElem?_eq_none (by omega)])
        have HBW := hidH hBw
        clear hEq hBw hlt hj
        go_wp2
        go_ret
        exact ⟨true, rfl, ⟨fun _ => HE.out, fun _ => rfl⟩, HBW.out⟩
  · have hd : ((a.length : Int) != (b.length : Int)) = true := by rw [bne_iff_ne]; omega
    have HL := hidH (show ¬ a = b from fun h => hl (by rw [h]))
    clear hA hB ba bb hl
    go_enter Tryd.func51, Tryd.ntmps51
    go_wp2
    go_ret
    exact ⟨false, rfl, ⟨(fun h => by cases h), fun h => absurd h HL.out⟩, Below.refl _ _⟩
set_option maxHeartbeats 1000000 in
theorem samePk_spec (ta tb : Int) (PA PB : Option Addr) (a b : List Chk) (ca cb : Nat) (w : World) (hA : Cs w PA a) (hB : Cs w PB b) (ba : ∀ x ∈ a, Bytes x.body) (bb : ∀ x ∈ b, Bytes x.body) (hm : (a.length : Int) ≤ 9223372036854775807) (hm2 : (b.length : Int) ≤ 9223372036854775807) :
    Calls Tryd.prog 17 #[pkV ta PA a.length ca, pkV tb PB b.length cb] w fun e w' => ∃ r : Bool, e = .returned (.bool r) ∧ (r = true ↔ ta = tb ∧ a = b) ∧ Below w.heap.size w w' := by
  have B2 := bal (bal (Below.refl w.heap.size w) (.cells #[.int .i64 ta, .slice PA a.length ca] 26)) (.cells #[.int .i64 tb, .slice PB b.length cb] 26)
  have B2' := bal (bal (Below.refl w.heap.size w) (.cells #[.int .i64 ta, .slice PA a.length ca] 26)) (.cells #[.int .i64 tb, .slice PB b.length cb] 26)
  have hs := same4_any PA PB a b ca cb _ (hA.below B2) (hB.below B2) ba bb hm hm2
  have HS := hidH hs
  have HB := hidH B2'
  unfold pkV
  clear hA hB ba bb B2 B2' hs
  by_cases e1 : ta = tb
  · have f1 : (ta == tb) = true := by rw [beq_iff_eq]; exact e1
    have HE := hidH e1
    clear e1
    go_enter Tryd.func17, Tryd.ntmps17
    go_wp2_with fail
    refine HS.out.mono ?_
    rintro e w3 ⟨r, rfl, hr, b3⟩
    have HR := hidH hr
    have B3 := hidH (btr HB.out b3)
    clear hr b3
    go_wp2
    go_ret
    exact ⟨r, by cases r <;> rfl, ⟨fun h => ⟨HE.out, HR.out.1 h⟩, fun h => HR.out.2 h.2⟩, B3.out⟩
  · have f1 : (ta == tb) = false := by rw [beq_eq_false_iff_ne]; exact e1
    have HE := hidH e1
    clear e1 hm hm2
    go_enter Tryd.func17, Tryd.ntmps17
    go_wp2
    go_ret
    exact ⟨false, rfl, ⟨(fun h => by cases h), fun h => absurd h.1 HE.out⟩, HB.out⟩
end Go.Proofs.YtepcikghhnfacaaDoor

/- The program's ChunkFault, paddingSize, chunkSize, ActionOf, bytes.Clone, bytes.Equal. -/
namespace Go.Proofs.YtepcikghhnfacaaDoor
open Go.RowKit Go.Deep

set_option maxHeartbeats 400000 in
theorem isByte_any (a : Int) (w : World) : Calls Tryd.prog 69 #[.int .i64 a] w fun e w' => e = .returned (.bool (inB a 0 255)) ∧ w = w' := by
  by_cases h1 : 0 ≤ a
  · rw [show inB a 0 255 = decide (a ≤ 255) from by simp [inB, h1]]
    go_enter Tryd.func69, Tryd.ntmps69
    go_wp2
    go_ret
    exact ⟨rfl, rfl⟩
  · have h : a < 0 := by omega
    rw [show inB a 0 255 = false from inB_lo h]
    clear h1
    go_enter Tryd.func69, Tryd.ntmps69
    go_wp2
    go_ret
    exact ⟨rfl, rfl⟩
set_option maxHeartbeats 1000000 in
theorem chFault_impl (k f : Int) (A : Option Addr) (b : List Int) (c : Nat) (w : World) (hm : (b.length : Int) ≤ 9223372036854775807) :
    Calls Tryd.prog 45 #[ckV k f A b.length c] w fun e w' => e = .returned (.int .i64 (chF k f b)) ∧ Below w.heap.size w w' := by
  unfold ckV
  by_cases h1 : inB k 0 255 = true
  · by_cases h2 : inB f 0 255 = true
    · by_cases h3 : b.length ≤ 160
      · have e : chF k f b = 0 := by simp [chF, h1, h2, h3]
        have h4 : (b.length : Int) ≤ 160 := by omega
        rw [e]
        clear e h3
        go_enter Tryd.func45, Tryd.ntmps45
        go_wp2_with (go_at_call 69; refine (isByte_any _ _).mono ?_; rintro e w' ⟨rfl, rfl⟩)
        go_ret
        exact ⟨rfl, bal (Below.refl _ _) _⟩
      · have e : chF k f b = 2 := by simp [chF, h1, h2, h3]
        have h4 : (160 : Int) < (b.length : Int) := by omega
        rw [e]
        clear e h3
        go_enter Tryd.func45, Tryd.ntmps45
        go_wp2_with (go_at_call 69; refine (isByte_any _ _).mono ?_; rintro e w' ⟨rfl, rfl⟩)
        go_ret
        exact ⟨rfl, bal (Below.refl _ _) _⟩
    · have h2 : inB f 0 255 = false := by simpa using h2
      have e : chF k f b = 3 := by simp [chF, h1, h2]
      rw [e]
      clear e
      go_enter Tryd.func45, Tryd.ntmps45
      go_wp2_with (go_at_call 69; refine (isByte_any _ _).mono ?_; rintro e w' ⟨rfl, rfl⟩)
      go_ret
      exact ⟨rfl, bal (Below.refl _ _) _⟩
  · have h1 : inB k 0 255 = false := by simpa using h1
    have e : chF k f b = 3 := by simp [chF, h1]
    rw [e]
    clear e
    go_enter Tryd.func45, Tryd.ntmps45
    go_wp2_with (go_at_call 69; refine (isByte_any _ _).mono ?_; rintro e w' ⟨rfl, rfl⟩)
    go_ret
    exact ⟨rfl, bal (Below.refl _ _) _⟩
set_option maxHeartbeats 400000 in
theorem padz_any (A : Option Addr) (n c : Nat) (w : World) (hm : (n : Int) ≤ 9223372036854775807) : Calls Tryd.prog 59 #[.slice A n c] w fun e w' => e = .returned (.int .i64 ((chPad n : Nat) : Int)) ∧ w' = w := by
  go_enter Tryd.func59, Tryd.ntmps59
  go_wp2
  go_ret
  refine ⟨ret_int ?_, rfl⟩
  unfold chPad
  omega
set_option maxHeartbeats 1000000 in
theorem chSize_any (k f : Int) (A : Option Addr) (n c : Nat) (w : World) (hm : (n : Int) ≤ 1000000) : Calls Tryd.prog 46 #[ckV k f A n c] w fun e w' => e = .returned (.int .i64 ((4 + n + chPad n : Nat) : Int)) ∧ Below w.heap.size w w' := by
  have hp : ((chPad n : Nat) : Int) < 4 := by unfold chPad; omega
  unfold ckV
  go_enter Tryd.func46, Tryd.ntmps46
  go_wp2
  go_quiet ((go_at_call 59; exact Calls.quiet_of_same (padz_any _ _ _ _ (by omega))))
  go_wp2
  go_ret
  exact ⟨ret_int (by omega), below_drewN (bal (Below.refl _ _) _) _⟩
set_option maxHeartbeats 1000000 in
theorem clone_any (A : Option Addr) (l : List Int) (c : Nat) (w : World) (hA : Bs w A l) (hm : l.length ≤ 100000) :
    Calls Tryd.prog 60 #[.slice A l.length c] w (OwnB w l) := by
  rcases A with _ | ad
  · obtain rfl : l = [] := by
      rcases hA with h | ⟨b, off, h, _⟩
      · exact h
      · cases h
    rw [show ([] : List Int).length = 0 from rfl]
    have hnil : (binOp .eql 22 (.slice none 0 c) (.slice none 0 0)).run Tryd.prog w = .ok (.bool true) w := Go.run_eql_slice_nil w 22 5 none 0 c Tryd.underlying22
    go_enter Tryd.func60, Tryd.ntmps60
    go_wp2
    go_ret
    exact ⟨_, rfl, ⟨rfl, .inl ⟨rfl, rfl⟩⟩, Below.refl _ _⟩
  · have hown : (w.alloc (.cells #[] 5)).ownsRow w.heap.size 5 1 (.slice (some ⟨w.heap.size, 0, none⟩) 0 0) 0 [] := World.ownsRow_lit w #[] 0 (Nat.le_refl _) (by unfold maxLen; omega) rfl
    have hA2 := bs_below hA (bal (Below.refl _ w) (.cells #[] 5))
    have HO := hidH hown
    have HA := hidH hA2
    have hb2 := hidH (bal (Below.refl _ w) (.cells #[] 5))
    clear hown hA2 hA
    have hnil := Go.run_eql_slice_nil w 22 5 (some ad) l.length c Tryd.underlying22
    go_enter Tryd.func60, Tryd.ntmps60
    go_wp2_with (at_builtin; refine wpList_append_bs rfl _ _ rfl w.heap.size _ _ _ rfl HO.out (some ad) l c rfl HA.out (by omega) (by simp) ?_)
    intro v' w2 hown' hgrow
    have B2 := hidH (hb2.out.grown hgrow (by simp) (fun k hk => by simp [Value.ownBlock] at hk; omega))
    have O2 := hidH hown'
    clear hown' hgrow
    go_wp2
    go_ret
    exact ⟨_, rfl, by simpa using O2.out, B2.out⟩
set_option maxHeartbeats 1000000 in
theorem bEqual_any (A B : Option Addr) (a b : List Int) (ca cb : Nat) (w : World) (hA : Bs w A a) (hB : Bs w B b) (ba : Bytes a) (bb : Bytes b) :
    Calls Tryd.prog 66 #[.slice A a.length ca, .slice B b.length cb] w fun e w' => e = .returned (.bool (decide (a = b))) ∧ w = w' := by
  have h1 := conv_bs w A a ca hA
  have h2 := conv_bs w B b cb hB
  have HS := hidH (str_eqb ba bb)
  clear hA hB
  go_enter Tryd.func66, Tryd.ntmps66
  go_wp2
  go_ret
  exact ⟨by rw [← HS.out]; rfl, rfl⟩
end Go.Proofs.YtepcikghhnfacaaDoor
