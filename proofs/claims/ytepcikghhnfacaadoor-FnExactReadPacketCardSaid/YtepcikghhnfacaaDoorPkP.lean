/- The model's l4Pack and PackPacket. -/
import Derived.Test.YtepcikghhnfacaaDoorPkF
namespace Go.Proofs.YtepcikghhnfacaaDoor
open Go.RowKit Go.Deep

theorem bytes_app0 {a b : List Int} (ha : Bytes a) (hb : Bytes b) : Bytes (a ++ b) := fun x hx => (List.mem_append.1 hx).elim (ha x) (hb x)
theorem pk_bytes0 {a : Int} (h0 : 0 ≤ a) (h1 : a ≤ 4294967295) : Bytes (pk a) := by
  intro x hx
  simp only [pk, List.mem_cons, List.not_mem_nil, or_false] at hx
  rcases hx with rfl | rfl | rfl | rfl <;> omega
theorem chkL_bytes {x : Chk} (h : chkOk x) (hb : Bytes x.body) : Bytes (chkL x) := by
  obtain ⟨⟨h1, h2⟩, ⟨h3, h4⟩, h5⟩ := h
  unfold chkL chL
  refine bytes_app0 (bytes_app0 ?_ hb) ?_
  · intro y hy
    simp only [List.mem_cons, List.not_mem_nil, or_false] at hy
    rcases hy with rfl | rfl | rfl | rfl <;> omega
  · intro y hy
    obtain ⟨_, rfl⟩ := List.mem_replicate.1 hy
    omega
theorem rawL_bytes {tag sum : Int} {cs : List Chk} (ht0 : 0 ≤ tag) (ht1 : tag ≤ 4294967295) (hs0 : 0 ≤ sum) (hs1 : sum ≤ 4294967295) (hc : ∀ x ∈ cs, chkOk x) (hb : ∀ x ∈ cs, Bytes x.body) : Bytes (rawL tag sum cs) := by
  unfold rawL rawTo
  rw [List.take_length]
  refine bytes_app0 (bytes_app0 (pk_bytes0 ht0 ht1) (pk_bytes0 hs0 hs1)) ?_
  intro y hy
  obtain ⟨x, hx, hy⟩ := List.mem_flatMap.1 hy
  exact chkL_bytes (hc x hx) (hb x hx) y hy
def sumOf (tag : Int) (cs : List Chk) : Int := ((crcV (nB (rawL tag 0 cs)) : Nat) : Int)
def pkL (tag : Int) (cs : List Chk) : List Int := rawL tag (sumOf tag cs) cs
theorem sumOf_word {tag : Int} {cs : List Chk} (ht0 : 0 ≤ tag) (ht1 : tag ≤ 4294967295) (hc : ∀ x ∈ cs, chkOk x) (hb : ∀ x ∈ cs, Bytes x.body) : 0 ≤ sumOf tag cs ∧ sumOf tag cs ≤ 4294967295 := by
  have := crcV_lt (nB_lt (rawL_bytes (sum := 0) ht0 ht1 (by omega) (by omega) hc hb))
  unfold sumOf
  omega
set_option maxHeartbeats 1000000 in
theorem l4Pack_any (g o : Nat) (tag : Int) (P : Option Addr) (cs : List Chk) (c : Nat) (w : World) (hP : PkB w g o tag P cs c) (ht0 : 0 ≤ tag) (ht1 : tag ≤ 4294967295) (hc : ∀ x ∈ cs, chkOk x) (hb : ∀ x ∈ cs, Bytes x.body) (hn : cs.length ≤ 20) :
    Calls Tryd.prog 31 #[.pointer (some ⟨g, o, none⟩)] w (OwnB w (pkL tag cs)) := by
  have HR0 := hidH (l4Raw_any g o tag 0 P cs c w hP ht0 ht1 (by omega) (by omega) hc hn)
  have hs := sumOf_word ht0 ht1 hc hb
  have HR1 := hidH (fun (u : World) (h : PkB u g o tag P cs c) => l4Raw_any g o tag (sumOf tag cs) P cs c u h ht0 ht1 hs.1 hs.2 hc hn)
  have HBY := hidH (rawL_bytes (sum := 0) ht0 ht1 (by omega) (by omega) hc hb)
  have HLEN := hidH (rawTo_len tag 0 cs hc cs.length (Nat.le_refl _))
  have HP := hidH hP
  have HS := hidH (show sumOf tag cs = ((crcV (nB (rawL tag 0 cs)) : Nat) : Int) from rfl)
  have HN := hidH hn
  obtain ⟨R, hR⟩ : ∃ R, rawL tag 0 cs = R := ⟨_, rfl⟩
  have HL2 := hidH (show R.length ≤ 8 + 168 * cs.length by rw [← hR]; exact HLEN.out)
  rw [hR] at HR0 HBY HS
  obtain ⟨S, hS⟩ : ∃ S, sumOf tag cs = S := ⟨_, rfl⟩
  have hpk : pkL tag cs = rawL tag S cs := by rw [pkL, hS]
  rw [hpk]
  rw [hS] at HR1 HS
  clear hP ht0 ht1 hc hb hs hR hS hn hpk HLEN
  go_enter Tryd.func31, Tryd.ntmps31
  go_wp2_with fail
  refine HR0.out.mono ?_
  rintro e w1 ⟨v, rfl, O1, b1⟩
  obtain ⟨A1, c1, rfl, ob1, _, _⟩ := own_ob O1
  have S1 := hidH ob1.bs
  have P1 := HP.out.below b1
  have HP1 := hidH P1
  have HB1 := hidH b1
  clear O1 ob1 P1 b1 HR0 HP
  go_wp2_with fail
  refine (crc_any A1 R c1 w1 S1.out HBY.out (by have := HL2.out; have := HN.out; omega)).mono ?_
  rintro e w2 ⟨rfl, m, rfl⟩
  rw [← HS.out]
  have bm := below_drewN (Below.refl w1.heap.size w1) m
  have HP2 := hidH (HP1.out.below bm)
  have HB2 := hidH (btr HB1.out bm)
  clear bm HP1 HB1 S1
  go_wp2_with fail
  refine (HR1.out _ HP2.out).mono ?_
  rintro e w3 ⟨v3, rfl, O3, b3⟩
  have HO3 := hidH (own_mono O3 HB2.out.size)
  have HB3 := hidH (btr HB2.out b3)
  clear O3 b3 HP2 HB2
  go_wp2
  go_ret
  exact ⟨v3, rfl, HO3.out, HB3.out⟩
def pkM (tag : Int) (cs : List Chk) : List Int := if pkF tag cs = 0 then pkL tag cs else []
theorem pkF_zero {tag : Int} {cs : List Chk} (h : pkF tag cs = 0) : (0 ≤ tag ∧ tag ≤ 4294967295) ∧ (1 ≤ cs.length ∧ cs.length ≤ 8) ∧ (∀ x ∈ cs, chkOk x) ∧ (rawL tag 0 cs).length ≤ 500 := by
  unfold pkF at h
  split at h
  · next h1 =>
    split at h
    · next h2 =>
      split at h
      · next h3 =>
        split at h
        · next h4 => exact ⟨by simpa [wB, inB] using h1, h2, firstF_ok h3, h4⟩
        · cases h
      · next h3 => exact absurd h h3
    · cases h
  · cases h
end Go.Proofs.YtepcikghhnfacaaDoor
