/- The model's l4Pack and PackPacket. -/
import Derived.Test.YtepcikghhnfacaaPkF
namespace Go.Proofs.Ytepcikghhnfacaa
open Go.RowKit Go.Deep

theorem bytes_app0 {a b : List Int} (ha : Bytes a) (hb : Bytes b) : Bytes (a ++ b) := fun x hx => (List.mem_append.1 hx).elim (ha x) (hb x)
theorem pk_bytes0 {a : Int} (h0 : 0 ≤ a) (h1 : a ≤ 4294967295) : Bytes (pk a) := by
  intro x hx
  simp only [pk, List.mem_cons, List.not_mem_nil, or_false] at hx
  rcases hx with rfl | rfl | rfl | rfl <;> omega
theorem chkL_bytes {x : Chk} (h : chkOk x) (hb : Bytes x.body) : Bytes (chkL x) := by
  obtain ⟨⟨h1, h2⟩, ⟨h3, h4⟩, h5⟩ := h
  unfold chkL chL
  refine bytes_app0 (bytes_app0 ?_ hb) ?_
  · intro y hy
    simp only [List.mem_cons, List.not_mem_nil, or_false] at hy
    rcases hy with rfl | rfl | rfl | rfl <;> omega
  · intro y hy
    obtain ⟨_, rfl⟩ := List.mem_replicate.1 hy
    omega
theorem rawL_bytes {tag sum : Int} {cs : List Chk} (ht0 : 0 ≤ tag) (ht1 : tag ≤ 4294967295) (hs0 : 0 ≤ sum) (hs1 : sum ≤ 4294967295) (hc : ∀ x ∈ cs, chkOk x) (hb : ∀ x ∈ cs, Bytes x.body) : Bytes (rawL tag sum cs) := by
  unfold rawL rawTo
  rw [List.take_length]
  refine bytes_app0 (bytes_app0 (pk_bytes0 ht0 ht1) (pk_bytes0 hs0 hs1)) ?_
  intro y hy
  obtain ⟨x, hx, hy⟩ := List.mem_flatMap.1 hy
  exact chkL_bytes (hc x hx) (hb x hx) y hy
def sumOf (tag : Int) (cs : List Chk) : Int := ((crcV (nB (rawL tag 0 cs)) : Nat) : Int)
def pkL (tag : Int) (cs : List Chk) : List Int := rawL tag (sumOf tag cs) cs
theorem sumOf_word {tag : Int} {cs : List Chk} (ht0 : 0 ≤ tag) (ht1 : tag ≤ 4294967295) (hc : ∀ x ∈ cs, chkOk x) (hb : ∀ x ∈ cs, Bytes x.body) : 0 ≤ sumOf tag cs ∧ sumOf tag cs ≤ 4294967295 := by
  have := crcV_lt (nB_lt (rawL_bytes (sum := 0) ht0 ht1 (by omega) (by omega) hc hb))
  unfold sumOf
  omega
set_option maxHeartbeats 1000000 in
theorem l4Pack_any (g o : Nat) (tag : Int) (P : Option Addr) (cs : List Chk) (c : Nat) (w : World) (hP : PkB w g o tag P cs c) (ht0 : 0 ≤ tag) (ht1 : tag ≤ 4294967295) (hc : ∀ x ∈ cs, chkOk x) (hb : ∀ x ∈ cs, Bytes x.body) (hn : cs.length ≤ 20) :
    Calls Try.prog 58 #[.pointer (some ⟨g, o, none⟩)] w (OwnB w (pkL tag cs)) := by
  have HR0 := hidH (l4Raw_any g o tag 0 P cs c w hP ht0 ht1 (by omega) (by omega) hc hn)
  have hs := sumOf_word ht0 ht1 hc hb
  have HR1 := hidH (fun (u : World) (h : PkB u g o tag P cs c) => l4Raw_any g o tag (sumOf tag cs) P cs c u h ht0 ht1 hs.1 hs.2 hc hn)
  have HBY := hidH (rawL_bytes (sum := 0) ht0 ht1 (by omega) (by omega) hc hb)
  have HLEN := hidH (rawTo_len tag 0 cs hc cs.length (Nat.le_refl _))
  have HP := hidH hP
  have HS := hidH (show sumOf tag cs = ((crcV (nB (rawL tag 0 cs)) : Nat) : Int) from rfl)
  have HN := hidH hn
  obtain ⟨R, hR⟩ : ∃ R, rawL tag 0 cs = R := ⟨_, rfl⟩
  have HL2 := hidH (show R.length ≤ 8 + 168 * cs.length by rw [← hR]; exact HLEN.out)
  rw [hR] at HR0 HBY HS
  obtain ⟨S, hS⟩ : ∃ S, sumOf tag cs = S := ⟨_, rfl⟩
  have hpk : pkL tag cs = rawL tag S cs := by rw [pkL, hS]
  rw [hpk]
  rw [hS] at HR1 HS
  clear hP ht0 ht1 hc hb hs hR hS hn hpk HLEN
  go_enter Try.func58, Try.ntmps58
  go_wp2_with fail
  refine HR0.out.mono ?_
  rintro e w1 ⟨v, rfl, O1, b1⟩
  obtain ⟨A1, c1, rfl, ob1, _, _⟩ := own_ob O1
  have S1 := hidH ob1.bs
  have P1 := HP.out.below b1
  have HP1 := hidH P1
  have HB1 := hidH b1
  clear O1 ob1 P1 b1 HR0 HP
  go_wp2_with fail
  refine (crc_any A1 R c1 w1 S1.out HBY.out (by have := HL2.out; have := HN.out; omega)).mono ?_
  rintro e w2 ⟨rfl, m, rfl⟩
  rw [← HS.out]
  have bm := below_drewN (Below.refl w1.heap.size w1) m
  have HP2 := hidH (HP1.out.below bm)
  have HB2 := hidH (btr HB1.out bm)
  clear bm HP1 HB1 S1
  go_wp2_with fail
  refine (HR1.out _ HP2.out).mono ?_
  rintro e w3 ⟨v3, rfl, O3, b3⟩
  have HO3 := hidH (own_mono O3 HB2.out.size)
  have HB3 := hidH (btr HB2.out b3)
  clear O3 b3 HP2 HB2
  go_wp2
  go_ret
  exact ⟨v3, rfl, HO3.out, HB3.out⟩
def pkM (tag : Int) (cs : List Chk) : List Int := if pkF tag cs = 0 then pkL tag cs else []
theorem pkF_zero {tag : Int} {cs : List Chk} (h : pkF tag cs = 0) : (0 ≤ tag ∧ tag ≤ 4294967295) ∧ (1 ≤ cs.length ∧ cs.length ≤ 8) ∧ (∀ x ∈ cs, chkOk x) ∧ (rawL tag 0 cs).length ≤ 500 := by
  unfold pkF at h
  split at h
  · next h1 =>
    split at h
    · next h2 =>
      split at h
      · next h3 =>
        split at h
        · next h4 => exact ⟨by simpa [wB, inB] using h1, h2, firstF_ok h3, h4⟩
        · cases h
      · next h3 => exact absurd h h3
    · cases h
  · cases h
set_option maxHeartbeats 1000000 in
theorem packPacket_spec (tag : Int) (P : Option Addr) (cs : List Chk) (c : Nat) (w : World) (hP : Cs w P cs) (hm : (cs.length : Int) ≤ 9223372036854775807) (hbl : ∀ x ∈ cs, (x.body.length : Int) ≤ 9223372036854775807) (hbb : ∀ x ∈ cs, Bytes x.body) :
    Calls Try.prog 32 #[pkV tag P cs.length c] w (BRes w (pkF tag cs) (pkM tag cs)) := by
  have P1 : PkB (w.alloc (.cells #[.int .i64 tag, .slice P cs.length c] 51)) w.heap.size 0 tag P cs c :=
    ⟨by simp, (Blk.new w 51 _).cell 0, (Blk.new w 51 _).cell 1, hP.below (bal (Below.refl _ w) _)⟩
  have B1 := bal (Below.refl w.heap.size w) (.cells #[.int .i64 tag, .slice P cs.length c] 51)
  obtain ⟨w1, hw1⟩ : ∃ w1, w.alloc (.cells #[.int .i64 tag, .slice P cs.length c] 51) = w1 := ⟨_, rfl⟩
  have hs1 : w1.heap.size = w.heap.size + 1 := by rw [← hw1]; simp
  rw [hw1] at P1 B1
  have P2 := P1.below (bal (Below.refl w1.heap.size w1) (.cells #[.int .i64 0, .slice none 0 0] 28))
  have B2 := bal B1 (.cells #[.int .i64 0, .slice none 0 0] 28)
  have R2 := Blk.new w1 28 #[.int .i64 0, .slice none 0 0]
  obtain ⟨w2, hw2⟩ : ∃ w2, w1.alloc (.cells #[.int .i64 0, .slice none 0 0] 28) = w2 := ⟨_, rfl⟩
  rw [hw2, hs1] at R2
  rw [hw2] at P2 B2
  have HF := hidH (pkFault_spec tag P cs c w2 P2.list hm hbl)
  unfold pkV at HF ⊢
  have HW1 := hidH hw1
  have HW2 := hidH hw2
  have HP := hidH P2
  have HB := hidH B2
  have HR := hidH R2
  have HBB := hidH hbb
  clear hw1 hw2 P1 B1 P2 B2 R2 hP hs1 hm hbl hbb
  go_enter Try.func32, Try.ntmps32
  go_wp2_with fail
  rw [HW1.out, HW2.out]
  refine HF.out.mono ?_
  rintro e w3 ⟨rfl, b3⟩
  have HP3 := hidH (HP.out.below b3)
  have B3 := hidH (btr HB.out b3)
  have R3 := hidH (HR.out.below b3)
  clear HW1 HW2 HP HB HR HF b3
  by_cases hz : pkF tag cs = 0
  · obtain ⟨⟨t0, t1⟩, ⟨_, n8⟩, ok, _⟩ := pkF_zero hz
    have hM : pkM tag cs = pkL tag cs := by rw [pkM, if_pos hz]
    have HZM := hidH (And.intro hz hM)
    rw [hz]
    have CK := hidH (l4Pack_any w.heap.size 0 tag P cs c w3 HP3.out t0 t1 ok HBB.out (by omega))
    obtain ⟨L, hL⟩ : ∃ L, pkL tag cs = L := ⟨_, rfl⟩
    rw [hL] at CK
    have HLL := hidH hL
    clear hz hM hL t0 t1 n8 ok HP3
    go_wp2_with fail
    refine CK.out.mono ?_
    rintro e w4 ⟨v, rfl, O4, b4⟩
    obtain ⟨A4, c4, rfl, ob4, hc4, hm4⟩ := own_ob O4
    have R4 := R3.out.below b4
    obtain ⟨x0, x1, xz⟩ := R4.two
    have f0 := R4.frozen 0
    have f1 := R4.frozen 1
    have hr3 := R3.out.lt
    have HO := hidH (ob4.mono (B' := w.heap.size + 1 + 1) (by omega))
    have HB := hidH (btr B3.out b4)
    have HC := hidH (And.intro hc4 hm4)
    clear R4 ob4 O4 b4 hc4 hm4 R3 B3 CK hr3
    go_wp2
    exact bodyPost_ret (v := .agg #[.int .i64 0, .slice A4 L.length c4]) (by simp [results, Try.results32, go_sem, x0, x1]) rfl (by rw [HZM.out.1, HZM.out.2, HLL.out]; exact bres_at 0 HO.out (Nat.le_succ _) HB.out HC.out.1 HC.out.2 _ _)
  · have hM : pkM tag cs = [] := by rw [pkM, if_neg hz]
    have HM := hidH hM
    have hne : (pkF tag cs != 0) = true := by rw [bne_iff_ne]; exact hz
    obtain ⟨F, hF⟩ : ∃ F, pkF tag cs = F := ⟨_, rfl⟩
    rw [hF] at hne
    have HF := hidH hF
    have R4 := R3.out
    obtain ⟨x0, x1, xz⟩ := R4.two
    have f0 := R4.frozen 0
    have f1 := R4.frozen 1
    rw [hF]
    clear R4 hz hM hF HP3
    go_wp2
    exact bodyPost_ret (v := .agg #[.int .i64 F, .slice none 0 0]) (by simp [results, Try.results32, go_sem, x0, x1]) rfl (by rw [HF.out, HM.out]; exact ⟨none, 0, rfl, .inl rfl, bst (bst B3.out (Nat.le_succ _) _) (Nat.le_succ _) _, Nat.le_refl _, by omega⟩)
end Go.Proofs.Ytepcikghhnfacaa
