/- The model's PacketFault, l4Pack and PackPacket. -/
import Derived.Test.YtepcikghhnfacaaDoorPkS
import Derived.Test.YtepcikghhnfacaaDoorCrcS
namespace Go.Proofs.YtepcikghhnfacaaDoor
open Go.RowKit Go.Deep

/-- A packet's value. -/
def pkV (tag : Int) (P : Option Addr) (n c : Nat) : Value := .agg #[.int .i64 tag, .slice P n c]
def chkF (x : Chk) : Int := chF x.kind x.flags x.body
def firstF : List Chk → Int
  | [] => 0
  | x :: r => if chkF x = 0 then firstF r else chkF x
theorem firstF_app (a b : List Chk) (h : firstF a = 0) : firstF (a ++ b) = firstF b := by
  induction a with
  | nil => rfl
  | cons x r ih =>
    simp only [firstF] at h
    simp only [List.cons_append, firstF]
    split at h
    · next hx => rw [if_pos hx]; exact ih h
    · next hx => exact absurd h hx
theorem firstF_mem {cs : List Chk} (h : firstF cs = 0) : ∀ x ∈ cs, chkF x = 0 := by
  induction cs with
  | nil => intro x hx; cases hx
  | cons y r ih =>
    simp only [firstF] at h
    split at h
    · next hy =>
      intro x hx
      rcases List.mem_cons.1 hx with rfl | hx
      · exact hy
      · exact ih h x hx
    · next hy => exact absurd h hy
theorem firstF_ok {cs : List Chk} (h : firstF cs = 0) : ∀ x ∈ cs, chkOk x := fun x hx => chF_zero (firstF_mem h x hx)
theorem firstF_take {cs : List Chk} {j : Nat} (hj : j < cs.length) (h : firstF (cs.take j) = 0) : firstF (cs.take (j + 1)) = chkF cs[j] := by
  rw [List.take_add_one, List.getElem?_eq_getElem hj, Option.toList_some, firstF_app _ _ h]
  simp only [firstF]
  split
  · next hx => exact hx.symm
  · rfl
theorem firstF_hit {cs : List Chk} {j : Nat} (hj : j < cs.length) (h : firstF (cs.take j) = 0) (hne : chkF cs[j] ≠ 0) : firstF cs = chkF cs[j] := by
  have h2 : cs.take j ++ cs[j] :: cs.drop (j + 1) = cs := by simp
  have h3 := firstF_app (cs.take j) (cs[j] :: cs.drop (j + 1)) h
  rw [h2] at h3
  rw [h3]
  simp [firstF, hne]
def pkF (tag : Int) (cs : List Chk) : Int :=
  if wB tag then (if 1 ≤ cs.length ∧ cs.length ≤ 8 then (if firstF cs = 0 then (if (rawL tag 0 cs).length ≤ 500 then 0 else 2) else firstF cs) else 2) else 3
set_option maxRecDepth 100000 in
set_option maxHeartbeats 2000000 in
theorem pkFault_spec (tag : Int) (P : Option Addr) (cs : List Chk) (c : Nat) (w : World) (hP : Cs w P cs) (hm : (cs.length : Int) ≤ 9223372036854775807) (hbl : ∀ x ∈ cs, (x.body.length : Int) ≤ 9223372036854775807) :
    Calls Tryd.prog 10 #[pkV tag P cs.length c] w fun e w' => e = .returned (.int .i64 (pkF tag cs)) ∧ Below w.heap.size w w' := by
  unfold pkV
  by_cases ht : wB tag = true
  · by_cases hn : 1 ≤ cs.length ∧ cs.length ≤ 8
    · have hn1 : (1 : Int) ≤ (cs.length : Int) := by omega
      have hn8 : (cs.length : Int) ≤ 8 := by omega
      have e : pkF tag cs = (if firstF cs = 0 then (if (rawL tag 0 cs).length ≤ 500 then 0 else 2) else firstF cs) := by rw [pkF, if_pos ht, if_pos hn]
      have HE := hidH e
      have P1 : PkB (w.alloc (.cells #[.int .i64 tag, .slice P cs.length c] 26)) w.heap.size 0 tag P cs c :=
        ⟨by simp, (Blk.new w 26 _).cell 0, (Blk.new w 26 _).cell 1, hP.below (bal (Below.refl _ w) _)⟩
      have B1 := bal (Below.refl w.heap.size w) (.cells #[.int .i64 tag, .slice P cs.length c] 26)
      obtain ⟨w1, hw1⟩ : ∃ w1, w.alloc (.cells #[.int .i64 tag, .slice P cs.length c] 26) = w1 := ⟨_, rfl⟩
      rw [hw1] at P1 B1
      have HP1 := hidH P1
      have HB1 := hidH B1
      have HW1 := hidH hw1
      have HBL := hidH hbl
      have htB : (0 ≤ tag ∧ tag ≤ 4294967295) := by simpa [wB, inB] using ht
      have HT := hidH htB
      clear P1 B1 hw1 hP hbl e hm htB
      go_enter Tryd.func10, Tryd.ntmps10
      go_wp2_with (go_at_call 41; refine (word32_any _ _).mono ?_; rintro e w' ⟨rfl, rfl⟩)
      rw [HW1.out]
      go_loopw [3] (fun i wr => ∃ j : Nat, j ≤ cs.length ∧ i = .int .i64 j ∧ firstF (cs.take j) = 0 ∧ Below w1.heap.size w1 wr) (fun i _ => cs.length - (intOf i).toNat)
      case atStart => exact ⟨0, by omega, rfl, rfl, Below.refl _ _⟩
      case round =>
        obtain ⟨j, hj, rfl, hf, hB⟩ := hrel
        have P1 := HP1.out.below hB
        have q1 := P1.c1
        have hlt1 := P1.lt
        by_cases hlt : j < cs.length
        · have hj0 : (0 : Int) ≤ (j : Int) := by omega
          have hj1 : (j : Int) < (cs.length : Int) := by omega
          obtain ⟨cg, co, rfl, hg, hcc⟩ : ∃ cg co, P = some ⟨cg, co, none⟩ ∧ cg < wr.heap.size ∧ ∀ j (hj : j < cs.length), ∃ A c, CkB wr cg (co + j * 3) cs[j].kind cs[j].flags A cs[j].body c := by
            rcases P1.list with h | h
            · rw [h] at hlt; simp at hlt
            · exact h
          obtain ⟨A, cb, CK⟩ := hcc j hlt
          have c0 := CK.c0
          have c1 := CK.c1
          have c2 := CK.c2
          have HF := hidH (chFault_spec cs[j].kind cs[j].flags A cs[j].body cb wr (HBL.out _ (List.getElem_mem hlt)))
          unfold ckV at HF
          have HT2 := hidH (firstF_take hlt hf)
          have HHIT := hidH (fun h => firstF_hit hlt hf h)
          have HFF := hidH hf
          have HBW := hidH hB
          clear hcc CK P1 hf hB
          go_wp2_with fail
          refine HF.out.mono ?_
          rintro e w3 ⟨rfl, b3⟩
          have B3 := hidH (btr HBW.out b3)
          clear HF b3 HBW c0 c1 c2 q1
          obtain ⟨F, hF⟩ : ∃ F, chF cs[j].kind cs[j].flags cs[j].body = F := ⟨_, rfl⟩
          rw [hF]
          have HF := hidH (show chkF cs[j] = F from hF)
          clear hF
          by_cases hz : F = 0
          · subst hz
            go_wp2
            go_roundw
            case rel => exact ⟨j + 1, by omega, by go_num, by rw [HT2.out]; exact HF.out, B3.out⟩
            case measure => simp [intOf]; omega
          · have hne : (F != 0) = true := by rw [bne_iff_ne]; exact hz
            have HR := hidH (show pkF tag cs = F by
              have h1 : chkF cs[j] ≠ 0 := by rw [HF.out]; exact hz
              rw [HE.out, HHIT.out h1, if_neg h1, HF.out])
            clear hz
            go_wp2
            go_ret
            exact ⟨by rw [HR.out]; rfl, btr HB1.out (by first | exact B3.out | exact B3.out.drew)⟩
        · obtain rfl : j = cs.length := by omega
          rw [List.take_length] at hf
          have HOK := hidH (firstF_ok hf)
          have HRAW := hidH (l4Raw_any w.heap.size 0 tag 0 P cs c wr P1 HT.out.1 HT.out.2 (by omega) (by omega) (firstF_ok hf) (by omega))
          have HFF := hidH hf
          have HLEN := hidH (rawTo_len tag 0 cs (firstF_ok hf) cs.length (Nat.le_refl _))
          have HBW := hidH hB
          obtain ⟨L, hL⟩ : ∃ L, rawL tag 0 cs = L := ⟨_, rfl⟩
          rw [hL] at HRAW
          have HLL := hidH hL
          clear hf hB hlt hj P1 hL
          go_wp2_with fail
          refine HRAW.out.mono ?_
          rintro e w3 ⟨v, rfl, O3, b3⟩
          obtain ⟨A3, c3, rfl, ob3, _, _⟩ := own_ob O3
          have B3 := hidH (btr HBW.out b3)
          clear O3 ob3 b3 HBW HRAW q1
          by_cases h5 : L.length ≤ 500
          · have h5I : (L.length : Int) ≤ 500 := by omega
            have HR := hidH (show pkF tag cs = 0 by rw [HE.out, if_pos HFF.out, HLL.out, if_pos h5])
            clear h5
            go_wp2
            go_ret
            exact ⟨by rw [HR.out]; rfl, btr HB1.out B3.out⟩
          · have h5I : (500 : Int) < (L.length : Int) := by omega
            have HR := hidH (show pkF tag cs = 2 by rw [HE.out, if_pos HFF.out, HLL.out, if_neg h5])
            clear h5
            go_wp2
            go_ret
            exact ⟨by rw [HR.out]; rfl, btr HB1.out B3.out⟩
    · have e : pkF tag cs = 2 := by rw [pkF, if_pos ht, if_neg hn]
      rw [e]
      clear e hbl
      by_cases h1 : cs.length < 1
      · have h1I : (cs.length : Int) < 1 := by omega
        clear h1 hn
        go_enter Tryd.func10, Tryd.ntmps10
        go_wp2_with (go_at_call 41; refine (word32_any _ _).mono ?_; rintro e w' ⟨rfl, rfl⟩)
        go_ret
        exact ⟨rfl, bal (Below.refl _ _) _⟩
      · have h1I : (1 : Int) ≤ (cs.length : Int) := by omega
        have h8I : (8 : Int) < (cs.length : Int) := by omega
        have hd1 : decide ((cs.length : Int) < 1) = false := by simp; omega
        clear h1 hn
        go_enter Tryd.func10, Tryd.ntmps10
        go_wp2_with (go_at_call 41; refine (word32_any _ _).mono ?_; rintro e w' ⟨rfl, rfl⟩)
        go_ret
        exact ⟨rfl, bal (Below.refl _ _) _⟩
  · have ht2 : wB tag = false := by simpa using ht
    have e : pkF tag cs = 3 := by rw [pkF, if_neg ht]
    rw [e]
    clear e ht hbl
    go_enter Tryd.func10, Tryd.ntmps10
    go_wp2_with (go_at_call 41; refine (word32_any _ _).mono ?_; rintro e w' ⟨rfl, rfl⟩)
    go_ret
    exact ⟨rfl, bal (Below.refl _ _) _⟩
end Go.Proofs.YtepcikghhnfacaaDoor
