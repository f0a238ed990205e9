/- The program's digest of a state; the model's Sha256. -/
import Derived.Test.YtacdnednkglobaaComOf
namespace Go.Proofs.Ytacdnednkglobaa
open Go.RowKit Go.Deep

def shaM (l : List Int) : List Int := if l.length ≤ 700 then shaL l else []
theorem shaL_len (l : List Int) : (shaL l).length = 32 := by rw [shaL, wordsL_len _ _ (by rw [shaTo_len]; omega)]
theorem shaM_le (l : List Int) : ((shaM l).length : Int) ≤ 100000 := by
  unfold shaM; split
  · rw [shaL_len]; omega
  · simp
set_option maxRecDepth 100000 in
set_option maxHeartbeats 4000000 in
theorem dig_any (st : List Nat) (w : World) (h8 : st.length = 8) (hW : AllW st) : Calls Try.prog 79 #[.agg (U st)] w (OwnB w (wordsL st 8)) := by
  obtain ⟨i0, hi, hz0, hz1, hz2⟩ := info_parts infoU8
  have HI := hidH (And.intro hi (And.intro hz0 (And.intro hz1 hz2)))
  clear hi hz0 hz1 hz2
  have hg := fun k (hk : k < 8) => U_get st k (by omega)
  obtain ⟨s, hs⟩ : ∃ s, U st = s := ⟨_, rfl⟩
  have hsz : (Try.prog.info? 96).map (·.size) = some s.size := by rw [← hs, U_size, h8]; kernel_rfl
  rw [hs] at hg ⊢
  have HG := hidH hg
  have HS := hidH hsz
  have H8 := hidH h8
  clear hg hs hsz h8
  go_enter Try.func79, Try.ntmps79
  go_wp2_with (first | refine wpList_boxRow rfl _ _ rfl _ rfl s rfl ?_ | refine wpList_load_row rfl 96 _ rfl w.heap.size rfl 96 s (0, 0) (.array 8 94) SR.out (by kernel_rfl) rfl HS.out ?_ | (refine wpList_make_own _ rfl _ _ _ rfl w.heap.size 5 i0 _ 1 info22 HI.out.1 HI.out.2.1 HI.out.2.2.1 .i64 .i64 _ 32 rfl rfl rfl (by rw [HI.out.2.2.2]; omega) (by unfold maxLen; omega) (by simp) ?_; intro w1 o1 g1; have SR := hidH ((Blk.new w 96 s).below ((Below.refl _ _).grown g1 (Nat.le_refl _) (fun k hk => by cases hk))); have B1 := hidH ((bal (Below.refl w.heap.size w) (.cells s 96)).grown g1 (by simp) (fun k hk => by cases hk)); have O1 := hidH o1; clear o1 g1))
  go_loopw [3, 9] (fun v i wr => ∃ k : Nat, k ≤ 8 ∧ i = .int .i64 k ∧ wr.ownsRow w.heap.size 5 1 v (wordsL st k).length ((wordsL st k).map (Value.int .u8)) ∧ Below w.heap.size w wr) (fun _ i _ => 8 - (intOf i).toNat)
  case atStart => exact ⟨0, by omega, rfl, by have := O1.out; simpa [wordsL] using this, B1.out⟩
  case round =>
    obtain ⟨k, hk, rfl, hown, hB⟩ := hrel
    have hsz := hB.size
    have WL := hidH (wordsL_len st k (by rw [H8.out]; exact hk))
    by_cases hlt : k < 8
    · have hk0 : (0 : Int) ≤ (k : Int) := by omega
      have hk1 : (k : Int) < 8 := by omega
      have hGk := HG.out k hlt
      have x1 := hW.get k
      have hsucc := hidH (wordsL_succ st k (by rw [H8.out]; exact hlt))
      obtain ⟨x, hx⟩ : ∃ x, st.getD k 0 = x := ⟨_, rfl⟩
      rw [hx] at hGk x1
      have HX := hidH hx
      have HGK := hidH hGk
      have P5 := lit_bs (wr.alloc (.cells ((pk (x : Int)).map (Value.int .u8)).toArray 113)) 113 (pk (x : Int))
      simp only [World.size_alloc] at P5
      have P5 := hidH P5
      have OH := hidH hown
      have HB := hidH hB
      clear hx hGk hown hB
      go_wp2_with (first | refine wpList_indexArr rfl _ _ _ rfl _ rfl s .i64 k 8 94 _ rfl rfl (by kernel_rfl) hlt (by kernel_rfl) .u32 (by kernel_rfl) HGK.out ?_ | (go_at_call 88; refine (encode_any _ _ (by omega) (by omega)).mono ?_; rintro e w' ⟨rfl, rfl⟩) | (at_builtin; refine wpList_append_bs rfl _ _ rfl w.heap.size _ _ _ rfl ((OH.out.alloc _).alloc _) (some ⟨wr.heap.size + 1, 0, none⟩) (pk (x : Int)) 4 rfl P5.out (by have := WL.out; simp [pk]; omega) (by simp; omega) ?_))
      intro v6 w6 o6 g6
      have B6 := hidH ((bal (bal HB.out _) _).grown g6 (by simp; omega) (fun k hk => (OH.out.lt k hk).1))
      have O6 := hidH o6
      clear g6 o6
      go_wp2
      go_roundw
      case rel => exact ⟨k + 1, by omega, by go_num, by rw [hsucc.out, HX.out]; simpa using O6.out, B6.out⟩
      case measure => simp [intOf]; omega
    · obtain rfl : k = 8 := by omega
      have O := hidH hown
      have B := hidH hB
      clear hown hB hlt hk
      go_wp2
      go_ret
      exact ⟨_, rfl, O.out, B.out⟩
end Go.Proofs.Ytacdnednkglobaa
