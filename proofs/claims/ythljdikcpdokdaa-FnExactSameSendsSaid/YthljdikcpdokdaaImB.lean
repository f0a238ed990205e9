/- The program's isByte, ChunkFault, bytes.Clone, bytes.Equal. -/
import Derived.Test.YthljdikcpdokdaaChS
import Derived.Test.YthljdikcpdokdaaSame
import Derived.Lib.LazyBuf
import Derived.Deep.LoopGhost
namespace Go.Proofs.Ythljdikcpdokdaa
open Go.RowKit Go.Deep

theorem str_eqb {x y : List Int} (hx : Bytes x) (hy : Bytes y) : ((strOfNums x).toList == (strOfNums y).toList) = decide (x = y) := by
  rw [ByteArray.toList_eq, ByteArray.toList_eq]
  by_cases e : x = y
  · subst e; simp
  · have : (strOfNums x).data.toList ≠ (strOfNums y).data.toList := fun h => e (strOfNums_inj hx hy (by
      cases hx : strOfNums x; cases hy : strOfNums y
      rw [hx, hy] at h
      simpa using h))
    rw [beq_eq_false_iff_ne.2 this, decide_eq_false e]
set_option maxHeartbeats 1000000 in
theorem clone_any (A : Option Addr) (l : List Int) (c : Nat) (w : World) (hA : Bs w A l) (hm : l.length ≤ 4000000) :
    Calls Try.prog 153 #[.slice A l.length c] w (OwnB w l) := by
  rcases A with _ | ad
  · obtain rfl : l = [] := by
      rcases hA with h | ⟨b, off, h, _⟩
      · exact h
      · cases h
    rw [show ([] : List Int).length = 0 from rfl]
    have hnil : (binOp .eql 22 (.slice none 0 c) (.slice none 0 0)).run Try.prog w = .ok (.bool true) w := Go.run_eql_slice_nil w 22 5 none 0 c Try.underlying22
    go_enter Try.func153, Try.ntmps153
    go_wp2
    go_ret
    exact ⟨_, rfl, ⟨rfl, .inl ⟨rfl, rfl⟩⟩, Below.refl _ _⟩
  · have hown : (w.alloc (.cells #[] 5)).ownsRow w.heap.size 5 1 (.slice (some ⟨w.heap.size, 0, none⟩) 0 0) 0 [] := World.ownsRow_lit w #[] 0 (Nat.le_refl _) (by unfold maxLen; omega) rfl
    have hA2 := bs_below hA (bal (Below.refl _ w) (.cells #[] 5))
    have HO := hidH hown
    have HA := hidH hA2
    have hb2 := hidH (bal (Below.refl _ w) (.cells #[] 5))
    clear hown hA2 hA
    have hnil := Go.run_eql_slice_nil w 22 5 (some ad) l.length c Try.underlying22
    go_enter Try.func153, Try.ntmps153
    go_wp2_with (at_builtin; refine wpList_append_bs rfl _ _ rfl w.heap.size _ _ _ rfl HO.out (some ad) l c rfl HA.out (by omega) (by simp) ?_)
    intro v' w2 hown' hgrow
    have B2 := hidH (hb2.out.grown hgrow (by simp) (fun k hk => by simp [Value.ownBlock] at hk; omega))
    have O2 := hidH hown'
    clear hown' hgrow
    go_wp2
    go_ret
    exact ⟨_, rfl, by simpa using O2.out, B2.out⟩
set_option maxHeartbeats 1000000 in
theorem bEqual_any (A B : Option Addr) (a b : List Int) (ca cb : Nat) (w : World) (hA : Bs w A a) (hB : Bs w B b) (ba : Bytes a) (bb : Bytes b) :
    Calls Try.prog 160 #[.slice A a.length ca, .slice B b.length cb] w fun e w' => e = .returned (.bool (decide (a = b))) ∧ w = w' := by
  have h1 := conv_bs w A a ca hA
  have h2 := conv_bs w B b cb hB
  have HS := hidH (str_eqb ba bb)
  clear hA hB
  go_enter Try.func160, Try.ntmps160
  go_wp2
  go_ret
  exact ⟨by rw [← HS.out]; rfl, rfl⟩
end Go.Proofs.Ythljdikcpdokdaa
