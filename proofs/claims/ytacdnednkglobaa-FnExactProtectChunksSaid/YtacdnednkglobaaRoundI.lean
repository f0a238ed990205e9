/- The program's round. -/
import Derived.Test.YtacdnednkglobaaSchOf
namespace Go.Proofs.Ytacdnednkglobaa
open Go.RowKit Go.Deep

theorem rnd_blk (w : World) (A B : Array Value) (t : TypeId) (n : Nat) : (((w.alloc (.cells A t)).alloc (.cells B t)).drewN n).heap[w.heap.size + 1]? = some (.cells B t (0, 0)) := by
  have := (Blk.new (w.alloc (.cells A t)) t B).below (below_drewN (Below.refl _ _) n)
  simpa [Blk] using this
theorem set8 {w : World} {g : Nat} {t : TypeId} {o0 o1 o2 o3 o4 o5 o6 o7 v0 v1 v2 v3 v4 v5 v6 v7 : Value} (hg : w.heap[g]? = some (.cells #[o0, o1, o2, o3, o4, o5, o6, o7] t (0, 0))) :
    ((((((((w.setCell ⟨g, 0, none⟩ v0).setCell ⟨g, 1, none⟩ v1).setCell ⟨g, 2, none⟩ v2).setCell ⟨g, 3, none⟩ v3).setCell ⟨g, 4, none⟩ v4).setCell ⟨g, 5, none⟩ v5).setCell ⟨g, 6, none⟩ v6).setCell ⟨g, 7, none⟩ v7) = w.setRow g #[v0, v1, v2, v3, v4, v5, v6, v7] := by
  have h0 := setCell_eq_setRow w g 0 _ t (0, 0) v0 hg
  have b0 := setRow_heap w g _ #[v0, o1, o2, o3, o4, o5, o6, o7] t (0, 0) hg
  have b1 := setRow_heap w g _ #[v0, v1, o2, o3, o4, o5, o6, o7] t (0, 0) hg
  have b2 := setRow_heap w g _ #[v0, v1, v2, o3, o4, o5, o6, o7] t (0, 0) hg
  have b3 := setRow_heap w g _ #[v0, v1, v2, v3, o4, o5, o6, o7] t (0, 0) hg
  have b4 := setRow_heap w g _ #[v0, v1, v2, v3, v4, o5, o6, o7] t (0, 0) hg
  have b5 := setRow_heap w g _ #[v0, v1, v2, v3, v4, v5, o6, o7] t (0, 0) hg
  have b6 := setRow_heap w g _ #[v0, v1, v2, v3, v4, v5, v6, o7] t (0, 0) hg
  have h1 := setCell_eq_setRow _ g 1 _ t (0, 0) v1 b0
  have h2 := setCell_eq_setRow _ g 2 _ t (0, 0) v2 b1
  have h3 := setCell_eq_setRow _ g 3 _ t (0, 0) v3 b2
  have h4 := setCell_eq_setRow _ g 4 _ t (0, 0) v4 b3
  have h5 := setCell_eq_setRow _ g 5 _ t (0, 0) v5 b4
  have h6 := setCell_eq_setRow _ g 6 _ t (0, 0) v6 b5
  have h7 := setCell_eq_setRow _ g 7 _ t (0, 0) v7 b6
  simp at h0 h1 h2 h3 h4 h5 h6 h7
  rw [h0, h1, setRow_setRow, h2, setRow_setRow, h3, setRow_setRow, h4, setRow_setRow, h5, setRow_setRow, h6, setRow_setRow, h7, setRow_setRow]
theorem step_cells (x0 x1 x2 x3 x4 x5 x6 x7 cc ss : Nat) : U (stepN [x0, x1, x2, x3, x4, x5, x6, x7] cc ss) =
    #[.int .u32 (((x7 : Int) + ((bigN x4 6 11 25 : Nat) : Int) + ((chN x4 x5 x6 : Nat) : Int) + (cc : Int) + (ss : Int) + (((bigN x0 2 13 22 : Nat) : Int) + ((majN x0 x1 x2 : Nat) : Int))) % 4294967296), .int .u32 (x0 : Int), .int .u32 (x1 : Int), .int .u32 (x2 : Int),
      .int .u32 (((x3 : Int) + ((x7 : Int) + ((bigN x4 6 11 25 : Nat) : Int) + ((chN x4 x5 x6 : Nat) : Int) + (cc : Int) + (ss : Int))) % 4294967296), .int .u32 (x4 : Int), .int .u32 (x5 : Int), .int .u32 (x6 : Int)] := by
  simp [U, uv, stepN, t1N, t2N]
  generalize bigN x4 6 11 25 = b1
  generalize bigN x0 2 13 22 = b2
  generalize chN x4 x5 x6 = c1
  generalize majN x0 x1 x2 = c2
  constructor <;> omega
theorem not_nat (x : Nat) (hx : x < 4294967296) : 4294967295 ^^^ x = 4294967295 - x := by
  have h := congrArg BitVec.toNat (BitVec.allOnes_xor (x := BitVec.ofNat 32 x))
  rw [BitVec.toNat_xor, BitVec.toNat_not] at h
  simp [Nat.mod_eq_of_lt hx] at h
  exact h
theorem big_bits (x a b c : Nat) (hx : x < 4294967296) (ha : a ≤ 32) (hb : b ≤ 32) (hc : c ≤ 32) :
    bits BinOp.xor IntKind.u32 (bits BinOp.xor IntKind.u32 ((rotN x a : Nat) : Int) ((rotN x b : Nat) : Int)) ((rotN x c : Nat) : Int) = ((bigN x a b c : Nat) : Int) := by
  have h1 := rotN_lt x a hx ha
  have h2 := rotN_lt x b hx hb
  have h3 := rotN_lt x c hx hc
  rw [u32_xor_nat _ _ h1 h2, u32_xor_nat _ _ (xor_lt _ _ h1 h2) h3, bigN]
theorem ch_bits (e f g : Nat) (he : e < 4294967296) (hf : f < 4294967296) (hg : g < 4294967296) :
    bits BinOp.xor IntKind.u32 (bits BinOp.and IntKind.u32 (e : Int) (f : Int)) (bits BinOp.and IntKind.u32 (bits BinOp.xor IntKind.u32 IntKind.u32.max (e : Int)) (g : Int)) = ((chN e f g : Nat) : Int) := by
  have hm : IntKind.u32.max = ((4294967295 : Nat) : Int) := by decide
  rw [hm, u32_xor_nat _ _ (by omega) he, not_nat e he, u32_and_nat _ _ he hf, u32_and_nat _ _ (by omega) hg, u32_xor_nat _ _ (and_lt _ _ hf) (and_lt _ _ hg), chN]
theorem maj_bits (a b c : Nat) (ha : a < 4294967296) (hb : b < 4294967296) (hc : c < 4294967296) :
    bits BinOp.xor IntKind.u32 (bits BinOp.xor IntKind.u32 (bits BinOp.and IntKind.u32 (a : Int) (b : Int)) (bits BinOp.and IntKind.u32 (a : Int) (c : Int))) (bits BinOp.and IntKind.u32 (b : Int) (c : Int)) = ((majN a b c : Nat) : Int) := by
  rw [u32_and_nat _ _ ha hb, u32_and_nat _ _ ha hc, u32_and_nat _ _ hb hc, u32_xor_nat _ _ (and_lt _ _ hb) (and_lt _ _ hc), u32_xor_nat _ _ (xor_lt _ _ (and_lt _ _ hb) (and_lt _ _ hc)) (and_lt _ _ hc), majN]
set_option maxRecDepth 100000 in
set_option maxHeartbeats 4000000 in
theorem rnd_any (v : List Nat) (cc ss : Nat) (w : World) (hv : AllW v) (h8 : v.length = 8) (_hc : cc < 4294967296) (_hs : ss < 4294967296) :
    Calls Try.prog 87 #[.agg (U v), .int .u32 (cc : Int), .int .u32 (ss : Int)] w fun e w' => e = .returned (.agg (U (stepN v cc ss))) ∧ Below w.heap.size w w' := by
  obtain ⟨x0, x1, x2, x3, x4, x5, x6, x7, rfl⟩ := eight h8
  have h0 : x0 < 4294967296 := hv.get 0
  have h1 : x1 < 4294967296 := hv.get 1
  have h2 : x2 < 4294967296 := hv.get 2
  have h3 : x3 < 4294967296 := hv.get 3
  have h4 : x4 < 4294967296 := hv.get 4
  have h5 : x5 < 4294967296 := hv.get 5
  have h6 : x6 < 4294967296 := hv.get 6
  have h7 : x7 < 4294967296 := hv.get 7
  have hU : U [x0, x1, x2, x3, x4, x5, x6, x7] = #[.int .u32 (x0 : Int), .int .u32 (x1 : Int), .int .u32 (x2 : Int), .int .u32 (x3 : Int), .int .u32 (x4 : Int), .int .u32 (x5 : Int), .int .u32 (x6 : Int), .int .u32 (x7 : Int)] := rfl
  rw [hU]
  clear h8 hv hU
  have HG := hidH (rnd_blk w #[.int .u32 (x0 : Int), .int .u32 (x1 : Int), .int .u32 (x2 : Int), .int .u32 (x3 : Int), .int .u32 (x4 : Int), .int .u32 (x5 : Int), .int .u32 (x6 : Int), .int .u32 (x7 : Int)] #[.int .u32 0, .int .u32 0, .int .u32 0, .int .u32 0, .int .u32 0, .int .u32 0, .int .u32 0, .int .u32 0] 96)
  go_enter Try.func87, Try.ntmps87
  go_wp2
  go_quiet (fail)
  go_wp2
  go_quiet (fail)
  go_wp2_with (first | (go_at_call 91; (with_reducible refine (rot_nat x4 6 6 _ rfl h4 (by omega)).mono ?_); rintro e w' ⟨rfl, rfl⟩) | (go_at_call 91; (with_reducible refine (rot_nat x4 11 11 _ rfl h4 (by omega)).mono ?_); rintro e w' ⟨rfl, rfl⟩) | (go_at_call 91; (with_reducible refine (rot_nat x4 25 25 _ rfl h4 (by omega)).mono ?_); rintro e w' ⟨rfl, rfl⟩) | (go_at_call 91; (with_reducible refine (rot_nat x0 2 2 _ rfl h0 (by omega)).mono ?_); rintro e w' ⟨rfl, rfl⟩) | (go_at_call 91; (with_reducible refine (rot_nat x0 13 13 _ rfl h0 (by omega)).mono ?_); rintro e w' ⟨rfl, rfl⟩) | (go_at_call 91; (with_reducible refine (rot_nat x0 22 22 _ rfl h0 (by omega)).mono ?_); rintro e w' ⟨rfl, rfl⟩))
  rw [set8 (HG.out _)]
  have e1 := big_bits x4 6 11 25 h4 (by omega) (by omega) (by omega)
  have e2 := big_bits x0 2 13 22 h0 (by omega) (by omega) (by omega)
  have e3 := ch_bits x4 x5 x6 h4 h5 h6
  have e4 := maj_bits x0 x1 x2 h0 h1 h2
  rw [e1, e2, e3, e4]
  have hb1 := bigN_lt x4 6 11 25 h4 (by omega) (by omega) (by omega)
  have hb2 := bigN_lt x0 2 13 22 h0 (by omega) (by omega) (by omega)
  have hb3 := chN_lt x4 x5 x6 h5 h6
  have hb4 := majN_lt x0 x1 x2 h1 h2
  have eU := step_cells x0 x1 x2 x3 x4 x5 x6 x7 cc ss
  exact bodyPost_ret (v := .agg _) (results_cell_row rfl _ _ (w.heap.size + 1) 96 _ (0, 0) (.array 8 94) rfl (setRow_heap _ _ _ _ _ _ (HG.out _)) (by kernel_rfl) rfl (by kernel_rfl)) rfl ⟨by rw [eU], below_setRow (below_drewN (bal (bal (Below.refl _ _) _) _) _) (Nat.le_succ _) _⟩
end Go.Proofs.Ytacdnednkglobaa
