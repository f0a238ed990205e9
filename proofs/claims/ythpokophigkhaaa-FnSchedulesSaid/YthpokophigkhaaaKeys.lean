/- The round constants, and RoundWord of the model. -/
import Derived.Test.YthpokophigkhaaaSched
namespace Go.Proofs.Ythpokophigkhaaa
open Go.RowKit Go.Deep

/-- The round constants. -/
def keysN : List Nat := [1116352408, 1899447441, 3049323471, 3921009573, 961987163, 1508970993, 2453635748, 2870763221, 3624381080, 310598401, 607225278, 1426881987, 1925078388, 2162078206, 2614888103, 3248222580, 3835390401, 4022224774, 264347078, 604807628, 770255983, 1249150122, 1555081692, 1996064986, 2554220882, 2821834349, 2952996808, 3210313671, 3336571891, 3584528711, 113926993, 338241895, 666307205, 773529912, 1294757372, 1396182291, 1695183700, 1986661051, 2177026350, 2456956037, 2730485921, 2820302411, 3259730800, 3345764771, 3516065817, 3600352804, 4094571909, 275423344, 430227734, 506948616, 659060556, 883997877, 958139571, 1322822218, 1537002063, 1747873779, 1955562222, 2024104815, 2227730452, 2361852424, 2428436474, 2756734187, 3204031479, 3329325298]
theorem keysN_len : keysN.length = 64 := rfl
theorem keysN_all : AllW keysN := by
  intro x hx
  have : ∀ y ∈ keysN, y < 4294967296 := by decide
  exact this x hx
/-- A block from its start on reads as the words ws. -/
def Nw (w : World) (g : Nat) (ws : List Nat) : Prop := g < w.heap.size ∧ ∀ j, j < ws.length → w.cell? ⟨g, j, none⟩ = some (.int .i64 ((ws.getD j 0 : Nat) : Int))
theorem Nw.of_blk {w : World} {g : Nat} {t : TypeId} {ws : List Nat} (h : Blk w g t (ws.map wv).toArray) : Nw w g ws :=
  ⟨h.lt, fun j hj => by rw [h.cell]; simp [hj, wv]⟩
theorem Nw.below {w w' : World} {g : Nat} {ws : List Nat} (h : Nw w g ws) (hb : Below w.heap.size w w') : Nw w' g ws :=
  ⟨Nat.lt_of_lt_of_le h.1 hb.size, fun j hj => (hb.cell (p := ⟨g, j, none⟩) h.1).trans (h.2 j hj)⟩
theorem Nw.of_own {w : World} {B : Nat} {e : TypeId} {v : Value} {ws : List Nat} (h : w.ownsRow B e 1 v ws.length (ws.map wv)) (hn : 0 < ws.length) :
    ∃ g cap, v = .slice (some ⟨g, 0, none⟩) ws.length cap ∧ B ≤ g ∧ ws.length ≤ cap ∧ (cap : Int) ≤ 9223372036854775807 ∧ Nw w g ws ∧ ∀ j, w.frozen? ⟨g, j, none⟩ = false := by
  obtain ⟨g, cap, rfl, hg, hlt⟩ := h.form hn
  have hc : ws.length ≤ cap ∧ (cap : Int) ≤ 9223372036854775807 := by
    rcases h.2 with ⟨h1, _⟩ | ⟨g', cap', cur, h1, _, _, h2, h3, _⟩
    · cases h1
    · injection h1 with _ _ h4
      subst h4
      unfold maxLen at h3
      exact ⟨h2, by omega⟩
  exact ⟨g, cap, rfl, hg, hc.1, hc.2, ⟨hlt, fun j hj => by rw [h.cellAt j (by omega)]; simp [hj, wv]⟩, fun j => h.frozenAt j⟩
set_option maxRecDepth 100000 in
set_option maxHeartbeats 4000000 in
theorem keys_any (w : World) : Calls Try.prog 84 #[] w fun e w' => e = .returned (.slice (some ⟨w.heap.size, 0, none⟩) 64 64) ∧ Nw w' w.heap.size keysN ∧ Below w.heap.size w w' := by
  go_enter Try.func84, Try.ntmps84
  go_wp2
  go_ret
  exact ⟨rfl, Nw.of_blk (t := 2) (Blk.new w _ _), bal (Below.refl _ _) _⟩
def roundC (i : Int) : Int := if 0 ≤ i ∧ i ≤ 63 then 0 else 3
def roundV (i : Int) : Int := if 0 ≤ i ∧ i ≤ 63 then ((keysN.getD i.toNat 0 : Nat) : Int) else 0
set_option maxHeartbeats 1000000 in
theorem round_spec (i : Int) (w : World) : Calls Try.prog 39 #[.int .i64 i] w (fun e w' => e = .returned (.agg #[.int .i64 (roundC i), .int .i64 (roundV i)]) ∧ Below w.heap.size w w') := by
  by_cases h : 0 ≤ i ∧ i ≤ 63
  · have v : inB i 0 63 = true := inB_yes h.1 h.2
    rw [roundC, roundV, if_pos h, if_pos h]
    obtain ⟨k, rfl⟩ : ∃ k : Nat, i = k := ⟨i.toNat, by omega⟩
    have hk : (k : Int) < 64 := by omega
    have hk0 : (0 : Int) ≤ (k : Int) := by omega
    clear h
    rw [Int.toNat_natCast]
    obtain ⟨kk, hkk⟩ : ∃ kk, keysN.getD k 0 = kk := ⟨_, rfl⟩
    rw [hkk]
    have HKK := hidH hkk
    clear hkk
    go_enter Try.func39, Try.ntmps39
    go_wp2_with (first | (go_at_call 66; refine (in_any _ _ _ _).mono ?_; rintro e w' ⟨rfl, rfl⟩))
    refine (keys_any _).mono ?_
    rintro e w1 ⟨rfl, K, hb⟩
    have z := hb.size
    simp only [World.size_alloc] at z K
    have X := (Blk.new w 27 #[.int .i64 0, .int .i64 0]).below hb
    obtain ⟨x0, x1, xz⟩ := X.two
    have f0 := X.frozen 0
    have f1 := X.frozen 1
    have c := K.2 k (by rw [keysN_len]; omega)
    have hbb := hidH (btr (bal (Below.refl _ _) _) hb)
    clear K X hb z
    rw [HKK.out] at c
    go_wp2
    exact bodyPost_ret (v := .agg #[.int .i64 0, .int .i64 (kk : Nat)]) (by simp [results, Try.results39, go_sem, x0, x1]) rfl ⟨rfl, bst (bst hbb.out (Nat.le_refl _) _) (Nat.le_refl _) _⟩
  · have v : inB i 0 63 = false := by
      by_cases h0 : 0 ≤ i
      · exact inB_hi (by omega)
      · exact inB_lo (by omega)
    rw [roundC, roundV, if_neg h, if_neg h]
    clear h
    go_enter Try.func39, Try.ntmps39
    go_wp2_with (first | (go_at_call 66; refine (in_any _ _ _ _).mono ?_; rintro e w' ⟨rfl, rfl⟩))
    exact bodyPost_ret (v := .agg #[.int .i64 3, .int .i64 0]) (by simp [results, Try.results39, go_sem]) rfl ⟨rfl, bal (Below.refl _ _) _⟩
end Go.Proofs.Ythpokophigkhaaa
