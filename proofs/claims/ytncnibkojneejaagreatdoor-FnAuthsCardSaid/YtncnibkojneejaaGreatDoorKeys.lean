/- The round constants, and RoundWord of the model. -/
import Derived.Test.YtncnibkojneejaaGreatDoorSched
namespace Go.Proofs.YtncnibkojneejaaGreatDoor
open Go.RowKit Go.Deep

/-- The round constants. -/
def keysN : List Nat := [1116352408, 1899447441, 3049323471, 3921009573, 961987163, 1508970993, 2453635748, 2870763221, 3624381080, 310598401, 607225278, 1426881987, 1925078388, 2162078206, 2614888103, 3248222580, 3835390401, 4022224774, 264347078, 604807628, 770255983, 1249150122, 1555081692, 1996064986, 2554220882, 2821834349, 2952996808, 3210313671, 3336571891, 3584528711, 113926993, 338241895, 666307205, 773529912, 1294757372, 1396182291, 1695183700, 1986661051, 2177026350, 2456956037, 2730485921, 2820302411, 3259730800, 3345764771, 3516065817, 3600352804, 4094571909, 275423344, 430227734, 506948616, 659060556, 883997877, 958139571, 1322822218, 1537002063, 1747873779, 1955562222, 2024104815, 2227730452, 2361852424, 2428436474, 2756734187, 3204031479, 3329325298]
theorem keysN_len : keysN.length = 64 := rfl
theorem keysN_all : AllW keysN := by
  intro x hx
  have : ∀ y ∈ keysN, y < 4294967296 := by decide
  exact this x hx
/-- A block from its start on reads as the words ws. -/
def Nw (w : World) (g : Nat) (ws : List Nat) : Prop := g < w.heap.size ∧ ∀ j, j < ws.length → w.cell? ⟨g, j, none⟩ = some (.int .i64 ((ws.getD j 0 : Nat) : Int))
theorem Nw.of_blk {w : World} {g : Nat} {t : TypeId} {ws : List Nat} (h : Blk w g t (ws.map wv).toArray) : Nw w g ws :=
  ⟨h.lt, fun j hj => by rw [h.cell]; simp [hj, wv]⟩
theorem Nw.below {w w' : World} {g : Nat} {ws : List Nat} (h : Nw w g ws) (hb : Below w.heap.size w w') : Nw w' g ws :=
  ⟨Nat.lt_of_lt_of_le h.1 hb.size, fun j hj => (hb.cell (p := ⟨g, j, none⟩) h.1).trans (h.2 j hj)⟩
theorem Nw.of_own {w : World} {B : Nat} {e : TypeId} {v : Value} {ws : List Nat} (h : w.ownsRow B e 1 v ws.length (ws.map wv)) (hn : 0 < ws.length) :
    ∃ g cap, v = .slice (some ⟨g, 0, none⟩) ws.length cap ∧ B ≤ g ∧ ws.length ≤ cap ∧ (cap : Int) ≤ 9223372036854775807 ∧ Nw w g ws ∧ ∀ j, w.frozen? ⟨g, j, none⟩ = false := by
  obtain ⟨g, cap, rfl, hg, hlt⟩ := h.form hn
  have hc : ws.length ≤ cap ∧ (cap : Int) ≤ 9223372036854775807 := by
    rcases h.2 with ⟨h1, _⟩ | ⟨g', cap', cur, h1, _, _, h2, h3, _⟩
    · cases h1
    · injection h1 with _ _ h4
      subst h4
      unfold maxLen at h3
      exact ⟨h2, by omega⟩
  exact ⟨g, cap, rfl, hg, hc.1, hc.2, ⟨hlt, fun j hj => by rw [h.cellAt j (by omega)]; simp [hj, wv]⟩, fun j => h.frozenAt j⟩
set_option maxRecDepth 100000 in
set_option maxHeartbeats 4000000 in
theorem keys_any (w : World) : Calls Tryz.prog 85 #[] w fun e w' => e = .returned (.slice (some ⟨w.heap.size, 0, none⟩) 64 64) ∧ Nw w' w.heap.size keysN ∧ Below w.heap.size w w' := by
  go_enter Tryz.func85, Tryz.ntmps85
  go_wp2
  go_ret
  exact ⟨rfl, Nw.of_blk (t := 2) (Blk.new w _ _), bal (Below.refl _ _) _⟩
def roundC (i : Int) : Int := if 0 ≤ i ∧ i ≤ 63 then 0 else 3
def roundV (i : Int) : Int := if 0 ≤ i ∧ i ≤ 63 then ((keysN.getD i.toNat 0 : Nat) : Int) else 0
end Go.Proofs.YtncnibkojneejaaGreatDoor
