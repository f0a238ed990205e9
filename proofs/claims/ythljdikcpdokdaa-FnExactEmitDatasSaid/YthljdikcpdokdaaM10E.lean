/- Chapter 10: what goes out of a sender, on lists. -/
import Derived.Test.YthljdikcpdokdaaNa5
namespace Go.Proofs.Ythljdikcpdokdaa
open Go.RowKit Go.Deep

def it0 : SendItemM := ⟨0, 0, 0, false, false, false, [], 0, 0⟩
/-- Whether the item is in the window and due. -/
def dueB (ak now : Int) (x : SendItemM) : Bool := decide (gapV ak x.Data_Tsn ≤ 16) && (decide (x.Sent = 0) || decide (x.Due ≤ now))
def sentI (now rto : Int) (x : SendItemM) : SendItemM := { x with Sent := min (x.Sent + 1) 99, Due := min (now + rto) 1000000000 }
theorem sentI_d (now rto : Int) (x : SendItemM) : (sentI now rto x).d = x.d := rfl
/-- Which of the first j items go out: their places. -/
def fdS (P : SendItemM → Bool) (most : Int) (r : List SendItemM) : Nat → List Nat
  | 0 => []
  | j + 1 => if ((fdS P most r j).length : Int) < most ∧ P (r.getD j it0) = true then fdS P most r j ++ [j] else fdS P most r j
def upS (now rto : Int) (r : List SendItemM) (l : List Nat) : List SendItemM := l.foldl (fun q i => q.set i (sentI now rto (r.getD i it0))) r
def dsS (r : List SendItemM) (l : List Nat) : List DataM := l.map (fun i => (r.getD i it0).d)
theorem fdS_lt {P : SendItemM → Bool} {most : Int} {r : List SendItemM} : ∀ {j : Nat}, ∀ i ∈ fdS P most r j, i < j
  | 0, i, h => by simp [fdS] at h
  | j + 1, i, h => by
    rw [fdS] at h
    split at h
    · rcases List.mem_append.1 h with h | h
      · have := fdS_lt i h; omega
      · simp at h; omega
    · have := fdS_lt i h; omega
theorem fdS_nodup {P : SendItemM → Bool} {most : Int} {r : List SendItemM} : ∀ {j : Nat}, (fdS P most r j).Pairwise (· < ·)
  | 0 => by simp [fdS]
  | j + 1 => by
    rw [fdS]
    split
    · rw [List.pairwise_append]
      exact ⟨fdS_nodup, by simp, fun a ha b hb => by simp at hb; subst hb; exact fdS_lt a ha⟩
    · exact fdS_nodup
theorem fdS_len {P : SendItemM → Bool} {most : Int} {r : List SendItemM} : ∀ {j : Nat}, (fdS P most r j).length ≤ j
  | 0 => by simp [fdS]
  | j + 1 => by
    have := fdS_len (P := P) (most := most) (r := r) (j := j)
    rw [fdS]
    split
    · simp; omega
    · omega
theorem getD_it {r : List SendItemM} {j : Nat} (h : j < r.length) : r.getD j it0 = r[j] := by rw [List.getD_eq_getElem?_getD, List.getElem?_eq_getElem h]; rfl
theorem fdS_yes {P : SendItemM → Bool} {most : Int} {r : List SendItemM} {j : Nat} (hj : j < r.length) (hl : ((fdS P most r j).length : Int) < most) (hp : P r[j] = true) : fdS P most r (j + 1) = fdS P most r j ++ [j] := by
  rw [fdS, if_pos ⟨hl, by rw [getD_it hj]; exact hp⟩]
theorem fdS_no {P : SendItemM → Bool} {most : Int} {r : List SendItemM} {j : Nat} (hj : j < r.length) (h : ¬ (((fdS P most r j).length : Int) < most ∧ P r[j] = true)) : fdS P most r (j + 1) = fdS P most r j := by
  rw [fdS, if_neg (by rw [getD_it hj]; exact h)]
theorem upS_snoc (now rto : Int) (r : List SendItemM) (l : List Nat) (j : Nat) : upS now rto r (l ++ [j]) = (upS now rto r l).set j (sentI now rto (r.getD j it0)) := by simp [upS, List.foldl_append]
theorem dsS_snoc (r : List SendItemM) (l : List Nat) (j : Nat) : dsS r (l ++ [j]) = dsS r l ++ [(r.getD j it0).d] := by simp [dsS]
theorem dsS_len (r : List SendItemM) (l : List Nat) : (dsS r l).length = l.length := by simp [dsS]
theorem foldS_len (now rto : Int) (r : List SendItemM) : ∀ (l : List Nat) (q : List SendItemM), (l.foldl (fun q i => q.set i (sentI now rto (r.getD i it0))) q).length = q.length
  | [], q => rfl
  | i :: l, q => by rw [List.foldl_cons, foldS_len now rto r l]; simp
theorem upS_len (now rto : Int) (r : List SendItemM) (l : List Nat) : (upS now rto r l).length = r.length := foldS_len now rto r l r
theorem foldS_get (now rto : Int) (r : List SendItemM) : ∀ (l : List Nat) (q : List SendItemM) (j : Nat), j ∉ l → (l.foldl (fun q i => q.set i (sentI now rto (r.getD i it0))) q)[j]? = q[j]?
  | [], q, j, _ => rfl
  | i :: l, q, j, h => by
    rw [List.foldl_cons, foldS_get now rto r l _ j (fun z => h (by simp [z])), List.getElem?_set_ne (fun e => h (by simp [e]))]
theorem upS_get (now rto : Int) (r : List SendItemM) {l : List Nat} {j : Nat} (h : j ∉ l) : (upS now rto r l)[j]? = r[j]? := foldS_get now rto r l r j h
/-- A place that goes out was not written before. -/
theorem fdS_new {P : SendItemM → Bool} {most : Int} {r : List SendItemM} {j : Nat} : j ∉ fdS P most r j := fun h => by have := fdS_lt j h; omega
theorem upS_at (now rto : Int) {r : List SendItemM} {l : List Nat} {j : Nat} (hj : j < r.length) (h : j ∉ l) : (upS now rto r l)[j]'(by rw [upS_len]; exact hj) = r[j] := by
  have h1 := upS_get now rto r h
  rw [List.getElem?_eq_getElem (by rw [upS_len]; exact hj), List.getElem?_eq_getElem hj] at h1
  exact Option.some.inj h1
/-- What the items are, but for their bytes' owners. -/
theorem foldS_piece (now rto : Int) (r : List SendItemM) : ∀ (l : List Nat) (q : List SendItemM), q.map SendItemM.d = r.map SendItemM.d → (l.foldl (fun q i => q.set i (sentI now rto (r.getD i it0))) q).map SendItemM.d = r.map SendItemM.d
  | [], q, h => h
  | i :: l, q, h => by
    rw [List.foldl_cons]
    refine foldS_piece now rto r l _ ?_
    by_cases hi : i < r.length
    · rw [List.map_set, sentI_d, getD_it hi, h]
      refine List.ext_getElem (by simp) (fun t h1 h2 => ?_)
      rw [List.getElem_set]
      split
      · next e => subst e; simp
      · rfl
    · rw [List.set_eq_of_length_le, h]
      have := congrArg List.length h
      simp at this
      omega
theorem upS_d (now rto : Int) (r : List SendItemM) (l : List Nat) : (upS now rto r l).map SendItemM.d = r.map SendItemM.d := foldS_piece now rto r l r rfl
theorem map_at {r q : List SendItemM} (h : q.map SendItemM.d = r.map SendItemM.d) : ∀ x ∈ q, ∃ z ∈ r, z.d = x.d := fun x hx => by
  have : x.d ∈ r.map SendItemM.d := by rw [← h]; exact List.mem_map_of_mem hx
  obtain ⟨z, hz, e⟩ := List.mem_map.1 this
  exact ⟨z, hz, e⟩
/-- Whether the arguments are in their ranges. -/
def emOk (now rto most : Int) : Bool := (decide (0 ≤ now) && decide (now ≤ 1000000000)) && ((decide (1 ≤ rto) && decide (rto ≤ 1000000)) && (decide (0 ≤ most) && decide (most ≤ 40)))
def emF (y : SendM) (now most : Int) : List Nat := fdS (dueB y.Acked now) most y.Items y.Items.length
/-- EmitDatas' answer. -/
def emR (y : SendM) (now rto most : Int) : SendResultM :=
  if sdF y = 0 then (if emOk now rto most = true then ⟨0, y.Next, y.Acked, y.Seqs, upS now rto y.Items (emF y now most), dsS y.Items (emF y now most), false⟩ else ⟨3, 0, 0, [], [], [], false⟩) else ⟨sdF y, 0, 0, [], [], [], false⟩
theorem emR_sd {y : SendM} {now rto most : Int} (h : sdF y ≠ 0) : (emR y now rto most).vs = [.int (sdF y), .int 0, .int 0, .is [], .st 0 [], .st 0 [], .bool false] := by unfold emR; rw [if_neg h]; rfl
theorem emR_rg {y : SendM} {now rto most : Int} (h : sdF y = 0) (h2 : emOk now rto most = false) : (emR y now rto most).vs = [.int 3, .int 0, .int 0, .is [], .st 0 [], .st 0 [], .bool false] := by unfold emR; rw [if_pos h, h2]; rfl
theorem emR_ok {y : SendM} {now rto most : Int} (h : sdF y = 0) (h2 : emOk now rto most = true) : (emR y now rto most).vs = [.int 0, .int y.Next, .int y.Acked, .is y.Seqs, st_SendItem (upS now rto y.Items (emF y now most)), st_Data (dsS y.Items (emF y now most)), .bool false] := by unfold emR; rw [if_pos h, if_pos h2]; rfl
end Go.Proofs.Ythljdikcpdokdaa
