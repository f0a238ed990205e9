/- Chapter 7 on lists: the text that is signed, the tag chunk, finding. -/
import Derived.Test.YtacdnednkglobaaGreatDoorTyChs
import Derived.Test.YtacdnednkglobaaGreatDoorTyBR
import Derived.Test.YtacdnednkglobaaGreatDoorP5
namespace Go.Proofs.YtacdnednkglobaaGreatDoor
open Go.RowKit Go.Deep

def cmF (x : ChunkM) : Int := chF x.Kind x.Flags x.Body
def cmL (x : ChunkM) : List Int := chL x.Kind x.Flags x.Body
def cmOk (x : ChunkM) : Prop := (0 ≤ x.Kind ∧ x.Kind ≤ 255) ∧ (0 ≤ x.Flags ∧ x.Flags ≤ 255) ∧ x.Body.length ≤ 160
/-- The first fault of a list of chunks. -/
def cmsF : List ChunkM → Int
  | [] => 0
  | x :: r => if cmF x = 0 then cmsF r else cmF x
theorem cmsF_cons (x : ChunkM) (r : List ChunkM) : cmsF (x :: r) = if cmF x = 0 then cmsF r else cmF x := rfl
theorem cmsF_take : ∀ (r : List ChunkM) (j : Nat) (hj : j < r.length), cmsF (r.take j) = 0 → cmsF (r.take (j + 1)) = cmF r[j]
  | x :: r, 0, _, _ => by
    rw [List.take_succ_cons, List.take_zero, cmsF_cons, List.getElem_cons_zero]
    show (if cmF x = 0 then 0 else cmF x) = _
    split <;> omega
  | x :: r, j + 1, hj, h => by
    rw [List.take_succ_cons, cmsF_cons] at h
    rw [List.take_succ_cons, cmsF_cons]
    by_cases e : cmF x = 0
    · rw [if_pos e] at h ⊢
      simpa using cmsF_take r j (by simpa using hj) h
    · rw [if_neg e] at h; exact absurd h e
theorem cmsF_first : ∀ (r : List ChunkM) (j : Nat) (hj : j < r.length), cmsF (r.take j) = 0 → cmF r[j] ≠ 0 → cmsF r = cmF r[j]
  | x :: r, 0, _, _, h => by rw [cmsF_cons]; simp only [List.getElem_cons_zero] at h ⊢; rw [if_neg h]
  | x :: r, j + 1, hj, h, k => by
    rw [List.take_succ_cons, cmsF_cons] at h
    rw [cmsF_cons]
    by_cases e : cmF x = 0
    · rw [if_pos e] at h ⊢
      simpa using cmsF_first r j (by simpa using hj) h (by simpa using k)
    · rw [if_neg e] at h; exact absurd h e
theorem cmF_zero {x : ChunkM} (h : cmF x = 0) : cmOk x := by
  unfold cmF chF inB at h
  split at h
  · next h1 =>
    simp at h1
    split at h
    · exact ⟨h1.1, h1.2, by assumption⟩
    · cases h
  · cases h
theorem cmF_ok {x : ChunkM} (h : cmOk x) : cmF x = 0 := by
  obtain ⟨⟨h1, h2⟩, ⟨h3, h4⟩, h5⟩ := h
  simp [cmF, chF, inB, h1, h2, h3, h4, h5]
theorem cmsF_mem : ∀ {r : List ChunkM}, cmsF r = 0 → ∀ x ∈ r, cmF x = 0
  | [], _, x, hx => by simp at hx
  | y :: r, h, x, hx => by
    rw [cmsF_cons] at h
    by_cases e : cmF y = 0
    · rw [if_pos e] at h
      rcases List.mem_cons.1 hx with rfl | hx
      · exact e
      · exact cmsF_mem h x hx
    · rw [if_neg e] at h; exact absurd h e
theorem cmsF_ok {r : List ChunkM} (h : cmsF r = 0) : ∀ x ∈ r, cmOk x := fun x hx => cmF_zero (cmsF_mem h x hx)
theorem cmsF_of : ∀ {r : List ChunkM}, (∀ x ∈ r, cmOk x) → cmsF r = 0
  | [], _ => rfl
  | x :: r, h => by rw [cmsF_cons, if_pos (cmF_ok (h x (by simp)))]; exact cmsF_of (fun y hy => h y (by simp [hy]))
/-- A list of at most m chunks without faults. -/
def csF (m : Nat) (r : List ChunkM) : Int := if r.length ≤ m then cmsF r else 2
theorem csF_many {m : Nat} {r : List ChunkM} (h : m < r.length) : csF m r = 2 := by rw [csF, if_neg (by omega)]
theorem csF_few {m : Nat} {r : List ChunkM} (h : r.length ≤ m) : csF m r = cmsF r := by rw [csF, if_pos h]
theorem csF_zero {m : Nat} {r : List ChunkM} (h : csF m r = 0) : r.length ≤ m ∧ cmsF r = 0 := by
  unfold csF at h
  split at h
  · next k => exact ⟨k, h⟩
  · cases h

/-! The tag chunk; the text. -/
def tagB (id : Int) (l : List Int) : List Int := [id / 256, id % 256] ++ l
def zer32 : List Int := List.replicate 32 0
def tagC (id : Int) (l : List Int) : ChunkM := ⟨15, 0, tagB id l⟩
theorem tagB_len (id : Int) (l : List Int) : (tagB id l).length = l.length + 2 := by simp [tagB]
def txtTo (id : Int) (r : List ChunkM) (j : Nat) : List Int := cmL (tagC id zer32) ++ (r.take j).flatMap cmL
def txtL (id : Int) (r : List ChunkM) : List Int := txtTo id r r.length
theorem tag0_len (id : Int) : (cmL (tagC id zer32)).length = 40 := by
  rw [cmL, chL_len]
  show 4 + (tagB id zer32).length + chPad (tagB id zer32).length = 40
  rw [tagB_len]; decide
theorem txtTo_zero (id : Int) (r : List ChunkM) : txtTo id r 0 = cmL (tagC id zer32) := by simp [txtTo]
theorem txtTo_succ (id : Int) (r : List ChunkM) (j : Nat) (hj : j < r.length) : txtTo id r (j + 1) = txtTo id r j ++ cmL r[j] := by
  rw [txtTo, txtTo, List.take_add_one, List.getElem?_eq_getElem hj, Option.toList_some, List.flatMap_append, List.append_assoc]
  simp only [List.flatMap_cons, List.flatMap_nil, List.append_nil]
theorem cmL_len (x : ChunkM) (h : x.Body.length ≤ 160) : (cmL x).length ≤ 168 := by
  rw [cmL, chL_len]; unfold chPad; omega
theorem txtTo_len (id : Int) (r : List ChunkM) (hc : ∀ x ∈ r, cmOk x) (j : Nat) (hj : j ≤ r.length) : (txtTo id r j).length ≤ 40 + 168 * j := by
  induction j with
  | zero => rw [txtTo_zero, tag0_len]; omega
  | succ j ih =>
    rw [txtTo_succ _ _ _ (by omega), List.length_append]
    have := cmL_len r[j] (hc _ (List.getElem_mem _)).2.2
    have := ih (by omega)
    omega
theorem chL_bytes {k f : Int} {b : List Int} (h1 : 0 ≤ k ∧ k ≤ 255) (h2 : 0 ≤ f ∧ f ≤ 255) (h3 : Bytes b) (h4 : b.length ≤ 1000) : Bytes (chL k f b) := by
  intro x hx
  simp only [chL, List.mem_append, List.mem_cons, List.not_mem_nil, or_false, List.mem_replicate] at hx
  rcases hx with ((rfl | rfl | rfl | rfl) | hx) | ⟨_, rfl⟩
  · exact h1
  · exact h2
  · omega
  · omega
  · exact h3 x hx
  · omega
theorem cmL_bytes {x : ChunkM} (h : cmOk x) (hb : Bytes x.Body) : Bytes (cmL x) := chL_bytes h.1 h.2.1 hb (by have := h.2.2; omega)
theorem zer32_bytes : Bytes zer32 := by intro x hx; simp [zer32] at hx; omega
theorem tagB_bytes {id : Int} {l : List Int} (h0 : 0 ≤ id) (h1 : id ≤ 65535) (hl : Bytes l) : Bytes (tagB id l) := by
  intro x hx
  simp only [tagB, List.mem_append, List.mem_cons, List.not_mem_nil, or_false] at hx
  rcases hx with (rfl | rfl) | hx
  · omega
  · omega
  · exact hl x hx
theorem txtTo_bytes {id : Int} {r : List ChunkM} (h0 : 0 ≤ id) (h1 : id ≤ 65535) (hc : ∀ x ∈ r, cmOk x) (hb : ∀ x ∈ r, Bytes x.Body) (j : Nat) : Bytes (txtTo id r j) := by
  intro x hx
  rcases List.mem_append.1 hx with hx | hx
  · exact cmL_bytes (x := tagC id zer32) ⟨⟨by show (0 : Int) ≤ 15; decide, by show (15 : Int) ≤ 255; decide⟩, ⟨by show (0 : Int) ≤ 0; decide, by show (0 : Int) ≤ 255; decide⟩, by show (tagB id zer32).length ≤ 160; rw [tagB_len]; decide⟩ (tagB_bytes h0 h1 zer32_bytes) x hx
  · obtain ⟨y, hy, hx⟩ := List.mem_flatMap.1 hx
    have hy := List.mem_of_mem_take hy
    exact cmL_bytes (hc y hy) (hb y hy) x hx
def mtF (id : Int) (r : List ChunkM) : Int := if inB id 0 99 then (if csF 7 r = 0 then (if (txtL id r).length ≤ 500 then 0 else 2) else csF 7 r) else 3
def mtR (id : Int) (r : List ChunkM) : BytesResultM := if mtF id r = 0 then ⟨0, txtL id r⟩ else ⟨mtF id r, []⟩
theorem mtF_zero {id : Int} {r : List ChunkM} (h : mtF id r = 0) : (0 ≤ id ∧ id ≤ 99) ∧ csF 7 r = 0 ∧ (txtL id r).length ≤ 500 := by
  unfold mtF at h
  split at h
  · next h1 =>
    simp [inB] at h1
    split at h
    · next h2 =>
      split at h
      · next h3 => exact ⟨h1, h2, h3⟩
      · cases h
    · next h2 => exact absurd h h2
  · cases h
theorem mtR_code (id : Int) (r : List ChunkM) : (mtR id r).Code = mtF id r := by
  unfold mtR; split
  · next h => exact h.symm
  · rfl
theorem mtR_ok {id : Int} {r : List ChunkM} (h : mtF id r = 0) : mtR id r = ⟨0, txtL id r⟩ := by rw [mtR, if_pos h]
theorem mtR_no {id : Int} {r : List ChunkM} (h : mtF id r ≠ 0) : mtR id r = ⟨mtF id r, []⟩ := by rw [mtR, if_neg h]

/-! Finding. -/
def isTag (x : ChunkM) : Bool := x.Flags == 0 && x.Body.length == 34 && decide (pairAt x.Body 0 ≤ 99)
def faL : List ChunkM → Nat → AuthResultM
  | [], _ => ⟨4, 0, 0⟩
  | x :: r, i => if x.Kind = 15 then (if isTag x then ⟨0, pairAt x.Body 0, (i : Int) + 1⟩ else ⟨5, 0, 0⟩) else faL r (i + 1)
def faR (r : List ChunkM) : AuthResultM := if csF 8 r = 0 then faL r 0 else ⟨csF 8 r, 0, 0⟩
theorem faL_step : ∀ (r : List ChunkM) (i j : Nat), (∀ x ∈ r.take j, x.Kind ≠ 15) → faL r i = faL (r.drop j) (i + j)
  | r, i, 0, _ => by simp
  | [], i, j + 1, _ => by simp [faL]
  | x :: r, i, j + 1, h => by
    have h0 := h x (by simp)
    rw [faL, if_neg h0, faL_step r (i + 1) j (fun y hy => h y (by simp [hy])), List.drop_succ_cons]
    congr 1; omega
/-- The tag chunk that was found. -/
theorem faL_ok : ∀ {r : List ChunkM} {i : Nat}, (faL r i).Code = 0 → ∃ j, ∃ hj : j < r.length, faL r i = ⟨0, pairAt r[j].Body 0, ((i + j : Nat) : Int) + 1⟩ ∧ r[j].Kind = 15 ∧ isTag r[j] = true
  | [], i, h => by simp [faL] at h
  | x :: r, i, h => by
    unfold faL at h
    split at h
    · next hk =>
      split at h
      · next ht => exact ⟨0, by simp, by rw [faL, if_pos hk, if_pos ht]; simp, hk, ht⟩
      · simp at h
    · next hk =>
      obtain ⟨j, hj, e, h1, h2⟩ := faL_ok h
      refine ⟨j + 1, by simpa using hj, ?_, by simpa using h1, by simpa using h2⟩
      rw [faL, if_neg hk, e]
      simp only [List.getElem_cons_succ]
      congr 1; omega
theorem isTag_out {x : ChunkM} (h : isTag x = true) : x.Flags = 0 ∧ x.Body.length = 34 ∧ pairAt x.Body 0 ≤ 99 := by
  simp [isTag] at h; exact ⟨h.1.1, h.1.2, h.2⟩

end Go.Proofs.YtacdnednkglobaaGreatDoor
