/- A region that draws its order, by an invariant over what is done: only the edges that bind look back. -/
import Derived.Test.YtncnibkojneejaaGreatDoorJa7
namespace Go.Proofs.YtncnibkojneejaaGreatDoor
open Go.RowKit Go.Deep

/-- The region's walk: 'deps i' are operations that surely come ahead of i. -/
theorem wpAny_inv2 {P : Program} {ops : Array Oper} {Q : Exit → Act → World → Prop} (n : Nat) (deps : Nat → List Nat) (J : (Nat → Bool) → Act → World → Prop)
    (hn : ops.size = n)
    (hdeps : ((List.range n).all fun i => (deps i).all fun j => ((ops[i]?).map fun o => o.after.any fun e => Region.binds .any e && e.on == j).getD false) = true)
    (hback : ((List.range n).all fun i => ((ops[i]?).map fun o => o.after.all fun e => !(Region.binds .any e) || decide (e.on < i)).getD false) = true)
    (step : ∀ i, i < n → ∀ d a w, J d a w → d i = false → (∀ j, j ∈ deps i → d j = true) → wpOp P ops Q i (J (fun j => j == i || d j)) a w)
    (fin : ∀ d a w, J d a w → (∀ j, j < n → d j = true) → Q .normal a w) :
    ∀ (fuel : Nat) (L : Array Bool) (a : Act) (w : World), L.size = n → leftOf (fun j => L.getD j false) n ≤ fuel → J (fun j => L.getD j false) a w → wpAny P .any ops Q fuel L a w := by
  have mem : ∀ (L : Array Bool), L.size = n → ∀ i, i ∈ Region.ready .any ops L → i < n ∧ L.getD i false = false ∧ ∀ j, j ∈ deps i → L.getD j false = true := by
    intro L hL i hi
    simp only [Region.ready, List.mem_filter, List.mem_range, Bool.and_eq_true, Bool.not_eq_true'] at hi
    obtain ⟨h1, h2, h3⟩ := hi
    rw [hn] at h1
    refine ⟨h1, ?_, fun j hj => ?_⟩
    · simp only [Array.getD_eq_getD_getElem?] at h2 ⊢
      rw [Array.getElem?_eq_getElem (by omega)] at h2 ⊢
      exact h2
    · have h4 := List.all_eq_true.1 (List.all_eq_true.1 hdeps i (List.mem_range.2 h1)) j hj
      cases ho : ops[i]? with
      | none => simp [ho] at h4
      | some o =>
        simp only [ho, Option.map_some, Option.getD_some] at h3 h4
        obtain ⟨k, hk, he⟩ := Array.any_eq_true.1 h4
        simp only [Bool.and_eq_true, beq_iff_eq] at he
        have h5 := Array.all_eq_true.1 h3 k hk
        simp only [he.1, Bool.not_true, Bool.false_or] at h5
        rw [← he.2]; exact h5
  have done : ∀ (L : Array Bool), L.size = n → Region.ready .any ops L = [] → ∀ j, j < n → L.getD j false = true := by
    intro L hL h j
    induction j using Nat.strongRecOn with
    | ind j ih =>
      intro hj
      cases hd : L.getD j false with
      | true => rfl
      | false =>
        exfalso
        have hm : j ∈ Region.ready .any ops L := by
          simp only [Region.ready, List.mem_filter, List.mem_range, Bool.and_eq_true, Bool.not_eq_true']
          refine ⟨by omega, ?_, ?_⟩
          · simp only [Array.getD_eq_getD_getElem?] at hd ⊢
            rw [Array.getElem?_eq_getElem (by omega)] at hd ⊢
            exact hd
          · have h4 := List.all_eq_true.1 hback j (List.mem_range.2 hj)
            cases ho : ops[j]? with
            | none => simp [ho] at h4
            | some o =>
              simp only [ho, Option.map_some, Option.getD_some] at h4 ⊢
              rw [Array.all_eq_true]
              intro k hk
              have h5 := Array.all_eq_true.1 h4 k hk
              rw [Bool.or_eq_true, decide_eq_true_eq] at h5
              rcases h5 with h5 | h5
              · rw [h5, Bool.true_or]
              · rw [ih _ h5 (by omega), Bool.or_true]
        rw [h] at hm
        cases hm
  intro fuel
  induction fuel with
  | zero =>
    intro L a w hL hf hJ
    have hall := leftOf_zero (fun j => L.getD j false) n (by omega)
    refine ⟨?_, fin _ a w hJ hall⟩
    cases hr : Region.ready .any ops L with
    | nil => rfl
    | cons i t =>
      obtain ⟨h1, h2, _⟩ := mem L hL i (by rw [hr]; exact List.mem_cons_self)
      have h9 : L.getD i false = true := hall i h1
      rw [h2] at h9
      cases h9
  | succ fuel ih =>
    intro L a w hL hf hJ
    refine ⟨fun h => fin _ a w hJ (done L hL h), fun i hi => ?_⟩
    obtain ⟨h1, h2, h3⟩ := mem L hL i hi
    have hs := step i h1 _ a w hJ h2 h3
    have hg := getD_set L i (by omega)
    have hl := leftOf_lt (fun j => L.getD j false) i n h1 h2
    refine wpOp_mono (fun a' w' hJ' => ih _ a' w' (by simpa using hL) ?_ ?_) hs
    · rw [hg]; omega
    · rw [hg]; exact hJ'
theorem region_inv2 {P : Program} {ops : Array Oper} {Q : Exit → Act → World → Prop} (n : Nat) (deps : Nat → List Nat) (J : (Nat → Bool) → Act → World → Prop)
    (hn : ops.size = n)
    (hdeps : ((List.range n).all fun i => (deps i).all fun j => ((ops[i]?).map fun o => o.after.any fun e => Region.binds .any e && e.on == j).getD false) = true)
    (hback : ((List.range n).all fun i => ((ops[i]?).map fun o => o.after.all fun e => !(Region.binds .any e) || decide (e.on < i)).getD false) = true)
    {a : Act} {w : World} (h0 : J (fun _ => false) a w)
    (step : ∀ i, i < n → ∀ d a w, J d a w → d i = false → (∀ j, j ∈ deps i → d j = true) → wpOp P ops Q i (J (fun j => j == i || d j)) a w)
    (fin : ∀ d a w, J d a w → (∀ j, j < n → d j = true) → Q .normal a w) :
    wpAny P .any ops Q ops.size (Array.replicate ops.size false) a w := by
  have e : (fun j => (Array.replicate ops.size false).getD j false) = fun _ => false := by
    funext j
    simp only [Array.getD_eq_getD_getElem?, Array.getElem?_replicate]
    split <;> rfl
  refine wpAny_inv2 n deps J hn hdeps hback step fin _ _ a w (by simpa using hn) ?_ ?_
  · rw [e, leftOf_false]; omega
  · rw [e]; exact h0
end Go.Proofs.YtncnibkojneejaaGreatDoor
