/- The model's SameMac. -/
import Derived.Test.YtacdnednkglobaaGreatDoorLwBytes
import Derived.Test.YtacdnednkglobaaGreatDoorLess
namespace Go.Proofs.YtacdnednkglobaaGreatDoor
open Go.RowKit Go.Deep

def sameM (a b : List Int) : Bool := a.length == 32 && a == b
theorem strOfNums_inj {a b : List Int} (ha : Bytes a) (hb : Bytes b) (h : strOfNums a = strOfNums b) : a = b := by
  have e : a.map (fun n => UInt8.ofNat n.toNat) = b.map (fun n => UInt8.ofNat n.toNat) := by
    rw [← strOfNums_data, ← strOfNums_data, h]
  have key : ∀ (l : List Int), Bytes l → (l.map (fun n => UInt8.ofNat n.toNat)).map (fun (u : UInt8) => (u.toNat : Int)) = l := by
    intro l hl
    rw [List.map_map]
    conv => rhs; rw [← List.map_id l]
    refine List.map_congr_left fun x hx => ?_
    have := hl x hx
    simp only [Function.comp, id, UInt8.toNat_ofNat']
    omega
  rw [← key a ha, ← key b hb, e]
set_option maxHeartbeats 1000000 in
theorem same_spec (A B : Option Addr) (a b : List Int) (c d : Nat) (w : World) (hA : Bs w A a) (hB : Bs w B b) (ha : Bytes a) (hb : Bytes b) :
    Calls Tryz.prog 89 #[.slice A a.length c, .slice B b.length d] w fun e w' => e = .returned (.bool (sameM a b)) ∧ w = w' := by
  have h1 := conv_bs w A a c hA
  have h2 := conv_bs w B b d hB
  clear hA hB
  by_cases h : a.length = 32
  · have h3 : ((a.length : Int) == 32) = true := by rw [beq_iff_eq]; omega
    have hs : ((strOfNums a).toList == (strOfNums b).toList) = sameM a b := by
      rw [sameM, h, ByteArray.toList_eq, ByteArray.toList_eq]
      by_cases e : a = b
      · subst e; simp
      · have : (strOfNums a).data.toList ≠ (strOfNums b).data.toList := fun x => e (strOfNums_inj ha hb (by
          cases hx : strOfNums a; cases hy : strOfNums b
          rw [hx, hy] at x
          simpa using x))
        rw [beq_eq_false_iff_ne.2 this, beq_eq_false_iff_ne.2 e]; rfl
    clear h
    go_enter Tryz.func89, Tryz.ntmps89
    go_wp2
    go_ret
    exact ⟨rfl, rfl⟩
  · have h3 : ((a.length : Int) == 32) = false := by rw [beq_eq_false_iff_ne]; omega
    have hs : sameM a b = false := by simp [sameM, h]
    rw [hs]
    clear h hs
    go_enter Tryz.func89, Tryz.ntmps89
    go_wp2
    go_ret
    exact ⟨rfl, rfl⟩
end Go.Proofs.YtacdnednkglobaaGreatDoor
