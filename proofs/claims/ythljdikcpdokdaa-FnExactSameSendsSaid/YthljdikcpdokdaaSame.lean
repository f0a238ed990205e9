/- The model's SameMac. -/
import Derived.Test.YthljdikcpdokdaaLwBytes
import Derived.Test.YthljdikcpdokdaaLess
namespace Go.Proofs.Ythljdikcpdokdaa
open Go.RowKit Go.Deep

def sameM (a b : List Int) : Bool := a.length == 32 && a == b
theorem strOfNums_inj {a b : List Int} (ha : Bytes a) (hb : Bytes b) (h : strOfNums a = strOfNums b) : a = b := by
  have e : a.map (fun n => UInt8.ofNat n.toNat) = b.map (fun n => UInt8.ofNat n.toNat) := by
    rw [← strOfNums_data, ← strOfNums_data, h]
  have key : ∀ (l : List Int), Bytes l → (l.map (fun n => UInt8.ofNat n.toNat)).map (fun (u : UInt8) => (u.toNat : Int)) = l := by
    intro l hl
    rw [List.map_map]
    conv => rhs; rw [← List.map_id l]
    refine List.map_congr_left fun x hx => ?_
    have := hl x hx
    simp only [Function.comp, id, UInt8.toNat_ofNat']
    omega
  rw [← key a ha, ← key b hb, e]
end Go.Proofs.Ythljdikcpdokdaa
