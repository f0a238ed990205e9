/- What the law FnMacs holds while it compares. -/
import Derived.Test.YtanffpmpknmldaaLaw1
import Derived.Test.YtanffpmpknmldaaDraw5
import Derived.Test.YtanffpmpknmldaaHmI
import Derived.Test.YtanffpmpknmldaaSameI
import Derived.Test.YtanffpmpknmldaaLwBytes
namespace Go.Proofs.Ytanffpmpknmldaa
open Go.RowKit Go.Deep

/-- The code in its block, the drawn slices and the code stay as they are. -/
structure MS (w0 : World) (g : Nat) (C : Int) (M : Option Addr) (ml : List Int) (cm : Nat) (K : Option Addr) (k : List Int) (D : Option Addr) (d : List Int) (SA : Option Addr) (a : List Int) (SB : Option Addr) (b : List Int) (A : Option Addr) (l : List Int) (w' : World) : Prop where
  blk : Blk w' g 27 #[.int .i64 C, .slice M ml.length cm]
  mac : Bs w' M ml
  key : Bs w' K k
  data : Bs w' D d
  sa : Bs w' SA a
  sb : Bs w' SB b
  code : Bs w' A l
  old : Below w0.heap.size w0 w'
section
variable {w0 : World} {g : Nat} {C : Int} {M : Option Addr} {ml : List Int} {cm : Nat} {K : Option Addr} {k : List Int} {D : Option Addr} {d : List Int} {SA : Option Addr} {a : List Int} {SB : Option Addr} {b : List Int} {A : Option Addr} {l : List Int} {u v : World}
theorem MS.below (h : MS w0 g C M ml cm K k D d SA a SB b A l u) (hb : Below u.heap.size u v) : MS w0 g C M ml cm K k D d SA a SB b A l v :=
  ⟨h.blk.below hb, bs_below h.mac hb, bs_below h.key hb, bs_below h.data hb, bs_below h.sa hb, bs_below h.sb hb, bs_below h.code hb, btr h.old hb⟩
end
theorem own_below {w w' : World} {B : Nat} {e : TypeId} {s n : Nat} {v : Value} {xs : List Value} (h : w.ownsRow B e s v n xs) (hb : Below w.heap.size w w') : w'.ownsRow B e s v n xs := by
  obtain ⟨h1, h2 | ⟨g, cap, cur, h3, h4, h5, h6⟩⟩ := h
  · exact ⟨h1, .inl h2⟩
  · exact ⟨h1, .inr ⟨g, cap, cur, h3, h4, (hb.block g (Array.getElem?_eq_some_iff.1 h5).1).trans h5, h6⟩⟩
theorem fldB6 (c : Int) (A : Option Addr) (n cp : Nat) (w : World) : (Instr.field 27 (.agg #[.int .i64 c, .slice A n cp]) 0).run Try.prog w = .ok (.int .i64 c) w := by kernel_rfl
theorem fldB7 (c : Int) (A : Option Addr) (n cp : Nat) (w : World) : (Instr.field 27 (.agg #[.int .i64 c, .slice A n cp]) 1).run Try.prog w = .ok (.slice A n cp) w := by kernel_rfl
theorem turnL_ne {l : List Int} (hl : Bytes l) (k m : Nat) (hk : k < l.length) (hm : 0 < m) : turnL l k m ≠ l := turn_ne hl k m hk hm
theorem sameM_turn {l : List Int} (hl : Bytes l) (k m : Nat) (hk : k < l.length) (hm : 0 < m) : sameM l (turnL l k m) = false := by
  unfold sameM
  rw [beq_eq_false_iff_ne.2 (fun h => turnL_ne hl k m hk hm h.symm), Bool.and_false]
theorem sameM_refl {l : List Int} (h : l.length = 32) : sameM l l = true := by simp [sameM, h]
theorem same_implB (A B : Option Addr) (a b : List Int) (c d : Nat) (w : World) (hA : Bs w A a) (hB : Bs w B b) (ha : Bytes a) (hb : Bytes b) :
    Calls Try.prog 13 #[.slice A a.length c, .slice B b.length d] w fun e w' => e = .returned (.bool (sameM a b)) ∧ Below w.heap.size w w' :=
  (same_impl A B a b c d w hA hB ha hb).mono fun _ _ ⟨h, k, hk⟩ => ⟨h, hk ▸ below_drewN (Below.refl _ _) k⟩
theorem same_specB (A B : Option Addr) (a b : List Int) (c d : Nat) (w : World) (hA : Bs w A a) (hB : Bs w B b) (ha : Bytes a) (hb : Bytes b) :
    Calls Try.prog 14 #[.slice A a.length c, .slice B b.length d] w fun e w' => e = .returned (.bool (sameM a b)) ∧ Below w.heap.size w w' :=
  (same_spec A B a b c d w hA hB ha hb).mono fun _ _ ⟨h, hk⟩ => ⟨h, hk ▸ Below.refl _ _⟩
theorem lwB_sameB (A B : Option Addr) (l : List Int) (c d : Nat) (w : World) (hA : Bs w A l) (hB : Bs w B l) :
    Calls Try.prog 15 #[.slice A l.length c, .slice B l.length d] w fun e w' => e = .returned (.bool true) ∧ Below w.heap.size w w' :=
  (lwB_same A B l c d w hA hB).mono fun _ _ ⟨h, hk⟩ => ⟨h, hk ▸ Below.refl _ _⟩
/-- A BytesResult and a program's answer, its bytes read. -/
def RB (u : World) (C : Int) (L : List Int) (e : Ending) (w' : World) : Prop :=
  ∃ A' c', e = .returned (.agg #[.int .i64 C, .slice A' L.length c']) ∧ Bs w' A' L ∧ Below u.heap.size u w'
theorem BRes.rb {u w' : World} {C : Int} {L : List Int} {e : Ending} (h : BRes u C L e w') : RB u C L e w' := by
  obtain ⟨A, cp, h1, h2, h3, _⟩ := h
  exact ⟨A, cp, h1, h2.bs, h3⟩
end Go.Proofs.Ytanffpmpknmldaa
