/- The program's SameMac. -/
import Derived.Test.YtanffpmpknmldaaSame
import Derived.Test.YtanffpmpknmldaaBytes
import Derived.Test.YtanffpmpknmldaaCrcM
import Derived.Laws.BitsAllLaws
namespace Go.Proofs.Ytanffpmpknmldaa
open Go.RowKit Go.Deep

theorem u8_or (a b : Nat) (ha : a < 256) (hb : b < 256) : bits .or .u8 (a : Int) (b : Int) = ((a ||| b : Nat) : Int) := by
  have hx : a ||| b < 256 := Nat.or_lt_two_pow (n := 8) ha hb
  show IntKind.u8.wrap ((BitVec.ofInt 8 (a : Int) ||| BitVec.ofInt 8 (b : Int)).toNat : Int) = _
  have e1 : (BitVec.ofInt 8 (a : Int)).toNat = a := by simp; omega
  have e2 : (BitVec.ofInt 8 (b : Int)).toNat = b := by simp; omega
  rw [BitVec.toNat_or, e1, e2]
  unfold IntKind.wrap
  simp [IntKind.bits, IntKind.signed]
  omega
theorem u8_xor' (a b : Nat) (ha : a < 256) (hb : b < 256) : bits .xor .u8 (a : Int) (b : Int) = ((a ^^^ b : Nat) : Int) := by
  have hx : a ^^^ b < 256 := Nat.xor_lt_two_pow (n := 8) ha hb
  show IntKind.u8.wrap ((BitVec.ofInt 8 (a : Int) ^^^ BitVec.ofInt 8 (b : Int)).toNat : Int) = _
  have e1 : (BitVec.ofInt 8 (a : Int)).toNat = a := by simp; omega
  have e2 : (BitVec.ofInt 8 (b : Int)).toNat = b := by simp; omega
  rw [BitVec.toNat_xor, e1, e2]
  unfold IntKind.wrap
  simp [IntKind.bits, IntKind.signed]
  omega
/-- Once two bytes have differed the sum stays other than zero. -/
theorem differ (d x y : Int) (hd : 0 ≤ d ∧ d ≤ 255) (hx : 0 ≤ x ∧ x ≤ 255) (hy : 0 ≤ y ∧ y ≤ 255) :
    ∃ q v : Int, bits .xor .u8 x y = q ∧ bits .or .u8 d q = v ∧ (0 ≤ v ∧ v ≤ 255) ∧ (v = 0 ↔ d = 0 ∧ x = y) := by
  obtain ⟨d, rfl⟩ : ∃ n : Nat, d = n := ⟨d.toNat, by omega⟩
  obtain ⟨x, rfl⟩ : ∃ n : Nat, x = n := ⟨x.toNat, by omega⟩
  obtain ⟨y, rfl⟩ : ∃ n : Nat, y = n := ⟨y.toNat, by omega⟩
  have h1 : x ^^^ y < 256 := Nat.xor_lt_two_pow (n := 8) (by omega) (by omega)
  have h2 : d ||| (x ^^^ y) < 256 := Nat.or_lt_two_pow (n := 8) (by omega) h1
  refine ⟨_, _, u8_xor' x y (by omega) (by omega), u8_or d (x ^^^ y) (by omega) h1, by omega, ?_⟩
  have h3 : x ^^^ y = 0 ↔ x = y := by
    constructor
    · intro h
      exact xor_can (c := y) (by rw [h, Nat.xor_self])
    · intro h; rw [h, Nat.xor_self]
  have h4 : d ||| (x ^^^ y) = 0 ↔ d = 0 ∧ x ^^^ y = 0 := Nat.or_eq_zero_iff
  omega
def eqTo (a b : List Int) (k : Nat) : Prop := ∀ j, j < k → a.getD j 0 = b.getD j 0
theorem eqTo_succ (a b : List Int) (k : Nat) : eqTo a b (k + 1) ↔ eqTo a b k ∧ a.getD k 0 = b.getD k 0 := by
  constructor
  · intro h; exact ⟨fun j hj => h j (by omega), h k (by omega)⟩
  · rintro ⟨h1, h2⟩ j hj
    by_cases e : j = k
    · subst e; exact h2
    · exact h1 j (by omega)
theorem eqTo_all {a b : List Int} (k : Nat) (ha : a.length = k) (hb : b.length = k) : eqTo a b k ↔ a = b := by
  constructor
  · intro h
    refine List.ext_getElem (by omega) fun j h1 h2 => ?_
    have := h j (by omega)
    rw [List.getD_eq_getElem?_getD, List.getD_eq_getElem?_getD, List.getElem?_eq_getElem h1, List.getElem?_eq_getElem h2] at this
    exact this
  · intro h; subst h; intro j _; rfl
theorem bs_cells {w : World} {A : Option Addr} {l : List Int} (h : Bs w A l) (hp : 0 < l.length) : ∃ b off, A = some ⟨b, off, none⟩ ∧ b < w.heap.size ∧ ∀ j, j < l.length → w.cell? ⟨b, off + j, none⟩ = some (.int .u8 (l.getD j 0)) := by
  rcases h with h | h
  · rw [h] at hp; simp at hp
  · exact h
set_option maxHeartbeats 1000000 in
theorem same_impl (A B : Option Addr) (a b : List Int) (c d : Nat) (w : World) (hA : Bs w A a) (hB : Bs w B b) (ha : Bytes a) (hb : Bytes b) :
    Calls Try.prog 13 #[.slice A a.length c, .slice B b.length d] w fun e w' => e = .returned (.bool (sameM a b)) ∧ ∃ k, w.drewN k = w' := by
  by_cases h1 : a.length = 32
  · by_cases h2 : b.length = 32
    · obtain ⟨p, o, rfl, _, cA⟩ := bs_cells hA (by omega)
      obtain ⟨q, r, rfl, _, cB⟩ := bs_cells hB (by omega)
      have HS : Hid (sameM a b = true ↔ eqTo a b 32) := hidH (by
        rw [eqTo_all 32 h1 h2, sameM, h1]
        simp)
      rw [h1] at cA ⊢
      rw [h2] at cB ⊢
      have CA := hidH cA
      have CB := hidH cB
      clear cA cB hA hB h1 h2
      go_enter Try.func13, Try.ntmps13
      go_wp2
      go_loopw [5, 15] (fun v i wr => ∃ (k n : Nat) (x : Int), k ≤ 32 ∧ v = .int .u8 x ∧ i = .int .i64 k ∧ wr = w.drewN n ∧ (0 ≤ x ∧ x ≤ 255) ∧ (x = 0 ↔ eqTo a b k)) (fun _ i _ => 32 - (intOf i).toNat)
      case atStart => exact ⟨0, 0, 0, by omega, rfl, rfl, rfl, by omega, by simp [eqTo]⟩
      case round =>
        obtain ⟨k, n, x, hk, rfl, rfl, rfl, hx, he⟩ := hrel
        by_cases hlt : k < 32
        · have c1 : w.cell? ⟨p, o + k, none⟩ = some (.int .u8 (a.getD k 0)) := CA.out k hlt
          have c2 : w.cell? ⟨q, r + k, none⟩ = some (.int .u8 (b.getD k 0)) := CB.out k hlt
          have hsuc := eqTo_succ a b k
          have hya := ha.get k
          have hyb := hb.get k
          obtain ⟨y, hy⟩ : ∃ y, a.getD k 0 = y := ⟨_, rfl⟩
          obtain ⟨t, ht⟩ : ∃ t, b.getD k 0 = t := ⟨_, rfl⟩
          rw [hy] at c1 hsuc hya
          rw [ht] at c2 hsuc hyb
          obtain ⟨u, v, q1, q2, hv, hz⟩ := differ x y t hx hya hyb
          have HZ : Hid (v = 0 ↔ eqTo a b (k + 1)) := hidH (by rw [hsuc, ← he]; exact hz)
          clear hsuc hy ht hya hyb
          have HV := hidH hv
          clear hz hv he hx
          have hi0 : (0 : Int) ≤ (k : Int) := by omega
          have hi1 : (k : Int) < 32 := by omega
          go_wp2
          go_quiet (fail)
          go_wp2
          go_roundw
          case rel => exact ⟨k + 1, n + nq, v, by omega, rfl, by go_num, rfl, HV.out, HZ.out⟩
          case measure => simp [intOf]; omega
        · obtain rfl : k = 32 := by omega
          rw [show ((32 : Nat) : Int) = 32 from rfl]
          have HD : Hid (sameM a b = (x == 0)) := hidH (by
            have := HS.out
            by_cases e : x = 0
            · rw [this.2 (he.1 e), e]; rfl
            · rw [beq_eq_false_iff_ne.2 e, Bool.eq_false_iff]
              exact fun y => e (he.2 (this.1 y)))
          clear he hx hlt hk
          go_wp2
          exact bodyPost_ret (v := .bool (x == 0)) (by simp [results, Try.results13, go_sem]) rfl ⟨by rw [HD.out], n, rfl⟩
    · have h4 : ((b.length : Int) == 32) = false := by rw [beq_eq_false_iff_ne]; omega
      have hs : sameM a b = false := by
        rw [sameM]
        have : a ≠ b := fun e => h2 (e ▸ h1)
        simp [this]
      rw [hs, h1]
      clear hA hB h1 h2 hs
      go_enter Try.func13, Try.ntmps13
      go_wp2
      go_ret
      exact ⟨rfl, 0, rfl⟩
  · have h3 : ((a.length : Int) == 32) = false := by rw [beq_eq_false_iff_ne]; omega
    have hs : sameM a b = false := by simp [sameM, h1]
    rw [hs]
    clear hA hB h1 hs
    go_enter Try.func13, Try.ntmps13
    go_wp2
    go_ret
    exact ⟨rfl, 0, rfl⟩
theorem sameM_comm (a b : List Int) : sameM a b = sameM b a := by
  unfold sameM
  by_cases e : a = b
  · subst e; rfl
  · have e2 : b ≠ a := fun x => e x.symm
    rw [beq_eq_false_iff_ne.2 e, beq_eq_false_iff_ne.2 e2, Bool.and_false, Bool.and_false]
end Go.Proofs.Ytanffpmpknmldaa
