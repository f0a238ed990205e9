import Derived.Test.YtepcikghhnfacaaDoorJa3
import Derived.Test.YtepcikghhnfacaaDoorJa1
import Derived.Test.YtepcikghhnfacaaDoorBytes
import Derived.Laws.Slices
import Derived.Test.YtepcikghhnfacaaDoorJa4

/- Bytes at the head of a block of bytes of their own. -/
namespace Go.Proofs.YtepcikghhnfacaaDoor
open Go.RowKit Go.Deep

/-- A row of bytes of the call's own, opened. -/
theorem own_row {w : World} {B : Nat} {v : Value} {l : List Int} (h : w.ownsRow B 5 1 v l.length (l.map (Value.int .u8))) (hp : 0 < l.length) :
    ∃ g cap cur, v = .slice (some ⟨g, 0, none⟩) l.length cap ∧ B ≤ g ∧ g < w.heap.size ∧ Blk w g 5 cur ∧ l.length ≤ cap ∧ (cap : Int) ≤ 9223372036854775807 ∧ cur.size = cap ∧ cur.toList.take l.length = l.map (Value.int .u8) := by
  have hl := h.lt
  obtain ⟨_, ⟨rfl, hn⟩ | ⟨g, cap, cur, rfl, hg, hblk, hnc, hm, hs, ht⟩⟩ := h
  · omega
  · unfold maxLen at hm
    exact ⟨g, cap, cur, rfl, hg, (hl g rfl).2, hblk, hnc, by omega, by omega, by simpa using ht⟩
theorem row_cell {w : World} {g : Nat} {cur : Array Value} {l : List Int} (h : Blk w g 5 cur) (ht : cur.toList.take l.length = l.map (Value.int .u8)) (j : Nat) (hj : j < l.length) : w.cell? ⟨g, j, none⟩ = some (.int .u8 (l.getD j 0)) := by
  have e : cur[j]? = (cur.toList.take l.length)[j]? := by rw [List.getElem?_take_of_lt hj]; simp
  rw [h.cell, e, ht]
  simp [hj]
/-- Bytes at the head of a block of bytes. -/
def Tb (w : World) (b : Nat) (A : Option Addr) (l : List Int) : Prop :=
  l = [] ∨ (A = some ⟨b, 0, none⟩ ∧ ∃ cur, Blk w b 5 cur ∧ cur.toList.take l.length = l.map (Value.int .u8))
theorem Tb.below {w w' : World} {b : Nat} {A : Option Addr} {l : List Int} (h : Tb w b A l) (hb : Below w.heap.size w w') : Tb w' b A l := by
  rcases h with h | ⟨h1, cur, h2, h3⟩
  · exact .inl h
  · exact .inr ⟨h1, cur, h2.below hb, h3⟩
theorem Tb.ob {w : World} {b : Nat} {A : Option Addr} {l : List Int} (h : Tb w b A l) : Ob b (b + 1) w A l := by
  rcases h with h | ⟨h1, cur, h2, h3⟩
  · exact .inl h
  · exact .inr ⟨b, 0, h1, Nat.le_refl _, Nat.lt_succ_self _, h2.lt, fun j hj => by rw [Nat.zero_add]; exact ⟨row_cell h2 h3 j hj, h2.frozen j⟩⟩
theorem tb_own {w : World} {B : Nat} {v : Value} {l : List Int} (h : w.ownsRow B 5 1 v l.length (l.map (Value.int .u8))) (d : Nat) (h1 : B ≤ d) (h2 : d < w.heap.size) :
    ∃ A c b, v = .slice A l.length c ∧ B ≤ b ∧ b < w.heap.size ∧ Tb w b A l ∧ l.length ≤ c ∧ (c : Int) ≤ 9223372036854775807 := by
  rcases Nat.eq_zero_or_pos l.length with h0 | h0
  · obtain ⟨A, cp, rfl, _, h3, h4⟩ := own_ob h
    exact ⟨A, cp, d, rfl, h1, h2, .inl (List.eq_nil_of_length_eq_zero h0), h3, h4⟩
  · obtain ⟨g, cap, cur, rfl, hg, hgl, hk, hc, hcm, _, ht⟩ := own_row h h0
    exact ⟨_, cap, g, rfl, hg, hgl, .inr ⟨rfl, cur, hk, ht⟩, hc, hcm⟩
theorem Tb.win {B C : Nat} {w w' : World} {b : Nat} {A : Option Addr} {l : List Int} (h : Tb w b A l) (hw : Win B C w w') (ho : l = [] ∨ b < B ∨ C ≤ b) : Tb w' b A l := by
  rcases h with h | ⟨h1, cur, h2, h3⟩
  · exact .inl h
  · rcases ho with ho | ho
    · exact .inl ho
    · exact .inr ⟨h1, cur, hw.blk h2 ho, h3⟩
theorem own_tb {w0 w : World} {v : Value} {l : List Int} (h : w.ownsRow w0.heap.size 5 1 v l.length (l.map (Value.int .u8))) : ∃ A c b, v = .slice A l.length c ∧ Tb w b A l ∧ (l = [] ∨ w0.heap.size ≤ b ∧ b < w.heap.size) := by
  rcases Nat.eq_zero_or_pos l.length with h0 | h0
  · obtain ⟨A, cp, rfl, _⟩ := own_ob h
    have e := List.eq_nil_of_length_eq_zero h0
    exact ⟨A, cp, 0, rfl, .inl e, .inl e⟩
  · obtain ⟨g, cap, cur, rfl, hg, hgl, hk, _, _, _, ht⟩ := own_row h h0
    exact ⟨_, cap, g, rfl, .inr ⟨rfl, cur, hk, ht⟩, .inr ⟨hg, hgl⟩⟩
theorem tb_pick {w : World} {b B q : Nat} {A : Option Addr} {l : List Int} (h : Tb w b A l) (h1 : B ≤ q) (h2 : q < w.heap.size) (h3 : l = [] ∨ B ≤ b ∧ b < w.heap.size) : ∃ b', Tb w b' A l ∧ B ≤ b' ∧ b' < w.heap.size := by
  rcases h3 with e | ⟨r1, r2⟩
  · exact ⟨q, .inl e, h1, h2⟩
  · exact ⟨b, h, r1, r2⟩
/-- Bytes of the call's own: in a window, and at the head of a block of bytes. -/
def Xb (B C : Nat) (w : World) (A : Option Addr) (l : List Int) : Prop := Ob B C w A l ∧ ∃ b, Tb w b A l ∧ (l = [] ∨ B ≤ b ∧ b < C)
theorem Xb.bs {B C : Nat} {w : World} {A : Option Addr} {l : List Int} (h : Xb B C w A l) : Bs w A l := h.1.bs
theorem Xb.below {B C : Nat} {w w' : World} {A : Option Addr} {l : List Int} (h : Xb B C w A l) (hb : Below w.heap.size w w') : Xb B C w' A l := by
  obtain ⟨h1, b, h2, h3⟩ := h
  exact ⟨h1.below hb, b, h2.below hb, h3⟩
theorem Xb.win {B C B' C' : Nat} {w w' : World} {A : Option Addr} {l : List Int} (h : Xb B C w A l) (hw : Win B' C' w w') (ho : C ≤ B' ∨ C' ≤ B) : Xb B C w' A l := by
  obtain ⟨h1, b, h2, h3⟩ := h
  exact ⟨h1.win hw ho, b, h2.win hw (h3.imp id (fun q => by omega)), h3⟩
theorem Xb.mono {B C B' : Nat} {w : World} {A : Option Addr} {l : List Int} (h : Xb B C w A l) (hB : B' ≤ B) : Xb B' C w A l := by
  obtain ⟨h1, b, h2, h3⟩ := h
  exact ⟨h1.mono hB, b, h2, h3.imp id (fun q => ⟨by omega, q.2⟩)⟩
theorem Xb.upto {B C C' : Nat} {w : World} {A : Option Addr} {l : List Int} (h : Xb B C w A l) (h1 : C ≤ C') (h2 : C' ≤ w.heap.size) : Xb B C' w A l := by
  obtain ⟨q1, b, q2, q3⟩ := h
  refine ⟨?_, b, q2, q3.imp id (fun q => ⟨q.1, by omega⟩)⟩
  rcases q1 with h | ⟨b, off, e1, e2, e3, e4, e5⟩
  · exact .inl h
  · exact .inr ⟨b, off, e1, e2, by omega, h2, e5⟩
theorem Xb.put {B C : Nat} {w : World} {A : Option Addr} {l : List Int} (h : Xb B C w A l) {p : Addr} (hs : p.spot = none) (hp : p.block < B ∨ C ≤ p.block) (u : Value) : Xb B C (w.setCell p u) A l := by
  obtain ⟨b, off, sp⟩ := p
  subst hs
  exact h.win (win_set w b off u) (by simp at hp; omega)
theorem Xb.setCell {B C : Nat} {w : World} {A : Option Addr} {l : List Int} (h : Xb B C w A l) {p : Addr} (hp : p.block < B) (u : Value) (hs : p.spot = none := by rfl) : Xb B C (w.setCell p u) A l := h.put hs (.inl hp) u
theorem Xb.setFar' {B C : Nat} {w : World} {A : Option Addr} {l : List Int} (h : Xb B C w A l) {p : Addr} (hp : C ≤ p.block) (u : Value) (hs : p.spot = none := by rfl) : Xb B C (w.setCell p u) A l := h.put hs (.inr hp) u
theorem own_xb {w : World} {B : Nat} {v : Value} {d : List Int} (h : w.ownsRow B 5 1 v d.length (d.map (Value.int .u8))) :
    ∃ A cp, v = .slice A d.length cp ∧ Xb B w.heap.size w A d ∧ d.length ≤ cp ∧ (cp : Int) ≤ 9223372036854775807 := by
  rcases Nat.eq_zero_or_pos d.length with h0 | h0
  · obtain ⟨A, cp, e, h1, h2, h3⟩ := own_ob h
    have e0 := List.eq_nil_of_length_eq_zero h0
    exact ⟨A, cp, e, ⟨h1, 0, .inl e0, .inl e0⟩, h2, h3⟩
  · obtain ⟨g, cap, cur, rfl, hg, hgl, hk, hc, hcm, _, ht⟩ := own_row h h0
    have hT : Tb w g (some ⟨g, 0, none⟩) d := .inr ⟨rfl, cur, hk, ht⟩
    exact ⟨_, cap, rfl, ⟨.inr ⟨g, 0, rfl, hg, hgl, Nat.le_refl _, fun j hj => by rw [Nat.zero_add]; exact ⟨row_cell hk ht j hj, hk.frozen j⟩⟩, g, hT, .inr ⟨hg, hgl⟩⟩, hc, hcm⟩
end Go.Proofs.YtepcikghhnfacaaDoor

/- Parts of a slice of bytes: what s[i:h], s[:h], s[i:] hand back. -/
namespace Go.Proofs.YtepcikghhnfacaaDoor
open Go.RowKit Go.Deep

theorem sizeU8 (u : World) : (sizeOf (Tryd.prog.elem 22)).run Tryd.prog u = .ok 1 u := by
  obtain ⟨i0, hi, hzz⟩ := Option.map_eq_some_iff.1 infoU8
  simp only [Prod.mk.injEq] at hzz
  have he : Tryd.prog.elem 22 = 5 := by kernel_rfl
  rw [he]
  simp [sizeOf, typeInfo, hi, hzz.2.1]
theorem undB : Tryd.prog.underlying 22 = some (.slice (Tryd.prog.elem 22)) := by kernel_rfl
theorem add_off (b off i : Nat) : (⟨b, off, none⟩ : Addr).add i = ⟨b, off + i, none⟩ := by unfold Addr.add; split <;> simp_all
/-- The address behind i elements: the old one where nothing is left of the capacity. -/
def cutA (A : Option Addr) (i c : Nat) : Option Addr := if c = i then A else A.map (·.add i)
theorem cutA_bs {w : World} {A : Option Addr} {l m : List Int} {i c : Nat} (hA : Bs w A l) (hm : i + m.length ≤ l.length) (hc : l.length ≤ c) (he : ∀ j, j < m.length → l.getD (i + j) 0 = m.getD j 0) : Bs w (cutA A i c) m := by
  rcases hA with h | ⟨b, off, rfl, h2, h3⟩
  · rw [h] at hm
    exact .inl (List.eq_nil_of_length_eq_zero (by rw [List.length_nil] at hm; omega))
  · unfold cutA
    split
    · exact .inl (List.eq_nil_of_length_eq_zero (by omega))
    · exact .inr ⟨b, off + i, by simp [add_off], h2, fun j hj => by rw [show off + i + j = off + (i + j) by omega, h3 (i + j) (by omega), he j hj]⟩
theorem cutA_drop {w : World} {A : Option Addr} {l : List Int} {i c : Nat} (hA : Bs w A l) (hi : i ≤ l.length) (hc : l.length ≤ c) : Bs w (cutA A i c) (l.drop i) :=
  cutA_bs hA (by rw [List.length_drop]; omega) hc (fun j _ => by simp [List.getD_eq_getElem?_getD])
theorem cutA_take {w : World} {A : Option Addr} {l : List Int} {n : Nat} (hA : Bs w A l) (hn : n ≤ l.length) : Bs w A (l.take n) := by
  rcases hA with h | ⟨b, off, rfl, h2, h3⟩
  · exact .inl (by rw [h]; simp)
  · exact .inr ⟨b, off, rfl, h2, fun j hj => by
      rw [List.length_take] at hj
      rw [h3 j (by omega)]
      simp [List.getD_eq_getElem?_getD, List.getElem?_take_of_lt (show j < n by omega)]⟩
theorem cut_lh (A : Option Addr) (z c i n : Nat) (H : Int) (hH : H = (i : Int) + (n : Int)) (hc : i + n ≤ c) (u : World) :
    (Instr.slice 22 (.slice A z c) (some (.int .i64 (i : Int))) (some (.int .i64 H)) none).run Tryd.prog u = .ok (.slice (cutA A i c) n (c - i)) u := by
  subst hH
  rw [run_slice_lh (w := u) 22 A z c undB .i64 .i64 (i : Int) ((i : Int) + (n : Int)) (by omega) (by omega) (by omega)]
  simp only [sizeU8, Result.andThen, sliced]
  rw [show ((i : Int) + (n : Int)).toNat - (i : Int).toNat = n by omega, Int.toNat_natCast, Nat.mul_one]
  rfl
theorem cut_h (A : Option Addr) (z c n : Nat) (H : Int) (hH : H = (n : Int)) (hc : n ≤ c) (u : World) :
    (Instr.slice 22 (.slice A z c) none (some (.int .i64 H)) none).run Tryd.prog u = .ok (.slice A n c) u := by
  subst hH
  rw [run_slice_h (w := u) 22 A z c undB .i64 (n : Int) (by omega) (by omega)]
  simp only [sizeU8, Result.andThen, sliced]
  rw [Int.toNat_natCast, Nat.sub_zero, Nat.sub_zero, Nat.zero_mul]
  split
  · rfl
  · rcases A with _ | ⟨b, off, sp⟩
    · rfl
    · simp [Addr.add]
theorem cut_l (A : Option Addr) (z c i : Nat) (H : Int) (hH : H = (i : Int)) (hz : i ≤ z) (u : World) :
    (Instr.slice 22 (.slice A z c) (some (.int .i64 H)) none none).run Tryd.prog u = .ok (.slice (cutA A i c) (z - i) (c - i)) u := by
  subst hH
  rw [run_slice_l (w := u) 22 A z c undB .i64 (i : Int) (by omega) (by omega)]
  simp only [sizeU8, Result.andThen, sliced]
  rw [Int.toNat_natCast, Nat.mul_one]
  rfl
end Go.Proofs.YtepcikghhnfacaaDoor

/- The program's Crc32c. -/
namespace Go.Proofs.YtepcikghhnfacaaDoor
open Go.RowKit Go.Deep

set_option maxHeartbeats 1000000 in
theorem div_any (n : Nat) (w : World) (hn : n < 4294967296) : Calls Tryd.prog 74 #[.int .u32 (n : Int)] w fun e w' => e = .returned (.int .u32 ((crcBit n : Nat) : Int)) ∧ w = w' := by
  have hn3 : (n : Int) ≤ 4294967295 := by omega
  by_cases hodd : n % 2 = 1
  · have hI : (((n : Int) % 2) == 1) = true := by rw [beq_iff_eq]; omega
    have hv : crcBit n = n / 2 ^^^ 2197175160 := by rw [crcBit, if_pos hodd]
    have hxq := u32_xor_nat (n / 2) 2197175160 (by omega) (by omega)
    rw [show ((n / 2 : Nat) : Int) = (n : Int) / 2 from by simp, show ((2197175160 : Nat) : Int) = 2197175160 from rfl] at hxq
    rw [hv]
    clear hodd hv
    go_enter Tryd.func74, Tryd.ntmps74
    go_wp2
    go_ret
    exact ⟨rfl, rfl⟩
  · have hI : (((n : Int) % 2) == 1) = false := by rw [beq_eq_false_iff_ne]; omega
    have hv : ((crcBit n : Nat) : Int) = (n : Int) / 2 := by rw [crcBit, if_neg hodd]; simp
    rw [hv]
    clear hodd hv
    go_enter Tryd.func74, Tryd.ntmps74
    go_wp2
    go_ret
    exact ⟨rfl, rfl⟩
set_option maxHeartbeats 2000000 in
theorem crc_impl (A : Option Addr) (l : List Int) (c : Nat) (w : World) (hA : Bs w A l) (hl : Bytes l) (hm : (l.length : Int) ≤ 9223372036854775807) :
    Calls Tryd.prog 61 #[.slice A l.length c] w (fun e w' => e = .returned (.agg #[.int .i64 (crcC l), .int .i64 (crcN l)]) ∧ Below w.heap.size w w') := by
  by_cases h : l.length ≤ 700
  · have e1 : crcC l = 0 := by rw [crcC, if_pos h]
    have e2 : crcN l = ((crcV (nB l) : Nat) : Int) := by rw [crcN, if_pos h]
    rw [e1, e2]
    have h1 : (l.length : Int) ≤ 700 := by omega
    have hb := nB_lt hl
    have hgt := nB_get l
    have hnl : (nB l).length = l.length := by simp [nB]
    have hend : crcV (nB l) = crcP (nB l) l.length ^^^ 4294967295 := by rw [crcV, crcP, ← hnl, List.take_length]
    have hvlt : crcV (nB l) < 4294967296 := crcV_lt hb
    obtain ⟨nb, hnb⟩ : ∃ nb, nB l = nb := ⟨_, rfl⟩
    simp only [hnb] at hb hgt hnl hend hvlt ⊢
    have HA := hidH (bs_below hA (bal (Below.refl _ w) (.cells #[.int .i64 0, .int .i64 0] 59)))
    have HB := hidH hb
    have HG := hidH hgt
    have HN := hidH hnl
    have HE := hidH hend
    have HV := hidH hvlt
    have X0 := hidH (Blk.new w 59 #[.int .i64 0, .int .i64 0])
    have B0 := hidH (bal (Below.refl w.heap.size w) (.cells #[.int .i64 0, .int .i64 0] 59))
    clear hA hb hgt hnl hend hnb e1 e2 h hvlt
    go_enter Tryd.func61, Tryd.ntmps61
    go_wp2
    obtain ⟨W, hW⟩ : ∃ W, w.alloc (.cells #[.int .i64 0, .int .i64 0] 59) = W := ⟨_, rfl⟩
    rw [hW] at HA X0 B0 ⊢
    go_loopw [3, 12] (fun n i wr => ∃ k : Nat, k ≤ l.length ∧ i = .int .i64 k ∧ n = .int .u32 ((crcP nb k : Nat) : Int) ∧ wr = W) (fun _ i _ => l.length - (intOf i).toNat)
    case atStart => exact ⟨0, Nat.zero_le _, rfl, rfl, rfl⟩
    case round =>
      obtain ⟨k, hk, rfl, rfl, rfl⟩ := hrel
      have hP := crcP_lt HB.out k
      by_cases hlt : k < l.length
      · have hi0 : (0 : Int) ≤ (k : Int) := by omega
        have hi1 : (k : Int) < (l.length : Int) := by omega
        obtain ⟨b, off, rfl, _, hcc⟩ : ∃ b off, A = some ⟨b, off, none⟩ ∧ b < wr.heap.size ∧ ∀ j, j < l.length → wr.cell? ⟨b, off + j, none⟩ = some (.int .u8 (l.getD j 0)) := by
          rcases HA.out with h | h
          · rw [h] at hlt; simp at hlt
          · exact h
        have c1 : wr.cell? ⟨b, off + k, none⟩ = some (.int .u8 (l.getD k 0)) := hcc k hlt
        have hx := hl.get k
        have hsuc := crcP_succ nb k (by rw [HN.out]; exact hlt)
        rw [HG.out k] at hsuc
        obtain ⟨x, hxe⟩ : ∃ x : Nat, l.getD k 0 = x := ⟨(l.getD k 0).toNat, by omega⟩
        rw [hxe] at c1 hx hsuc
        rw [Int.toNat_natCast] at hsuc
        have hx2 : x < 256 := by omega
        have HS := hidH hsuc
        obtain ⟨y, hy⟩ : ∃ y, crcP nb k = y := ⟨_, rfl⟩
        rw [hy] at hP HS ⊢
        have hxx := u32_xor_nat y x hP (by omega)
        obtain ⟨z, hz⟩ : ∃ z, y ^^^ x = z := ⟨_, rfl⟩
        have hz2 : z < 4294967296 := by rw [← hz]; exact crc_xor_lt hP hx2
        rw [hz] at hxx HS
        clear hcc hxe hsuc hy hz hP
        go_wp2
        go_loopw [3, 20] (fun n j wq => ∃ t : Nat, t ≤ 8 ∧ j = .int .i64 t ∧ n = .int .u32 ((crcBits z t : Nat) : Int) ∧ wq = wr) (fun _ j _ => 8 - (intOf j).toNat)
        case atStart => exact ⟨0, by omega, rfl, rfl, rfl⟩
        case round =>
          obtain ⟨t, ht, rfl, rfl, rfl⟩ := hrel
          have hq := crcBits_lt hz2 t
          have hstep : crcBits z (t + 1) = crcBit (crcBits z t) := rfl
          have HST := hidH hstep
          obtain ⟨q, hqe⟩ : ∃ q, crcBits z t = q := ⟨_, rfl⟩
          rw [hqe] at hq HST ⊢
          clear hstep
          by_cases h8 : t < 8
          · have ht0 : (0 : Int) ≤ (t : Int) := by omega
            have ht1 : (t : Int) < 8 := by omega
            clear hqe
            go_wp2_with (go_at_call 74; refine (div_any _ _ hq).mono ?_; rintro e w' ⟨rfl, rfl⟩)
            go_roundw
            case rel => exact ⟨t + 1, by omega, by go_num, by rw [HST.out], trivial⟩
            case measure => simp [intOf]; omega
          · obtain rfl : t = 8 := by omega
            rw [hqe] at HS
            clear hqe h8 ht
            rw [show ((8 : Nat) : Int) = 8 from rfl]
            go_wp2
            go_roundw
            case rel => exact ⟨k + 1, by omega, by go_num, by rw [HS.out], trivial⟩
            case measure => simp [intOf]; omega
      · obtain rfl : k = l.length := by omega
        have hxx := u32_xor_nat (crcP nb l.length) 4294967295 hP (by decide)
        rw [show ((4294967295 : Nat) : Int) = 4294967295 from rfl, ← HE.out] at hxx
        have hlt2 : ¬ ((l.length : Int) < (l.length : Int)) := by omega
        have hv0 : (0 : Int) ≤ ((crcV nb : Nat) : Int) := by omega
        have hv1 : ((crcV nb : Nat) : Int) ≤ 4294967295 := by have := HV.out; omega
        obtain ⟨x0, x1, xz⟩ := X0.out.two
        have f0 := X0.out.frozen 0
        have f1 := X0.out.frozen 1
        go_wp2
        exact bodyPost_ret (v := .agg #[.int .i64 0, .int .i64 ((crcV nb : Nat) : Int)]) (by simp [results, Tryd.results61, go_sem, x0, x1]) rfl ⟨rfl, bst (bst B0.out (Nat.le_refl _) _) (Nat.le_refl _) _⟩
  · rw [crcC, crcN, if_neg h, if_neg h]
    have h1 : (700 : Int) < (l.length : Int) := by omega
    clear h hA
    go_enter Tryd.func61, Tryd.ntmps61
    go_wp2
    exact bodyPost_ret (v := .agg #[.int .i64 2, .int .i64 0]) (by simp [results, Tryd.results61, go_sem]) rfl ⟨rfl, bal (Below.refl _ _) _⟩
end Go.Proofs.YtepcikghhnfacaaDoor
