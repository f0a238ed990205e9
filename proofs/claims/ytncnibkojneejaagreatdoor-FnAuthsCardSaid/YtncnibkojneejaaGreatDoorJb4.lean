import Derived.Test.YtncnibkojneejaaGreatDoorJb3
import Derived.Test.YtncnibkojneejaaGreatDoorPcR
import Derived.Test.YtncnibkojneejaaGreatDoorJa8
import Derived.Test.YtncnibkojneejaaGreatDoorJa1
import Derived.Test.YtncnibkojneejaaGreatDoorJb1
import Derived.Test.YtncnibkojneejaaGreatDoorJa6
import Derived.Deep.WholeRow
import Derived.Great.BuildSlice
import Derived.Laws.CopyOwn
import Derived.Test.YtncnibkojneejaaGreatDoorJa4
import Derived.Laws.IdiomCopy

/- The program's PackChunk: its bytes in a row of their own. -/
namespace Go.Proofs.YtncnibkojneejaaGreatDoor
open Go.RowKit Go.Deep

def BOwn (w : World) (c : Int) (l : List Int) (e : Ending) (w' : World) : Prop :=
  ∃ (A : Option Addr) (cp : Nat), e = .returned (.agg #[.int .i64 c, .slice A l.length cp]) ∧ w'.ownsRow w.heap.size 5 1 (.slice A l.length cp) l.length (l.map (Value.int .u8)) ∧ Below w.heap.size w w'
set_option maxHeartbeats 2000000 in
theorem packChunk_own (k f : Int) (A : Option Addr) (b : List Int) (c : Nat) (w : World) (hA : Bs w A b) (hm : (b.length : Int) ≤ 9223372036854775807) :
    Calls Tryz.prog 58 #[ckV k f A b.length c] w (BOwn w (chF k f b) (chM k f b)) := by
  have K1 := Blk.new w 37 #[.int .i64 k, .int .i64 f, .slice A b.length c]
  have B1 := bal (Below.refl w.heap.size w) (.cells #[.int .i64 k, .int .i64 f, .slice A b.length c] 37)
  have S1 := bs_below hA (bal (Below.refl _ w) (.cells #[.int .i64 k, .int .i64 f, .slice A b.length c] 37))
  obtain ⟨w1, hw1⟩ : ∃ w1, w.alloc (.cells #[.int .i64 k, .int .i64 f, .slice A b.length c] 37) = w1 := ⟨_, rfl⟩
  rw [hw1] at K1 B1 S1
  have hlt : w.heap.size < w1.heap.size := K1.lt
  have K2 := K1.alloc (.cells #[.int .i64 0, .slice none 0 0] 48)
  have B2 := bal B1 (.cells #[.int .i64 0, .slice none 0 0] 48)
  have S2 := bs_below S1 (bal (Below.refl _ w1) (.cells #[.int .i64 0, .slice none 0 0] 48))
  have R2 := Blk.new w1 48 #[.int .i64 0, .slice none 0 0]
  obtain ⟨w2, hw2⟩ : ∃ w2, w1.alloc (.cells #[.int .i64 0, .slice none 0 0] 48) = w2 := ⟨_, rfl⟩
  have hs1 : w1.heap.size = w.heap.size + 1 := by rw [← hw1]; simp
  rw [hw2, hs1] at R2
  rw [hw2] at K2 B2 S2
  have HW1 := hidH hw1
  have HW2 := hidH hw2
  have HK := hidH K2
  have HB := hidH B2
  have HS := hidH S2
  have HR := hidH R2
  have hF := hidH (fun u => chFault_impl k f A b c u hm)
  unfold ckV at hF ⊢
  have HBS := hidH hA
  clear hw1 hw2 K1 B1 S1 K2 B2 S2 R2 hA hs1 hlt
  go_enter Tryz.func58, Tryz.ntmps58
  go_wp2_with fail
  rw [HW1.out, HW2.out]
  refine (hF.out _).mono ?_
  rintro e w3 ⟨rfl, b3⟩
  have K3 := HK.out.below b3
  have B3 := hidH (btr HB.out b3)
  have S3 := bs_below HS.out b3
  have R3 := hidH (HR.out.below b3)
  clear HW1 HW2 HK HB HS HR hF b3
  by_cases hz : chF k f b = 0
  · obtain ⟨⟨hk0, hk1⟩, ⟨hf0, hf1⟩, hb⟩ := chF_zero hz
    have hM : chM k f b = chL k f b := by rw [chM, if_pos hz]
    have HZM := hidH (And.intro hz hM)
    rw [hz]
    have hbI : (b.length : Int) ≤ 160 := by omega
    have K3' := hidH K3
    have S3' := hidH S3
    have x0 := K3.cell 0
    have x1 := K3.cell 1
    have x2 := K3.cell 2
    simp only [List.getElem?_toArray, List.getElem?_cons_succ, List.getElem?_cons_zero] at x0 x1 x2
    have hlt := K3.lt
    clear hz hM K3 S3 hb
    go_wp2_with fail
    have B4 := hidH (bal B3.out (.cells #[.int .u8 k, .int .u8 f, .int .u8 ((4 + (b.length : Int)) / 256), .int .u8 (4 + (b.length : Int))] 5))
    have K4 := K3'.out.alloc (.cells #[.int .u8 k, .int .u8 f, .int .u8 ((4 + (b.length : Int)) / 256), .int .u8 (4 + (b.length : Int))] 5)
    have S4 := bs_below S3'.out (bal (Below.refl _ _) (.cells #[.int .u8 k, .int .u8 f, .int .u8 ((4 + (b.length : Int)) / 256), .int .u8 (4 + (b.length : Int))] 5))
    have R4 := R3.out.alloc (.cells #[.int .u8 k, .int .u8 f, .int .u8 ((4 + (b.length : Int)) / 256), .int .u8 (4 + (b.length : Int))] 5)
    have H4 := lit_bs w3 5 [k, f, (4 + (b.length : Int)) / 256, 4 + (b.length : Int)]
    have H4' := Blk.new w3 5 #[.int .u8 k, .int .u8 f, .int .u8 ((4 + (b.length : Int)) / 256), .int .u8 (4 + (b.length : Int))]
    have hz4 := K3'.out.lt
    have hz5 := R3.out.lt
    simp only [List.map_cons, List.map_nil, List.toArray] at H4
    obtain ⟨W4, hW4⟩ : ∃ W4, w3.alloc (.cells #[.int .u8 k, .int .u8 f, .int .u8 ((4 + (b.length : Int)) / 256), .int .u8 (4 + (b.length : Int))] 5) = W4 := ⟨_, rfl⟩
    rw [hW4] at B4 K4 S4 R4 H4 H4' ⊢
    have hs4 : W4.heap.size = w3.heap.size + 1 := by rw [← hW4]; simp
    clear hW4 x0 x1 x2 hlt
    have bd := (Below.refl W4.heap.size W4).drew
    have bdz := bd.size
    obtain ⟨p, hp⟩ : ∃ p, p = chPad b.length := ⟨_, rfl⟩
    have HP := hidH hp
    have hcat : ([[k, f, (4 + (b.length : Int)) / 256, 4 + (b.length : Int)], b, List.replicate p 0] : List (List Int)).flatten = chL k f b := by
      rw [hp]
      simp [chL]
      omega
    have hlen : (chL k f b).length ≤ 1000 := by rw [chL_len]; unfold chPad; omega
    have CON : ∀ (u : World) (q : Nat), Parts u q [[k, f, (4 + (b.length : Int)) / 256, 4 + (b.length : Int)], b, List.replicate p 0] → Calls Tryz.prog 75 #[.slice (some ⟨q, 0, none⟩) 3 3] u (OwnB u (chL k f b)) := by
      intro u q h
      rw [← hcat]
      exact concat_all q 3 _ u h (by simp) (by rw [hcat]; omega)
    have HCON := hidH CON
    have HM := hidH (PcM.mk (K4.below bd) (H4'.below bd) : PcM w.heap.size w3.heap.size k f A b c W4.drew)
    have HR4 := hidH (R4.below bd)
    have HB5 := hidH (btr B4.out bd)
    have HA := hidH (fun (u : World) (h : Below w.heap.size w u) => bs_below HBS.out h)
    obtain ⟨L, hL⟩ : ∃ L, chL k f b = L := ⟨_, rfl⟩
    rw [hL] at HCON hlen
    have HL := hidH hL
    clear hp hcat CON K4 H4' R4 B4 hL S4 H4
    have hrr : w.heap.size + 1 < W4.drew.heap.size := HR4.out.lt
    refine wp_region_any (by kernel_rfl) ?_
    refine regPc _ _ _ _ _ _ _ _ _ _ _ _ _ _ _ _ _ _ _ _ _ _ _ _ _ w w.heap.size (w.heap.size + 1) w3.heap.size k f A b c L p HP hbI HBS (by omega) (by omega) (by omega) HCON.out (by kernel_rfl) (by kernel_rfl) (by kernel_rfl) rfl ⟨fun h => h, fun h => h, fun h => h, fun h => h⟩ HM.out (fun _ => HR4.out) HB5.out (Nat.le_refl _) hrr ?_
    intros
    rename_i W hW hT
    obtain ⟨A8, c8, hR, hO, h81, h82⟩ := hT
    obtain ⟨x0, x1, xz⟩ := hR.two
    obtain ⟨A9, c9, hv, hob, _, _⟩ := own_ob hO
    simp only [Value.slice.injEq] at hv
    obtain ⟨rfl, _, rfl⟩ := hv
    have HO := hidH hO
    have HW := hidH hW
    have H8 := hidH (And.intro h81 h82)
    clear hR hO hob hW h81 h82
    go_wp2
    exact bodyPost_ret (v := .agg #[.int .i64 0, .slice A8 L.length c8]) (by simp [results, Tryz.results58, go_sem, x0, x1]) rfl (by rw [HZM.out.1, HZM.out.2, HL.out]; exact ⟨A8, c8, rfl, own_monoT HO.out (by omega), HW.out⟩)
  · have hM : chM k f b = [] := by rw [chM, if_neg hz]
    have HM := hidH hM
    have hne : (chF k f b != 0) = true := by rw [bne_iff_ne]; exact hz
    obtain ⟨F, hF⟩ : ∃ F, chF k f b = F := ⟨_, rfl⟩
    rw [hF] at hne
    have HF := hidH hF
    have R4 := R3.out
    obtain ⟨x0, x1, xz⟩ := R4.two
    have f0 := R4.frozen 0
    have f1 := R4.frozen 1
    rw [hF]
    clear R4 hz hM hF K3 S3
    go_wp2
    exact bodyPost_ret (v := .agg #[.int .i64 F, .slice none 0 0]) (by simp [results, Tryz.results58, go_sem, x0, x1]) rfl (by rw [HF.out, HM.out]; exact ⟨none, 0, rfl, ⟨rfl, .inl ⟨rfl, rfl⟩⟩, bst (bst B3.out (Nat.le_succ _) _) (Nat.le_succ _) _⟩)
end Go.Proofs.YtncnibkojneejaaGreatDoor

/- The program's byteWriter: put, number, pair, word, count, numbers. -/
namespace Go.Proofs.YtncnibkojneejaaGreatDoor
open Go.RowKit Go.Deep

/-- A writer in block r: what is written is l, in memory behind block r. -/
def WR (w : World) (r : Nat) (l : List Int) : Prop :=
  ∃ v, Blk w r 77 #[v] ∧ w.ownsRow (r + 1) 5 1 v l.length (l.map (Value.int .u8))
theorem WR.lt {w : World} {r : Nat} {l : List Int} (h : WR w r l) : r < w.heap.size := by
  obtain ⟨v, h1, _⟩ := h
  exact h1.lt
theorem wr_nil {w : World} {r : Nat} (h : Blk w r 77 #[.slice none 0 0]) : WR w r [] := ⟨_, h, rfl, .inl ⟨rfl, rfl⟩⟩
theorem WR.below {w w' : World} {r : Nat} {l : List Int} (h : WR w r l) (hb : Below w.heap.size w w') : WR w' r l := by
  obtain ⟨v, h1, h2⟩ := h
  exact ⟨v, h1.below hb, own_below0 h2 hb⟩
/-- Blocks of other types than bytes, but for the writer's own, are kept. -/
def OthK (r : Nat) (w w' : World) : Prop := ∀ (g : Nat) (t : TypeId) (cs : Array Value), g ≠ r → t ≠ 5 → Blk w g t cs → Blk w' g t cs
theorem OthK.of_below {r : Nat} {w w' : World} (hb : Below w.heap.size w w') : OthK r w w' := fun _ _ _ _ _ h => h.below hb
theorem OthK.trans {r : Nat} {a b c : World} (h : OthK r a b) (k : OthK r b c) : OthK r a c := fun g t cs hg ht x => k g t cs hg ht (h g t cs hg ht x)
/-- A call that wrote: what is written behind it; what lies below the writer is kept. -/
def Wrote (r : Nat) (l : List Int) (w : World) (e : Ending) (w' : World) : Prop := e = .returned (.tuple #[]) ∧ WR w' r l ∧ Below r w w' ∧ OthK r w w'
theorem bs_lo0 {w0 : World} {r : Nat} {A : Option Addr} {l : List Int} (h : Bs w0 A l) (h0 : w0.heap.size ≤ r) : ∀ a, A = some a → l = [] ∨ a.block < r := by
  rcases h with h | ⟨b, off, e, h1, _⟩
  · exact fun _ _ => .inl h
  · intro a e2
    rw [e] at e2
    obtain rfl := Option.some.inj e2
    exact .inr (Nat.lt_of_lt_of_le h1 h0)
theorem is_lo0 {w0 : World} {r : Nat} {A : Option Addr} {l : List Int} (h : Is w0 A l) (h0 : w0.heap.size ≤ r) : ∀ a, A = some a → l = [] ∨ a.block < r := by
  rcases h with h | ⟨b, off, e, h1, _⟩
  · exact fun _ _ => .inl h
  · intro a e2
    rw [e] at e2
    obtain rfl := Option.some.inj e2
    exact .inr (Nat.lt_of_lt_of_le h1 h0)
/-- What lies below a writer is read as before. -/
theorem bs_lo {w w' : World} {r : Nat} {A : Option Addr} {l : List Int} (h : Bs w A l) (hlo : ∀ a, A = some a → l = [] ∨ a.block < r) (hb : Below r w w') (_hr : r < w.heap.size) : Bs w' A l := by
  rcases h with h | ⟨b, off, e, h1, h2⟩
  · exact .inl h
  · rcases hlo _ e with h3 | h3
    · exact .inl h3
    · exact .inr ⟨b, off, e, Nat.lt_of_lt_of_le h1 hb.size, fun j hj => (hb.cell (p := ⟨b, off + j, none⟩) h3).trans (h2 j hj)⟩
theorem is_lo {w w' : World} {r : Nat} {A : Option Addr} {l : List Int} (h : Is w A l) (hlo : ∀ a, A = some a → l = [] ∨ a.block < r) (hb : Below r w w') (_hr : r < w.heap.size) : Is w' A l := by
  rcases h with h | ⟨b, off, e, h1, h2⟩
  · exact .inl h
  · rcases hlo _ e with h3 | h3
    · exact .inl h3
    · exact .inr ⟨b, off, e, Nat.lt_of_lt_of_le h1 hb.size, fun j hj => (hb.cell (p := ⟨b, off + j, none⟩) h3).trans (h2 j hj)⟩
set_option maxHeartbeats 1000000 in
theorem put_any (r : Nat) (l m : List Int) (A : Option Addr) (c : Nat) (w : World) (h : WR w r l) (hA : Bs w A m) (hm : l.length + m.length ≤ 100000) :
    Calls Tryz.prog 42 #[.pointer (some ⟨r, 0, none⟩), .slice A m.length c] w (Wrote r (l ++ m) w) := by
  obtain ⟨v, K, O⟩ := h
  have c0 := K.cell 0
  have hlt := K.lt
  simp only [List.getElem?_toArray, List.getElem?_cons_zero] at c0
  have HK := hidH K
  have HO := hidH O
  have HA := hidH hA
  have HM := hidH hm
  clear K O hA hm
  go_enter Tryz.func42, Tryz.ntmps42
  go_wp2_with (at_builtin; refine wpList_append_bs rfl _ _ rfl (r + 1) _ _ _ rfl HO.out A m c rfl HA.out (by have := HM.out; omega) hlt ?_)
  intro v2 w2 o2 g2
  have BB : Below (r + 1) w w2 := (Below.refl (r + 1) w).grown g2 hlt (fun x hx => (HO.out.lt x hx).1)
  have HOT := hidH (show OthK r w w2 from fun g t cs _ ht hk => by
    refine (g2.block g hk.lt (fun e => ?_)).trans hk
    rcases HO.out.2 with ⟨h1, _⟩ | ⟨g1, cap, cur, h1, _, h3, _⟩
    · rw [h1] at e; cases e
    · rw [h1] at e
      obtain rfl : g = g1 := by simpa [Value.ownBlock] using e
      have h4 : some (Obj.cells cur 5 (0, 0)) = some (Obj.cells cs t (0, 0)) := h3.symm.trans hk
      simp at h4
      exact ht h4.2.symm)
  have K2 : Blk w2 r 77 #[v] := (BB.block r (Nat.lt_succ_self r)).trans HK.out
  have hs2 := BB.size
  have d0 := K2.cell 0
  have f0 := K2.frozen 0
  simp only [List.getElem?_toArray, List.getElem?_cons_zero] at d0
  have o2' : w2.ownsRow (r + 1) 5 1 v2 (l ++ m).length ((l ++ m).map (Value.int .u8)) := by simpa using o2
  obtain ⟨A2, c2, e2, _⟩ := own_ob o2'
  have HO2 := hidH o2'
  obtain ⟨n2, hn2⟩ : ∃ n2, (l ++ m).length = n2 := ⟨_, rfl⟩
  rw [hn2] at e2
  subst e2
  have HB := hidH BB
  have HK2 := hidH K2
  clear o2 o2' g2 BB K2 c0 HK HO hn2
  go_wp2
  exact bodyPost_ret (v := .tuple #[]) (by simp [results, Tryz.results42, go_sem]) rfl ⟨rfl, ⟨_, HK2.out.put 0 _, own_kept HO2.out (set_win w2 r 0 _) (Nat.lt_succ_self r)⟩, (HB.out.mono (Nat.le_succ r)).trans ((set_win w2 r 0 _).below (by omega)), fun g t cs hg ht hk => (HOT.out g t cs hg ht hk).far (fun e => hg e.symm) _⟩
set_option maxHeartbeats 1000000 in
theorem wpair_any (r : Nat) (l : List Int) (n : Int) (w : World) (h : WR w r l) (h0 : 0 ≤ n) (h1 : n ≤ 65535) (hm : l.length ≤ 90000) :
    Calls Tryz.prog 41 #[.pointer (some ⟨r, 0, none⟩), .int .i64 n] w (Wrote r (l ++ [n / 256, n % 256]) w) := by
  have B1 := bal (Below.refl w.heap.size w) (.cells #[.int .u8 (n / 256), .int .u8 (n % 256)] 5)
  have HP := hidH (put_any r l [n / 256, n % 256] (some ⟨w.heap.size, 0, none⟩) 2 _ (h.below B1) (lit_bs w 5 [n / 256, n % 256]) (by simp; omega))
  have HB := hidH (And.intro (B1.mono (Nat.le_of_lt h.lt)) (OthK.of_below (r := r) B1))
  clear h hm B1
  unfold Wrote at HP
  go_enter Tryz.func41, Tryz.ntmps41
  go_wp2_with fail
  refine HP.out.mono ?_
  rintro e w2 ⟨rfl, hw, hb, ho⟩
  have HR := hidH (And.intro hw (And.intro (HB.out.1.trans hb) (OthK.trans HB.out.2 ho)))
  clear HP hw hb ho
  go_wp2
  exact bodyPost_ret (v := .tuple #[]) (by simp [results, Tryz.results41, go_sem]) rfl ⟨rfl, HR.out⟩
end Go.Proofs.YtncnibkojneejaaGreatDoor

/- Chapter 7: the program's tagChunk, MacText. -/
namespace Go.Proofs.YtncnibkojneejaaGreatDoor
open Go.RowKit Go.Deep

theorem fldBR (c : Int) (A : Option Addr) (n cp : Nat) (w : World) : (Instr.field 48 (.agg #[.int .i64 c, .slice A n cp]) 1).run Tryz.prog w = .ok (.slice A n cp) w := by kernel_rfl
theorem fldBR0 (c : Int) (A : Option Addr) (n cp : Nat) (w : World) : (Instr.field 48 (.agg #[.int .i64 c, .slice A n cp]) 0).run Tryz.prog w = .ok (.int .i64 c) w := by kernel_rfl
set_option maxRecDepth 100000 in
set_option maxHeartbeats 2000000 in
theorem tagChunk_any (id : Int) (l : List Int) (A : Option Addr) (c : Nat) (w : World) (hA : Bs w A l) (h0 : 0 ≤ id) (h1 : id < 65536) (hl : l.length ≤ 1000) :
    Calls Tryz.prog 21 #[.int .i64 id, .slice A l.length c] w (TagR w id l) := by
  have K0 := Blk.new w 37 #[.int .i64 0, .int .i64 0, .slice none 0 0]
  have b0 := bal (Below.refl w.heap.size w) (.cells #[.int .i64 0, .int .i64 0, .slice none 0 0] 37)
  obtain ⟨w0, hw0⟩ : ∃ w0, w.alloc (.cells #[.int .i64 0, .int .i64 0, .slice none 0 0] 37) = w0 := ⟨_, rfl⟩
  have hs0 : w0.heap.size = w.heap.size + 1 := by rw [← hw0]; simp
  rw [hw0] at K0 b0
  have b1 := bal (Below.refl w0.heap.size w0) (.cells #[.slice none 0 0] 77)
  have KR := Blk.new w0 77 #[.slice none 0 0]
  obtain ⟨w1, hw1⟩ : ∃ w1, w0.alloc (.cells #[.slice none 0 0] 77) = w1 := ⟨_, rfl⟩
  rw [hw1] at b1 KR
  rw [hs0] at KR
  have K1 := K0.below b1
  have B1 : Below w.heap.size w w1 := b0.trans (b1.mono b0.size)
  have HP := hidH (wpair_any (w.heap.size + 1) [] id w1 (wr_nil KR) h0 (by omega) (by simp))
  have HLO := hidH (bs_lo0 (r := w.heap.size + 1) hA (Nat.le_succ _))
  have HS1 := hidH (bs_below hA B1)
  have HK := hidH K1
  have HB := hidH B1
  have HLT := hidH KR.lt
  have HW0 := hidH hw0
  have HW1 := hidH hw1
  have HS0 := hidH hs0
  have HL := hidH hl
  unfold Wrote at HP
  clear K0 b0 hw0 hs0 b1 KR hw1 K1 B1 hA hl
  go_enter Tryz.func21, Tryz.ntmps21
  go_wp2_with fail
  rw [HW0.out, HW1.out]
  refine HP.out.mono ?_
  rintro e w2 ⟨rfl, hw2, b2, k2⟩
  have HP2 := hidH (put_any (w.heap.size + 1) _ l A c w2 hw2 (bs_lo HS1.out HLO.out b2 HLT.out) (by have := HL.out; simp; omega))
  have HB2 := hidH b2
  unfold Wrote at HP2
  clear HP hw2 b2 k2
  go_wp2_with fail
  refine HP2.out.mono ?_
  rintro e w3 ⟨rfl, hw3, b3, k3⟩
  obtain ⟨v, KW, OW⟩ := hw3
  obtain ⟨A3, c3, e3⟩ := own_lenT OW
  subst e3
  have b13 : Below (w.heap.size + 1) w1 w3 := HB2.out.trans b3
  have K4 : Blk w3 w.heap.size 37 #[.int .i64 0, .int .i64 0, .slice none 0 0] := (b13.block _ (by omega)).trans HK.out
  have B3 := hidH (show Below w.heap.size w w3 from HB.out.trans (b13.mono (by omega)))
  have O3 := hidH (show w3.ownsRow (w.heap.size + 2) 5 1 (.slice A3 (tagB id l).length c3) (tagB id l).length ((tagB id l).map (Value.int .u8)) by
    have e : (tagB id l).length = 2 + l.length := by rw [tagB_len]; omega
    rw [e]
    have := OW
    simp only [List.nil_append, List.length_append, List.length_cons, List.length_nil] at this
    simpa [tagB] using this)
  have y0 := KW.cell 0
  have hlw := KW.lt
  have x0 := K4.cell 0
  have x1 := K4.cell 1
  have x2 := K4.cell 2
  have f0 := K4.frozen 0
  have f1 := K4.frozen 1
  have f2 := K4.frozen 2
  simp only [List.getElem?_toArray, List.getElem?_cons_succ, List.getElem?_cons_zero] at x0 x1 x2 y0
  have hlt := K4.lt
  have K5 := hidH K4
  have HN := hidH (show (tagB id l).length = ([] ++ [id / 256, id % 256] ++ l).length by simp [tagB])
  clear K4 KW OW b3 k3 b13 HP2
  go_wp2
  exact bodyPost_ret (v := .agg #[.int .i64 15, .int .i64 0, .slice A3 ([] ++ [id / 256, id % 256] ++ l).length c3]) (by simp [results, Tryz.results21, go_sem, x0, x1, x2]) rfl ⟨A3, c3, by rw [HN.out]; rfl, own_monoT (own_farT (own_farT (own_farT O3.out K5.out (by decide) 0 _) (K5.out.put 0 _) (by decide) 1 _) ((K5.out.put 0 _).put 1 _) (by decide) 2 _) (by omega), bst (bst (bst B3.out (Nat.le_refl _) _) (Nat.le_refl _) _) (Nat.le_refl _) _⟩
theorem chM_ok {x : ChunkM} (h : cmOk x) : chM x.Kind x.Flags x.Body = cmL x := by
  have := cmF_ok h
  unfold cmF at this
  rw [chM, if_pos this]; rfl
theorem chM_tag (id : Int) : chM 15 0 (tagB id zer32) = cmL (tagC id zer32) :=
  chM_ok (x := tagC id zer32) ⟨⟨by show (0 : Int) ≤ 15; decide, by show (15 : Int) ≤ 255; decide⟩, ⟨by show (0 : Int) ≤ 0; decide, by show (0 : Int) ≤ 255; decide⟩, by show (tagB id zer32).length ≤ 160; rw [tagB_len]; decide⟩
set_option maxRecDepth 100000 in
set_option maxHeartbeats 4000000 in
theorem mt_impl (id : Int) (r : List ChunkM) (v : Value) (u : World) (_ : WfV (.int id)) (h : Rd u (st_Chunk r) v) (_ : WfV (st_Chunk r)) (_ : tot (st_Chunk r) ≤ 1048576) :
    Calls Tryz.prog 39 #[.int .i64 id, v] u (Res u (mtR id r).vs) := by
  have R0 := Blk.new u 48 #[.int .i64 0, .slice none 0 0]
  have b0 := bal (Below.refl u.heap.size u) (.cells #[.int .i64 0, .slice none 0 0] 48)
  obtain ⟨w0, hw0⟩ : ∃ w0, u.alloc (.cells #[.int .i64 0, .slice none 0 0] 48) = w0 := ⟨_, rfl⟩
  have hs0 : w0.heap.size = u.heap.size + 1 := by rw [← hw0]; simp
  rw [hw0] at R0 b0
  have HI := hidH (fun (w : World) (hb : Below u.heap.size u w) => Rd.below hb _ h)
  have HW := hidH hw0
  have HS := hidH hs0
  have HR := hidH R0
  have HB := hidH b0
  have HCF := hidH (chunksFault_any r v 7 w0 (HI.out _ b0) (by omega))
  obtain ⟨x0, x1, xz⟩ := R0.two
  have f0 := R0.frozen 0
  have f1 := R0.frozen 1
  obtain ⟨b, hb⟩ : ∃ b, inB id 0 99 = b := ⟨_, rfl⟩
  obtain ⟨A, c, rfl⟩ := st_Chunk_sh h
  clear hw0 hs0 R0 b0 h
  cases b
  · have HM := hidH (show (mtR id r).vs = [.int 3, .bs []] by simp [mtR, mtF, hb, BytesResultM.vs])
    rw [HM.out]
    obtain ⟨y0, y1, yz⟩ := (Blk.new u 48 #[.int .i64 3, .slice none 0 0]).two
    have HBB := hidH (bal (Below.refl u.heap.size u) (.cells #[.int .i64 3, .slice none 0 0] 48))
    go_enter Tryz.func39, Tryz.ntmps39
    go_wp2_with (go_at_call 57; refine (isId_any _ _).mono ?_; rintro e w' ⟨rfl, rfl⟩)
    exact bodyPost_ret (v := .agg #[.int .i64 3, .slice none 0 0]) (by simp [results, Tryz.results39, go_sem, y0, y1]) rfl ⟨[.int .i64 3, .slice none 0 0], rfl, OwN.int 3 (OwN.empty _ (Nat.le_refl _)), HBB.out⟩
  · have HID := hidH (show 0 ≤ id ∧ id ≤ 99 by simpa [inB] using hb)
    clear x0 x1 xz f0 f1
    go_enter Tryz.func39, Tryz.ntmps39
    go_wp2_with (go_at_call 57; refine (isId_any _ _).mono ?_; rintro e w' ⟨rfl, rfl⟩)
    rw [HW.out]
    refine HCF.out.mono ?_
    rintro e w1 ⟨rfl, b1⟩
    have HB1 := hidH (btr HB.out b1)
    have HR1 := hidH (HR.out.below b1)
    have HZ1 := hidH b1.size
    obtain ⟨F, hF⟩ : ∃ F, csF 7 r = F := ⟨_, rfl⟩
    rw [hF]
    clear b1 HCF
    by_cases hz : F = 0
    · have q : (F != 0) = false := by rw [bne_eq_false_iff_eq]; exact hz
      have H0 := hidH (hF.trans hz)
      have HC := hidH (cmsF_ok (csF_zero H0.out).2)
      have HN := hidH (show r.length ≤ 7 from (csF_zero H0.out).1)
      have hnI : (r.length : Int) ≤ 7 := by have := HN.out; omega
      have HIN := hidH hb
      have hmk := make32 w1
      have SZ := zer32_bs w1
      have ba := bal (Below.refl w1.heap.size w1) (.cells (madeCells #[Value.int .u8 0] 32) 5)
      have HZZ : zer32.length = 32 := by decide
      obtain ⟨w2, hw2⟩ : ∃ w2, w1.alloc (.cells (madeCells #[Value.int .u8 0] 32) 5) = w2 := ⟨_, rfl⟩
      rw [hw2] at hmk SZ ba
      have HT := hidH (tagChunk_any id zer32 (some ⟨w1.heap.size, 0, none⟩) 32 w2 SZ HID.out.1 (by have := HID.out; omega) (by rw [HZZ]; omega))
      rw [HZZ] at HT
      have HB2 := hidH (btr HB1.out ba)
      have HR2 := hidH (HR1.out.below ba)
      have HZ2 := hidH ba.size
      clear hz hF SZ ba hw2
      go_wp2_with fail
      refine HT.out.mono ?_
      rintro e w3 ⟨A3, c3, rfl, o3, b3⟩
      obtain ⟨A3', c3', e3, ob3, _, _⟩ := own_ob o3
      injection e3 with e31 e32 e33
      subst e31 e33
      have hl34 : (tagB id zer32).length = 34 := by rw [tagB_len, HZZ]
      have HPC := hidH (packChunk_own 15 0 A3 (tagB id zer32) c3 w3 ob3.bs (by rw [hl34]; omega))
      rw [chM_tag, hl34] at HPC
      rw [hl34]
      obtain ⟨L0, hL0⟩ : ∃ L0, cmL (tagC id zer32) = L0 := ⟨_, rfl⟩
      rw [hL0] at HPC
      have HL0 := hidH hL0
      have HB3 := hidH (btr HB2.out b3)
      have HR3 := hidH (HR2.out.below b3)
      have HZ3 := hidH b3.size
      unfold ckV at HPC ⊢
      obtain ⟨F0, hF0⟩ : ∃ F0, chF 15 0 (tagB id zer32) = F0 := ⟨_, rfl⟩
      rw [hF0] at HPC
      clear o3 ob3 e32 b3 HT hmk hl34 hL0 hF0 HZZ
      go_wp2_with fail
      refine HPC.out.mono ?_
      rintro e w4 ⟨A4, c4, rfl, o4, b4⟩
      have hfl := fldBR F0 A4 L0.length c4 w4
      have HB4 := hidH (btr HB3.out b4)
      have HR4 := hidH (HR3.out.below b4)
      have HO4 := hidH (show w4.ownsRow (u.heap.size + 1) 5 1 (.slice A4 L0.length c4) (txtTo id r 0).length ((txtTo id r 0).map (Value.int .u8)) by
        rw [txtTo_zero, HL0.out]
        exact own_monoT o4 (by have := HS.out; have := HZ1.out; have := HZ2.out; have := HZ3.out; omega))
      clear o4 b4 HPC
      go_wp2
      clear hfl
      go_loopw [6, 26] (fun v i wr => ∃ j : Nat, j ≤ r.length ∧ i = .int .i64 j ∧ wr.ownsRow (u.heap.size + 1) 5 1 v (txtTo id r j).length ((txtTo id r j).map (Value.int .u8)) ∧ Blk wr u.heap.size 48 #[.int .i64 0, .slice none 0 0] ∧ Below u.heap.size u wr) (fun _ i _ => r.length - (intOf i).toNat)
      case atStart => exact ⟨0, by omega, rfl, HO4.out, HR4.out, HB4.out⟩
      case round =>
        obtain ⟨j, hj, rfl, hown, hR, hB⟩ := hrel
        have hsz := hB.size
        have HL := hidH (txtTo_len id r HC.out j hj)
        have HRW := hidH hR
        have hrl := hR.lt
        by_cases hlt : j < r.length
        · have hj0 : (0 : Int) ≤ (j : Int) := by omega
          have hj1 : (j : Int) < (r.length : Int) := by omega
          obtain ⟨g, o, c', B, cB, e, CK, hbl⟩ := chunk_at (HI.out _ hB) hlt
          injection e with e1 e2 e3
          subst e1 e3
          have hok := HC.out r[j] (List.getElem_mem hlt)
          have HSU := hidH (txtTo_succ id r j hlt)
          have hcl := hidH (cmL_len r[j] hok.2.2)
          have p0 := CK.c0
          have p1 := CK.c1
          have p2 := CK.c2
          have hg := CK.lt
          have ba := bal (Below.refl wr.heap.size wr) (.cells #[.int .i64 r[j].Kind, .int .i64 r[j].Flags, .slice B r[j].Body.length cB] 37)
          have KQ := hidH (Blk.new wr 37 #[.int .i64 r[j].Kind, .int .i64 r[j].Flags, .slice B r[j].Body.length cB])
          have HPC := hidH (packChunk_own r[j].Kind r[j].Flags B r[j].Body cB _ (bs_below CK.body ba) hbl)
          rw [chM_ok hok] at HPC
          unfold ckV at HPC
          obtain ⟨f, hf⟩ : ∃ f, chF r[j].Kind r[j].Flags r[j].Body = f := ⟨_, rfl⟩
          rw [hf] at HPC
          have OH := hidH (own_below0 hown ba)
          have HR5 := hidH (hR.below ba)
          have HBW := hidH (btr hB ba)
          clear CK hok hbl hf hown hR hB ba
          go_wp2_with fail
          refine HPC.out.mono ?_
          rintro e w6 ⟨A6, c6, rfl, o6, b6⟩
          obtain ⟨A6', c6', e6, ob6, _, _⟩ := own_ob o6
          injection e6 with e61 _ e63
          subst e61 e63
          have hfl := fldBR f A6 (cmL r[j]).length c6 w6
          have S6 := hidH ob6.bs
          have O6 := hidH (own_below0 OH.out b6)
          have HR6 := hidH (HR5.out.below b6)
          have B6 := hidH (btr HBW.out b6)
          have hsz6 : u.heap.size + 1 ≤ w6.heap.size := HR6.out.lt
          clear o6 ob6 b6 HPC OH HBW HR5 p0 p1 p2
          go_wp2_with (at_builtin; go_loud (refine wpList_append_bs rfl _ _ rfl (u.heap.size + 1) _ _ _ rfl O6.out A6 _ c6 rfl S6.out (by have h1 := HL.out; have h2 := hcl.out; have := HN.out; omega) hsz6 ?_))
          intro v7 w7 o7 g7
          have B7 := hidH (B6.out.grown g7 (by omega) (fun x hx => Nat.le_trans (Nat.le_succ _) (O6.out.lt x hx).1))
          have HR7 := hidH (show Blk w7 u.heap.size 48 #[.int .i64 0, .slice none 0 0] from (g7.block _ HR6.out.lt (fun q => by have := (O6.out.lt _ q.symm).1; omega)).trans HR6.out)
          have O7 := hidH (show w7.ownsRow (u.heap.size + 1) 5 1 v7 (txtTo id r (j + 1)).length ((txtTo id r (j + 1)).map (Value.int .u8)) by
            rw [HSU.out]
            simpa using o7)
          clear o7 g7 O6 B6 S6 hsz6 hfl HR6
          go_wp2
          go_roundw
          case rel => exact ⟨j + 1, by omega, by go_num, O7.out, HR7.out, B7.out⟩
          case measure => simp [intOf]; omega
        · obtain rfl : j = r.length := by omega
          have HLL := hidH (show txtTo id r r.length = txtL id r from rfl)
          rw [HLL.out] at hown
          obtain ⟨L, hL⟩ : ∃ L, txtL id r = L := ⟨_, rfl⟩
          rw [hL] at hown
          obtain ⟨A2, c2, rfl, ob2, hc2, hm2⟩ := own_ob hown
          obtain ⟨x0, x1, xz⟩ := hR.two
          have f0 := hR.frozen 0
          have f1 := hR.frozen 1
          have HO := hidH ob2
          have HCC := hidH (And.intro hc2 hm2)
          have HBW := hidH hB
          have HLE := hidH hL
          clear ob2 hc2 hm2 hR hB hlt hj hown hL
          by_cases h5 : L.length ≤ 500
          · have h5I : (L.length : Int) ≤ 500 := by omega
            have HM := hidH (show (mtR id r).vs = [.int 0, .bs L] by simp [mtR, mtF, HIN.out, H0.out, HLE.out, h5, BytesResultM.vs])
            clear h5
            go_wp2
            exact bodyPost_ret (v := .agg #[.int .i64 0, .slice A2 L.length c2]) (by simp [results, Tryz.results39, go_sem, x0, x1]) rfl (by rw [HM.out]; exact br_res 0 HO.out (Nat.le_refl _) HBW.out HCC.out.1 HCC.out.2 _ _)
          · have h5I : (500 : Int) < (L.length : Int) := by omega
            have HM := hidH (show (mtR id r).vs = [.int 2, .bs []] by simp [mtR, mtF, HIN.out, H0.out, HLE.out, h5, BytesResultM.vs])
            clear h5
            go_wp2
            exact bodyPost_ret (v := .agg #[.int .i64 2, .slice none 0 0]) (by simp [results, Tryz.results39, go_sem, x0, x1]) rfl (by rw [HM.out]; exact br_code 2 (Nat.le_refl _) HBW.out _ _)
    · have q : (F != 0) = true := by rw [bne_iff_ne]; exact hz
      have HM := hidH (show (mtR id r).vs = [.int F, .bs []] by simp [mtR, mtF, hb, hF, hz, BytesResultM.vs])
      have R2 := HR1.out
      obtain ⟨x0, x1, xz⟩ := R2.two
      have f0 := R2.frozen 0
      have f1 := R2.frozen 1
      clear R2 hz hF
      go_wp2
      exact bodyPost_ret (v := .agg #[.int .i64 F, .slice none 0 0]) (by simp [results, Tryz.results39, go_sem, x0, x1]) rfl (by rw [HM.out]; exact br_code F (Nat.le_refl _) HB1.out _ _)
end Go.Proofs.YtncnibkojneejaaGreatDoor

/- The program's tables of SHA-256: roundConstants, firstState, RoundWord; laws on whole arrays by value. -/
namespace Go.Proofs.YtncnibkojneejaaGreatDoor
open Go.RowKit Go.Deep

def uv (x : Nat) : Value := .int .u32 x
/-- Words as an array's cells. -/
def U (ws : List Nat) : Array Value := (ws.map uv).toArray
theorem U_size (ws : List Nat) : (U ws).size = ws.length := by simp [U]
theorem U_one (ws : List Nat) : (U ws).all (·.oneCell') = true := by
  rw [Array.all_eq_true_iff_forall_mem]
  intro v hv
  simp [U, uv] at hv
  obtain ⟨x, _, rfl⟩ := hv
  rfl
theorem U_ci (ws : List Nat) : ((ci ws).map (Value.int .u32)).toArray = U ws := by simp [U, ci, uv]
theorem U_get (ws : List Nat) (j : Nat) (h : j < ws.length) : (U ws)[j]? = some (.int .u32 ((ws.getD j 0 : Nat) : Int)) := by
  simp [U, uv, h]
/-- A new variable by its type's zero value, said by the caller. -/
theorem wpList_allocRow {P : Program} {ops : Array Oper} {rest : List Oper} {o : Oper} {a : Act} {w : World} {Q : Exit → Act → World → Prop} (hg : o.guard = none) (t : TypeId) (ho : o.op = .alloc t)
    (dst : Option Tmp) (hd : o.dst = dst) (cs : Array Value) (hz : (P.info? t).bind (·.zero) = some (.agg cs))
    (h : wpList P ops Q rest (a.put dst (.pointer (some ⟨w.heap.size, 0, none⟩))) (w.alloc (.cells cs t))) : wpList P ops Q (o :: rest) a w := by
  subst hd
  refine wpList_plain hg fun K hK => ?_
  unfold Oper.wp execOp
  cases hi : P.info? t with
  | none => simp [hi] at hz
  | some i =>
    simp [hi] at hz
    have hzr : ∀ u : World, (zeroValue t).run P u = .ok (.agg cs) u := (zero_of_info (n := i.size) (by simp [hi, hz])).1
    simp only [ho, Instr.alloc, hzr, newVar, newRow, Value.cells, Sem.run_bind, run_newObj_alloc, Sem.run_pure, Result.andThen_ok]
    exact hK _ _ h
/-- A new variable that holds an array given by value. -/
theorem wpList_boxRow {P : Program} {ops : Array Oper} {rest : List Oper} {o : Oper} {a : Act} {w : World} {Q : Exit → Act → World → Prop} (hg : o.guard = none) (t : TypeId) (x : Operand) (ho : o.op = .box t x)
    (dst : Option Tmp) (hd : o.dst = dst) (cs : Array Value) (hx : a.eval x = .agg cs)
    (h : wpList P ops Q rest (a.put dst (.pointer (some ⟨w.heap.size, 0, none⟩))) (w.alloc (.cells cs t))) : wpList P ops Q (o :: rest) a w := by
  subst hd
  refine wpList_plain hg fun K hK => ?_
  unfold Oper.wp execOp
  simp only [ho, hx, Sem.run_bind, Instr.box, newVar, newRow, Value.cells, run_newObj_alloc, Sem.run_pure, Result.andThen_ok]
  exact hK _ _ h
theorem info90 : ∃ z, (Tryz.prog.info? 162).bind (·.zero) = some (.agg z) ∧ z.size = 64 := ⟨Array.replicate 64 (.int .u32 0), by kernel_rfl, by simp⟩
set_option maxRecDepth 100000 in
set_option maxHeartbeats 4000000 in
theorem consts_any (w : World) : Calls Tryz.prog 104 #[] w fun e w' => e = .returned (.agg (U keysN)) ∧ Below w.heap.size w w' := by
  obtain ⟨z, hz, hz2⟩ := info90
  go_enter Tryz.func104, Tryz.ntmps104
  go_wp2_with (first | refine wpList_allocRow rfl _ rfl _ rfl z hz ?_ | refine wpList_buildFlatArrTo rfl 162 150 64 _ rfl .u32 (ci keysN) _ rfl (by kernel_rfl) (by kernel_rfl) (by kernel_rfl) (by kernel_rfl) ?_ | refine wpList_store_rowTo rfl _ _ _ rfl rfl w.heap.size (U keysN) rfl (by rw [← U_ci]; rfl) _ _ (heap_alloc_last w _) (by kernel_rfl) hz2 (U_one _) ?_)
  have hb := Blk.new w 162 z
  exact bodyPost_ret (v := .agg (U keysN)) (results_cell_row rfl _ _ w.heap.size 162 _ (0, 0) (.array 64 150) rfl (setRow_heap _ _ _ _ _ _ hb) (by kernel_rfl) rfl (by kernel_rfl)) rfl ⟨rfl, below_setRow (bal (Below.refl _ _) _) (Nat.le_refl _) _⟩
theorem info77 : ∃ z, (Tryz.prog.info? 152).bind (·.zero) = some (.agg z) ∧ z.size = 8 := ⟨Array.replicate 8 (.int .u32 0), by kernel_rfl, by simp⟩
theorem info91 : ∃ z, (Tryz.prog.info? 164).bind (·.zero) = some (.agg z) ∧ z.size = 64 := ⟨Array.replicate 64 (.int .u32 0), by kernel_rfl, by simp⟩

set_option maxHeartbeats 1000000 in
theorem first_any (w : World) : Calls Tryz.prog 94 #[] w fun e w' => e = .returned (.agg (U startN)) ∧ Below w.heap.size w w' := by
  obtain ⟨z, hz, hz2⟩ := info77
  go_enter Tryz.func94, Tryz.ntmps94
  go_wp2_with (first | refine wpList_allocRow rfl _ rfl _ rfl z hz ?_ | refine wpList_buildFlatArrTo rfl 152 150 8 _ rfl .u32 (ci startN) _ rfl (by kernel_rfl) (by kernel_rfl) (by kernel_rfl) (by kernel_rfl) ?_ | refine wpList_store_rowTo rfl _ _ _ rfl rfl w.heap.size (U startN) rfl (by rw [← U_ci]; rfl) _ _ (heap_alloc_last w _) (by kernel_rfl) hz2 (U_one _) ?_)
  have hb := Blk.new w 152 z
  exact bodyPost_ret (v := .agg (U startN)) (results_cell_row rfl _ _ w.heap.size 152 _ (0, 0) (.array 8 150) rfl (setRow_heap _ _ _ _ _ _ hb) (by kernel_rfl) rfl (by kernel_rfl)) rfl ⟨rfl, below_setRow (bal (Below.refl _ _) _) (Nat.le_refl _) _⟩
theorem wpList_indexArr {P : Program} {ops : Array Oper} {rest : List Oper} {o : Oper} {a : Act} {w : World} {Q : Exit → Act → World → Prop} (hg : o.guard = none) (t : TypeId) (x y : Operand) (ho : o.op = .index t x y)
    (dst : Option Tmp) (hd : o.dst = dst) (cs : Array Value) (k : IntKind) (n len : Nat) (e : TypeId) (v : Value) (hx : a.eval x = .agg cs) (hy : a.eval y = .int k (n : Int))
    (hu : P.underlying t = some (.array len e)) (hn : n < len) (hs : (P.info? e).map (·.size) = some 1) (ie : IntKind) (he : P.underlying e = some (.int ie)) (hv : cs[n]? = some v)
    (h : wpList P ops Q rest (a.put dst v) w) : wpList P ops Q (o :: rest) a w := by
  subst hd
  refine wpList_plain hg fun K hK => ?_
  have hsz : (sizeOf e).run P w = .ok 1 w := by
    cases hq : P.info? e with
    | none => simp [hq] at hs
    | some i => simp [hq] at hs; simp [sizeOf, typeInfo, hq, hs]
  have hp : (part e cs n).run P w = .ok v w := by
    simp [part, isAgg, run_underlying he, Sem.run_bind, hv]
  have hrun : (execOp a.eval o).run P w = .ok (.value v) w := by
    unfold execOp
    simp [ho, hx, hy, Instr.index, asIntOf, Sem.run_bind, run_underlying hu, hn, hsz, hp]
  unfold Oper.wp
  rw [hrun]
  exact hK _ _ h
/-- The result's block behind a call. -/
theorem xb {w w1 : World} {t : TypeId} {a b : Value} (hb : Below (w.alloc (.cells #[a, b] t)).heap.size (w.alloc (.cells #[a, b] t)) w1) : Hid (Blk w1 w.heap.size t #[a, b]) ∧ Hid (Below w.heap.size w w1) :=
  ⟨(Blk.new w t _).below hb, btr (bal (Below.refl _ _) _) hb⟩
end Go.Proofs.YtncnibkojneejaaGreatDoor

/- Whole blocks of bytes: read, written, copied to. -/
namespace Go.Proofs.YtncnibkojneejaaGreatDoor
open Go.RowKit Go.Deep

/-- A whole block of bytes. -/
def Brow (w : World) (g : Nat) (l : List Int) : Prop := Blk w g 5 (l.map (Value.int .u8)).toArray
theorem Brow.cell {w : World} {g : Nat} {l : List Int} (h : Brow w g l) (j : Nat) (hj : j < l.length) : w.cell? ⟨g, j, none⟩ = some (.int .u8 (l.getD j 0)) := by
  rw [Blk.cell h j]; simp [hj]
theorem Brow.set {w : World} {g : Nat} {l : List Int} (h : Brow w g l) (j : Nat) (v : Int) : Brow (w.setCell ⟨g, j, none⟩ (.int .u8 v)) g (l.set j v) := by
  have := heap_setCell_same w g j _ _ (.int .u8 v) h
  unfold Brow Blk
  rw [this]
  simp [List.map_set]
theorem Brow.ob {w : World} {g B : Nat} {l : List Int} (h : Brow w g l) (hB : B ≤ g) : Ob B w.heap.size w (some ⟨g, 0, none⟩) l :=
  .inr ⟨g, 0, rfl, hB, Blk.lt h, Nat.le_refl _, fun j hj => ⟨by rw [Nat.zero_add]; exact h.cell j hj, Blk.frozen h _⟩⟩
theorem Brow.of_own {w : World} {B e g n : Nat} {xs : List Value} {l : List Int} (h : w.ownsRow B e 1 (.slice (some ⟨g, 0, none⟩) n n) n xs) (he : e = 5) (hx : xs = l.map (Value.int .u8)) : Brow w g l := by
  rcases h.2 with ⟨h', _⟩ | ⟨g', cap', cur, h', hb, hg, hnc, hcm, hcs, htake⟩
  · simp at h'
  · simp only [Value.slice.injEq, Option.some.injEq, Addr.mk.injEq, and_true, true_and] at h'
    obtain ⟨rfl, rfl⟩ := h'
    have : cur.toList = xs := by rw [← htake, List.take_of_length_le (by simp; omega)]
    unfold Brow Blk
    rw [hg, he, ← hx, ← this]
theorem bs_src {w : World} {A : Option Addr} {l : List Int} (h : Bs w A l) (hp : 0 < l.length) : ∃ ad, A = some ad ∧ ∀ (j : Nat) v, (l.map (Value.int .u8))[j]? = some v → w.cell? (ad.add j) = some v := by
  rcases h with rfl | ⟨b, off, rfl, hb, hc⟩
  · simp at hp
  · refine ⟨_, rfl, fun j v hv => ?_⟩
    have hj : j < l.length := by
      rcases Nat.lt_or_ge j l.length with h | h
      · exact h
      · rw [List.getElem?_eq_none (by simpa using h)] at hv; cases hv
    have e : (⟨b, off, none⟩ : Addr).add j = ⟨b, off + j, none⟩ := by unfold Addr.add; split <;> simp_all
    rw [e, hc j hj, ← hv]
    simp [hj]
theorem made_u8 (N : Nat) : (madeCells (Value.int .u8 0).cells (N * 1)).toList = (List.replicate N (0 : Int)).map (Value.int .u8) := by
  rw [Nat.mul_one, show (Value.int IntKind.u8 0).cells = #[Value.int IntKind.u8 0] from rfl, toList_madeCells_one]
  simp
theorem run_copy_b {w : World} {g N c T : Nat} {A : Option Addr} {l X : List Int} (hB : Brow w g X) (hN : X.length = N) (hl : l.length ≤ N) (hA : Bs w A l) :
    ∃ w', (Builtin.copy_ #[22, 22] T #[.slice (some ⟨g, 0, none⟩) N N, .slice A l.length c]).run Tryz.prog w = .ok (goInt l.length) w' ∧ Brow w' g (l ++ X.drop l.length) ∧ Below g w w' := by
  have hmin : Nat.min l.length N = l.length := Nat.min_eq_left hl
  rcases Nat.eq_zero_or_pos l.length with h0 | h0
  · have hl0 : l = [] := List.eq_nil_of_length_eq_zero h0
    subst hl0
    refine ⟨w, ?_, by simpa using hB, Below.refl _ _⟩
    exact run_copy_none (P := Tryz.prog) w 22 22 T 5 (some ⟨g, 0, none⟩) A N N 0 c (by kernel_rfl) (by kernel_rfl) (by simp)
  · obtain ⟨ad, rfl, hsrc⟩ := bs_src hA h0
    have := run_copy_row (P := Tryz.prog) w 22 22 T 5 g 0 N N ad l.length c _ _ (l.map (Value.int .u8)) (by kernel_rfl) (by kernel_rfl) hB (by simp [hmin]) hsrc (by simp; omega) (by intro v hv; simp at hv; obtain ⟨x, _, rfl⟩ := hv; rfl)
    refine ⟨_, by simpa using this, ?_, below_setRow (Below.refl _ _) (Nat.le_refl _) _⟩
    unfold Brow Blk
    rw [setRow_heap w g _ _ _ _ hB]
    simp
end Go.Proofs.YtncnibkojneejaaGreatDoor
