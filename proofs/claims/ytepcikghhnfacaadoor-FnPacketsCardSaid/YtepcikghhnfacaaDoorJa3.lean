import Derived.Test.YtepcikghhnfacaaDoorJa1
import Derived.Deep.LoopGhost
import Derived.Test.YtepcikghhnfacaaDoorChR

/- The model's padding of a message: l2Pad, PadMessage. -/
namespace Go.Proofs.YtepcikghhnfacaaDoor
open Go.RowKit Go.Deep

/-- How many zero bytes. -/
def zerosN (n : Nat) : Nat := (119 - n % 64) % 64
def padTo (l : List Int) (k : Nat) : List Int := l ++ 128 :: List.replicate k 0
def padL (l : List Int) : List Int := padTo l (zerosN l.length) ++ [0, 0, 0, 0] ++ pk (8 * l.length)
theorem padTo_len (l : List Int) (k : Nat) : (padTo l k).length = l.length + 1 + k := by simp [padTo]; omega
theorem padTo_succ (l : List Int) (k : Nat) : padTo l (k + 1) = padTo l k ++ [0] := by simp [padTo, List.replicate_succ']
theorem zeros_test (n k : Nat) (hk : k ≤ zerosN n) : (n + 1 + k) % 64 = 56 ↔ k = zerosN n := by unfold zerosN at *; omega
theorem padL_len (l : List Int) : (padL l).length = l.length + 9 + zerosN l.length := by
  rw [padL, List.length_append, List.length_append, padTo_len]; simp [pk]; omega
theorem own_bres {w0 w : World} {v : Value} {l : List Int} (x : Int) (h : w.ownsRow w0.heap.size 5 1 v l.length (l.map (Value.int .u8))) (hb : Below w0.heap.size w0 w) :
    ∃ A cp, v = .slice A l.length cp ∧ BRes w0 x l (.returned (.agg #[.int .i64 x, .slice A l.length cp])) w := by
  obtain ⟨A, cp, rfl, ob, h1, h2⟩ := own_ob h
  exact ⟨A, cp, rfl, A, cp, rfl, ob, hb, h1, h2⟩
theorem Ob.setCell {B C : Nat} {w : World} {A : Option Addr} {l : List Int} (h : Ob B C w A l) {p : Addr} (hp : p.block < B) (u : Value) : Ob B C (w.setCell p u) A l := by
  rcases h with h | ⟨b, off, h1, h2, h3, h4, h5⟩
  · exact .inl h
  · exact .inr ⟨b, off, h1, h2, h3, by simpa [World.setCell] using h4, fun j hj => ⟨(World.cell?_setCell_other _ _ _ _ (fun e => by subst e; simp at hp; omega)).trans (h5 j hj).1, (World.frozen?_setCell _ _ _ _).trans (h5 j hj).2⟩⟩
theorem Ob.mono {B B' C : Nat} {w : World} {A : Option Addr} {l : List Int} (h : Ob B C w A l) (hB : B' ≤ B) : Ob B' C w A l := by
  rcases h with h | ⟨b, off, h1, h2, h3, h4, h5⟩
  · exact .inl h
  · exact .inr ⟨b, off, h1, by omega, h3, h4, h5⟩
theorem bres_set {w w1 : World} {A : Option Addr} {l : List Int} {cp : Nat} (x : Int) (hO : Ob (w.heap.size + 1) w1.heap.size w1 A l) (hb : Below w.heap.size w w1) (h1 : l.length ≤ cp) (h2 : (cp : Int) ≤ 9223372036854775807) (u0 u1 : Value) :
    BRes w x l (.returned (.agg #[.int .i64 x, .slice A l.length cp])) ((w1.setCell ⟨w.heap.size, 0, none⟩ u0).setCell ⟨w.heap.size, 1, none⟩ u1) := by
  have e : ((w1.setCell ⟨w.heap.size, 0, none⟩ u0).setCell ⟨w.heap.size, 1, none⟩ u1).heap.size = w1.heap.size := by simp [World.setCell]
  refine ⟨A, cp, rfl, ?_, bst (bst hb (Nat.le_refl _) _) (Nat.le_refl _) _, h1, h2⟩
  rw [e]
  exact ((hO.setCell (p := ⟨w.heap.size, 0, none⟩) (Nat.lt_succ_self _) _).setCell (p := ⟨w.heap.size, 1, none⟩) (Nat.lt_succ_self _) _).mono (Nat.le_succ _)
def padC (l : List Int) : Int := if l.length ≤ 700 then 0 else 2
def padM (l : List Int) : List Int := if l.length ≤ 700 then padL l else []
end Go.Proofs.YtepcikghhnfacaaDoor

/- The model's bytes of a chunk: l4Chunk, PackChunk. -/
namespace Go.Proofs.YtepcikghhnfacaaDoor
open Go.RowKit Go.Deep

theorem win_set (w : World) (g o : Nat) (u : Value) : Win g (g + 1) w (w.setCell ⟨g, o, none⟩ u) :=
  ⟨rfl, rfl, rfl, by simp [World.setCell], fun k _ ho => Below.heap_setCell _ _ _ _ (by show k ≠ g; omega), fun _ _ => World.frozen?_setCell _ _ _ _⟩
/-- The head and the body, j noughts behind. -/
def chTo (H : List Int) (j : Nat) : List Int := H ++ List.replicate j 0
theorem chTo_len (H : List Int) (j : Nat) : (chTo H j).length = H.length + j := by simp [chTo]
theorem chTo_succ (H : List Int) (j : Nat) : chTo H (j + 1) = chTo H j ++ [0] := by simp [chTo, List.replicate_succ']
theorem ch_test (n j : Nat) (hj : j ≤ chPad n) : (4 + n + j) % 4 = 0 ↔ j = chPad n := by unfold chPad at *; omega
set_option maxRecDepth 100000 in
set_option maxHeartbeats 2000000 in
theorem l4Chunk_any (g o : Nat) (k f : Int) (A : Option Addr) (b : List Int) (c : Nat) (w : World) (hC : CkB w g o k f A b c) (hk0 : 0 ≤ k) (hk1 : k ≤ 255) (hf0 : 0 ≤ f) (hf1 : f ≤ 255) (hb : b.length ≤ 1000) :
    Calls Tryd.prog 68 #[.pointer (some ⟨g, o, none⟩)] w (OwnB w (chL k f b)) := by
  obtain ⟨H, hH⟩ : ∃ H, [k, f, ((b.length : Int) + 4) / 256, ((b.length : Int) + 4) % 256] ++ b = H := ⟨_, rfl⟩
  have hHl : H.length = 4 + b.length := by rw [← hH]; simp; omega
  have hL : chL k f b = chTo H (chPad b.length) := by rw [chL, hH, chTo]
  rw [hL]
  have hz4 : chPad b.length < 4 := by unfold chPad; omega
  have HTEST := hidH (ch_test b.length)
  obtain ⟨z, hz⟩ : ∃ z, chPad b.length = z := ⟨_, rfl⟩
  rw [hz] at hz4 HTEST ⊢
  have HC := hidH hC
  have HH := hidH hH
  have HHL := hidH hHl
  have HB := hidH hb
  have hbI : (b.length : Int) ≤ 1000 := by omega
  have HFIN := hidH (And.intro hk0 (And.intro hk1 (And.intro hf0 hf1)))
  clear hC hH hHl hL hz hb hk0 hk1 hf0 hf1
  go_enter Tryd.func68, Tryd.ntmps68
  go_wp2_with fail
  refine wp_region_any (by kernel_rfl) ?_
  refine regCh _ _ g o k f A b c HFIN.out.1 HFIN.out.2.1 HFIN.out.2.2.1 HFIN.out.2.2.2 hbI (by kernel_rfl) (by kernel_rfl) (by kernel_rfl) rfl (fun h => h) (HC.out.below (Below.refl w.heap.size w).drew) (Below.refl _ _) ?_
  intros
  rename_i t3 W hO hown
  have hB : Below w.heap.size w W := btr (Below.refl w.heap.size w).drew hO
  have OW := hidH (show W.ownsRow w.heap.size 5 1 t3 4 _ from hown)
  have HBW := hidH hB
  have CW := HC.out.below hB
  have q2 := CW.c2
  have hlt := CW.lt
  have SB := hidH CW.body
  have hsz := hB.size
  clear CW hown hO hB
  go_wp2_with (at_builtin; refine wpList_append_bs rfl _ _ rfl w.heap.size _ _ _ rfl OW.out A b c rfl SB.out (by have := HB.out; omega) hsz ?_)
  intro v2 w2 o2 g2
  have B2 := hidH (HBW.out.grown g2 hsz (fun x hx => (OW.out.lt x hx).1))
  have O2 := hidH (show w2.ownsRow w.heap.size 5 1 v2 (chTo H 0).length ((chTo H 0).map (Value.int .u8)) by
    rw [chTo_len, HHL.out]
    have := o2
    simpa [chTo, ← HH.out] using this)
  clear o2 g2 q2 SB OW
  go_wp2_with fail
  go_loopg [3] z (fun q v wr => ∃ j : Nat, j ≤ z ∧ q = z - j ∧ wr.ownsRow w.heap.size 5 1 v (chTo H j).length ((chTo H j).map (Value.int .u8)) ∧ Below w.heap.size w wr)
  case atStart => exact ⟨0, by omega, by omega, O2.out, B2.out⟩
  case round =>
    obtain ⟨j, hj, rfl, hown, hB⟩ := hrel
    have hsz := hB.size
    have HL := hidH (show (chTo H j).length = 4 + b.length + j by rw [chTo_len, HHL.out])
    have hpl : ((chTo H j).length : Int) ≤ 60000 := by rw [HL.out]; have := HB.out; omega
    by_cases hlt : j < z
    · have ht : (((chTo H j).length : Int) % 4 != 0) = true := by
        rw [HL.out]
        have := HTEST.out j hj
        rw [bne_iff_ne]; omega
      obtain ⟨A1, c1, rfl, ob, _, _⟩ := own_ob hown
      have P1 := lit_bs wr 5 [0]
      have PH := hidH P1
      have OH := hidH hown
      clear P1 ob
      go_wp2_with (at_builtin; refine wpList_append_bs rfl _ _ rfl w.heap.size _ _ _ rfl (OH.out.alloc _) (some ⟨wr.heap.size, 0, none⟩) [0] 1 rfl PH.out (by have := HL.out; have := HB.out; simp; omega) (by simp; omega) ?_)
      intro v3 w3 o3 g3
      have B3 := hidH (own_grow (m := 0) hB hown g3)
      have O3 := hidH o3
      clear o3 g3 hown hB
      go_wp2
      go_roundg (z - (j + 1))
      case rel => exact ⟨j + 1, by omega, rfl, by rw [chTo_succ]; simpa using O3.out, B3.out⟩
      case measure => omega
    · obtain rfl : j = z := by omega
      have ht : (((chTo H j).length : Int) % 4 != 0) = false := by
        rw [HL.out]
        have := (HTEST.out j hj).2 rfl
        rw [bne_eq_false_iff_eq]; omega
      obtain ⟨A1, c1, rfl, ob, _, _⟩ := own_ob hown
      have OH := hidH hown
      have HBB := hidH hB
      clear ob hlt hj hown hB
      go_wp2
      go_ret
      exact ⟨_, rfl, OH.out, HBB.out⟩
def chM (k f : Int) (b : List Int) : List Int := if chF k f b = 0 then chL k f b else []
theorem chF_zero {k f : Int} {b : List Int} (h : chF k f b = 0) : (0 ≤ k ∧ k ≤ 255) ∧ (0 ≤ f ∧ f ≤ 255) ∧ b.length ≤ 160 := by
  unfold chF inB at h
  split at h
  · next h1 =>
    simp at h1
    split at h
    · exact ⟨h1.1, h1.2, by assumption⟩
    · cases h
  · cases h
theorem bres_at {w W : World} {R : Nat} {A : Option Addr} {l : List Int} {cp : Nat} (x : Int) (hO : Ob (R + 1) W.heap.size W A l) (hR : w.heap.size ≤ R) (hb : Below w.heap.size w W) (h1 : l.length ≤ cp) (h2 : (cp : Int) ≤ 9223372036854775807) (u0 u1 : Value) :
    BRes w x l (.returned (.agg #[.int .i64 x, .slice A l.length cp])) ((W.setCell ⟨R, 0, none⟩ u0).setCell ⟨R, 1, none⟩ u1) := by
  have e : ((W.setCell ⟨R, 0, none⟩ u0).setCell ⟨R, 1, none⟩ u1).heap.size = W.heap.size := by simp [World.setCell]
  refine ⟨A, cp, rfl, ?_, bst (bst hb hR _) hR _, h1, h2⟩
  rw [e]
  exact ((hO.setCell (p := ⟨R, 0, none⟩) (Nat.lt_succ_self _) _).setCell (p := ⟨R, 1, none⟩) (Nat.lt_succ_self _) _).mono (by omega)
end Go.Proofs.YtepcikghhnfacaaDoor

/- The model's packets: l4Raw. -/
namespace Go.Proofs.YtepcikghhnfacaaDoor
open Go.RowKit Go.Deep

structure Chk where
  kind : Int
  flags : Int
  body : List Int
def chkL (x : Chk) : List Int := chL x.kind x.flags x.body
def chkOk (x : Chk) : Prop := (0 ≤ x.kind ∧ x.kind ≤ 255) ∧ (0 ≤ x.flags ∧ x.flags ≤ 255) ∧ x.body.length ≤ 160
/-- A list of chunks in memory, three cells a chunk. -/
def Cs (w : World) (P : Option Addr) (cs : List Chk) : Prop :=
  cs = [] ∨ ∃ g o, P = some ⟨g, o, none⟩ ∧ g < w.heap.size ∧ ∀ j (hj : j < cs.length), ∃ A c, CkB w g (o + j * 3) cs[j].kind cs[j].flags A cs[j].body c
theorem Cs.below {w w' : World} {P : Option Addr} {cs : List Chk} (h : Cs w P cs) (hb : Below w.heap.size w w') : Cs w' P cs := by
  rcases h with h | ⟨g, o, h1, h2, h3⟩
  · exact .inl h
  · exact .inr ⟨g, o, h1, Nat.lt_of_lt_of_le h2 hb.size, fun j hj => by obtain ⟨A, c, h⟩ := h3 j hj; exact ⟨A, c, h.below hb⟩⟩
/-- A packet in memory. -/
structure PkB (w : World) (g o : Nat) (tag : Int) (P : Option Addr) (cs : List Chk) (c : Nat) : Prop where
  lt : g < w.heap.size
  c0 : w.cell? ⟨g, o, none⟩ = some (.int .i64 tag)
  c1 : w.cell? ⟨g, o + 1, none⟩ = some (.slice P cs.length c)
  list : Cs w P cs
theorem PkB.below {w w' : World} {B g o : Nat} {tag : Int} {P : Option Addr} {cs : List Chk} {c : Nat} (h : PkB w g o tag P cs c) (hb : Below B w w') (hB : w.heap.size ≤ B := by first | exact Nat.le_refl _ | assumption) : PkB w' g o tag P cs c :=
  have hb' : Below w.heap.size w w' := hb.mono hB
  ⟨Nat.lt_of_lt_of_le h.lt hb'.size, (hb'.cell (p := ⟨g, o, none⟩) h.lt).trans h.c0, (hb'.cell (p := ⟨g, o + 1, none⟩) h.lt).trans h.c1, h.list.below hb'⟩
def rawTo (tag sum : Int) (cs : List Chk) (j : Nat) : List Int := pk tag ++ pk sum ++ (cs.take j).flatMap chkL
def rawL (tag sum : Int) (cs : List Chk) : List Int := rawTo tag sum cs cs.length
theorem rawTo_succ (tag sum : Int) (cs : List Chk) (j : Nat) (hj : j < cs.length) : rawTo tag sum cs (j + 1) = rawTo tag sum cs j ++ chkL cs[j] := by
  rw [rawTo, rawTo, List.take_add_one, List.getElem?_eq_getElem hj, Option.toList_some, List.flatMap_append, List.append_assoc (pk tag ++ pk sum)]
  simp only [List.flatMap_cons, List.flatMap_nil, List.append_nil]
theorem chkL_len (x : Chk) (h : x.body.length ≤ 160) : (chkL x).length ≤ 168 := by
  rw [chkL, chL_len]; unfold chPad; omega
theorem rawTo_len (tag sum : Int) (cs : List Chk) (hc : ∀ x ∈ cs, chkOk x) (j : Nat) (hj : j ≤ cs.length) : (rawTo tag sum cs j).length ≤ 8 + 168 * j := by
  induction j with
  | zero => simp [rawTo, pk]
  | succ j ih =>
    rw [rawTo_succ _ _ _ _ (by omega), List.length_append]
    have := chkL_len cs[j] (hc _ (List.getElem_mem _)).2.2
    have := ih (by omega)
    omega
set_option maxRecDepth 100000 in
set_option maxHeartbeats 2000000 in
theorem l4Raw_any (g o : Nat) (tag sum : Int) (P : Option Addr) (cs : List Chk) (c : Nat) (w : World) (hP : PkB w g o tag P cs c) (ht0 : 0 ≤ tag) (ht1 : tag ≤ 4294967295) (hs0 : 0 ≤ sum) (hs1 : sum ≤ 4294967295) (hc : ∀ x ∈ cs, chkOk x) (hn : cs.length ≤ 20) :
    Calls Tryd.prog 43 #[.pointer (some ⟨g, o, none⟩), .int .i64 sum] w (OwnB w (rawL tag sum cs)) := by
  have hnI : (cs.length : Int) ≤ 20 := by omega
  have HP := hidH hP
  have q0 := hP.c0
  have q1 := hP.c1
  have hlt := hP.lt
  have HC := hidH hc
  clear hP hc
  go_enter Tryd.func43, Tryd.ntmps43
  go_wp2_with fail
  refine (l1Pack_any tag _ ht0 ht1).mono ?_
  rintro e w1 ⟨rfl, rfl⟩
  go_wp2_with fail
  refine (l1Pack_any sum _ hs0 hs1).mono ?_
  rintro e w2 ⟨rfl, rfl⟩
  have hs1' : (w.alloc (.cells #[.int .u8 (tag / 16777216), .int .u8 (tag / 65536 % 256), .int .u8 (tag / 256 % 256), .int .u8 (tag % 256)] 5)).heap.size = w.heap.size + 1 := by simp
  have O1 : (w.alloc (.cells #[.int .u8 (tag / 16777216), .int .u8 (tag / 65536 % 256), .int .u8 (tag / 256 % 256), .int .u8 (tag % 256)] 5)).ownsRow w.heap.size 5 1 (.slice (some ⟨w.heap.size, 0, none⟩) 4 4) 4 ((pk tag).map (Value.int .u8)) :=
    World.ownsRow_lit w #[.int .u8 (tag / 16777216), .int .u8 (tag / 65536 % 256), .int .u8 (tag / 256 % 256), .int .u8 (tag % 256)] 4 (Nat.le_refl _) (by unfold maxLen; omega) rfl
  have O2 := O1.alloc (.cells #[.int .u8 (sum / 16777216), .int .u8 (sum / 65536 % 256), .int .u8 (sum / 256 % 256), .int .u8 (sum % 256)] 5)
  have S2 := lit_bs (w.alloc (.cells #[.int .u8 (tag / 16777216), .int .u8 (tag / 65536 % 256), .int .u8 (tag / 256 % 256), .int .u8 (tag % 256)] 5)) 5 (pk sum)
  have B2 := bal (bal (Below.refl w.heap.size w) (.cells #[.int .u8 (tag / 16777216), .int .u8 (tag / 65536 % 256), .int .u8 (tag / 256 % 256), .int .u8 (tag % 256)] 5)) (.cells #[.int .u8 (sum / 16777216), .int .u8 (sum / 65536 % 256), .int .u8 (sum / 256 % 256), .int .u8 (sum % 256)] 5)
  rw [hs1'] at S2
  obtain ⟨W2, hW2⟩ : ∃ W2, ((w.alloc (.cells #[.int .u8 (tag / 16777216), .int .u8 (tag / 65536 % 256), .int .u8 (tag / 256 % 256), .int .u8 (tag % 256)] 5)).alloc (.cells #[.int .u8 (sum / 16777216), .int .u8 (sum / 65536 % 256), .int .u8 (sum / 256 % 256), .int .u8 (sum % 256)] 5)) = W2 := ⟨_, rfl⟩
  rw [show (w.alloc (.cells #[.int .u8 (tag / 16777216), .int .u8 (tag / 65536 % 256), .int .u8 (tag / 256 % 256), .int .u8 (tag % 256)] 5)).alloc (.cells ((pk sum).map (Value.int .u8)).toArray 5) = W2 from hW2] at S2
  rw [hW2] at O2 B2 ⊢
  have OH := hidH O2
  have SH := hidH S2
  have BH := hidH B2
  have hsz := B2.size
  clear O1 O2 S2 B2 hs1' hW2
  go_wp2_with (at_builtin; refine wpList_append_bs rfl _ _ rfl w.heap.size _ _ _ rfl OH.out _ (pk sum) 4 rfl SH.out (by simp [pk]) hsz ?_)
  intro v3 w3 o3 g3
  have B3 := hidH (BH.out.grown g3 hsz (fun x hx => (OH.out.lt x hx).1))
  have O3 := hidH (show w3.ownsRow w.heap.size 5 1 v3 (rawTo tag sum cs 0).length ((rawTo tag sum cs 0).map (Value.int .u8)) by
    have := o3
    simpa [rawTo, pk] using this)
  clear o3 g3 OH SH BH hsz q0 q1
  go_wp2
  go_loopw [5, 6] (fun v i wr => ∃ j : Nat, j ≤ cs.length ∧ i = .int .i64 j ∧ wr.ownsRow w.heap.size 5 1 v (rawTo tag sum cs j).length ((rawTo tag sum cs j).map (Value.int .u8)) ∧ Below w.heap.size w wr) (fun _ i _ => cs.length - (intOf i).toNat)
  case atStart => exact ⟨0, by omega, rfl, O3.out, B3.out⟩
  case round =>
    obtain ⟨j, hj, rfl, hown, hB⟩ := hrel
    have hsz := hB.size
    have P1 := HP.out.below hB
    have q1 := P1.c1
    have hlt1 := P1.lt
    have HL := hidH (rawTo_len tag sum cs HC.out j hj)
    by_cases hlt : j < cs.length
    · have hj0 : (0 : Int) ≤ (j : Int) := by omega
      have hj1 : (j : Int) < (cs.length : Int) := by omega
      obtain ⟨cg, co, rfl, hg, hcc⟩ : ∃ cg co, P = some ⟨cg, co, none⟩ ∧ cg < wr.heap.size ∧ ∀ j (hj : j < cs.length), ∃ A c, CkB wr cg (co + j * 3) cs[j].kind cs[j].flags A cs[j].body c := by
        rcases P1.list with h | h
        · rw [h] at hlt; simp at hlt
        · exact h
      obtain ⟨A, cb, CK⟩ := hcc j hlt
      obtain ⟨⟨k0, k1⟩, ⟨f0, f1⟩, hb⟩ := HC.out cs[j] (List.getElem_mem hlt)
      have HCK := hidH (l4Chunk_any cg (co + j * 3) _ _ A _ cb wr CK k0 k1 f0 f1 (by omega))
      have HSU := hidH (rawTo_succ tag sum cs j hlt)
      have hbl := hidH (chkL_len cs[j] hb)
      have OH := hidH hown
      have HBW := hidH hB
      clear hcc CK k0 k1 f0 f1 hb P1 hown hB
      go_wp2_with fail
      refine HCK.out.mono ?_
      rintro e w4 ⟨v4, rfl, O4, b4⟩
      obtain ⟨A4, c4, rfl, ob4, _, _⟩ := own_ob O4
      have S4 := hidH ob4.bs
      have O5 := hidH (own_below0 OH.out b4)
      have B5 := hidH (btr HBW.out b4)
      have hsz5 := B5.out.size
      clear O4 ob4 b4 HCK OH HBW
      go_wp2_with (at_builtin; refine wpList_append_bs rfl _ _ rfl w.heap.size _ _ _ rfl O5.out A4 _ c4 rfl S4.out (by have h1 := HL.out; have h2 := hbl.out; unfold chkL at h2; omega) hsz5 ?_)
      intro v6 w6 o6 g6
      have B6 := hidH (B5.out.grown g6 hsz5 (fun x hx => (O5.out.lt x hx).1))
      have O6 := hidH (show w6.ownsRow w.heap.size 5 1 v6 (rawTo tag sum cs (j + 1)).length ((rawTo tag sum cs (j + 1)).map (Value.int .u8)) by
        rw [HSU.out]
        simpa [chkL] using o6)
      clear o6 g6 O5 B5 S4 hsz5 q1
      go_wp2
      go_roundw
      case rel => exact ⟨j + 1, by omega, by go_num, O6.out, B6.out⟩
      case measure => simp [intOf]; omega
    · obtain rfl : j = cs.length := by omega
      have OH := hidH hown
      have HBW := hidH hB
      clear hlt hj hown hB P1
      go_wp2
      go_ret
      exact ⟨_, rfl, OH.out, HBW.out⟩
end Go.Proofs.YtepcikghhnfacaaDoor
