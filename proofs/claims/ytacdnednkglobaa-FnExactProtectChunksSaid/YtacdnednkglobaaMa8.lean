import Derived.Test.YtacdnednkglobaaChR
import Derived.Test.YtacdnednkglobaaMa1
import Derived.Test.YtacdnednkglobaaMa5
import Derived.Deep.LoopGhost
import Derived.Test.YtacdnednkglobaaMa6
import Derived.Test.YtacdnednkglobaaMa7
import Derived.Lib.LazyBuf
import Derived.Test.YtacdnednkglobaaMa0
import Derived.Test.YtacdnednkglobaaMa3
import Derived.Laws.BitsAllLaws
import Derived.IntWalk
import Derived.Deep.QuietTactic
import Derived.BigQuiet

/- The model's bytes of a chunk: l4Chunk, PackChunk. -/
namespace Go.Proofs.Ytacdnednkglobaa
open Go.RowKit Go.Deep

/-- The head and the body, j noughts behind. -/
def chTo (H : List Int) (j : Nat) : List Int := H ++ List.replicate j 0
theorem chTo_len (H : List Int) (j : Nat) : (chTo H j).length = H.length + j := by simp [chTo]
theorem chTo_succ (H : List Int) (j : Nat) : chTo H (j + 1) = chTo H j ++ [0] := by simp [chTo, List.replicate_succ']
theorem ch_test (n j : Nat) (hj : j ≤ chPad n) : (4 + n + j) % 4 = 0 ↔ j = chPad n := by unfold chPad at *; omega
set_option maxRecDepth 100000 in
set_option maxHeartbeats 2000000 in
theorem l4Chunk_any (g o : Nat) (k f : Int) (A : Option Addr) (b : List Int) (c : Nat) (w : World) (hC : CkB w g o k f A b c) (hk0 : 0 ≤ k) (hk1 : k ≤ 255) (hf0 : 0 ≤ f) (hf1 : f ≤ 255) (hb : b.length ≤ 1000) :
    Calls Try.prog 43 #[.pointer (some ⟨g, o, none⟩)] w (OwnB w (chL k f b)) := by
  obtain ⟨H, hH⟩ : ∃ H, [k, f, ((b.length : Int) + 4) / 256, ((b.length : Int) + 4) % 256] ++ b = H := ⟨_, rfl⟩
  have hHl : H.length = 4 + b.length := by rw [← hH]; simp; omega
  have hL : chL k f b = chTo H (chPad b.length) := by rw [chL, hH, chTo]
  rw [hL]
  have hz4 : chPad b.length < 4 := by unfold chPad; omega
  have HTEST := hidH (ch_test b.length)
  obtain ⟨z, hz⟩ : ∃ z, chPad b.length = z := ⟨_, rfl⟩
  rw [hz] at hz4 HTEST ⊢
  have HC := hidH hC
  have HH := hidH hH
  have HHL := hidH hHl
  have HB := hidH hb
  have hbI : (b.length : Int) ≤ 1000 := by omega
  have HFIN := hidH (And.intro hk0 (And.intro hk1 (And.intro hf0 hf1)))
  clear hC hH hHl hL hz hb hk0 hk1 hf0 hf1
  go_enter Try.func43, Try.ntmps43
  go_wp2_with fail
  refine wp_region_any (by kernel_rfl) ?_
  refine regCh _ _ g o k f A b c HFIN.out.1 HFIN.out.2.1 HFIN.out.2.2.1 HFIN.out.2.2.2 hbI (by kernel_rfl) (by kernel_rfl) (by kernel_rfl) rfl (fun h => h) (HC.out.below (Below.refl w.heap.size w).drew) (Below.refl _ _) ?_
  intros
  rename_i t3 W hO hown
  have hB : Below w.heap.size w W := btr (Below.refl w.heap.size w).drew hO
  have OW := hidH (show W.ownsRow w.heap.size 5 1 t3 4 _ from hown)
  have HBW := hidH hB
  have CW := HC.out.below hB
  have q2 := CW.c2
  have hlt := CW.lt
  have SB := hidH CW.body
  have hsz := hB.size
  clear CW hown hO hB
  go_wp2_with (at_builtin; refine wpList_append_bs rfl _ _ rfl w.heap.size _ _ _ rfl OW.out A b c rfl SB.out (by have := HB.out; omega) hsz ?_)
  intro v2 w2 o2 g2
  have B2 := hidH (HBW.out.grown g2 hsz (fun x hx => (OW.out.lt x hx).1))
  have O2 := hidH (show w2.ownsRow w.heap.size 5 1 v2 (chTo H 0).length ((chTo H 0).map (Value.int .u8)) by
    rw [chTo_len, HHL.out]
    have := o2
    simpa [chTo, ← HH.out] using this)
  clear o2 g2 q2 SB OW
  go_wp2_with fail
  go_loopg [3] z (fun q v wr => ∃ j : Nat, j ≤ z ∧ q = z - j ∧ wr.ownsRow w.heap.size 5 1 v (chTo H j).length ((chTo H j).map (Value.int .u8)) ∧ Below w.heap.size w wr)
  case atStart => exact ⟨0, by omega, by omega, O2.out, B2.out⟩
  case round =>
    obtain ⟨j, hj, rfl, hown, hB⟩ := hrel
    have hsz := hB.size
    have HL := hidH (show (chTo H j).length = 4 + b.length + j by rw [chTo_len, HHL.out])
    have hpl : ((chTo H j).length : Int) ≤ 60000 := by rw [HL.out]; have := HB.out; omega
    by_cases hlt : j < z
    · have ht : (((chTo H j).length : Int) % 4 != 0) = true := by
        rw [HL.out]
        have := HTEST.out j hj
        rw [bne_iff_ne]; omega
      obtain ⟨A1, c1, rfl, ob, _, _⟩ := own_ob hown
      have P1 := lit_bs wr 5 [0]
      have PH := hidH P1
      have OH := hidH hown
      clear P1 ob
      go_wp2_with (at_builtin; refine wpList_append_bs rfl _ _ rfl w.heap.size _ _ _ rfl (OH.out.alloc _) (some ⟨wr.heap.size, 0, none⟩) [0] 1 rfl PH.out (by have := HL.out; have := HB.out; simp; omega) (by simp; omega) ?_)
      intro v3 w3 o3 g3
      have B3 := hidH (own_grow (m := 0) hB hown g3)
      have O3 := hidH o3
      clear o3 g3 hown hB
      go_wp2
      go_roundg (z - (j + 1))
      case rel => exact ⟨j + 1, by omega, rfl, by rw [chTo_succ]; simpa using O3.out, B3.out⟩
      case measure => omega
    · obtain rfl : j = z := by omega
      have ht : (((chTo H j).length : Int) % 4 != 0) = false := by
        rw [HL.out]
        have := (HTEST.out j hj).2 rfl
        rw [bne_eq_false_iff_eq]; omega
      obtain ⟨A1, c1, rfl, ob, _, _⟩ := own_ob hown
      have OH := hidH hown
      have HBB := hidH hB
      clear ob hlt hj hown hB
      go_wp2
      go_ret
      exact ⟨_, rfl, OH.out, HBB.out⟩
def chM (k f : Int) (b : List Int) : List Int := if chF k f b = 0 then chL k f b else []
theorem chF_zero {k f : Int} {b : List Int} (h : chF k f b = 0) : (0 ≤ k ∧ k ≤ 255) ∧ (0 ≤ f ∧ f ≤ 255) ∧ b.length ≤ 160 := by
  unfold chF inB at h
  split at h
  · next h1 =>
    simp at h1
    split at h
    · exact ⟨h1.1, h1.2, by assumption⟩
    · cases h
  · cases h
theorem bres_at {w W : World} {R : Nat} {A : Option Addr} {l : List Int} {cp : Nat} (x : Int) (hO : Ob (R + 1) W.heap.size W A l) (hR : w.heap.size ≤ R) (hb : Below w.heap.size w W) (h1 : l.length ≤ cp) (h2 : (cp : Int) ≤ 9223372036854775807) (u0 u1 : Value) :
    BRes w x l (.returned (.agg #[.int .i64 x, .slice A l.length cp])) ((W.setCell ⟨R, 0, none⟩ u0).setCell ⟨R, 1, none⟩ u1) := by
  have e : ((W.setCell ⟨R, 0, none⟩ u0).setCell ⟨R, 1, none⟩ u1).heap.size = W.heap.size := by simp [World.setCell]
  refine ⟨A, cp, rfl, ?_, bst (bst hb hR _) hR _, h1, h2⟩
  rw [e]
  exact ((hO.setCell (p := ⟨R, 0, none⟩) (Nat.lt_succ_self _) _).setCell (p := ⟨R, 1, none⟩) (Nat.lt_succ_self _) _).mono (by omega)
end Go.Proofs.Ytacdnednkglobaa

/- The program's isByte, ChunkFault, bytes.Clone, bytes.Equal. -/
namespace Go.Proofs.Ytacdnednkglobaa
open Go.RowKit Go.Deep

theorem str_eqb {x y : List Int} (hx : Bytes x) (hy : Bytes y) : ((strOfNums x).toList == (strOfNums y).toList) = decide (x = y) := by
  rw [ByteArray.toList_eq, ByteArray.toList_eq]
  by_cases e : x = y
  · subst e; simp
  · have : (strOfNums x).data.toList ≠ (strOfNums y).data.toList := fun h => e (strOfNums_inj hx hy (by
      cases hx : strOfNums x; cases hy : strOfNums y
      rw [hx, hy] at h
      simpa using h))
    rw [beq_eq_false_iff_ne.2 this, decide_eq_false e]
set_option maxHeartbeats 400000 in
theorem isByte_any (a : Int) (w : World) : Calls Try.prog 53 #[.int .i64 a] w fun e w' => e = .returned (.bool (inB a 0 255)) ∧ w = w' := by
  by_cases h1 : 0 ≤ a
  · rw [show inB a 0 255 = decide (a ≤ 255) from by simp [inB, h1]]
    go_enter Try.func53, Try.ntmps53
    go_wp2
    go_ret
    exact ⟨rfl, rfl⟩
  · have h : a < 0 := by omega
    rw [show inB a 0 255 = false from inB_lo h]
    clear h1
    go_enter Try.func53, Try.ntmps53
    go_wp2
    go_ret
    exact ⟨rfl, rfl⟩
set_option maxHeartbeats 1000000 in
theorem chFault_impl (k f : Int) (A : Option Addr) (b : List Int) (c : Nat) (w : World) (hm : (b.length : Int) ≤ 9223372036854775807) :
    Calls Try.prog 44 #[ckV k f A b.length c] w fun e w' => e = .returned (.int .i64 (chF k f b)) ∧ Below w.heap.size w w' := by
  unfold ckV
  by_cases h1 : inB k 0 255 = true
  · by_cases h2 : inB f 0 255 = true
    · by_cases h3 : b.length ≤ 160
      · have e : chF k f b = 0 := by simp [chF, h1, h2, h3]
        have h4 : (b.length : Int) ≤ 160 := by omega
        rw [e]
        clear e h3
        go_enter Try.func44, Try.ntmps44
        go_wp2_with (go_at_call 53; refine (isByte_any _ _).mono ?_; rintro e w' ⟨rfl, rfl⟩)
        go_ret
        exact ⟨rfl, bal (Below.refl _ _) _⟩
      · have e : chF k f b = 2 := by simp [chF, h1, h2, h3]
        have h4 : (160 : Int) < (b.length : Int) := by omega
        rw [e]
        clear e h3
        go_enter Try.func44, Try.ntmps44
        go_wp2_with (go_at_call 53; refine (isByte_any _ _).mono ?_; rintro e w' ⟨rfl, rfl⟩)
        go_ret
        exact ⟨rfl, bal (Below.refl _ _) _⟩
    · have h2 : inB f 0 255 = false := by simpa using h2
      have e : chF k f b = 3 := by simp [chF, h1, h2]
      rw [e]
      clear e
      go_enter Try.func44, Try.ntmps44
      go_wp2_with (go_at_call 53; refine (isByte_any _ _).mono ?_; rintro e w' ⟨rfl, rfl⟩)
      go_ret
      exact ⟨rfl, bal (Below.refl _ _) _⟩
  · have h1 : inB k 0 255 = false := by simpa using h1
    have e : chF k f b = 3 := by simp [chF, h1]
    rw [e]
    clear e
    go_enter Try.func44, Try.ntmps44
    go_wp2_with (go_at_call 53; refine (isByte_any _ _).mono ?_; rintro e w' ⟨rfl, rfl⟩)
    go_ret
    exact ⟨rfl, bal (Below.refl _ _) _⟩
set_option maxHeartbeats 1000000 in
theorem clone_any (A : Option Addr) (l : List Int) (c : Nat) (w : World) (hA : Bs w A l) (hm : l.length ≤ 4000000) :
    Calls Try.prog 38 #[.slice A l.length c] w (OwnB w l) := by
  rcases A with _ | ad
  · obtain rfl : l = [] := by
      rcases hA with h | ⟨b, off, h, _⟩
      · exact h
      · cases h
    rw [show ([] : List Int).length = 0 from rfl]
    have hnil : (binOp .eql 25 (.slice none 0 c) (.slice none 0 0)).run Try.prog w = .ok (.bool true) w := Go.run_eql_slice_nil w 25 5 none 0 c Try.underlying25
    go_enter Try.func38, Try.ntmps38
    go_wp2
    go_ret
    exact ⟨_, rfl, ⟨rfl, .inl ⟨rfl, rfl⟩⟩, Below.refl _ _⟩
  · have hown : (w.alloc (.cells #[] 5)).ownsRow w.heap.size 5 1 (.slice (some ⟨w.heap.size, 0, none⟩) 0 0) 0 [] := World.ownsRow_lit w #[] 0 (Nat.le_refl _) (by unfold maxLen; omega) rfl
    have hA2 := bs_below hA (bal (Below.refl _ w) (.cells #[] 5))
    have HO := hidH hown
    have HA := hidH hA2
    have hb2 := hidH (bal (Below.refl _ w) (.cells #[] 5))
    clear hown hA2 hA
    have hnil := Go.run_eql_slice_nil w 25 5 (some ad) l.length c Try.underlying25
    go_enter Try.func38, Try.ntmps38
    go_wp2_with (at_builtin; refine wpList_append_bs rfl _ _ rfl w.heap.size _ _ _ rfl HO.out (some ad) l c rfl HA.out (by omega) (by simp) ?_)
    intro v' w2 hown' hgrow
    have B2 := hidH (hb2.out.grown hgrow (by simp) (fun k hk => by simp [Value.ownBlock] at hk; omega))
    have O2 := hidH hown'
    clear hown' hgrow
    go_wp2
    go_ret
    exact ⟨_, rfl, by simpa using O2.out, B2.out⟩
end Go.Proofs.Ytacdnednkglobaa

/- The model's packets: l4Raw. -/
namespace Go.Proofs.Ytacdnednkglobaa
open Go.RowKit Go.Deep

structure Chk where
  kind : Int
  flags : Int
  body : List Int
def chkL (x : Chk) : List Int := chL x.kind x.flags x.body
def chkOk (x : Chk) : Prop := (0 ≤ x.kind ∧ x.kind ≤ 255) ∧ (0 ≤ x.flags ∧ x.flags ≤ 255) ∧ x.body.length ≤ 160
/-- A list of chunks in memory, three cells a chunk. -/
def Cs (w : World) (P : Option Addr) (cs : List Chk) : Prop :=
  cs = [] ∨ ∃ g o, P = some ⟨g, o, none⟩ ∧ g < w.heap.size ∧ ∀ j (hj : j < cs.length), ∃ A c, CkB w g (o + j * 3) cs[j].kind cs[j].flags A cs[j].body c
theorem Cs.below {w w' : World} {P : Option Addr} {cs : List Chk} (h : Cs w P cs) (hb : Below w.heap.size w w') : Cs w' P cs := by
  rcases h with h | ⟨g, o, h1, h2, h3⟩
  · exact .inl h
  · exact .inr ⟨g, o, h1, Nat.lt_of_lt_of_le h2 hb.size, fun j hj => by obtain ⟨A, c, h⟩ := h3 j hj; exact ⟨A, c, h.below hb⟩⟩
/-- A packet in memory. -/
structure PkB (w : World) (g o : Nat) (tag : Int) (P : Option Addr) (cs : List Chk) (c : Nat) : Prop where
  lt : g < w.heap.size
  c0 : w.cell? ⟨g, o, none⟩ = some (.int .i64 tag)
  c1 : w.cell? ⟨g, o + 1, none⟩ = some (.slice P cs.length c)
  list : Cs w P cs
theorem PkB.below {w w' : World} {B g o : Nat} {tag : Int} {P : Option Addr} {cs : List Chk} {c : Nat} (h : PkB w g o tag P cs c) (hb : Below B w w') (hB : w.heap.size ≤ B := by first | exact Nat.le_refl _ | assumption) : PkB w' g o tag P cs c :=
  have hb' : Below w.heap.size w w' := hb.mono hB
  ⟨Nat.lt_of_lt_of_le h.lt hb'.size, (hb'.cell (p := ⟨g, o, none⟩) h.lt).trans h.c0, (hb'.cell (p := ⟨g, o + 1, none⟩) h.lt).trans h.c1, h.list.below hb'⟩
def rawTo (tag sum : Int) (cs : List Chk) (j : Nat) : List Int := pk tag ++ pk sum ++ (cs.take j).flatMap chkL
def rawL (tag sum : Int) (cs : List Chk) : List Int := rawTo tag sum cs cs.length
theorem rawTo_succ (tag sum : Int) (cs : List Chk) (j : Nat) (hj : j < cs.length) : rawTo tag sum cs (j + 1) = rawTo tag sum cs j ++ chkL cs[j] := by
  rw [rawTo, rawTo, List.take_add_one, List.getElem?_eq_getElem hj, Option.toList_some, List.flatMap_append, List.append_assoc (pk tag ++ pk sum)]
  simp only [List.flatMap_cons, List.flatMap_nil, List.append_nil]
theorem chkL_len (x : Chk) (h : x.body.length ≤ 160) : (chkL x).length ≤ 168 := by
  rw [chkL, chL_len]; unfold chPad; omega
theorem rawTo_len (tag sum : Int) (cs : List Chk) (hc : ∀ x ∈ cs, chkOk x) (j : Nat) (hj : j ≤ cs.length) : (rawTo tag sum cs j).length ≤ 8 + 168 * j := by
  induction j with
  | zero => simp [rawTo, pk]
  | succ j ih =>
    rw [rawTo_succ _ _ _ _ (by omega), List.length_append]
    have := chkL_len cs[j] (hc _ (List.getElem_mem _)).2.2
    have := ih (by omega)
    omega
end Go.Proofs.Ytacdnednkglobaa

/- The model's Crc32c. -/
namespace Go.Proofs.Ytacdnednkglobaa
open Go.RowKit Go.Deep

theorem i64_xor_nat (a b : Nat) (ha : a < 4294967296) (hb : b < 4294967296) : bits .xor .i64 (a : Int) (b : Int) = ((a ^^^ b : Nat) : Int) := by
  have hx : a ^^^ b < 4294967296 := Nat.xor_lt_two_pow (n := 32) ha hb
  show IntKind.i64.wrap ((BitVec.ofInt 64 (a : Int) ^^^ BitVec.ofInt 64 (b : Int)).toNat : Int) = _
  rw [BitVec.toNat_xor, ofInt_u64 a (by omega), ofInt_u64 b (by omega)]
  exact IntWalk.i64_in _ (by omega)
def nB (l : List Int) : List Nat := l.map Int.toNat
theorem nB_lt {l : List Int} (h : Bytes l) : ∀ x ∈ nB l, x < 256 := by
  intro x hx
  simp only [nB, List.mem_map] at hx
  obtain ⟨y, hy, rfl⟩ := hx
  have := h y hy
  omega
theorem nB_get (l : List Int) (k : Nat) : (nB l).getD k 0 = (l.getD k 0).toNat := by
  simp only [nB, List.getD_eq_getElem?_getD, List.getElem?_map]
  cases l[k]? <;> rfl
def crcP (l : List Nat) (k : Nat) : Nat := crcTo 4294967295 (l.take k)
theorem crcP_succ (l : List Nat) (k : Nat) (hk : k < l.length) : crcP l (k + 1) = crcBits (crcP l k ^^^ l.getD k 0) 8 := by
  rw [crcP, List.take_succ_eq_append_getElem hk, crcTo, List.foldl_append, List.getD_eq_getElem?_getD, List.getElem?_eq_getElem hk]
  rfl
theorem crcP_lt {l : List Nat} (hl : ∀ x ∈ l, x < 256) (k : Nat) : crcP l k < 4294967296 := crcTo_lt (by decide) (fun x hx => hl x (List.mem_of_mem_take hx))
def crcC (l : List Int) : Int := if l.length ≤ 700 then 0 else 2
def crcN (l : List Int) : Int := if l.length ≤ 700 then ((crcV (nB l) : Nat) : Int) else 0
end Go.Proofs.Ytacdnednkglobaa

/- The model's PacketFault, l4Pack and PackPacket. -/
namespace Go.Proofs.Ytacdnednkglobaa
open Go.RowKit Go.Deep

/-- A packet's value. -/
def pkV (tag : Int) (P : Option Addr) (n c : Nat) : Value := .agg #[.int .i64 tag, .slice P n c]
def chkF (x : Chk) : Int := chF x.kind x.flags x.body
def firstF : List Chk → Int
  | [] => 0
  | x :: r => if chkF x = 0 then firstF r else chkF x
theorem firstF_app (a b : List Chk) (h : firstF a = 0) : firstF (a ++ b) = firstF b := by
  induction a with
  | nil => rfl
  | cons x r ih =>
    simp only [firstF] at h
    simp only [List.cons_append, firstF]
    split at h
    · next hx => rw [if_pos hx]; exact ih h
    · next hx => exact absurd h hx
theorem firstF_mem {cs : List Chk} (h : firstF cs = 0) : ∀ x ∈ cs, chkF x = 0 := by
  induction cs with
  | nil => intro x hx; cases hx
  | cons y r ih =>
    simp only [firstF] at h
    split at h
    · next hy =>
      intro x hx
      rcases List.mem_cons.1 hx with rfl | hx
      · exact hy
      · exact ih h x hx
    · next hy => exact absurd h hy
theorem firstF_ok {cs : List Chk} (h : firstF cs = 0) : ∀ x ∈ cs, chkOk x := fun x hx => chF_zero (firstF_mem h x hx)
theorem firstF_take {cs : List Chk} {j : Nat} (hj : j < cs.length) (h : firstF (cs.take j) = 0) : firstF (cs.take (j + 1)) = chkF cs[j] := by
  rw [List.take_add_one, List.getElem?_eq_getElem hj, Option.toList_some, firstF_app _ _ h]
  simp only [firstF]
  split
  · next hx => exact hx.symm
  · rfl
theorem firstF_hit {cs : List Chk} {j : Nat} (hj : j < cs.length) (h : firstF (cs.take j) = 0) (hne : chkF cs[j] ≠ 0) : firstF cs = chkF cs[j] := by
  have h2 : cs.take j ++ cs[j] :: cs.drop (j + 1) = cs := by simp
  have h3 := firstF_app (cs.take j) (cs[j] :: cs.drop (j + 1)) h
  rw [h2] at h3
  rw [h3]
  simp [firstF, hne]
def pkF (tag : Int) (cs : List Chk) : Int :=
  if wB tag then (if 1 ≤ cs.length ∧ cs.length ≤ 8 then (if firstF cs = 0 then (if (rawL tag 0 cs).length ≤ 500 then 0 else 2) else firstF cs) else 2) else 3
end Go.Proofs.Ytacdnednkglobaa

/- The model's l4Pack and PackPacket. -/
namespace Go.Proofs.Ytacdnednkglobaa
open Go.RowKit Go.Deep

theorem bytes_app0 {a b : List Int} (ha : Bytes a) (hb : Bytes b) : Bytes (a ++ b) := fun x hx => (List.mem_append.1 hx).elim (ha x) (hb x)
theorem pk_bytes0 {a : Int} (h0 : 0 ≤ a) (h1 : a ≤ 4294967295) : Bytes (pk a) := by
  intro x hx
  simp only [pk, List.mem_cons, List.not_mem_nil, or_false] at hx
  rcases hx with rfl | rfl | rfl | rfl <;> omega
theorem chkL_bytes {x : Chk} (h : chkOk x) (hb : Bytes x.body) : Bytes (chkL x) := by
  obtain ⟨⟨h1, h2⟩, ⟨h3, h4⟩, h5⟩ := h
  unfold chkL chL
  refine bytes_app0 (bytes_app0 ?_ hb) ?_
  · intro y hy
    simp only [List.mem_cons, List.not_mem_nil, or_false] at hy
    rcases hy with rfl | rfl | rfl | rfl <;> omega
  · intro y hy
    obtain ⟨_, rfl⟩ := List.mem_replicate.1 hy
    omega
theorem rawL_bytes {tag sum : Int} {cs : List Chk} (ht0 : 0 ≤ tag) (ht1 : tag ≤ 4294967295) (hs0 : 0 ≤ sum) (hs1 : sum ≤ 4294967295) (hc : ∀ x ∈ cs, chkOk x) (hb : ∀ x ∈ cs, Bytes x.body) : Bytes (rawL tag sum cs) := by
  unfold rawL rawTo
  rw [List.take_length]
  refine bytes_app0 (bytes_app0 (pk_bytes0 ht0 ht1) (pk_bytes0 hs0 hs1)) ?_
  intro y hy
  obtain ⟨x, hx, hy⟩ := List.mem_flatMap.1 hy
  exact chkL_bytes (hc x hx) (hb x hx) y hy
def sumOf (tag : Int) (cs : List Chk) : Int := ((crcV (nB (rawL tag 0 cs)) : Nat) : Int)
def pkL (tag : Int) (cs : List Chk) : List Int := rawL tag (sumOf tag cs) cs
theorem sumOf_word {tag : Int} {cs : List Chk} (ht0 : 0 ≤ tag) (ht1 : tag ≤ 4294967295) (hc : ∀ x ∈ cs, chkOk x) (hb : ∀ x ∈ cs, Bytes x.body) : 0 ≤ sumOf tag cs ∧ sumOf tag cs ≤ 4294967295 := by
  have := crcV_lt (nB_lt (rawL_bytes (sum := 0) ht0 ht1 (by omega) (by omega) hc hb))
  unfold sumOf
  omega
def pkM (tag : Int) (cs : List Chk) : List Int := if pkF tag cs = 0 then pkL tag cs else []
theorem pkF_zero {tag : Int} {cs : List Chk} (h : pkF tag cs = 0) : (0 ≤ tag ∧ tag ≤ 4294967295) ∧ (1 ≤ cs.length ∧ cs.length ≤ 8) ∧ (∀ x ∈ cs, chkOk x) ∧ (rawL tag 0 cs).length ≤ 500 := by
  unfold pkF at h
  split at h
  · next h1 =>
    split at h
    · next h2 =>
      split at h
      · next h3 =>
        split at h
        · next h4 => exact ⟨by simpa [wB, inB] using h1, h2, firstF_ok h3, h4⟩
        · cases h
      · next h3 => exact absurd h h3
    · cases h
  · cases h
end Go.Proofs.Ytacdnednkglobaa

/- The model's ActionOf, SamePackets. -/
namespace Go.Proofs.Ytacdnednkglobaa
open Go.RowKit Go.Deep

def actC (k : Int) : Int := if inB k 0 255 then 0 else 3
def actV (k : Int) : Int := if inB k 0 255 then k / 64 else 0
theorem chk_eq {x y : Chk} : x = y ↔ x.kind = y.kind ∧ x.flags = y.flags ∧ x.body = y.body := by
  cases x; cases y; simp
end Go.Proofs.Ytacdnednkglobaa

/- The program's ChunkFault, paddingSize, chunkSize, ActionOf, bytes.Clone, bytes.Equal. -/
namespace Go.Proofs.Ytacdnednkglobaa
open Go.RowKit Go.Deep

set_option maxHeartbeats 400000 in
theorem padz_any (A : Option Addr) (n c : Nat) (w : World) (hm : (n : Int) ≤ 9223372036854775807) : Calls Try.prog 46 #[.slice A n c] w fun e w' => e = .returned (.int .i64 ((chPad n : Nat) : Int)) ∧ w' = w := by
  go_enter Try.func46, Try.ntmps46
  go_wp2
  go_ret
  refine ⟨ret_int ?_, rfl⟩
  unfold chPad
  omega
end Go.Proofs.Ytacdnednkglobaa

/- Chapter 7: a list of chunks in memory; its faults, the model's and the program's. -/
namespace Go.Proofs.Ytacdnednkglobaa
open Go.RowKit Go.Deep

theorem rdB {w : World} {A : Option Addr} {l : List Int} {c : Nat} (h : Rd w (.bs l) (.slice A l.length c)) : Bs w A l := by
  obtain ⟨A', c', e, _, h⟩ := h.bs_out
  injection e with e1 _ _
  rw [e1]; exact h
theorem rdB_len {w : World} {l : List Int} {v : Value} (h : Rd w (.bs l) v) : (l.length : Int) ≤ 9223372036854775807 := by obtain ⟨_, _, _, hc, _⟩ := h.bs_out; exact hc.len
/-- A chunk of a list. -/
theorem chunk_at {w : World} {r : List ChunkM} {v : Value} (h : Rd w (st_Chunk r) v) {j : Nat} (hj : j < r.length) :
    ∃ g o c A cA, v = .slice (some ⟨g, o, none⟩) r.length c ∧ CkB w g (o + j * 3) r[j].Kind r[j].Flags A r[j].Body cA ∧ (r[j].Body.length : Int) ≤ 9223372036854775807 := by
  obtain ⟨gb, ob, cb, eb, hgb, RB⟩ := Rd.row (f := ChunkM.vs) (W := 3) (fun _ => rfl) h hj
  obtain ⟨u0, p0, t0⟩ := RB 0 (.int r[j].Kind) rfl
  obtain ⟨u1, p1, t1⟩ := RB 1 (.int r[j].Flags) rfl
  obtain ⟨u2, p2, t2⟩ := RB 2 (.bs r[j].Body) rfl
  have e0 := t0.int_out
  subst e0
  have e1 := t1.int_out
  subst e1
  rw [Nat.add_zero] at p0
  obtain ⟨A, cA, e2⟩ := t2.bs_sh
  subst e2
  exact ⟨gb, ob, cb, A, cA, eb, ⟨hgb, p0, p1, p2, rdB t2⟩, rdB_len t2⟩
theorem cm_ckV (x : ChunkM) (A : Option Addr) (c : Nat) : ckV x.Kind x.Flags A x.Body.length c = .agg #[.int .i64 x.Kind, .int .i64 x.Flags, .slice A x.Body.length c] := rfl
set_option maxRecDepth 100000 in
set_option maxHeartbeats 4000000 in
theorem l7Chunks_any (r : List ChunkM) (v : Value) (m : Nat) (u : World) (h : Rd u (st_Chunk r) v) (_ : m ≤ 8) : Calls Try.prog 27 #[v, .int .i64 (m : Int)] u (IntR (csF m r) u) := by
  obtain ⟨A, c, rfl⟩ := st_Chunk_sh h
  have hm : (r.length : Int) ≤ 9223372036854775807 := Rd.st_len h
  have HI := hidH (fun (w : World) (hb : Below u.heap.size u w) => Rd.below hb _ h)
  clear h
  by_cases h4 : m < r.length
  · rw [csF_many h4]
    have h4' : (m : Int) < (r.length : Int) := by omega
    clear h4
    go_enter Try.func27, Try.ntmps27
    go_wp2
    go_ret
    exact ⟨rfl, Below.refl _ _⟩
  · have h4' : ¬ (m : Int) < (r.length : Int) := by omega
    have H4 := hidH (show csF m r = cmsF r from csF_few (by omega))
    clear h4
    go_enter Try.func27, Try.ntmps27
    go_wp2
    go_loopw [5] (fun i wr => ∃ j : Nat, j ≤ r.length ∧ i = .int .i64 j ∧ Below u.heap.size u wr ∧ cmsF (r.take j) = 0) (fun i _ => r.length - (intOf i).toNat)
    case atStart => exact ⟨0, by omega, rfl, Below.refl _ _, by simp [cmsF]⟩
    case round =>
      obtain ⟨j, hj, rfl, hB, hk⟩ := hrel
      by_cases hlt : j < r.length
      · have hj0 : (0 : Int) ≤ (j : Int) := by omega
        have hj1 : (j : Int) < (r.length : Int) := by omega
        obtain ⟨g, o, c', B, cB, e, CK, hbl⟩ := chunk_at (HI.out _ hB) hlt
        injection e with e1 e2 e3
        subst e1 e3
        have p0 := CK.c0
        have p1 := CK.c1
        have p2 := CK.c2
        have hg := CK.lt
        have HT := hidH (cmsF_take r j hlt hk)
        have HF := hidH (chFault_spec r[j].Kind r[j].Flags B r[j].Body cB wr hbl)
        unfold ckV at HF
        obtain ⟨f, hf⟩ : ∃ f, chF r[j].Kind r[j].Flags r[j].Body = f := ⟨_, rfl⟩
        have HN := hidH (fun (q : f ≠ 0) => show csF m r = f by rw [H4.out, cmsF_first r j hlt hk (by rw [cmF, hf]; exact q), cmF, hf])
        rw [cmF, hf] at HT
        rw [hf] at HF
        have HBW := hidH hB
        clear hk hf CK hbl hB
        go_wp2_with fail
        refine HF.out.mono ?_
        rintro e w' ⟨rfl, hb⟩
        have HB2 := hidH (btr HBW.out hb)
        clear hb p0 p1 p2 HF
        by_cases hz : f = 0
        · have q : (f != 0) = false := by rw [bne_eq_false_iff_eq]; exact hz
          have HZ := hidH (HT.out.trans hz)
          clear hz HN HT
          go_wp2
          go_roundw
          case rel => exact ⟨j + 1, by omega, by go_num, HB2.out, HZ.out⟩
          case measure => simp [intOf]; omega
        · have q : (f != 0) = true := by rw [bne_iff_ne]; exact hz
          have HZ := hidH (HN.out hz)
          clear hz HN HT
          go_wp2
          go_ret
          exact ⟨ret_int HZ.out.symm, HB2.out⟩
      · obtain rfl : j = r.length := by omega
        rw [List.take_length] at hk
        have HS := hidH (show csF m r = 0 by rw [H4.out, hk])
        have HBW := hidH hB
        clear hk hlt hj hB
        go_wp2
        go_ret
        exact ⟨ret_int HS.out.symm, HBW.out⟩
set_option maxRecDepth 100000 in
set_option maxHeartbeats 4000000 in
theorem chunksFault_any (r : List ChunkM) (v : Value) (m : Nat) (u : World) (h : Rd u (st_Chunk r) v) (_ : m ≤ 8) : Calls Try.prog 31 #[v, .int .i64 (m : Int)] u (IntR (csF m r) u) := by
  obtain ⟨A, c, rfl⟩ := st_Chunk_sh h
  have hm : (r.length : Int) ≤ 9223372036854775807 := Rd.st_len h
  have HI := hidH (fun (w : World) (hb : Below u.heap.size u w) => Rd.below hb _ h)
  clear h
  by_cases h4 : m < r.length
  · rw [csF_many h4]
    have h4' : (m : Int) < (r.length : Int) := by omega
    clear h4
    go_enter Try.func31, Try.ntmps31
    go_wp2
    go_ret
    exact ⟨rfl, Below.refl _ _⟩
  · have h4' : ¬ (m : Int) < (r.length : Int) := by omega
    have H4 := hidH (show csF m r = cmsF r from csF_few (by omega))
    clear h4
    go_enter Try.func31, Try.ntmps31
    go_wp2
    go_loopw [14] (fun i wr => ∃ j : Nat, j ≤ r.length ∧ i = .int .i64 j ∧ Below u.heap.size u wr ∧ cmsF (r.take j) = 0) (fun i _ => r.length - (intOf i).toNat)
    case atStart => exact ⟨0, by omega, rfl, Below.refl _ _, by simp [cmsF]⟩
    case round =>
      obtain ⟨j, hj, rfl, hB, hk⟩ := hrel
      by_cases hlt : j < r.length
      · have hj0 : (0 : Int) ≤ (j : Int) := by omega
        have hj1 : (j : Int) < (r.length : Int) := by omega
        obtain ⟨g, o, c', B, cB, e, CK, hbl⟩ := chunk_at (HI.out _ hB) hlt
        injection e with e1 e2 e3
        subst e1 e3
        have p0 := CK.c0
        have p1 := CK.c1
        have p2 := CK.c2
        have hg := CK.lt
        have HT := hidH (cmsF_take r j hlt hk)
        have ba := bal (Below.refl wr.heap.size wr) (.cells #[.int .i64 r[j].Kind, .int .i64 r[j].Flags, .slice B r[j].Body.length cB] 51)
        have HF := hidH (fun u => chFault_impl r[j].Kind r[j].Flags B r[j].Body cB u hbl)
        unfold ckV at HF
        obtain ⟨f, hf⟩ : ∃ f, chF r[j].Kind r[j].Flags r[j].Body = f := ⟨_, rfl⟩
        have HN := hidH (fun (q : f ≠ 0) => show csF m r = f by rw [H4.out, cmsF_first r j hlt hk (by rw [cmF, hf]; exact q), cmF, hf])
        rw [cmF, hf] at HT
        rw [hf] at HF
        have HBW := hidH (btr hB ba)
        clear hk hf CK hbl hB ba
        go_wp2_with fail
        refine (HF.out _).mono ?_
        rintro e w' ⟨rfl, hb⟩
        have HB2 := hidH (btr HBW.out hb)
        clear hb p0 p1 p2 HF
        by_cases hz : f = 0
        · have q : (f != 0) = false := by rw [bne_eq_false_iff_eq]; exact hz
          have HZ := hidH (HT.out.trans hz)
          clear hz HN HT
          go_wp2
          go_roundw
          case rel => exact ⟨j + 1, by omega, by go_num, HB2.out, HZ.out⟩
          case measure => simp [intOf]; omega
        · have q : (f != 0) = true := by rw [bne_iff_ne]; exact hz
          have HZ := hidH (HN.out hz)
          clear hz HN HT
          go_wp2
          go_ret
          exact ⟨ret_int HZ.out.symm, HB2.out⟩
      · obtain rfl : j = r.length := by omega
        rw [List.take_length] at hk
        have HS := hidH (show csF m r = 0 by rw [H4.out, hk])
        have HBW := hidH hB
        clear hk hlt hj hB
        go_wp2
        go_ret
        exact ⟨ret_int HS.out.symm, HBW.out⟩
end Go.Proofs.Ytacdnednkglobaa
