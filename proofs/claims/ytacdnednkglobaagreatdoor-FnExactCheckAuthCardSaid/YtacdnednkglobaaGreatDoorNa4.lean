import Derived.Test.YtacdnednkglobaaGreatDoorNa0
import Derived.Test.YtacdnednkglobaaGreatDoorNa1
import Derived.Test.YtacdnednkglobaaGreatDoorNa3
import Derived.Test.YtacdnednkglobaaGreatDoorBytes
import Derived.Test.YtacdnednkglobaaGreatDoorLess
import Derived.Laws.BitsAllLaws
import Derived.IntWalk
import Derived.Deep.QuietTactic
import Derived.Test.YtacdnednkglobaaGreatDoorSame
import Derived.Test.YtacdnednkglobaaGreatDoorImB
import Derived.Lib.LazyBuf
import Derived.Test.YtacdnednkglobaaGreatDoorApp
import Derived.Test.YtacdnednkglobaaGreatDoorDrawAt
import Derived.Test.YtacdnednkglobaaGreatDoorOpLaws
import Derived.Lib.AppendZeros
import Derived.Test.YtacdnednkglobaaGreatDoorRegInv
import Derived.Test.YtacdnednkglobaaGreatDoorUniL

/- Chapter 7: the program's authResult, FindAuth. -/
namespace Go.Proofs.YtacdnednkglobaaGreatDoor
open Go.RowKit Go.Deep

/-- The cell of the library's own variable errors.errorType. -/
def ErrT (w : World) : Prop := w.cell? ⟨1, 0, none⟩ = some (.iface 231 (.agg #[.pointer (some ⟨2, 143, none⟩)]))
theorem ErrT.lt {w : World} (h : ErrT w) : 1 < w.heap.size := World.block_lt_of_cell? _ _ h
theorem ErrT.below {w w' : World} (h : ErrT w) (hb : Below w.heap.size w w') : ErrT w' := (hb.cell (p := ⟨1, 0, none⟩) h.lt).trans h
set_option maxRecDepth 100000 in
set_option maxHeartbeats 4000000 in
theorem ar_nil (id : Int) (A : Option Addr) (n c : Nat) (fr : Int) (w : World) : Calls Tryz.prog 87 #[tagV id A n c fr, .nilIface] w (Res w [.int 0, .int id, .int fr]) := by
  unfold tagV
  have K1 := ((Blk.new w 141 #[.int .i64 id, .slice A n c, .int .i64 fr]).alloc (.cells #[.int .i64 0, .int .i64 0, .int .i64 0] 72)).alloc (.cells #[.int .i64 0] 183)
  have R1 := (Blk.new (w.alloc (.cells #[.int .i64 id, .slice A n c, .int .i64 fr] 141)) 72 #[.int .i64 0, .int .i64 0, .int .i64 0]).alloc (.cells #[.int .i64 0] 183)
  have b1 := bal (bal (bal (Below.refl w.heap.size w) (.cells #[.int .i64 id, .slice A n c, .int .i64 fr] 141)) (.cells #[.int .i64 0, .int .i64 0, .int .i64 0] 72)) (.cells #[.int .i64 0] 183)
  rw [World.size_alloc] at R1
  obtain ⟨w1, hw1⟩ : ∃ w1, ((w.alloc (.cells #[.int .i64 id, .slice A n c, .int .i64 fr] 141)).alloc (.cells #[.int .i64 0, .int .i64 0, .int .i64 0] 72)).alloc (.cells #[.int .i64 0] 183) = w1 := ⟨_, rfl⟩
  rw [hw1] at K1 R1 b1
  have z0 := K1.cell 0
  have z2 := K1.cell 2
  have x0 := R1.cell 0
  have x1 := R1.cell 1
  have x2 := R1.cell 2
  have f0 := R1.frozen 0
  have f1 := R1.frozen 1
  have f2 := R1.frozen 2
  simp only [List.getElem?_toArray, List.getElem?_cons_succ, List.getElem?_cons_zero] at z0 z2 x0 x1 x2
  have hk := K1.lt
  have hr := R1.lt
  have HB := hidH b1
  have HW := hidH hw1
  clear K1 R1 b1 hw1
  go_enter Tryz.func87, Tryz.ntmps87
  go_wp2_with fail
  rw [HW.out]
  refine (as_nil _ _).mono ?_
  rintro e w2 ⟨rfl, rfl⟩
  go_wp2
  exact bodyPost_ret (v := .agg #[.int .i64 0, .int .i64 id, .int .i64 fr]) (by simp [results, Tryz.results87, go_sem, x0, x1, x2]) rfl (ar_res 0 id fr (bst (bst (bst HB.out (Nat.le_succ _) _) (Nat.le_succ _) _) (Nat.le_succ _) _))
set_option maxRecDepth 100000 in
set_option maxHeartbeats 4000000 in
theorem ar_err (id : Int) (A : Option Addr) (n c : Nat) (fr code : Int) (w : World) (hg : ErrT w) : Calls Tryz.prog 87 #[tagV id A n c fr, errU code] w (Res w [.int code, .int 0, .int 0]) := by
  unfold tagV errU
  have R1 := (Blk.new (w.alloc (.cells #[.int .i64 id, .slice A n c, .int .i64 fr] 141)) 72 #[.int .i64 0, .int .i64 0, .int .i64 0]).alloc (.cells #[.int .i64 0] 183)
  have U1 := Blk.new ((w.alloc (.cells #[.int .i64 id, .slice A n c, .int .i64 fr] 141)).alloc (.cells #[.int .i64 0, .int .i64 0, .int .i64 0] 72)) 183 #[.int .i64 0]
  have b1 := bal (bal (bal (Below.refl w.heap.size w) (.cells #[.int .i64 id, .slice A n c, .int .i64 fr] 141)) (.cells #[.int .i64 0, .int .i64 0, .int .i64 0] 72)) (.cells #[.int .i64 0] 183)
  rw [World.size_alloc] at R1
  rw [World.size_alloc, World.size_alloc] at U1
  obtain ⟨w1, hw1⟩ : ∃ w1, ((w.alloc (.cells #[.int .i64 id, .slice A n c, .int .i64 fr] 141)).alloc (.cells #[.int .i64 0, .int .i64 0, .int .i64 0] 72)).alloc (.cells #[.int .i64 0] 183) = w1 := ⟨_, rfl⟩
  rw [hw1] at R1 U1 b1
  have HH := hidH (as_hit code 0 (w.heap.size + 1 + 1) w1 (hg.below b1) U1 (by omega))
  have HR := hidH R1
  have HB := hidH b1
  have HW := hidH hw1
  have HU := hidH U1.lt
  clear R1 U1 b1 hw1 hg
  go_enter Tryz.func87, Tryz.ntmps87
  go_wp2_with fail
  rw [HW.out]
  refine HH.out.mono ?_
  rintro e w2 ⟨rfl, U2, hw2⟩
  have R2 := hw2.blk HR.out (.inl (by omega))
  have HB2 := hidH (HB.out.trans ((hw2.below (by have := HU.out; omega)).mono (by omega)))
  have y0 := U2.cell 0
  have x0 := R2.cell 0
  have x1 := R2.cell 1
  have x2 := R2.cell 2
  have f0 := R2.frozen 0
  have f1 := R2.frozen 1
  have f2 := R2.frozen 2
  simp only [List.getElem?_toArray, List.getElem?_cons_succ, List.getElem?_cons_zero] at y0 x0 x1 x2
  have hu := U2.lt
  have hr := R2.lt
  clear U2 R2 hw2 HH
  go_wp2
  exact bodyPost_ret (v := .agg #[.int .i64 code, .int .i64 0, .int .i64 0]) (by simp [results, Tryz.results87, go_sem, x0, x1, x2]) rfl (ar_res code 0 0 (bst (bst (bst HB2.out (Nat.le_succ _) _) (Nat.le_succ _) _) (Nat.le_succ _) _))
theorem faL_err : ∀ {r : List ChunkM} {i : Nat}, (faL r i).Code ≠ 0 → faL r i = ⟨(faL r i).Code, 0, 0⟩
  | [], _, _ => rfl
  | x :: r, i, h => by
    unfold faL at h ⊢
    split
    · next hk =>
      rw [if_pos hk] at h
      split
      · next ht => rw [if_pos ht] at h; exact absurd rfl h
      · rfl
    · next hk => rw [if_neg hk] at h; exact faL_err h
set_option maxRecDepth 100000 in
set_option maxHeartbeats 4000000 in
theorem fa_impl (r : List ChunkM) (v : Value) (u : World) (ty : TypeId) (pv : Value) (hE : u.cell? ⟨0, 0, none⟩ = some (.iface ty pv)) (hg : ErrT u) (h : Rd u (st_Chunk r) v) (hcb : ∀ x ∈ r, Bytes x.Body) : Calls Tryz.prog 34 #[v] u (Res u (faR r).vs) := by
  have h0lt := World.block_lt_of_cell? _ _ hE
  have R0 := Blk.new u 72 #[.int .i64 0, .int .i64 0, .int .i64 0]
  have b0 := bal (Below.refl u.heap.size u) (.cells #[.int .i64 0, .int .i64 0, .int .i64 0] 72)
  obtain ⟨w0, hw0⟩ : ∃ w0, u.alloc (.cells #[.int .i64 0, .int .i64 0, .int .i64 0] 72) = w0 := ⟨_, rfl⟩
  rw [hw0] at R0 b0
  have HFT := hidH (findTag_any r v w0 ty pv ((b0.cell (p := ⟨0, 0, none⟩) h0lt).trans hE) (Rd.below b0 _ h) hcb)
  have HG := hidH (hg.below b0)
  have HW := hidH hw0
  have HR := hidH R0
  have HB := hidH b0
  unfold FtR at HFT
  clear hw0 R0 b0 h hcb h0lt hE hg
  go_enter Tryz.func34, Tryz.ntmps34
  go_wp2_with fail
  rw [HW.out]
  refine HFT.out.mono ?_
  rintro e w1 ⟨hh, b1⟩
  have HB1 := hidH (btr HB.out b1)
  have HR1 := hidH (HR.out.below b1)
  have HG1 := hidH (HG.out.below b1)
  clear b1 HFT
  rcases hh with ⟨hne, id, A, n, c, fr, rfl⟩ | ⟨h0, A, c, j, f, l, rfl, _, _, _, _⟩
  · have hv : (faR r).vs = [.int (faR r).Code, .int 0, .int 0] := by
      unfold faR at hne ⊢
      split at hne
      · next hc => rw [if_pos hc]; rw [faL_err hne]; rfl
      · next hc => rw [if_neg hc]; rfl
    have HV := hidH hv
    obtain ⟨C, hC⟩ : ∃ C, (faR r).Code = C := ⟨_, rfl⟩
    rw [hC] at HV ⊢
    have ba := bal (Below.refl w1.heap.size w1) (.cells #[.int .i64 id, .slice A n c, .int .i64 fr] 141)
    have KT := Blk.new w1 141 #[.int .i64 id, .slice A n c, .int .i64 fr]
    have HAR := hidH (ar_err id A n c fr C _ (HG1.out.below ba))
    have HB2 := hidH (btr HB1.out ba)
    have HR2 := hidH (HR1.out.below ba)
    obtain ⟨w2, hw2⟩ : ∃ w2, w1.alloc (.cells #[.int .i64 id, .slice A n c, .int .i64 fr] 141) = w2 := ⟨_, rfl⟩
    rw [hw2] at KT HAR HB2 HR2
    have z0 := KT.cell 0
    have z1 := KT.cell 1
    have z2 := KT.cell 2
    simp only [List.getElem?_toArray, List.getElem?_cons_succ, List.getElem?_cons_zero] at z0 z1 z2
    have hk := KT.lt
    have HW2 := hidH hw2
    clear KT ba hw2 hv hne hC
    unfold tagV at HAR ⊢
    unfold errU at HAR ⊢
    go_wp2_with fail
    rw [HW2.out]
    go_wp2_with fail
    refine HAR.out.mono ?_
    rintro e w3 ⟨vs, rfl, o3, b3⟩
    obtain rfl := shape_AuthResult o3.rd
    have HB3 := hidH (btr HB2.out b3)
    have R3 := HR2.out.below b3
    have x0 := R3.cell 0
    have x1 := R3.cell 1
    have x2 := R3.cell 2
    have f0 := R3.frozen 0
    have f1 := R3.frozen 1
    have f2 := R3.frozen 2
    simp only [List.getElem?_toArray, List.getElem?_cons_succ, List.getElem?_cons_zero] at x0 x1 x2
    have hr := R3.lt
    clear o3 b3 R3 HAR z0 z1 z2
    go_wp2
    exact bodyPost_ret (v := .agg #[.int .i64 C, .int .i64 0, .int .i64 0]) (by simp [results, Tryz.results34, go_sem, x0, x1, x2]) rfl (by rw [HV.out]; exact ar_res C 0 0 (bst (bst (bst HB3.out (Nat.le_refl _) _) (Nat.le_refl _) _) (Nat.le_refl _) _))
  · have hv : (faR r).vs = [.int 0, .int (faR r).KeyId, .int (faR r).From] := by
      show [V.int (faR r).Code, V.int (faR r).KeyId, V.int (faR r).From] = _
      rw [h0]
    have HV := hidH hv
    obtain ⟨id, hid⟩ : ∃ id, (faR r).KeyId = id := ⟨_, rfl⟩
    obtain ⟨fr, hfr⟩ : ∃ fr, (faR r).From = fr := ⟨_, rfl⟩
    rw [hid, hfr] at HV ⊢
    have ba := bal (Below.refl w1.heap.size w1) (.cells #[.int .i64 id, .slice A 32 c, .int .i64 fr] 141)
    have KT := Blk.new w1 141 #[.int .i64 id, .slice A 32 c, .int .i64 fr]
    have HB2 := hidH (btr HB1.out ba)
    have HR2 := hidH (HR1.out.below ba)
    obtain ⟨w2, hw2⟩ : ∃ w2, w1.alloc (.cells #[.int .i64 id, .slice A 32 c, .int .i64 fr] 141) = w2 := ⟨_, rfl⟩
    rw [hw2] at KT HB2 HR2
    have HAR := hidH (ar_nil id A 32 c fr w2)
    have z0 := KT.cell 0
    have z1 := KT.cell 1
    have z2 := KT.cell 2
    simp only [List.getElem?_toArray, List.getElem?_cons_succ, List.getElem?_cons_zero] at z0 z1 z2
    have hk := KT.lt
    have HW2 := hidH hw2
    clear KT ba hw2 hv h0 hid hfr
    unfold tagV at HAR ⊢
    go_wp2_with fail
    rw [HW2.out]
    go_wp2_with fail
    refine HAR.out.mono ?_
    rintro e w3 ⟨vs, rfl, o3, b3⟩
    obtain rfl := shape_AuthResult o3.rd
    have HB3 := hidH (btr HB2.out b3)
    have R3 := HR2.out.below b3
    have x0 := R3.cell 0
    have x1 := R3.cell 1
    have x2 := R3.cell 2
    have f0 := R3.frozen 0
    have f1 := R3.frozen 1
    have f2 := R3.frozen 2
    simp only [List.getElem?_toArray, List.getElem?_cons_succ, List.getElem?_cons_zero] at x0 x1 x2
    have hr := R3.lt
    clear o3 b3 R3 HAR z0 z1 z2
    go_wp2
    exact bodyPost_ret (v := .agg #[.int .i64 0, .int .i64 id, .int .i64 fr]) (by simp [results, Tryz.results34, go_sem, x0, x1, x2]) rfl (by rw [HV.out]; exact ar_res 0 id fr (bst (bst (bst HB3.out (Nat.le_refl _) _) (Nat.le_refl _) _) (Nat.le_refl _) _))
theorem fa_implW (r : List ChunkM) (v : Value) (u : World) (ty : TypeId) (pv : Value) (hE : u.cell? ⟨0, 0, none⟩ = some (.iface ty pv)) (hg : ErrT u) (h : Rd u (st_Chunk r) v) (hw : WfV (st_Chunk r)) (_ : tot (st_Chunk r) ≤ 1048576) : Calls Tryz.prog 34 #[v] u (Res u (faR r).vs) := fa_impl r v u ty pv hE hg h (st_Chunk_bytes hw)
theorem fa_specW (r : List ChunkM) (v : Value) (u : World) (h : Rd u (st_Chunk r) v) (hw : WfV (st_Chunk r)) (_ : tot (st_Chunk r) ≤ 1048576) : Calls Tryz.prog 35 #[v] u (Res u (faR r).vs) := fa_spec r v u h (st_Chunk_bytes hw)
end Go.Proofs.YtacdnednkglobaaGreatDoor

/- The model's packets: l4Raw. -/
namespace Go.Proofs.YtacdnednkglobaaGreatDoor
open Go.RowKit Go.Deep

structure Chk where
  kind : Int
  flags : Int
  body : List Int
def chkL (x : Chk) : List Int := chL x.kind x.flags x.body
def chkOk (x : Chk) : Prop := (0 ≤ x.kind ∧ x.kind ≤ 255) ∧ (0 ≤ x.flags ∧ x.flags ≤ 255) ∧ x.body.length ≤ 160
/-- A list of chunks in memory, three cells a chunk. -/
def Cs (w : World) (P : Option Addr) (cs : List Chk) : Prop :=
  cs = [] ∨ ∃ g o, P = some ⟨g, o, none⟩ ∧ g < w.heap.size ∧ ∀ j (hj : j < cs.length), ∃ A c, CkB w g (o + j * 3) cs[j].kind cs[j].flags A cs[j].body c
theorem Cs.below {w w' : World} {P : Option Addr} {cs : List Chk} (h : Cs w P cs) (hb : Below w.heap.size w w') : Cs w' P cs := by
  rcases h with h | ⟨g, o, h1, h2, h3⟩
  · exact .inl h
  · exact .inr ⟨g, o, h1, Nat.lt_of_lt_of_le h2 hb.size, fun j hj => by obtain ⟨A, c, h⟩ := h3 j hj; exact ⟨A, c, h.below hb⟩⟩
/-- A packet in memory. -/
structure PkB (w : World) (g o : Nat) (tag : Int) (P : Option Addr) (cs : List Chk) (c : Nat) : Prop where
  lt : g < w.heap.size
  c0 : w.cell? ⟨g, o, none⟩ = some (.int .i64 tag)
  c1 : w.cell? ⟨g, o + 1, none⟩ = some (.slice P cs.length c)
  list : Cs w P cs
theorem PkB.below {w w' : World} {B g o : Nat} {tag : Int} {P : Option Addr} {cs : List Chk} {c : Nat} (h : PkB w g o tag P cs c) (hb : Below B w w') (hB : w.heap.size ≤ B := by first | exact Nat.le_refl _ | assumption) : PkB w' g o tag P cs c :=
  have hb' : Below w.heap.size w w' := hb.mono hB
  ⟨Nat.lt_of_lt_of_le h.lt hb'.size, (hb'.cell (p := ⟨g, o, none⟩) h.lt).trans h.c0, (hb'.cell (p := ⟨g, o + 1, none⟩) h.lt).trans h.c1, h.list.below hb'⟩
def rawTo (tag sum : Int) (cs : List Chk) (j : Nat) : List Int := pk tag ++ pk sum ++ (cs.take j).flatMap chkL
def rawL (tag sum : Int) (cs : List Chk) : List Int := rawTo tag sum cs cs.length
theorem rawTo_succ (tag sum : Int) (cs : List Chk) (j : Nat) (hj : j < cs.length) : rawTo tag sum cs (j + 1) = rawTo tag sum cs j ++ chkL cs[j] := by
  rw [rawTo, rawTo, List.take_add_one, List.getElem?_eq_getElem hj, Option.toList_some, List.flatMap_append, List.append_assoc (pk tag ++ pk sum)]
  simp only [List.flatMap_cons, List.flatMap_nil, List.append_nil]
theorem chkL_len (x : Chk) (h : x.body.length ≤ 160) : (chkL x).length ≤ 168 := by
  rw [chkL, chL_len]; unfold chPad; omega
theorem rawTo_len (tag sum : Int) (cs : List Chk) (hc : ∀ x ∈ cs, chkOk x) (j : Nat) (hj : j ≤ cs.length) : (rawTo tag sum cs j).length ≤ 8 + 168 * j := by
  induction j with
  | zero => simp [rawTo, pk]
  | succ j ih =>
    rw [rawTo_succ _ _ _ _ (by omega), List.length_append]
    have := chkL_len cs[j] (hc _ (List.getElem_mem _)).2.2
    have := ih (by omega)
    omega
end Go.Proofs.YtacdnednkglobaaGreatDoor

/- The model's Crc32c. -/
namespace Go.Proofs.YtacdnednkglobaaGreatDoor
open Go.RowKit Go.Deep

theorem i64_xor_nat (a b : Nat) (ha : a < 4294967296) (hb : b < 4294967296) : bits .xor .i64 (a : Int) (b : Int) = ((a ^^^ b : Nat) : Int) := by
  have hx : a ^^^ b < 4294967296 := Nat.xor_lt_two_pow (n := 32) ha hb
  show IntKind.i64.wrap ((BitVec.ofInt 64 (a : Int) ^^^ BitVec.ofInt 64 (b : Int)).toNat : Int) = _
  rw [BitVec.toNat_xor, ofInt_u64 a (by omega), ofInt_u64 b (by omega)]
  exact IntWalk.i64_in _ (by omega)
def nB (l : List Int) : List Nat := l.map Int.toNat
theorem nB_lt {l : List Int} (h : Bytes l) : ∀ x ∈ nB l, x < 256 := by
  intro x hx
  simp only [nB, List.mem_map] at hx
  obtain ⟨y, hy, rfl⟩ := hx
  have := h y hy
  omega
theorem nB_get (l : List Int) (k : Nat) : (nB l).getD k 0 = (l.getD k 0).toNat := by
  simp only [nB, List.getD_eq_getElem?_getD, List.getElem?_map]
  cases l[k]? <;> rfl
def crcP (l : List Nat) (k : Nat) : Nat := crcTo 4294967295 (l.take k)
theorem crcP_succ (l : List Nat) (k : Nat) (hk : k < l.length) : crcP l (k + 1) = crcBits (crcP l k ^^^ l.getD k 0) 8 := by
  rw [crcP, List.take_succ_eq_append_getElem hk, crcTo, List.foldl_append, List.getD_eq_getElem?_getD, List.getElem?_eq_getElem hk]
  rfl
theorem crcP_lt {l : List Nat} (hl : ∀ x ∈ l, x < 256) (k : Nat) : crcP l k < 4294967296 := crcTo_lt (by decide) (fun x hx => hl x (List.mem_of_mem_take hx))
def crcC (l : List Int) : Int := if l.length ≤ 700 then 0 else 2
def crcN (l : List Int) : Int := if l.length ≤ 700 then ((crcV (nB l) : Nat) : Int) else 0
end Go.Proofs.YtacdnednkglobaaGreatDoor

/- The model's PacketFault, l4Pack and PackPacket. -/
namespace Go.Proofs.YtacdnednkglobaaGreatDoor
open Go.RowKit Go.Deep

/-- A packet's value. -/
def pkV (tag : Int) (P : Option Addr) (n c : Nat) : Value := .agg #[.int .i64 tag, .slice P n c]
def chkF (x : Chk) : Int := chF x.kind x.flags x.body
def firstF : List Chk → Int
  | [] => 0
  | x :: r => if chkF x = 0 then firstF r else chkF x
theorem firstF_app (a b : List Chk) (h : firstF a = 0) : firstF (a ++ b) = firstF b := by
  induction a with
  | nil => rfl
  | cons x r ih =>
    simp only [firstF] at h
    simp only [List.cons_append, firstF]
    split at h
    · next hx => rw [if_pos hx]; exact ih h
    · next hx => exact absurd h hx
theorem firstF_mem {cs : List Chk} (h : firstF cs = 0) : ∀ x ∈ cs, chkF x = 0 := by
  induction cs with
  | nil => intro x hx; cases hx
  | cons y r ih =>
    simp only [firstF] at h
    split at h
    · next hy =>
      intro x hx
      rcases List.mem_cons.1 hx with rfl | hx
      · exact hy
      · exact ih h x hx
    · next hy => exact absurd h hy
theorem firstF_ok {cs : List Chk} (h : firstF cs = 0) : ∀ x ∈ cs, chkOk x := fun x hx => chF_zero (firstF_mem h x hx)
theorem firstF_take {cs : List Chk} {j : Nat} (hj : j < cs.length) (h : firstF (cs.take j) = 0) : firstF (cs.take (j + 1)) = chkF cs[j] := by
  rw [List.take_add_one, List.getElem?_eq_getElem hj, Option.toList_some, firstF_app _ _ h]
  simp only [firstF]
  split
  · next hx => exact hx.symm
  · rfl
theorem firstF_hit {cs : List Chk} {j : Nat} (hj : j < cs.length) (h : firstF (cs.take j) = 0) (hne : chkF cs[j] ≠ 0) : firstF cs = chkF cs[j] := by
  have h2 : cs.take j ++ cs[j] :: cs.drop (j + 1) = cs := by simp
  have h3 := firstF_app (cs.take j) (cs[j] :: cs.drop (j + 1)) h
  rw [h2] at h3
  rw [h3]
  simp [firstF, hne]
def pkF (tag : Int) (cs : List Chk) : Int :=
  if wB tag then (if 1 ≤ cs.length ∧ cs.length ≤ 8 then (if firstF cs = 0 then (if (rawL tag 0 cs).length ≤ 500 then 0 else 2) else firstF cs) else 2) else 3
end Go.Proofs.YtacdnednkglobaaGreatDoor

/- The model's l4Pack and PackPacket. -/
namespace Go.Proofs.YtacdnednkglobaaGreatDoor
open Go.RowKit Go.Deep

theorem bytes_app0 {a b : List Int} (ha : Bytes a) (hb : Bytes b) : Bytes (a ++ b) := fun x hx => (List.mem_append.1 hx).elim (ha x) (hb x)
theorem pk_bytes0 {a : Int} (h0 : 0 ≤ a) (h1 : a ≤ 4294967295) : Bytes (pk a) := by
  intro x hx
  simp only [pk, List.mem_cons, List.not_mem_nil, or_false] at hx
  rcases hx with rfl | rfl | rfl | rfl <;> omega
theorem chkL_bytes {x : Chk} (h : chkOk x) (hb : Bytes x.body) : Bytes (chkL x) := by
  obtain ⟨⟨h1, h2⟩, ⟨h3, h4⟩, h5⟩ := h
  unfold chkL chL
  refine bytes_app0 (bytes_app0 ?_ hb) ?_
  · intro y hy
    simp only [List.mem_cons, List.not_mem_nil, or_false] at hy
    rcases hy with rfl | rfl | rfl | rfl <;> omega
  · intro y hy
    obtain ⟨_, rfl⟩ := List.mem_replicate.1 hy
    omega
theorem rawL_bytes {tag sum : Int} {cs : List Chk} (ht0 : 0 ≤ tag) (ht1 : tag ≤ 4294967295) (hs0 : 0 ≤ sum) (hs1 : sum ≤ 4294967295) (hc : ∀ x ∈ cs, chkOk x) (hb : ∀ x ∈ cs, Bytes x.body) : Bytes (rawL tag sum cs) := by
  unfold rawL rawTo
  rw [List.take_length]
  refine bytes_app0 (bytes_app0 (pk_bytes0 ht0 ht1) (pk_bytes0 hs0 hs1)) ?_
  intro y hy
  obtain ⟨x, hx, hy⟩ := List.mem_flatMap.1 hy
  exact chkL_bytes (hc x hx) (hb x hx) y hy
def sumOf (tag : Int) (cs : List Chk) : Int := ((crcV (nB (rawL tag 0 cs)) : Nat) : Int)
def pkL (tag : Int) (cs : List Chk) : List Int := rawL tag (sumOf tag cs) cs
theorem sumOf_word {tag : Int} {cs : List Chk} (ht0 : 0 ≤ tag) (ht1 : tag ≤ 4294967295) (hc : ∀ x ∈ cs, chkOk x) (hb : ∀ x ∈ cs, Bytes x.body) : 0 ≤ sumOf tag cs ∧ sumOf tag cs ≤ 4294967295 := by
  have := crcV_lt (nB_lt (rawL_bytes (sum := 0) ht0 ht1 (by omega) (by omega) hc hb))
  unfold sumOf
  omega
def pkM (tag : Int) (cs : List Chk) : List Int := if pkF tag cs = 0 then pkL tag cs else []
theorem pkF_zero {tag : Int} {cs : List Chk} (h : pkF tag cs = 0) : (0 ≤ tag ∧ tag ≤ 4294967295) ∧ (1 ≤ cs.length ∧ cs.length ≤ 8) ∧ (∀ x ∈ cs, chkOk x) ∧ (rawL tag 0 cs).length ≤ 500 := by
  unfold pkF at h
  split at h
  · next h1 =>
    split at h
    · next h2 =>
      split at h
      · next h3 =>
        split at h
        · next h4 => exact ⟨by simpa [wB, inB] using h1, h2, firstF_ok h3, h4⟩
        · cases h
      · next h3 => exact absurd h h3
    · cases h
  · cases h
end Go.Proofs.YtacdnednkglobaaGreatDoor

/- The model's ActionOf, SamePackets. -/
namespace Go.Proofs.YtacdnednkglobaaGreatDoor
open Go.RowKit Go.Deep

def actC (k : Int) : Int := if inB k 0 255 then 0 else 3
def actV (k : Int) : Int := if inB k 0 255 then k / 64 else 0
theorem chk_eq {x y : Chk} : x = y ↔ x.kind = y.kind ∧ x.flags = y.flags ∧ x.body = y.body := by
  cases x; cases y; simp
end Go.Proofs.YtacdnednkglobaaGreatDoor

/- The program's ChunkFault, paddingSize, chunkSize, ActionOf, bytes.Clone, bytes.Equal. -/
namespace Go.Proofs.YtacdnednkglobaaGreatDoor
open Go.RowKit Go.Deep

set_option maxHeartbeats 400000 in
theorem padz_any (A : Option Addr) (n c : Nat) (w : World) (hm : (n : Int) ≤ 9223372036854775807) : Calls Tryz.prog 161 #[.slice A n c] w fun e w' => e = .returned (.int .i64 ((chPad n : Nat) : Int)) ∧ w' = w := by
  go_enter Tryz.func161, Tryz.ntmps161
  go_wp2
  go_ret
  refine ⟨ret_int ?_, rfl⟩
  unfold chPad
  omega
end Go.Proofs.YtacdnednkglobaaGreatDoor

/- slices.Grow and slices.Concat at bytes, however many slices. -/
namespace Go.Proofs.YtacdnednkglobaaGreatDoor
open Go.RowKit Go.Deep

theorem wpList_append_run {w : World} {ops : Array Oper} {rest : List Oper} {o : Oper} {a : Act} {Q : Exit → Act → World → Prop} (hgd : o.guard = none) (s x : Operand) (ts : Array TypeId)
    (ho : o.op = .call { callee := .builtin .append, args := #[s, x], argTypes := ts }) (sv xv : Value) (hs : a.eval s = sv) (hx : a.eval x = xv) (d : Option Tmp) (hd : o.dst = d)
    (v : Value) (w1 : World) (hrun : ∀ ty, (Builtin.append_ ts ty #[sv, xv]).run Tryz.prog w = .ok v w1) (h : wpList Tryz.prog ops Q rest (a.put d v) w1) : wpList Tryz.prog ops Q (o :: rest) a w := by
  subst hd
  refine wpList_plain hgd fun K hK => ?_
  unfold Oper.wp
  simp [execOp, ho, resolve, invoke, builtin, hs, hx, hrun, Result.andThen]
  exact hK _ _ h
set_option maxHeartbeats 1000000 in
theorem grow_any (n : Nat) (w : World) (h : n ≤ 100000) : Calls Tryz.prog 177 #[.slice none 0 0, .int .i64 n] w fun e w' => ∃ v, e = .returned v ∧ w'.ownsRow w.heap.size 5 1 v 0 [] ∧ Below w.heap.size w w' := by
  by_cases h0 : n = 0
  · subst h0
    rw [show ((0 : Nat) : Int) = 0 from rfl]
    go_enter Tryz.func177, Tryz.ntmps177
    go_wp2
    go_ret
    exact ⟨_, rfl, ⟨rfl, .inl ⟨rfl, rfl⟩⟩, Below.refl _ _⟩
  · obtain ⟨i0, hi, hz0, hz1, hz2⟩ := info_parts infoU8
    have hnI : (0 : Int) < (n : Int) := by omega
    have hnJ : (n : Int) ≤ 100000 := by omega
    have hap : ∀ ty, (Builtin.append_ #[22, 3] ty #[.slice none 0 0, .int .i64 n]).run Tryz.prog w = .ok (.slice (some ⟨w.heap.size, 0, none⟩) n (grownCap w n 0 5)) (w.drew.alloc (.cells (Builtin.zeroCells #[.int .u8 0] n ++ Builtin.zeroCells #[.int .u8 0] (grownCap w n 0 5 - n)) 5)) := fun ty =>
      Lib.run_append_nil_zeros w 22 3 ty 5 i0 (.int .u8 0) .i64 .i64 Tryz.underlying22 (by kernel_rfl) hi hz0 n (by omega) (by rw [hz1]; omega) (by omega) (by rw [hz2]; omega)
    have hge := grownCap_ge w n 0 5
    have hle := grownCap_le_maxLen w n 0 5 (by unfold maxLen; omega)
    generalize grownCap w n 0 5 = c at *
    have hsz : (Builtin.zeroCells #[Value.int .u8 0] n ++ Builtin.zeroCells #[Value.int .u8 0] (c - n)).size = c * 1 := by
      rw [Array.size_append, size_zeroCells, size_zeroCells]; simp; omega
    generalize Builtin.zeroCells #[Value.int .u8 0] n ++ Builtin.zeroCells #[Value.int .u8 0] (c - n) = cs at *
    have HC := hidH (And.intro hge (And.intro hle hsz))
    have hc : (0 : Int) ≤ (c : Int) := by omega
    have HAP := hidH hap
    clear hi hz0 hz1 hz2 hge hle hsz h0 hap
    go_enter Tryz.func177, Tryz.ntmps177
    go_wp2_with (at_builtin; refine wpList_append_run rfl _ _ _ rfl (.slice none 0 0) (.int .i64 n) rfl rfl _ rfl _ _ HAP.out ?_)
    go_ret
    refine ⟨_, rfl, ⟨rfl, .inr ⟨w.heap.size, c, cs, rfl, Nat.le_refl _, ?_, by omega, HC.out.2.1, HC.out.2.2, by simp⟩⟩, bal (Below.refl _ _).drew _⟩
    exact heap_alloc_new w.drew _
/-- Slices of bytes in a row of their own. -/
def Parts (w : World) (g : Nat) (ps : List (List Int)) : Prop :=
  g < w.heap.size ∧ ∀ i (hi : i < ps.length), ∃ A c, w.cell? ⟨g, i, none⟩ = some (.slice A ps[i].length c) ∧ Bs w A ps[i]
theorem Parts.below {w w' : World} {g : Nat} {ps : List (List Int)} (h : Parts w g ps) (hb : Below w.heap.size w w') : Parts w' g ps :=
  ⟨Nat.lt_of_lt_of_le h.1 hb.size, fun i hi => by
    obtain ⟨A, c, h1, h2⟩ := h.2 i hi
    exact ⟨A, c, (hb.cell (p := ⟨g, i, none⟩) h.1).trans h1, bs_below h2 hb⟩⟩
def catP (ps : List (List Int)) (k : Nat) : List Int := (ps.take k).flatten
theorem catP_succ (ps : List (List Int)) (k : Nat) (hk : k < ps.length) : catP ps (k + 1) = catP ps k ++ ps[k] := by
  rw [catP, catP, List.take_add_one, List.getElem?_eq_getElem hk, Option.toList_some, List.flatten_append]
  simp
theorem catP_le (ps : List (List Int)) (k : Nat) : (catP ps k).length ≤ ps.flatten.length := by
  have h : ps.flatten = catP ps k ++ (ps.drop k).flatten := by rw [catP, ← List.flatten_append, List.take_append_drop]
  rw [h, List.length_append]
  omega
set_option maxRecDepth 100000 in
set_option maxHeartbeats 1000000 in
theorem concat_all (g c : Nat) (ps : List (List Int)) (w : World) (hg : Parts w g ps) (hn : ps.length ≤ 100) (ht : ps.flatten.length ≤ 40000) :
    Calls Tryz.prog 160 #[.slice (some ⟨g, 0, none⟩) ps.length c] w (OwnB w ps.flatten) := by
  have HG := hidH hg
  have HT := hidH ht
  have HLE := hidH (catP_le ps)
  have HS := hidH (catP_succ ps)
  have HZ := hidH (show catP ps ps.length = ps.flatten by rw [catP, List.take_length])
  have hnI : (ps.length : Int) ≤ 100 := by omega
  clear hg ht
  go_enter Tryz.func160, Tryz.ntmps160
  go_wp2
  go_loopw [3, 11] (fun s i wr => ∃ k : Nat, k ≤ ps.length ∧ i = .int .i64 k ∧ s = .int .i64 ((catP ps k).length : Nat) ∧ w = wr) (fun _ i _ => ps.length - (intOf i).toNat)
  case atStart => exact ⟨0, by omega, rfl, rfl, rfl⟩
  case round =>
    obtain ⟨k, hk, rfl, rfl, rfl⟩ := hrel
    by_cases hlt : k < ps.length
    · obtain ⟨A, cA, e1, _⟩ := HG.out.2 k hlt
      have hk0 : (0 : Int) ≤ (k : Int) := by omega
      have hk1 : (k : Int) < (ps.length : Int) := by omega
      have h1 := HLE.out k
      have h2 := HLE.out (k + 1)
      have h3 := HS.out k hlt
      have h4 : (catP ps (k + 1)).length = (catP ps k).length + ps[k].length := by rw [h3, List.length_append]
      have h5 : ((catP ps k).length : Int) ≤ 40000 := by have := HT.out; omega
      have h6 : (ps[k].length : Int) ≤ 40000 := by have := HT.out; omega
      obtain ⟨x, hx⟩ : ∃ x, (catP ps k).length = x := ⟨_, rfl⟩
      obtain ⟨y, hy⟩ : ∃ y, ps[k].length = y := ⟨_, rfl⟩
      rw [hx] at h5 h4
      rw [hy] at h6 h4 e1
      rw [hx]
      have H4 := hidH h4
      clear h1 h2 h3 h4 hx hy
      go_wp2
      go_round
      case rel => exact ⟨k + 1, by omega, by go_num, by rw [H4.out]; go_num, trivial⟩
      case measure => simp [intOf]; omega
    · obtain rfl : k = ps.length := by omega
      have hgr := grow_any ps.flatten.length w (by have := HT.out; omega)
      rw [HZ.out]
      have HGR := hidH hgr
      obtain ⟨x, hx⟩ : ∃ x, ps.flatten.length = x := ⟨_, rfl⟩
      rw [hx] at HGR ⊢
      clear hgr hlt hk hx
      go_wp2_with fail
      refine HGR.out.mono ?_
      rintro e w1 ⟨v, rfl, o1, b1⟩
      have O1 := hidH o1
      have B1 := hidH b1
      clear o1 b1 HGR
      go_wp2
      go_loopw [6, 27] (fun v i wr => ∃ k : Nat, k ≤ ps.length ∧ i = .int .i64 k ∧ wr.ownsRow w.heap.size 5 1 v (catP ps k).length ((catP ps k).map (Value.int .u8)) ∧ Below w.heap.size w wr) (fun _ i _ => ps.length - (intOf i).toNat)
      case atStart => exact ⟨0, by omega, rfl, O1.out, B1.out⟩
      case round =>
        obtain ⟨k, hk, rfl, ho, hbw⟩ := hrel
        by_cases hlt : k < ps.length
        · obtain ⟨A, cA, e1, s1⟩ := (HG.out.below hbw).2 k hlt
          have hk0 : (0 : Int) ≤ (k : Int) := by omega
          have hk1 : (k : Int) < (ps.length : Int) := by omega
          have hsz := hbw.size
          have HLN := hidH (show (catP ps k).length + ps[k].length ≤ 4000000 by
            have h2 := HLE.out (k + 1)
            have h3 := HS.out k hlt
            have := HT.out
            rw [h3, List.length_append] at h2
            omega)
          have HS1 := hidH s1
          have HO := hidH ho
          have HW := hidH hbw
          clear ho hbw s1
          go_wp2_with (at_builtin; refine wpList_append_bs rfl _ _ rfl w.heap.size _ _ _ rfl HO.out A ps[k] cA rfl HS1.out HLN.out hsz ?_)
          intro v' w2 o2 g2
          have B2 := hidH (HW.out.grown g2 hsz (fun k hk => (HO.out.lt k hk).1))
          have O2 := hidH (show w2.ownsRow w.heap.size 5 1 v' (catP ps (k + 1)).length ((catP ps (k + 1)).map (Value.int .u8)) from by rw [HS.out k hlt]; simpa using o2)
          clear o2 g2 HO HW HS1 e1 HLN
          go_wp2
          go_roundw
          case rel => exact ⟨k + 1, by omega, by go_num, O2.out, B2.out⟩
          case measure => simp [intOf]; omega
        · obtain rfl : k = ps.length := by omega
          rw [HZ.out] at ho
          have HO := hidH ho
          have HW := hidH hbw
          clear ho hbw hlt hk
          go_wp2
          go_ret
          exact ⟨_, rfl, HO.out, HW.out⟩
end Go.Proofs.YtacdnednkglobaaGreatDoor

/- The region of PackChunk that draws its order. -/
namespace Go.Proofs.YtacdnednkglobaaGreatDoor
open Go.RowKit Go.Deep

theorem zeros_bs {w : World} {B g n : Nat} (h : w.ownsRow B 5 1 (.slice (some ⟨g, 0, none⟩) n n) n (madeCells #[Value.int IntKind.u8 0] n).toList) : Bs w (some ⟨g, 0, none⟩) (List.replicate n 0) := by
  rw [toList_madeCells_one] at h
  obtain ⟨A, cp, hv, ob, _⟩ := own_ob (d := List.replicate n 0) (by simpa using h)
  simp only [Value.slice.injEq] at hv
  rw [hv.1]
  exact ob.bs
theorem parts3 {w : World} {q : Nat} {t : TypeId} {A1 A2 A3 : Option Addr} {n1 n2 n3 c1 c2 c3 : Nat} (h : Blk w q t #[.slice A1 n1 c1, .slice A2 n2 c2, .slice A3 n3 c3]) {l1 l2 l3 : List Int} (e1 : n1 = l1.length) (e2 : n2 = l2.length) (e3 : n3 = l3.length)
    (h1 : Bs w A1 l1) (h2 : Bs w A2 l2) (h3 : Bs w A3 l3) : Parts w q [l1, l2, l3] := by
  subst e1 e2 e3
  refine ⟨h.lt, fun i hi => ?_⟩
  match i, hi with
  | 0, _ => exact ⟨A1, c1, h.cell 0, h1⟩
  | 1, _ => exact ⟨A2, c2, h.cell 1, h2⟩
  | 2, _ => exact ⟨A3, c3, h.cell 2, h3⟩
theorem parts2 {w : World} {q : Nat} {t : TypeId} {A1 A2 : Option Addr} {n1 n2 c1 c2 : Nat} (h : Blk w q t #[.slice A1 n1 c1, .slice A2 n2 c2]) {l1 l2 : List Int} (e1 : n1 = l1.length) (e2 : n2 = l2.length)
    (h1 : Bs w A1 l1) (h2 : Bs w A2 l2) : Parts w q [l1, l2] := by
  subst e1 e2
  refine ⟨h.lt, fun i hi => ?_⟩
  match i, hi with
  | 0, _ => exact ⟨A1, c1, h.cell 0, h1⟩
  | 1, _ => exact ⟨A2, c2, h.cell 1, h2⟩
theorem blk_set2 {w : World} {g : Nat} {t : TypeId} {a b : Value} (h : Blk w g t #[a, b]) (u v : Value) : Blk ((w.setCell ⟨g, 0, none⟩ u).setCell ⟨g, 1, none⟩ v) g t #[u, v] := by
  have h1 := heap_setCell_same w g 0 _ _ u h
  have h2 := heap_setCell_same _ g 1 _ _ v h1
  unfold Blk
  rw [h2]
  rfl
/-- What PackChunk's last region reads: the chunk in its block, the head in its. -/
structure PcM (g h : Nat) (k f : Int) (A : Option Addr) (b : List Int) (c : Nat) (W : World) : Prop where
  ck : Blk W g 25 #[.int .i64 k, .int .i64 f, .slice A b.length c]
  hh : Blk W h 5 #[.int .u8 k, .int .u8 f, .int .u8 ((4 + (b.length : Int)) / 256), .int .u8 (4 + (b.length : Int))]
theorem PcM.below {g h : Nat} {k f : Int} {A : Option Addr} {b : List Int} {c : Nat} {u v : World} (x : PcM g h k f A b c u) (hb : Below u.heap.size u v) : PcM g h k f A b c v := ⟨x.ck.below hb, x.hh.below hb⟩
theorem PcM.set {g h : Nat} {k f : Int} {A : Option Addr} {b : List Int} {c : Nat} {u : World} (x : PcM g h k f A b c u) (r o : Nat) (hg : g ≠ r) (hh : h ≠ r) (v : Value) : PcM g h k f A b c (u.setCell ⟨r, o, none⟩ v) :=
  ⟨(win_set u r o v).blk x.ck (by omega), (win_set u r o v).blk x.hh (by omega)⟩
theorem PcM.hd {g h : Nat} {k f : Int} {A : Option Addr} {b : List Int} {c : Nat} {u : World} (x : PcM g h k f A b c u) : Bs u (some ⟨h, 0, none⟩) [k, f, (4 + (b.length : Int)) / 256, 4 + (b.length : Int)] :=
  .inr ⟨h, 0, rfl, x.hh.lt, fun j hj => by
    rw [Nat.zero_add, x.hh.cell]
    match j, hj with
    | 0, _ => rfl
    | 1, _ => rfl
    | 2, _ => rfl
    | 3, _ => rfl⟩
set_option maxRecDepth 100000 in
set_option maxHeartbeats 1000000 in
theorem regPc {Q : Exit → Act → World → Prop} (x0 x3 x4 x6 x7 x8 x9 x10 x11 x12 x13 x14 x15 x16 x17 x18 x19 x20 x21 x22 x23 x24 x25 x26 x27 : Value) (ws : World) (g r h : Nat) (k f : Int) (A : Option Addr) (b : List Int) (c : Nat) (L : List Int) (p : Nat) (hp : Hid (p = chPad b.length)) (hb0 : (b.length : Int) ≤ 160) (HB : Hid (Bs ws A b)) (hgr : g ≠ r) (hhr : h ≠ r) (hr0 : ws.heap.size ≤ r)
    (CON : ∀ (u : World) (q : Nat), Parts u q [[k, f, (4 + (b.length : Int)) / 256, 4 + (b.length : Int)], b, List.replicate p 0] → Calls Tryz.prog 160 #[.slice (some ⟨q, 0, none⟩) 3 3] u (OwnB u L)) {ops : Array Oper}
    (hops : (ops.map fun o => (o.op, o.dst, o.guard)) = #[(Op.move (Operand.tmp 5), some 28, none), (Op.fieldAddr 25 (Operand.tmp 1) 2, some 29, none), (Op.load 22 (Operand.tmp 29), some 30, none), (Op.fieldAddr 25 (Operand.tmp 1) 2, some 31, none), (Op.load 22 (Operand.tmp 31), some 32, none), (Op.call { callee := Callee.value (Operand.func 161), args := #[(Operand.tmp 32)], argTypes := #[22] }, some 33, none), (Op.makeSlice 22 (Operand.tmp 33) (Operand.tmp 33), some 34, none), (Op.buildSlice 252 3 #[(0, (Operand.tmp 28)), (1, (Operand.tmp 30)), (2, (Operand.tmp 34))], some 35, none), (Op.call { callee := Callee.value (Operand.func 160), args := #[(Operand.tmp 35)], argTypes := #[252] }, some 36, none), (Op.build 131 #[(1, (Operand.tmp 36))], some 37, none), (Op.store 131 (Operand.tmp 2) (Operand.tmp 37), none, none)])
    (hdeps : ((List.range 11).all fun i => ((fun i => [[], [], [1], [], [3], [4], [5], [0, 2, 6], [7], [8], [0, 1, 2, 3, 4, 5, 6, 7, 8, 9]].getD i []) i).all fun j => ((ops[i]?).map fun o => o.after.any fun e => Region.binds .any e && e.on == j).getD false) = true)
    (hback : ((List.range 11).all fun i => ((ops[i]?).map fun o => o.after.all fun e => decide (e.on < i)).getD false) = true)
    {a0 : Act} {w0 : World} (ha : a0 = { tmps := #[x0, .pointer (some ⟨g, 0, none⟩), .pointer (some ⟨r, 0, none⟩), x3, x4, .slice (some ⟨h, 0, none⟩) 4 4, x6, x7, x8, x9, x10, x11, x12, x13, x14, x15, x16, x17, x18, x19, x20, x21, x22, x23, x24, x25, x26, x27, undef, undef, undef, undef, undef, undef, undef, undef, undef, undef], defers := [] }) (hE : (false = true → false = true) ∧ (false = true → false = true) ∧ (false = true → false = true) ∧ (false = true → false = true)) (hM : PcM g h k f A b c w0) (hR : false = false → Blk w0 r 131 #[.int .i64 0, .slice none 0 0]) (hW : Below ws.heap.size ws w0) (hS : w0.heap.size ≤ w0.heap.size) (hr1 : r < w0.heap.size)
    (fin : ∀ t28 t29 t30 t31 t32 t33 t34 t35 t36 t37 (W : World), (Below ws.heap.size ws W) → (∃ (A8 : Option Addr) (c8 : Nat), Blk W r 131 #[.int .i64 0, (.slice A8 L.length c8)] ∧ W.ownsRow w0.heap.size 5 1 (.slice A8 L.length c8) L.length (L.map (Value.int .u8)) ∧ L.length ≤ c8 ∧ (c8 : Int) ≤ 9223372036854775807) → Q .normal { tmps := #[x0, .pointer (some ⟨g, 0, none⟩), .pointer (some ⟨r, 0, none⟩), x3, x4, .slice (some ⟨h, 0, none⟩) 4 4, x6, x7, x8, x9, x10, x11, x12, x13, x14, x15, x16, x17, x18, x19, x20, x21, x22, x23, x24, x25, x26, x27, t28, t29, t30, t31, t32, t33, t34, t35, t36, t37], defers := [] } W) :
    wpAny Tryz.prog .any ops Q ops.size (Array.replicate ops.size false) a0 w0 := by
  have hn : ops.size = 11 := by have := congrArg Array.size hops; simpa using this
  obtain ⟨J, HJ⟩ : ∃ J : (Nat → Bool) → Act → World → Prop, ∀ dn ac W, J dn ac W ↔ (fun dn ac W => ∃ t28 t29 t30 t31 t32 t33 t34 t35 t36 t37, ac = { tmps := #[x0, .pointer (some ⟨g, 0, none⟩), .pointer (some ⟨r, 0, none⟩), x3, x4, .slice (some ⟨h, 0, none⟩) 4 4, x6, x7, x8, x9, x10, x11, x12, x13, x14, x15, x16, x17, x18, x19, x20, x21, x22, x23, x24, x25, x26, x27, t28, t29, t30, t31, t32, t33, t34, t35, t36, t37], defers := [] } ∧ ((dn 10 = true → dn 9 = true) ∧ (dn 9 = true → dn 8 = true) ∧ (dn 8 = true → dn 7 = true) ∧ (dn 7 = true → dn 6 = true)) ∧ (PcM g h k f A b c W) ∧ (dn 10 = false → Blk W r 131 #[.int .i64 0, .slice none 0 0]) ∧ (Below ws.heap.size ws W) ∧ (w0.heap.size ≤ W.heap.size) ∧ (r < w0.heap.size) ∧ (dn 0 = true → t28 = .slice (some ⟨h, 0, none⟩) 4 4) ∧ (dn 1 = true → t29 = .pointer (some ⟨g, 2, none⟩)) ∧ (dn 2 = true → t30 = .slice A b.length c) ∧ (dn 3 = true → t31 = .pointer (some ⟨g, 2, none⟩)) ∧ (dn 4 = true → t32 = .slice A b.length c) ∧ (dn 5 = true → t33 = .int .i64 ((p : Nat) : Int)) ∧ (dn 6 = true → dn 7 = false → ∃ (z : Nat), t34 = .slice (some ⟨z, 0, none⟩) p p ∧ Bs W (some ⟨z, 0, none⟩) (List.replicate p 0)) ∧ (dn 7 = true → dn 8 = false → ∃ (q : Nat), t35 = .slice (some ⟨q, 0, none⟩) 3 3 ∧ Parts W q [[k, f, (4 + (b.length : Int)) / 256, 4 + (b.length : Int)], b, List.replicate p 0]) ∧ (dn 8 = true → dn 9 = false → ∃ (A8 : Option Addr) (c8 : Nat), t36 = (.slice A8 L.length c8) ∧ W.ownsRow w0.heap.size 5 1 (.slice A8 L.length c8) L.length (L.map (Value.int .u8)) ∧ L.length ≤ c8 ∧ (c8 : Int) ≤ 9223372036854775807) ∧ (dn 9 = true → dn 10 = false → ∃ (A8 : Option Addr) (c8 : Nat), t37 = .agg #[.int .i64 0, (.slice A8 L.length c8)] ∧ W.ownsRow w0.heap.size 5 1 (.slice A8 L.length c8) L.length (L.map (Value.int .u8)) ∧ L.length ≤ c8 ∧ (c8 : Int) ≤ 9223372036854775807) ∧ (dn 10 = true → ∃ (A8 : Option Addr) (c8 : Nat), Blk W r 131 #[.int .i64 0, (.slice A8 L.length c8)] ∧ W.ownsRow w0.heap.size 5 1 (.slice A8 L.length c8) L.length (L.map (Value.int .u8)) ∧ L.length ≤ c8 ∧ (c8 : Int) ≤ 9223372036854775807)) dn ac W := ⟨_, fun _ _ _ => Iff.rfl⟩
  replace HJ := hidH HJ
  refine region_inv 11 (fun i => [[], [], [1], [], [3], [4], [5], [0, 2, 6], [7], [8], [0, 1, 2, 3, 4, 5, 6, 7, 8, 9]].getD i []) J hn hdeps hback ?start ?step ?fin
  case start => exact (HJ.out _ _ _).2 ⟨undef, undef, undef, undef, undef, undef, undef, undef, undef, undef, ha, hE, hM, hR, hW, hS, hr1, fun h => by simp at h, fun h => by simp at h, fun h => by simp at h, fun h => by simp at h, fun h => by simp at h, fun h => by simp at h, fun h => by simp at h, fun h => by simp at h, fun h => by simp at h, fun h => by simp at h, fun h => by simp at h⟩
  all_goals clear ha hE hM hR hW hS hr1
  case step =>
    clear fin hdeps hback
    intro i hi dn ac W hJ hdn hdep
    obtain ⟨t28, t29, t30, t31, t32, t33, t34, t35, t36, t37, rfl, hE, hM, hR, hW, hS, hr1, h0, h1, h2, h3, h4, h5, h6, h7, h8, h9, h10⟩ := (HJ.out _ _ _).1 hJ
    clear hJ
    match i, hi with
    | 0, _ =>
      obtain ⟨ty, ps, af, ho⟩ := op_lit hops (i := 0) (op := Op.move (Operand.tmp 5)) (dst := some 28) (g := none) rfl
      refine wpOp_lit ho (fun j b h => by cases h) ?_
      clear hops hdep ho
      replace h1 := hidH h1
      replace h2 := hidH h2
      replace h3 := hidH h3
      replace h4 := hidH h4
      replace h5 := hidH h5
      replace h6 := hidH h6
      replace h7 := hidH h7
      replace h8 := hidH h8
      replace h9 := hidH h9
      replace h10 := hidH h10
      go_wp2
      exact (HJ.out _ _ _).2 ⟨_, _, _, _, _, _, _, _, _, _, rfl, hE, hM, hR, hW, hS, hr1, fun _ => rfl, h1.out, h2.out, h3.out, h4.out, h5.out, h6.out, h7.out, h8.out, h9.out, h10.out⟩
    | 1, _ =>
      obtain ⟨ty, ps, af, ho⟩ := op_lit hops (i := 1) (op := Op.fieldAddr 25 (Operand.tmp 1) 2) (dst := some 29) (g := none) rfl
      refine wpOp_lit ho (fun j b h => by cases h) ?_
      clear hops hdep ho
      replace h0 := hidH h0
      replace h2 := hidH h2
      replace h3 := hidH h3
      replace h4 := hidH h4
      replace h5 := hidH h5
      replace h6 := hidH h6
      replace h7 := hidH h7
      replace h8 := hidH h8
      replace h9 := hidH h9
      replace h10 := hidH h10
      go_wp2
      exact (HJ.out _ _ _).2 ⟨_, _, _, _, _, _, _, _, _, _, rfl, hE, hM, hR, hW, hS, hr1, h0.out, fun _ => rfl, h2.out, h3.out, h4.out, h5.out, h6.out, h7.out, h8.out, h9.out, h10.out⟩
    | 2, _ =>
      obtain ⟨ty, ps, af, ho⟩ := op_lit hops (i := 2) (op := Op.load 22 (Operand.tmp 29)) (dst := some 30) (g := none) rfl
      obtain rfl := h1 (hdep 1 (by simp))
      refine wpOp_lit ho (fun j b h => by cases h) ?_
      clear hops hdep ho
      replace h0 := hidH h0
      replace h1 := hidH h1
      replace h3 := hidH h3
      replace h4 := hidH h4
      replace h5 := hidH h5
      replace h6 := hidH h6
      replace h7 := hidH h7
      replace h8 := hidH h8
      replace h9 := hidH h9
      replace h10 := hidH h10
      have q2 := hM.ck.cell 2
      simp only [List.getElem?_toArray, List.getElem?_cons_succ, List.getElem?_cons_zero] at q2
      go_wp2
      exact (HJ.out _ _ _).2 ⟨_, _, _, _, _, _, _, _, _, _, rfl, hE, hM, hR, hW, hS, hr1, h0.out, fun _ => rfl, fun _ => rfl, h3.out, h4.out, h5.out, h6.out, h7.out, h8.out, h9.out, h10.out⟩
    | 3, _ =>
      obtain ⟨ty, ps, af, ho⟩ := op_lit hops (i := 3) (op := Op.fieldAddr 25 (Operand.tmp 1) 2) (dst := some 31) (g := none) rfl
      refine wpOp_lit ho (fun j b h => by cases h) ?_
      clear hops hdep ho
      replace h0 := hidH h0
      replace h1 := hidH h1
      replace h2 := hidH h2
      replace h4 := hidH h4
      replace h5 := hidH h5
      replace h6 := hidH h6
      replace h7 := hidH h7
      replace h8 := hidH h8
      replace h9 := hidH h9
      replace h10 := hidH h10
      go_wp2
      exact (HJ.out _ _ _).2 ⟨_, _, _, _, _, _, _, _, _, _, rfl, hE, hM, hR, hW, hS, hr1, h0.out, h1.out, h2.out, fun _ => rfl, h4.out, h5.out, h6.out, h7.out, h8.out, h9.out, h10.out⟩
    | 4, _ =>
      obtain ⟨ty, ps, af, ho⟩ := op_lit hops (i := 4) (op := Op.load 22 (Operand.tmp 31)) (dst := some 32) (g := none) rfl
      obtain rfl := h3 (hdep 3 (by simp))
      refine wpOp_lit ho (fun j b h => by cases h) ?_
      clear hops hdep ho
      replace h0 := hidH h0
      replace h1 := hidH h1
      replace h2 := hidH h2
      replace h3 := hidH h3
      replace h5 := hidH h5
      replace h6 := hidH h6
      replace h7 := hidH h7
      replace h8 := hidH h8
      replace h9 := hidH h9
      replace h10 := hidH h10
      have q2 := hM.ck.cell 2
      simp only [List.getElem?_toArray, List.getElem?_cons_succ, List.getElem?_cons_zero] at q2
      go_wp2
      exact (HJ.out _ _ _).2 ⟨_, _, _, _, _, _, _, _, _, _, rfl, hE, hM, hR, hW, hS, hr1, h0.out, h1.out, h2.out, fun _ => rfl, fun _ => rfl, h5.out, h6.out, h7.out, h8.out, h9.out, h10.out⟩
    | 5, _ =>
      obtain ⟨ty, ps, af, ho⟩ := op_lit hops (i := 5) (op := Op.call { callee := Callee.value (Operand.func 161), args := #[(Operand.tmp 32)], argTypes := #[22] }) (dst := some 33) (g := none) rfl
      obtain rfl := h4 (hdep 4 (by simp))
      refine wpOp_lit ho (fun j b h => by cases h) ?_
      clear hops hdep ho
      replace h0 := hidH h0
      replace h1 := hidH h1
      replace h2 := hidH h2
      replace h3 := hidH h3
      replace h4 := hidH h4
      replace h6 := hidH h6
      replace h7 := hidH h7
      replace h8 := hidH h8
      replace h9 := hidH h9
      replace h10 := hidH h10
      go_wp2_with fail
      refine (padz_any A b.length c _ (by omega)).mono ?_
      rintro e w1 ⟨rfl, rfl⟩
      rw [← hp.out]
      go_wp2
      exact (HJ.out _ _ _).2 ⟨_, _, _, _, _, _, _, _, _, _, rfl, hE, hM, hR, hW, hS, hr1, h0.out, h1.out, h2.out, h3.out, fun _ => rfl, fun _ => rfl, h6.out, h7.out, h8.out, h9.out, h10.out⟩
    | 6, _ =>
      obtain ⟨ty, ps, af, ho⟩ := op_lit hops (i := 6) (op := Op.makeSlice 22 (Operand.tmp 33) (Operand.tmp 33)) (dst := some 34) (g := none) rfl
      obtain rfl := h5 (hdep 5 (by simp))
      refine wpOp_lit ho (fun j b h => by cases h) ?_
      clear hops hdep ho
      replace h0 := hidH h0
      replace h1 := hidH h1
      replace h2 := hidH h2
      replace h3 := hidH h3
      replace h4 := hidH h4
      replace h5 := hidH h5
      replace h7 := hidH h7
      replace h8 := hidH h8
      replace h9 := hidH h9
      replace h10 := hidH h10
      obtain ⟨i0, hi, hz0, hz1, hz2⟩ := info_parts infoU8
      have HI := hidH (And.intro hi (And.intro hz0 (And.intro hz1 hz2)))
      clear hi hz0 hz1 hz2
      have hp4 : p < 4 := by rw [hp.out]; unfold chPad; omega
      go_wp2_with (refine wpList_make_full _ rfl _ _ _ rfl W.heap.size 5 i0 _ 1 Tryz.underlying22 HI.out.1 HI.out.2.1 HI.out.2.2.1 .i64 .i64 _ _ p rfl rfl rfl rfl (by rw [HI.out.2.2.2]; omega) (by unfold maxLen; omega) (Nat.le_refl _) ?_)
      intro w2 o2 g2
      have hb := (Below.refl W.heap.size W).grown g2 (Nat.le_refl _) (fun k hk => by cases hk)
      have S6 := hidH (zeros_bs o2)
      clear o2 g2
      go_wp2
      exact (HJ.out _ _ _).2 ⟨_, _, _, _, _, _, _, _, _, _, rfl, ⟨hE.1, hE.2.1, hE.2.2.1, fun _ => rfl⟩, hM.below hb, fun h => (hR h).below hb, btr hW hb, Nat.le_trans hS hb.size, hr1, h0.out, h1.out, h2.out, h3.out, h4.out, fun _ => rfl, fun _ => fun _ => ⟨_, rfl, S6.out⟩, fun h h2 => by obtain ⟨q, q1, q2⟩ := h7.out h h2; exact ⟨q, q1, q2.below hb⟩, fun h h2 => by obtain ⟨A8, c8, q1, q2, q3⟩ := h8.out h h2; exact ⟨A8, c8, q1, own_below0 q2 hb, q3⟩, fun h h2 => by obtain ⟨A8, c8, q1, q2, q3⟩ := h9.out h h2; exact ⟨A8, c8, q1, own_below0 q2 hb, q3⟩, (fun h => by have h3 : dn 6 = true := hE.2.2.2 (hE.2.2.1 (hE.2.1 (hE.1 h))); rw [hdn] at h3; cases h3)⟩
    | 7, _ =>
      obtain ⟨ty, ps, af, ho⟩ := op_lit hops (i := 7) (op := Op.buildSlice 252 3 #[(0, (Operand.tmp 28)), (1, (Operand.tmp 30)), (2, (Operand.tmp 34))]) (dst := some 35) (g := none) rfl
      have hd6 := hidH (hdep 6 (by simp))
      obtain ⟨z, rfl, q2⟩ := h6 (hdep 6 (by simp)) hdn
      obtain rfl := h0 (hdep 0 (by simp))
      obtain rfl := h2 (hdep 2 (by simp))
      refine wpOp_lit ho (fun j b h => by cases h) ?_
      clear hops hdep ho
      replace h0 := hidH h0
      replace h1 := hidH h1
      replace h2 := hidH h2
      replace h3 := hidH h3
      replace h4 := hidH h4
      replace h5 := hidH h5
      replace h6 := hidH h6
      replace h8 := hidH h8
      replace h9 := hidH h9
      replace h10 := hidH h10
      go_wp2
      have hb := bal (Below.refl W.heap.size W) (.cells #[.slice (some ⟨h, 0, none⟩) 4 4, .slice A b.length c, .slice (some ⟨z, 0, none⟩) p p] 22)
      have hbd := bs_below HB.out hW
      have S7 := hidH (parts3 (Blk.new W 22 #[.slice (some ⟨h, 0, none⟩) 4 4, .slice A b.length c, .slice (some ⟨z, 0, none⟩) p p]) (l1 := [k, f, (4 + (b.length : Int)) / 256, 4 + (b.length : Int)]) (l2 := b) (l3 := List.replicate p 0) rfl rfl List.length_replicate.symm (bs_below hM.hd hb) (bs_below hbd hb) (bs_below q2 hb))
      exact (HJ.out _ _ _).2 ⟨_, _, _, _, _, _, _, _, _, _, rfl, ⟨hE.1, hE.2.1, fun _ => rfl, fun _ => hd6.out⟩, hM.below hb, fun h => (hR h).below hb, btr hW hb, Nat.le_trans hS hb.size, hr1, fun _ => rfl, h1.out, fun _ => rfl, h3.out, h4.out, h5.out, (fun _ h2 => by simp at h2), fun _ => fun _ => ⟨_, rfl, S7.out⟩, fun h h2 => by obtain ⟨A8, c8, q1, q2, q3⟩ := h8.out h h2; exact ⟨A8, c8, q1, own_below0 q2 hb, q3⟩, fun h h2 => by obtain ⟨A8, c8, q1, q2, q3⟩ := h9.out h h2; exact ⟨A8, c8, q1, own_below0 q2 hb, q3⟩, (fun h => by have h3 : dn 7 = true := hE.2.2.1 (hE.2.1 (hE.1 h)); rw [hdn] at h3; cases h3)⟩
    | 8, _ =>
      obtain ⟨ty, ps, af, ho⟩ := op_lit hops (i := 8) (op := Op.call { callee := Callee.value (Operand.func 160), args := #[(Operand.tmp 35)], argTypes := #[252] }) (dst := some 36) (g := none) rfl
      have hd7 := hidH (hdep 7 (by simp))
      obtain ⟨q, rfl, q2⟩ := h7 (hdep 7 (by simp)) hdn
      refine wpOp_lit ho (fun j b h => by cases h) ?_
      clear hops hdep ho
      replace h0 := hidH h0
      replace h1 := hidH h1
      replace h2 := hidH h2
      replace h3 := hidH h3
      replace h4 := hidH h4
      replace h5 := hidH h5
      replace h6 := hidH h6
      replace h7 := hidH h7
      replace h9 := hidH h9
      replace h10 := hidH h10
      go_wp2_with fail
      refine (CON _ q q2).mono ?_
      rintro e w1 ⟨v, rfl, ow, hb⟩
      obtain ⟨A8, c8, rfl, _, h81, h82⟩ := own_ob ow
      have o8 := hidH (own_mono ow hS)
      have hc8 := hidH (And.intro h81 h82)
      clear ow h81 h82
      go_wp2
      exact (HJ.out _ _ _).2 ⟨_, _, _, _, _, _, _, _, _, _, rfl, ⟨hE.1, fun _ => rfl, fun _ => hd7.out, hE.2.2.2⟩, hM.below hb, fun h => (hR h).below hb, btr hW hb, Nat.le_trans hS hb.size, hr1, h0.out, h1.out, h2.out, h3.out, h4.out, h5.out, fun h h2 => by obtain ⟨z, q1, q2⟩ := h6.out h h2; exact ⟨z, q1, bs_below q2 hb⟩, (fun _ h2 => by simp at h2), fun _ => fun _ => ⟨A8, c8, rfl, o8.out, hc8.out⟩, fun h h2 => by obtain ⟨A8, c8, q1, q2, q3⟩ := h9.out h h2; exact ⟨A8, c8, q1, own_below0 q2 hb, q3⟩, (fun h => by have h3 : dn 8 = true := hE.2.1 (hE.1 h); rw [hdn] at h3; cases h3)⟩
    | 9, _ =>
      obtain ⟨ty, ps, af, ho⟩ := op_lit hops (i := 9) (op := Op.build 131 #[(1, (Operand.tmp 36))]) (dst := some 37) (g := none) rfl
      have hd8 := hidH (hdep 8 (by simp))
      obtain ⟨A8, c8, rfl, q2, q3⟩ := h8 (hdep 8 (by simp)) hdn
      refine wpOp_lit ho (fun j b h => by cases h) ?_
      clear hops hdep ho
      replace h0 := hidH h0
      replace h1 := hidH h1
      replace h2 := hidH h2
      replace h3 := hidH h3
      replace h4 := hidH h4
      replace h5 := hidH h5
      replace h6 := hidH h6
      replace h7 := hidH h7
      replace h8 := hidH h8
      replace h10 := hidH h10
      have hb := Below.refl W.heap.size W
      go_wp2
      exact (HJ.out _ _ _).2 ⟨_, _, _, _, _, _, _, _, _, _, rfl, ⟨fun _ => rfl, fun _ => hd8.out, hE.2.2⟩, hM.below hb, fun h => (hR h).below hb, btr hW hb, Nat.le_trans hS hb.size, hr1, h0.out, h1.out, h2.out, h3.out, h4.out, h5.out, fun h h2 => by obtain ⟨z, q1, q2⟩ := h6.out h h2; exact ⟨z, q1, bs_below q2 hb⟩, fun h h2 => by obtain ⟨q, q1, q2⟩ := h7.out h h2; exact ⟨q, q1, q2.below hb⟩, (fun _ h2 => by simp at h2), fun _ => fun _ => ⟨A8, c8, rfl, q2, q3⟩, (fun h => by have h3 : dn 9 = true := hE.1 h; rw [hdn] at h3; cases h3)⟩
    | 10, _ =>
      obtain ⟨ty, ps, af, ho⟩ := op_lit hops (i := 10) (op := Op.store 131 (Operand.tmp 2) (Operand.tmp 37)) (dst := none) (g := none) rfl
      obtain ⟨A8, c8, rfl, q2, q3⟩ := h9 (hdep 9 (by simp)) hdn
      have hd7 := hidH (hdep 7 (by simp))
      have hd8 := hidH (hdep 8 (by simp))
      have hd9 := hidH (hdep 9 (by simp))
      refine wpOp_lit ho (fun j b h => by cases h) ?_
      clear hops hdep ho
      replace h0 := hidH h0
      replace h1 := hidH h1
      replace h2 := hidH h2
      replace h3 := hidH h3
      replace h4 := hidH h4
      replace h5 := hidH h5
      replace h6 := hidH h6
      replace h7 := hidH h7
      replace h8 := hidH h8
      replace h9 := hidH h9
      have RR := hR hdn
      obtain ⟨x0, x1, xz⟩ := RR.two
      have f0 := RR.frozen 0
      have f1 := RR.frozen 1
      have RS := hidH (blk_set2 RR (.int .i64 0) (.slice A8 L.length c8))
      go_wp2
      exact (HJ.out _ _ _).2 ⟨_, _, _, _, _, _, _, _, _, _, rfl, ⟨fun _ => hd9.out, hE.2⟩, (hM.set r 0 hgr hhr _).set r 1 hgr hhr _, (fun h => by simp at h), bst (bst hW hr0 _) hr0 _, (by simpa [World.setCell] using hS), hr1, h0.out, h1.out, h2.out, h3.out, h4.out, h5.out, (fun _ h2 => by have h3 : dn 7 = false := h2; rw [hd7.out] at h3; cases h3), (fun _ h2 => by have h3 : dn 8 = false := h2; rw [hd8.out] at h3; cases h3), (fun _ h2 => by have h3 : dn 9 = false := h2; rw [hd9.out] at h3; cases h3), (fun _ h2 => by simp at h2), fun _ => ⟨A8, c8, RS.out, own_kept (own_kept q2 (win_set _ _ _ _) (by omega)) (win_set _ _ _ _) (by omega), q3⟩⟩
    | n + 11, h => omega
  case fin =>
    clear hops hdeps hback
    rintro dn ac W hJ hall
    obtain ⟨t28, t29, t30, t31, t32, t33, t34, t35, t36, t37, rfl, hE, hM, hR, hW, hS, hr1, h0, h1, h2, h3, h4, h5, h6, h7, h8, h9, h10⟩ := (HJ.out _ _ _).1 hJ
    exact fin _ _ _ _ _ _ _ _ _ _ W hW (h10 (hall 10 (by omega)))
end Go.Proofs.YtacdnednkglobaaGreatDoor

/- The program's PackChunk: its bytes in a row of their own. -/
namespace Go.Proofs.YtacdnednkglobaaGreatDoor
open Go.RowKit Go.Deep

def BOwn (w : World) (c : Int) (l : List Int) (e : Ending) (w' : World) : Prop :=
  ∃ (A : Option Addr) (cp : Nat), e = .returned (.agg #[.int .i64 c, .slice A l.length cp]) ∧ w'.ownsRow w.heap.size 5 1 (.slice A l.length cp) l.length (l.map (Value.int .u8)) ∧ Below w.heap.size w w'
set_option maxHeartbeats 2000000 in
theorem packChunk_own (k f : Int) (A : Option Addr) (b : List Int) (c : Nat) (w : World) (hA : Bs w A b) (hm : (b.length : Int) ≤ 9223372036854775807) :
    Calls Tryz.prog 142 #[ckV k f A b.length c] w (BOwn w (chF k f b) (chM k f b)) := by
  have K1 := Blk.new w 25 #[.int .i64 k, .int .i64 f, .slice A b.length c]
  have B1 := bal (Below.refl w.heap.size w) (.cells #[.int .i64 k, .int .i64 f, .slice A b.length c] 25)
  have S1 := bs_below hA (bal (Below.refl _ w) (.cells #[.int .i64 k, .int .i64 f, .slice A b.length c] 25))
  obtain ⟨w1, hw1⟩ : ∃ w1, w.alloc (.cells #[.int .i64 k, .int .i64 f, .slice A b.length c] 25) = w1 := ⟨_, rfl⟩
  rw [hw1] at K1 B1 S1
  have hlt : w.heap.size < w1.heap.size := K1.lt
  have K2 := K1.alloc (.cells #[.int .i64 0, .slice none 0 0] 131)
  have B2 := bal B1 (.cells #[.int .i64 0, .slice none 0 0] 131)
  have S2 := bs_below S1 (bal (Below.refl _ w1) (.cells #[.int .i64 0, .slice none 0 0] 131))
  have R2 := Blk.new w1 131 #[.int .i64 0, .slice none 0 0]
  obtain ⟨w2, hw2⟩ : ∃ w2, w1.alloc (.cells #[.int .i64 0, .slice none 0 0] 131) = w2 := ⟨_, rfl⟩
  have hs1 : w1.heap.size = w.heap.size + 1 := by rw [← hw1]; simp
  rw [hw2, hs1] at R2
  rw [hw2] at K2 B2 S2
  have HW1 := hidH hw1
  have HW2 := hidH hw2
  have HK := hidH K2
  have HB := hidH B2
  have HS := hidH S2
  have HR := hidH R2
  have hF := hidH (fun u => chFault_impl k f A b c u hm)
  unfold ckV at hF ⊢
  have HBS := hidH hA
  clear hw1 hw2 K1 B1 S1 K2 B2 S2 R2 hA hs1 hlt
  go_enter Tryz.func142, Tryz.ntmps142
  go_wp2_with fail
  rw [HW1.out, HW2.out]
  refine (hF.out _).mono ?_
  rintro e w3 ⟨rfl, b3⟩
  have K3 := HK.out.below b3
  have B3 := hidH (btr HB.out b3)
  have S3 := bs_below HS.out b3
  have R3 := hidH (HR.out.below b3)
  clear HW1 HW2 HK HB HS HR hF b3
  by_cases hz : chF k f b = 0
  · obtain ⟨⟨hk0, hk1⟩, ⟨hf0, hf1⟩, hb⟩ := chF_zero hz
    have hM : chM k f b = chL k f b := by rw [chM, if_pos hz]
    have HZM := hidH (And.intro hz hM)
    rw [hz]
    have hbI : (b.length : Int) ≤ 160 := by omega
    have K3' := hidH K3
    have S3' := hidH S3
    have x0 := K3.cell 0
    have x1 := K3.cell 1
    have x2 := K3.cell 2
    simp only [List.getElem?_toArray, List.getElem?_cons_succ, List.getElem?_cons_zero] at x0 x1 x2
    have hlt := K3.lt
    clear hz hM K3 S3 hb
    go_wp2_with fail
    have B4 := hidH (bal B3.out (.cells #[.int .u8 k, .int .u8 f, .int .u8 ((4 + (b.length : Int)) / 256), .int .u8 (4 + (b.length : Int))] 5))
    have K4 := K3'.out.alloc (.cells #[.int .u8 k, .int .u8 f, .int .u8 ((4 + (b.length : Int)) / 256), .int .u8 (4 + (b.length : Int))] 5)
    have S4 := bs_below S3'.out (bal (Below.refl _ _) (.cells #[.int .u8 k, .int .u8 f, .int .u8 ((4 + (b.length : Int)) / 256), .int .u8 (4 + (b.length : Int))] 5))
    have R4 := R3.out.alloc (.cells #[.int .u8 k, .int .u8 f, .int .u8 ((4 + (b.length : Int)) / 256), .int .u8 (4 + (b.length : Int))] 5)
    have H4 := lit_bs w3 5 [k, f, (4 + (b.length : Int)) / 256, 4 + (b.length : Int)]
    have H4' := Blk.new w3 5 #[.int .u8 k, .int .u8 f, .int .u8 ((4 + (b.length : Int)) / 256), .int .u8 (4 + (b.length : Int))]
    have hz4 := K3'.out.lt
    have hz5 := R3.out.lt
    simp only [List.map_cons, List.map_nil, List.toArray] at H4
    obtain ⟨W4, hW4⟩ : ∃ W4, w3.alloc (.cells #[.int .u8 k, .int .u8 f, .int .u8 ((4 + (b.length : Int)) / 256), .int .u8 (4 + (b.length : Int))] 5) = W4 := ⟨_, rfl⟩
    rw [hW4] at B4 K4 S4 R4 H4 H4' ⊢
    have hs4 : W4.heap.size = w3.heap.size + 1 := by rw [← hW4]; simp
    clear hW4 x0 x1 x2 hlt
    have bd := (Below.refl W4.heap.size W4).drew
    have bdz := bd.size
    obtain ⟨p, hp⟩ : ∃ p, p = chPad b.length := ⟨_, rfl⟩
    have HP := hidH hp
    have hcat : ([[k, f, (4 + (b.length : Int)) / 256, 4 + (b.length : Int)], b, List.replicate p 0] : List (List Int)).flatten = chL k f b := by
      rw [hp]
      simp [chL]
      omega
    have hlen : (chL k f b).length ≤ 1000 := by rw [chL_len]; unfold chPad; omega
    have CON : ∀ (u : World) (q : Nat), Parts u q [[k, f, (4 + (b.length : Int)) / 256, 4 + (b.length : Int)], b, List.replicate p 0] → Calls Tryz.prog 160 #[.slice (some ⟨q, 0, none⟩) 3 3] u (OwnB u (chL k f b)) := by
      intro u q h
      rw [← hcat]
      exact concat_all q 3 _ u h (by simp) (by rw [hcat]; omega)
    have HCON := hidH CON
    have HM := hidH (PcM.mk (K4.below bd) (H4'.below bd) : PcM w.heap.size w3.heap.size k f A b c W4.drew)
    have HR4 := hidH (R4.below bd)
    have HB5 := hidH (btr B4.out bd)
    have HA := hidH (fun (u : World) (h : Below w.heap.size w u) => bs_below HBS.out h)
    obtain ⟨L, hL⟩ : ∃ L, chL k f b = L := ⟨_, rfl⟩
    rw [hL] at HCON hlen
    have HL := hidH hL
    clear hp hcat CON K4 H4' R4 B4 hL S4 H4
    have hrr : w.heap.size + 1 < W4.drew.heap.size := HR4.out.lt
    refine wp_region_any (by kernel_rfl) ?_
    refine regPc _ _ _ _ _ _ _ _ _ _ _ _ _ _ _ _ _ _ _ _ _ _ _ _ _ w w.heap.size (w.heap.size + 1) w3.heap.size k f A b c L p HP hbI HBS (by omega) (by omega) (by omega) HCON.out (by kernel_rfl) (by kernel_rfl) (by kernel_rfl) rfl ⟨fun h => h, fun h => h, fun h => h, fun h => h⟩ HM.out (fun _ => HR4.out) HB5.out (Nat.le_refl _) hrr ?_
    intros
    rename_i W hW hT
    obtain ⟨A8, c8, hR, hO, h81, h82⟩ := hT
    obtain ⟨x0, x1, xz⟩ := hR.two
    obtain ⟨A9, c9, hv, hob, _, _⟩ := own_ob hO
    simp only [Value.slice.injEq] at hv
    obtain ⟨rfl, _, rfl⟩ := hv
    have HO := hidH hO
    have HW := hidH hW
    have H8 := hidH (And.intro h81 h82)
    clear hR hO hob hW h81 h82
    go_wp2
    exact bodyPost_ret (v := .agg #[.int .i64 0, .slice A8 L.length c8]) (by simp [results, Tryz.results142, go_sem, x0, x1]) rfl (by rw [HZM.out.1, HZM.out.2, HL.out]; exact ⟨A8, c8, rfl, own_monoT HO.out (by omega), HW.out⟩)
  · have hM : chM k f b = [] := by rw [chM, if_neg hz]
    have HM := hidH hM
    have hne : (chF k f b != 0) = true := by rw [bne_iff_ne]; exact hz
    obtain ⟨F, hF⟩ : ∃ F, chF k f b = F := ⟨_, rfl⟩
    rw [hF] at hne
    have HF := hidH hF
    have R4 := R3.out
    obtain ⟨x0, x1, xz⟩ := R4.two
    have f0 := R4.frozen 0
    have f1 := R4.frozen 1
    rw [hF]
    clear R4 hz hM hF K3 S3
    go_wp2
    exact bodyPost_ret (v := .agg #[.int .i64 F, .slice none 0 0]) (by simp [results, Tryz.results142, go_sem, x0, x1]) rfl (by rw [HF.out, HM.out]; exact ⟨none, 0, rfl, ⟨rfl, .inl ⟨rfl, rfl⟩⟩, bst (bst B3.out (Nat.le_succ _) _) (Nat.le_succ _) _⟩)
end Go.Proofs.YtacdnednkglobaaGreatDoor

/- The program's byteWriter: put, number, pair, word, count, numbers. -/
namespace Go.Proofs.YtacdnednkglobaaGreatDoor
open Go.RowKit Go.Deep

/-- A writer in block r: what is written is l, in memory behind block r. -/
def WR (w : World) (r : Nat) (l : List Int) : Prop :=
  ∃ v, Blk w r 173 #[v] ∧ w.ownsRow (r + 1) 5 1 v l.length (l.map (Value.int .u8))
theorem WR.lt {w : World} {r : Nat} {l : List Int} (h : WR w r l) : r < w.heap.size := by
  obtain ⟨v, h1, _⟩ := h
  exact h1.lt
theorem wr_nil {w : World} {r : Nat} (h : Blk w r 173 #[.slice none 0 0]) : WR w r [] := ⟨_, h, rfl, .inl ⟨rfl, rfl⟩⟩
theorem WR.below {w w' : World} {r : Nat} {l : List Int} (h : WR w r l) (hb : Below w.heap.size w w') : WR w' r l := by
  obtain ⟨v, h1, h2⟩ := h
  exact ⟨v, h1.below hb, own_below0 h2 hb⟩
/-- Blocks of other types than bytes, but for the writer's own, are kept. -/
def OthK (r : Nat) (w w' : World) : Prop := ∀ (g : Nat) (t : TypeId) (cs : Array Value), g ≠ r → t ≠ 5 → Blk w g t cs → Blk w' g t cs
theorem OthK.of_below {r : Nat} {w w' : World} (hb : Below w.heap.size w w') : OthK r w w' := fun _ _ _ _ _ h => h.below hb
theorem OthK.trans {r : Nat} {a b c : World} (h : OthK r a b) (k : OthK r b c) : OthK r a c := fun g t cs hg ht x => k g t cs hg ht (h g t cs hg ht x)
/-- A call that wrote: what is written behind it; what lies below the writer is kept. -/
def Wrote (r : Nat) (l : List Int) (w : World) (e : Ending) (w' : World) : Prop := e = .returned (.tuple #[]) ∧ WR w' r l ∧ Below r w w' ∧ OthK r w w'
theorem bs_lo0 {w0 : World} {r : Nat} {A : Option Addr} {l : List Int} (h : Bs w0 A l) (h0 : w0.heap.size ≤ r) : ∀ a, A = some a → l = [] ∨ a.block < r := by
  rcases h with h | ⟨b, off, e, h1, _⟩
  · exact fun _ _ => .inl h
  · intro a e2
    rw [e] at e2
    obtain rfl := Option.some.inj e2
    exact .inr (Nat.lt_of_lt_of_le h1 h0)
theorem is_lo0 {w0 : World} {r : Nat} {A : Option Addr} {l : List Int} (h : Is w0 A l) (h0 : w0.heap.size ≤ r) : ∀ a, A = some a → l = [] ∨ a.block < r := by
  rcases h with h | ⟨b, off, e, h1, _⟩
  · exact fun _ _ => .inl h
  · intro a e2
    rw [e] at e2
    obtain rfl := Option.some.inj e2
    exact .inr (Nat.lt_of_lt_of_le h1 h0)
/-- What lies below a writer is read as before. -/
theorem bs_lo {w w' : World} {r : Nat} {A : Option Addr} {l : List Int} (h : Bs w A l) (hlo : ∀ a, A = some a → l = [] ∨ a.block < r) (hb : Below r w w') (_hr : r < w.heap.size) : Bs w' A l := by
  rcases h with h | ⟨b, off, e, h1, h2⟩
  · exact .inl h
  · rcases hlo _ e with h3 | h3
    · exact .inl h3
    · exact .inr ⟨b, off, e, Nat.lt_of_lt_of_le h1 hb.size, fun j hj => (hb.cell (p := ⟨b, off + j, none⟩) h3).trans (h2 j hj)⟩
theorem is_lo {w w' : World} {r : Nat} {A : Option Addr} {l : List Int} (h : Is w A l) (hlo : ∀ a, A = some a → l = [] ∨ a.block < r) (hb : Below r w w') (_hr : r < w.heap.size) : Is w' A l := by
  rcases h with h | ⟨b, off, e, h1, h2⟩
  · exact .inl h
  · rcases hlo _ e with h3 | h3
    · exact .inl h3
    · exact .inr ⟨b, off, e, Nat.lt_of_lt_of_le h1 hb.size, fun j hj => (hb.cell (p := ⟨b, off + j, none⟩) h3).trans (h2 j hj)⟩
set_option maxHeartbeats 1000000 in
theorem put_any (r : Nat) (l m : List Int) (A : Option Addr) (c : Nat) (w : World) (h : WR w r l) (hA : Bs w A m) (hm : l.length + m.length ≤ 100000) :
    Calls Tryz.prog 116 #[.pointer (some ⟨r, 0, none⟩), .slice A m.length c] w (Wrote r (l ++ m) w) := by
  obtain ⟨v, K, O⟩ := h
  have c0 := K.cell 0
  have hlt := K.lt
  simp only [List.getElem?_toArray, List.getElem?_cons_zero] at c0
  have HK := hidH K
  have HO := hidH O
  have HA := hidH hA
  have HM := hidH hm
  clear K O hA hm
  go_enter Tryz.func116, Tryz.ntmps116
  go_wp2_with (at_builtin; refine wpList_append_bs rfl _ _ rfl (r + 1) _ _ _ rfl HO.out A m c rfl HA.out (by have := HM.out; omega) hlt ?_)
  intro v2 w2 o2 g2
  have BB : Below (r + 1) w w2 := (Below.refl (r + 1) w).grown g2 hlt (fun x hx => (HO.out.lt x hx).1)
  have HOT := hidH (show OthK r w w2 from fun g t cs _ ht hk => by
    refine (g2.block g hk.lt (fun e => ?_)).trans hk
    rcases HO.out.2 with ⟨h1, _⟩ | ⟨g1, cap, cur, h1, _, h3, _⟩
    · rw [h1] at e; cases e
    · rw [h1] at e
      obtain rfl : g = g1 := by simpa [Value.ownBlock] using e
      have h4 : some (Obj.cells cur 5 (0, 0)) = some (Obj.cells cs t (0, 0)) := h3.symm.trans hk
      simp at h4
      exact ht h4.2.symm)
  have K2 : Blk w2 r 173 #[v] := (BB.block r (Nat.lt_succ_self r)).trans HK.out
  have hs2 := BB.size
  have d0 := K2.cell 0
  have f0 := K2.frozen 0
  simp only [List.getElem?_toArray, List.getElem?_cons_zero] at d0
  have o2' : w2.ownsRow (r + 1) 5 1 v2 (l ++ m).length ((l ++ m).map (Value.int .u8)) := by simpa using o2
  obtain ⟨A2, c2, e2, _⟩ := own_ob o2'
  have HO2 := hidH o2'
  obtain ⟨n2, hn2⟩ : ∃ n2, (l ++ m).length = n2 := ⟨_, rfl⟩
  rw [hn2] at e2
  subst e2
  have HB := hidH BB
  have HK2 := hidH K2
  clear o2 o2' g2 BB K2 c0 HK HO hn2
  go_wp2
  exact bodyPost_ret (v := .tuple #[]) (by simp [results, Tryz.results116, go_sem]) rfl ⟨rfl, ⟨_, HK2.out.put 0 _, own_kept HO2.out (set_win w2 r 0 _) (Nat.lt_succ_self r)⟩, (HB.out.mono (Nat.le_succ r)).trans ((set_win w2 r 0 _).below (by omega)), fun g t cs hg ht hk => (HOT.out g t cs hg ht hk).far (fun e => hg e.symm) _⟩
set_option maxHeartbeats 1000000 in
theorem wnumber_any (r : Nat) (l : List Int) (n : Int) (w : World) (h : WR w r l) (h0 : 0 ≤ n) (h1 : n ≤ 255) (hm : l.length ≤ 90000) :
    Calls Tryz.prog 220 #[.pointer (some ⟨r, 0, none⟩), .int .i64 n] w (Wrote r (l ++ [n]) w) := by
  have B1 := bal (Below.refl w.heap.size w) (.cells #[.int .u8 n] 5)
  have HP := hidH (put_any r l [n] (some ⟨w.heap.size, 0, none⟩) 1 _ (h.below B1) (lit_bs w 5 [n]) (by simp; omega))
  have HB := hidH (And.intro (B1.mono (Nat.le_of_lt h.lt)) (OthK.of_below (r := r) B1))
  clear h hm B1
  unfold Wrote at HP
  go_enter Tryz.func220, Tryz.ntmps220
  go_wp2_with fail
  refine HP.out.mono ?_
  rintro e w2 ⟨rfl, hw, hb, ho⟩
  have HR := hidH (And.intro hw (And.intro (HB.out.1.trans hb) (OthK.trans HB.out.2 ho)))
  clear HP hw hb ho
  go_wp2
  exact bodyPost_ret (v := .tuple #[]) (by simp [results, Tryz.results220, go_sem]) rfl ⟨rfl, HR.out⟩
set_option maxHeartbeats 1000000 in
theorem wpair_any (r : Nat) (l : List Int) (n : Int) (w : World) (h : WR w r l) (h0 : 0 ≤ n) (h1 : n ≤ 65535) (hm : l.length ≤ 90000) :
    Calls Tryz.prog 115 #[.pointer (some ⟨r, 0, none⟩), .int .i64 n] w (Wrote r (l ++ [n / 256, n % 256]) w) := by
  have B1 := bal (Below.refl w.heap.size w) (.cells #[.int .u8 (n / 256), .int .u8 (n % 256)] 5)
  have HP := hidH (put_any r l [n / 256, n % 256] (some ⟨w.heap.size, 0, none⟩) 2 _ (h.below B1) (lit_bs w 5 [n / 256, n % 256]) (by simp; omega))
  have HB := hidH (And.intro (B1.mono (Nat.le_of_lt h.lt)) (OthK.of_below (r := r) B1))
  clear h hm B1
  unfold Wrote at HP
  go_enter Tryz.func115, Tryz.ntmps115
  go_wp2_with fail
  refine HP.out.mono ?_
  rintro e w2 ⟨rfl, hw, hb, ho⟩
  have HR := hidH (And.intro hw (And.intro (HB.out.1.trans hb) (OthK.trans HB.out.2 ho)))
  clear HP hw hb ho
  go_wp2
  exact bodyPost_ret (v := .tuple #[]) (by simp [results, Tryz.results115, go_sem]) rfl ⟨rfl, HR.out⟩
set_option maxHeartbeats 1000000 in
theorem wword_any (r : Nat) (l : List Int) (n : Int) (w : World) (h : WR w r l) (h0 : 0 ≤ n) (h1 : n ≤ 4294967295) (hm : l.length ≤ 90000) :
    Calls Tryz.prog 216 #[.pointer (some ⟨r, 0, none⟩), .int .i64 n] w (Wrote r (l ++ pk n) w) := by
  have HE := hidH (fun u : World => encode_any n u h0 h1)
  have HW := hidH h
  have HM := hidH hm
  have hlt := h.lt
  clear h hm
  go_enter Tryz.func216, Tryz.ntmps216
  go_wp2_with fail
  refine (HE.out _).mono ?_
  rintro e w2 ⟨rfl, h2⟩
  have hb2 : Below w.heap.size w w2 := by rw [← h2]; exact bal (Below.refl _ _) _
  have B3 := bal (Below.refl w2.heap.size w2) (.cells #[.int .u8 (n / 16777216), .int .u8 (n / 65536 % 256), .int .u8 (n / 256 % 256), .int .u8 (n % 256)] 250)
  have HP := hidH (put_any r l (pk n) (some ⟨w2.heap.size, 0, none⟩) 4 _ ((HW.out.below hb2).below B3) (lit_bs w2 250 (pk n)) (by have := HM.out; simp [pk]; omega))
  have HB := hidH (And.intro ((hb2.mono (Nat.le_of_lt hlt)).trans (B3.mono (Nat.le_trans (Nat.le_of_lt hlt) hb2.size))) (OthK.trans (OthK.of_below (r := r) hb2) (OthK.of_below B3)))
  unfold Wrote at HP
  clear h2 hb2 B3 HE HW
  go_wp2_with fail
  refine HP.out.mono ?_
  rintro e w3 ⟨rfl, hw, hb, ho⟩
  have HR := hidH (And.intro hw (And.intro (HB.out.1.trans hb) (OthK.trans HB.out.2 ho)))
  clear HP hw hb ho
  go_wp2
  exact bodyPost_ret (v := .tuple #[]) (by simp [results, Tryz.results216, go_sem]) rfl ⟨rfl, HR.out⟩
set_option maxHeartbeats 1000000 in
theorem wcount_any (r : Nat) (l : List Int) (n : Int) (w : World) (h : WR w r l) (h0 : 0 ≤ n) (h1 : n ≤ 255) (hm : l.length ≤ 90000) :
    Calls Tryz.prog 219 #[.pointer (some ⟨r, 0, none⟩), .int .i64 n] w (Wrote r (l ++ [n]) w) := by
  have HN := hidH (wnumber_any r l n w h h0 h1 hm)
  clear h hm
  unfold Wrote at HN
  go_enter Tryz.func219, Tryz.ntmps219
  go_wp2_with fail
  refine HN.out.mono ?_
  rintro e w2 ⟨rfl, hr⟩
  have HR := hidH hr
  clear HN hr
  go_wp2
  exact bodyPost_ret (v := .tuple #[]) (by simp [results, Tryz.results219, go_sem]) rfl ⟨rfl, HR.out⟩
set_option maxRecDepth 100000 in
set_option maxHeartbeats 2000000 in
theorem wnumbers_any (r : Nat) (l m : List Int) (A : Option Addr) (c : Nat) (w : World) (h : WR w r l) (hA : Is w A m) (hlo : ∀ a, A = some a → m = [] ∨ a.block < r) (hv : ∀ j, j < m.length → 0 ≤ m.getD j 0 ∧ m.getD j 0 ≤ 255) (hm : l.length ≤ 40000) (hn : m.length ≤ 200) :
    Calls Tryz.prog 227 #[.pointer (some ⟨r, 0, none⟩), .slice A m.length c] w (Wrote r (l ++ ((m.length : Int) :: m)) w) := by
  have HC := hidH (wcount_any r l (m.length : Int) w h (by omega) (by omega) (by omega))
  have HA := hidH (And.intro hA (And.intro hlo hv))
  have HM := hidH hm
  have hnI : (m.length : Int) ≤ 200 := by omega
  unfold Wrote at HC
  clear h hA hlo hv hm
  go_enter Tryz.func227, Tryz.ntmps227
  go_wp2_with fail
  refine HC.out.mono ?_
  rintro e w2 ⟨rfl, hw, hb, ho⟩
  have HW := hidH (And.intro hw (And.intro hb ho))
  clear HC hw hb ho
  go_wp2
  go_loopw [12] (fun i wr => ∃ j : Nat, j ≤ m.length ∧ i = .int .i64 j ∧ WR wr r (l ++ ((m.length : Int) :: m.take j)) ∧ Below r w wr ∧ OthK r w wr) (fun i _ => m.length - (intOf i).toNat)
  case atStart => exact ⟨0, by omega, rfl, HW.out.1, HW.out.2⟩
  case round =>
    obtain ⟨j, hj, rfl, hw, hb, ho⟩ := hrel
    by_cases hlt : j < m.length
    · have hj0 : (0 : Int) ≤ (j : Int) := by omega
      have hj1 : (j : Int) < (m.length : Int) := by omega
      obtain ⟨b, off, rfl, hcell⟩ : ∃ b off, A = some ⟨b, off, none⟩ ∧ wr.cell? ⟨b, off + j, none⟩ = some (.int .i64 (m.getD j 0)) := by
        rcases HA.out.1 with h | ⟨b, off, e, hb', h⟩
        · rw [h] at hlt; simp at hlt
        · have hbr : b < r := by
            rcases HA.out.2.1 _ e with h9 | h9
            · rw [h9] at hlt; simp at hlt
            · exact h9
          exact ⟨b, off, e, (hb.cell (p := ⟨b, off + j, none⟩) hbr).trans (h j hlt)⟩
      obtain ⟨x0, x1⟩ := HA.out.2.2 j hlt
      have ht : m.take (j + 1) = m.take j ++ [m.getD j 0] := by
        rw [List.take_add_one, List.getElem?_eq_getElem hlt, Option.toList_some, List.getD_eq_getElem?_getD, List.getElem?_eq_getElem hlt, Option.getD_some]
      obtain ⟨x, hx⟩ : ∃ x, m.getD j 0 = x := ⟨_, rfl⟩
      rw [hx] at hcell x0 x1 ht
      have HT := hidH ht
      have HN := hidH (wnumber_any r _ x wr hw x0 x1 (by have := HM.out; simp; omega))
      unfold Wrote at HN
      have HB := hidH (And.intro hb ho)
      clear hw hb ho ht hx
      go_wp2_with fail
      refine HN.out.mono ?_
      rintro e w3 ⟨rfl, hw, hb, ho⟩
      have HR := hidH (show WR w3 r (l ++ ((m.length : Int) :: m.take (j + 1))) ∧ Below r w w3 ∧ OthK r w w3 from ⟨by rw [HT.out]; simpa using hw, HB.out.1.trans hb, OthK.trans HB.out.2 ho⟩)
      clear HN HB hw hb ho
      go_wp2
      go_roundw
      case rel => exact ⟨j + 1, by omega, by go_num, HR.out⟩
      case measure => simp [intOf]; omega
    · obtain rfl : j = m.length := by omega
      rw [List.take_length] at hw
      have HR := hidH (And.intro hw (And.intro hb ho))
      clear hw hb ho hlt hj
      go_wp2
      exact bodyPost_ret (v := .tuple #[]) (by simp [results, Tryz.results227, go_sem]) rfl ⟨rfl, HR.out⟩
end Go.Proofs.YtacdnednkglobaaGreatDoor
