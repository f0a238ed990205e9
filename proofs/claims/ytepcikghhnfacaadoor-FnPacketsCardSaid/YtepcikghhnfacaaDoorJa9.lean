import Derived.Test.YtepcikghhnfacaaDoorJa7
import Derived.Test.YtepcikghhnfacaaDoorJa1
import Derived.Test.YtepcikghhnfacaaDoorJa8
import Derived.Lib.SliceRun
import Derived.Lib.LazyBuf
import Derived.Laws.CopyRow

/- Reading a packet back from its bytes, on lists. Nothing of the program. -/
namespace Go.Proofs.YtepcikghhnfacaaDoor
open Go.RowKit Go.Deep

def pairV (d : List Int) : Int := d.getD 2 0 * 256 + d.getD 3 0
def rdHead (d : List Int) : Chk := ⟨d.getD 0 0, d.getD 1 0, (d.drop 4).take ((pairV d).toNat - 4)⟩
/-- The model's reader: it stops where nothing can be read. -/
def mRead (d : List Int) : List Chk :=
  if _h : 4 ≤ d.length then
    if _h2 : pairV d < 4 ∨ (d.length : Int) < pairV d then []
    else rdHead d :: mRead (d.drop (((pairV d).toNat + 3) / 4 * 4))
  else []
termination_by d.length
decreasing_by
  rw [List.length_drop]
  omega
/-- The program's reader: nothing comes back where something cannot be read. -/
def pRead (d : List Int) : Option (List Chk) :=
  if d.length = 0 then some []
  else if _h1 : d.length < 4 then none
  else if _h2 : pairV d < 4 ∨ (d.length : Int) < pairV d then none
  else if _h3 : d.length < (pairV d).toNat + chPad ((pairV d).toNat - 4) then none
  else (pRead (d.drop ((pairV d).toNat + chPad ((pairV d).toNat - 4)))).map (rdHead d :: ·)
termination_by d.length
decreasing_by
  rw [List.length_drop]
  omega
theorem mRead_end {d : List Int} (h : d.length < 4) : mRead d = [] := by rw [mRead, dif_neg (by omega)]
theorem mRead_stop {d : List Int} (h : 4 ≤ d.length) (h2 : pairV d < 4 ∨ (d.length : Int) < pairV d) : mRead d = [] := by rw [mRead, dif_pos h, dif_pos h2]
theorem mRead_go {d : List Int} (h : 4 ≤ d.length) (h2 : ¬ (pairV d < 4 ∨ (d.length : Int) < pairV d)) : mRead d = rdHead d :: mRead (d.drop (((pairV d).toNat + 3) / 4 * 4)) := by
  rw [mRead, dif_pos h, dif_neg h2]
theorem pRead_end {d : List Int} (h : d.length = 0) : pRead d = some [] := by rw [pRead, if_pos h]
theorem pRead_short {d : List Int} (h0 : d.length ≠ 0) (h : d.length < 4) : pRead d = none := by rw [pRead, if_neg h0, dif_pos h]
theorem pRead_bad {d : List Int} (h0 : 4 ≤ d.length) (h : pairV d < 4 ∨ (d.length : Int) < pairV d) : pRead d = none := by rw [pRead, if_neg (by omega), dif_neg (by omega), dif_pos h]
theorem pRead_pad {d : List Int} (h0 : 4 ≤ d.length) (h : ¬ (pairV d < 4 ∨ (d.length : Int) < pairV d)) (h3 : d.length < (pairV d).toNat + chPad ((pairV d).toNat - 4)) : pRead d = none := by
  rw [pRead, if_neg (by omega), dif_neg (by omega), dif_neg h, dif_pos h3]
theorem pRead_go {d : List Int} (h0 : 4 ≤ d.length) (h : ¬ (pairV d < 4 ∨ (d.length : Int) < pairV d)) (h3 : ¬ d.length < (pairV d).toNat + chPad ((pairV d).toNat - 4)) :
    pRead d = (pRead (d.drop ((pairV d).toNat + chPad ((pairV d).toNat - 4)))).map (rdHead d :: ·) := by
  rw [pRead, if_neg (by omega), dif_neg (by omega), dif_neg h, dif_neg h3]
theorem chkL_app (x : Chk) (r : List Int) : chkL x ++ r = x.kind :: x.flags :: (((x.body.length : Int) + 4) / 256) :: (((x.body.length : Int) + 4) % 256) :: (x.body ++ (List.replicate (chPad x.body.length) 0 ++ r)) := by
  simp [chkL, chL]
theorem pairV_app (x : Chk) (r : List Int) : pairV (chkL x ++ r) = (x.body.length : Int) + 4 := by
  rw [chkL_app]
  simp only [pairV, List.getD_cons_succ, List.getD_cons_zero]
  omega
theorem rdHead_app (x : Chk) (r : List Int) : rdHead (chkL x ++ r) = x := by
  rw [rdHead, pairV_app, chkL_app]
  simp only [List.getD_cons_succ, List.getD_cons_zero, List.drop_succ_cons, List.drop_zero]
  rw [show ((x.body.length : Int) + 4).toNat - 4 = x.body.length by omega, List.take_left]
theorem chkL_app_len (x : Chk) (r : List Int) : (chkL x ++ r).length = 4 + x.body.length + chPad x.body.length + r.length := by
  rw [List.length_append, chkL, chL_len]
theorem chkL_drop (x : Chk) (r : List Int) (n : Nat) (h : n = 4 + x.body.length + chPad x.body.length) : (chkL x ++ r).drop n = r := by
  rw [List.drop_append_of_le_length (by rw [chkL, chL_len]; omega), List.drop_of_length_le (by rw [chkL, chL_len]; omega), List.nil_append]
theorem mRead_app (x : Chk) (r : List Int) : mRead (chkL x ++ r) = x :: mRead r := by
  have hl := chkL_app_len x r
  have hp := pairV_app x r
  rw [mRead_go (by omega) (by omega), rdHead_app, chkL_drop]
  rw [hp]; unfold chPad; omega
theorem pRead_app (x : Chk) (r : List Int) : pRead (chkL x ++ r) = (pRead r).map (x :: ·) := by
  have hl := chkL_app_len x r
  have hp := pairV_app x r
  have ht : (pairV (chkL x ++ r)).toNat - 4 = x.body.length := by omega
  rw [pRead_go (by omega) (by omega) (by rw [ht]; omega), rdHead_app, ht, chkL_drop]
  omega
theorem mRead_flat (cs : List Chk) : mRead (cs.flatMap chkL) = cs := by
  induction cs with
  | nil => exact mRead_end (by simp)
  | cons x r ih => rw [List.flatMap_cons, mRead_app, ih]
theorem pRead_flat (cs : List Chk) : pRead (cs.flatMap chkL) = some cs := by
  induction cs with
  | nil => exact pRead_end (by simp)
  | cons x r ih => rw [List.flatMap_cons, pRead_app, ih]; rfl
theorem rawL_eq (tag sum : Int) (cs : List Chk) : rawL tag sum cs = pk tag ++ (pk sum ++ cs.flatMap chkL) := by
  rw [rawL, rawTo, List.take_length, List.append_assoc]
theorem rawL_drop (tag sum : Int) (cs : List Chk) : (rawL tag sum cs).drop 8 = cs.flatMap chkL := by
  rw [rawL_eq]; simp [pk]
theorem pk_at {x : Int} (_h0 : 0 ≤ x) (_h1 : x ≤ 4294967295) : x / 16777216 * 16777216 + x / 65536 % 256 * 65536 + x / 256 % 256 * 256 + x % 256 = x := by omega
theorem rawL_tag {tag sum : Int} {cs : List Chk} (h0 : 0 ≤ tag) (h1 : tag ≤ 4294967295) : atW (rawL tag sum cs) 0 = tag := by
  rw [rawL_eq, atW]
  simp only [pk, List.cons_append, List.nil_append, List.getD_cons_succ, List.getD_cons_zero, Nat.zero_add]
  exact pk_at h0 h1
theorem rawL_sum {tag sum : Int} {cs : List Chk} (h0 : 0 ≤ sum) (h1 : sum ≤ 4294967295) : atW (rawL tag sum cs) 4 = sum := by
  rw [rawL_eq, atW]
  simp only [pk, List.cons_append, List.nil_append, List.getD_cons_succ, List.getD_cons_zero]
  exact pk_at h0 h1
/-- The bytes with noughts in the checksum's place. -/
def blankL (d : List Int) : List Int := d.take 4 ++ ([0, 0, 0, 0] ++ d.drop 8)
theorem blankL_len {d : List Int} (h : 8 ≤ d.length) : (blankL d).length = d.length := by simp [blankL]; omega
theorem blankL_bytes {d : List Int} (h : Bytes d) : Bytes (blankL d) := by
  intro x hx
  simp only [blankL, List.mem_append, List.mem_cons, List.not_mem_nil, or_false] at hx
  rcases hx with hx | hx | hx
  · exact h x (List.mem_of_mem_take hx)
  · omega
  · exact h x (List.mem_of_mem_drop hx)
theorem blankL_raw (tag sum : Int) (cs : List Chk) : blankL (rawL tag sum cs) = rawL tag 0 cs := by
  rw [blankL, rawL_drop, rawL_eq, rawL_eq]
  simp [pk]
def rdSum (d : List Int) : Int := ((crcV (nB (blankL d)) : Nat) : Int)
def rdOk (d : List Int) : Prop := pkF (atW d 0) (mRead (d.drop 8)) = 0 ∧ pkL (atW d 0) (mRead (d.drop 8)) = d
instance (d : List Int) : Decidable (rdOk d) := by unfold rdOk; infer_instance
def rdC (d : List Int) : Int := if d.length < 8 ∨ 500 < d.length then 2 else if rdSum d = atW d 4 then (if rdOk d then 0 else 5) else 9
def rdT (d : List Int) : Int := if rdC d = 0 then atW d 0 else 0
def rdCs (d : List Int) : List Chk := if rdC d = 0 then mRead (d.drop 8) else []
theorem rdOk_pRead {d : List Int} (h : rdOk d) : pRead (d.drop 8) = some (mRead (d.drop 8)) := by
  obtain ⟨_, h2⟩ := h
  have h3 : d.drop 8 = (mRead (d.drop 8)).flatMap chkL := by
    have := congrArg (List.drop 8) h2
    rw [pkL, rawL_drop] at this
    exact this.symm
  have h4 := pRead_flat (mRead (d.drop 8))
  rw [← h3] at h4
  exact h4
theorem pRead_ok {d : List Int} {cs : List Chk} (h8 : 8 ≤ d.length) (h2 : pkM (atW d 0) cs = d) : rdOk d ∧ mRead (d.drop 8) = cs := by
  have hz : pkF (atW d 0) cs = 0 := by
    unfold pkM at h2
    split at h2
    · assumption
    · rw [← h2] at h8; simp at h8
  have hL : pkL (atW d 0) cs = d := by rw [pkM, if_pos hz] at h2; exact h2
  have h3 : d.drop 8 = cs.flatMap chkL := by
    have := congrArg (List.drop 8) hL
    rw [pkL, rawL_drop] at this
    exact this.symm
  have h4 : mRead (d.drop 8) = cs := by rw [h3, mRead_flat]
  exact ⟨by rw [rdOk, h4]; exact ⟨hz, hL⟩, h4⟩
/-- Packed and read back. -/
theorem rd_pack {tag : Int} {cs : List Chk} (hz : pkF tag cs = 0) (hb : ∀ x ∈ cs, Bytes x.body) : rdC (pkL tag cs) = 0 ∧ rdT (pkL tag cs) = tag ∧ rdCs (pkL tag cs) = cs := by
  obtain ⟨⟨t0, t1⟩, ⟨n1, n8⟩, ok, h500⟩ := pkF_zero hz
  have hs := sumOf_word t0 t1 ok hb
  have e8 : (pkL tag cs).drop 8 = cs.flatMap chkL := by rw [pkL, rawL_drop]
  have er : mRead ((pkL tag cs).drop 8) = cs := by rw [e8, mRead_flat]
  have et : atW (pkL tag cs) 0 = tag := by rw [pkL, rawL_tag t0 t1]
  have es : atW (pkL tag cs) 4 = sumOf tag cs := by rw [pkL, rawL_sum hs.1 hs.2]
  have eb : rdSum (pkL tag cs) = sumOf tag cs := by rw [rdSum, pkL, blankL_raw, sumOf]
  have el : (pkL tag cs).length = (rawL tag 0 cs).length := by rw [pkL, rawL_eq, rawL_eq]; simp [pk]
  have el8 : 8 ≤ (pkL tag cs).length := by rw [pkL, rawL_eq]; simp [pk]
  have hok : rdOk (pkL tag cs) := ⟨by rw [er, et]; exact hz, by rw [er, et]⟩
  have hc : rdC (pkL tag cs) = 0 := by rw [rdC, if_neg (by omega), if_pos (by rw [eb, es]), if_pos hok]
  exact ⟨hc, by rw [rdT, if_pos hc, et], by rw [rdCs, if_pos hc, er]⟩
theorem crc_ne {l : List Int} (hl : Bytes l) (k : Nat) (v : Int) (hk : k < l.length) (hv : 0 ≤ v ∧ v ≤ 255) (hne : v ≠ l.getD k 0) : crcV (nB (l.set k v)) ≠ crcV (nB l) := by
  have e : nB (l.set k v) = (nB l).set k v.toNat := by simp [nB, List.map_set]
  rw [e]
  have h0 := hl.get k
  refine crcV_turn k v.toNat (nB_lt hl) (by simpa [nB] using hk) (by omega) ?_
  rw [nB_get]
  omega
/-- One byte of a packet's bytes turned: another checksum than the one that is written there. -/
theorem rd_turn {d : List Int} (hd : Bytes d) (h8 : 8 ≤ d.length) (h5 : d.length ≤ 500) (hs : rdSum d = atW d 4) (k : Nat) (v : Int) (hk : k < d.length) (hv : 0 ≤ v ∧ v ≤ 255) (hne : v ≠ d.getD k 0) : rdC (d.set k v) = 9 := by
  have hw : rdSum (d.set k v) ≠ atW (d.set k v) 4 := by
    by_cases hin : 4 ≤ k ∧ k < 8
    · have e1 : blankL (d.set k v) = blankL d := by
        rw [blankL, blankL, List.take_set_of_le hin.1, List.drop_set_of_lt (by omega)]
      rw [rdSum, e1]
      rw [rdSum] at hs
      rw [hs]
      have b4 := hd.get 4
      have b5 := hd.get 5
      have b6 := hd.get 6
      have b7 := hd.get 7
      have gs : ∀ j, (d.set k v).getD j 0 = if j = k then v else d.getD j 0 := by
        intro j
        by_cases e : j = k
        · subst e; rw [if_pos rfl]; simp [List.getD_eq_getElem?_getD, hk]
        · rw [if_neg e]; simp [List.getD_eq_getElem?_getD, List.getElem?_set_ne (fun h => e h.symm)]
      simp only [atW, gs]
      obtain rfl | rfl | rfl | rfl : k = 4 ∨ k = 5 ∨ k = 6 ∨ k = 7 := by omega
      all_goals
        rw [List.getD_eq_getElem?_getD] at hne
        simp at *
        omega
    · have e4 : atW (d.set k v) 4 = atW d 4 := by
        have gs : ∀ j, 4 ≤ j → j < 8 → (d.set k v).getD j 0 = d.getD j 0 := by
          intro j h1 h2
          simp [List.getD_eq_getElem?_getD, List.getElem?_set_ne (show k ≠ j by omega)]
        simp only [atW]
        rw [gs 4 (by omega) (by omega), gs (4 + 1) (by omega) (by omega), gs (4 + 2) (by omega) (by omega), gs (4 + 3) (by omega) (by omega)]
      have eb : blankL (d.set k v) = (blankL d).set k v := by
        by_cases h4 : k < 4
        · rw [blankL, blankL, List.take_set, List.drop_set_of_lt (by omega), List.set_append_left _ _ (by simp; omega)]
        · rw [blankL, blankL, List.take_set_of_le (by omega), List.drop_set, if_neg (by omega), List.set_append_right _ _ (by simp; omega), List.set_append_right _ _ (by simp; omega)]
          congr 3
          simp
          omega
      have eg : (blankL d).getD k 0 = d.getD k 0 := by
        simp only [List.getD_eq_getElem?_getD, blankL]
        congr 1
        by_cases h4 : k < 4
        · rw [List.getElem?_append_left (by simp; omega), List.getElem?_take_of_lt h4]
        · rw [List.getElem?_append_right (by simp; omega), List.getElem?_append_right (by simp; omega), List.getElem?_drop]
          congr 1
          simp
          omega
      rw [e4, ← hs, rdSum, rdSum, eb]
      have := crc_ne (blankL_bytes hd) k v (by rw [blankL_len h8]; exact hk) hv (by rw [eg]; exact hne)
      omega
  rw [rdC, if_neg (by rw [List.length_set]; omega), if_neg hw]
end Go.Proofs.YtepcikghhnfacaaDoor

/- The program's packetSum. -/
namespace Go.Proofs.YtepcikghhnfacaaDoor
open Go.RowKit Go.Deep

theorem blankL_at {d : List Int} (h : 8 ≤ d.length) (j : Nat) : (blankL d).getD j 0 = if 4 ≤ j ∧ j < 8 then 0 else d.getD j 0 := by
  obtain ⟨a, b, c, e, r, rfl⟩ : ∃ a b c e r, d = a :: b :: c :: e :: r := by
    rcases d with _ | ⟨a, _ | ⟨b, _ | ⟨c, _ | ⟨e, r⟩⟩⟩⟩ <;> simp at h
    exact ⟨a, b, c, e, r, rfl⟩
  obtain ⟨a', b', c', e', r', rfl⟩ : ∃ a b c e s, r = a :: b :: c :: e :: s := by
    rcases r with _ | ⟨a, _ | ⟨b, _ | ⟨c, _ | ⟨e, r⟩⟩⟩⟩ <;> simp at h
    exact ⟨a, b, c, e, r, rfl⟩
  rcases j with _ | _ | _ | _ | _ | _ | _ | _ | j <;> simp [blankL] <;> (intro hh; omega)
theorem zeroU8 : ∀ u : World, (zeroValue 5).run Tryd.prog u = .ok (.int .u8 0) u := by
  obtain ⟨i0, hi, hz0, hz1, hz2⟩ := info_parts infoU8
  intro u
  simp [zeroValue, typeInfo, hi, hz0]
/-- Four noughts in the checksum's place of a row. -/
theorem clear_row {w : World} {g cap : Nat} {cur : Array Value} {l : List Int} (h : Blk w g 5 cur) (hs : cur.size = cap) (hc : l.length ≤ cap) (h8 : 8 ≤ l.length) (ht : cur.toList.take l.length = l.map (Value.int .u8)) :
    (∀ ty, (Builtin.clear_ #[22] ty #[.slice (some ⟨g, 4, none⟩) 4 (cap - 4)]).run Tryd.prog w = .ok (.tuple #[]) (w.setCells g 4 (List.replicate 4 (.int .u8 0)))) ∧ Bs (w.setCells g 4 (List.replicate 4 (.int .u8 0))) (some ⟨g, 0, none⟩) (blankL l) ∧ Below g w (w.setCells g 4 (List.replicate 4 (.int .u8 0))) := by
  have hat : ∀ j, j < cap → ∃ v, w.cell? ⟨g, j, none⟩ = some v := fun j hj => ⟨cur[j]'(by omega), by rw [h.cell, Array.getElem?_eq_getElem]⟩
  have hb : Below g w (w.setCells g 4 (List.replicate 4 (.int .u8 0))) := below_setCells (Nat.le_refl _) _ _ _ (Below.refl _ _)
  refine ⟨fun ty => ?_, .inr ⟨g, 0, rfl, Nat.lt_of_lt_of_le h.lt hb.size, fun j hj => ?_⟩, hb⟩
  · exact Lib.run_clear_slice w 22 5 ty (.int .u8 0) Tryd.underlying22 zeroU8 rfl rfl g 4 4 (cap - 4) (by omega) (fun j hj => by obtain ⟨v, hv⟩ := hat (4 + j) (by omega); rw [hv]; rfl) (fun j _ => h.frozen _)
  · rw [blankL_len h8] at hj
    rw [blankL_at h8, Nat.zero_add]
    by_cases hin : 4 ≤ j ∧ j < 8
    · rw [if_pos hin]
      have := World.cell?_setCells_in g (List.replicate 4 (.int .u8 0)) 4 w (fun j hj => by simp at hj; obtain ⟨v, hv⟩ := hat (4 + j) (by omega); rw [hv]; rfl) (j - 4) (by simp; omega)
      rw [show 4 + (j - 4) = j by omega] at this
      rw [this, List.getElem_replicate]
    · rw [if_neg hin, World.cell?_setCells_out _ _ _ _ _ (by intro _ _; simp; omega)]
      exact row_cell h ht j hj
theorem fldI1 (c v : Int) (w : World) : (Instr.field 59 (.agg #[.int .i64 c, .int .i64 v]) 1).run Tryd.prog w = .ok (.int .i64 v) w := by kernel_rfl
set_option maxHeartbeats 1000000 in
theorem psum_any (A : Option Addr) (l : List Int) (c : Nat) (w : World) (hA : Bs w A l) (hl : Bytes l) (h8 : 8 ≤ l.length) (hm : l.length ≤ 700) :
    Calls Tryd.prog 29 #[.slice A l.length c] w fun e w' => e = .returned (.int .i64 (rdSum l)) ∧ Below w.heap.size w w' := by
  have HC := hidH (clone_any A l c w hA (by omega))
  have e : crcN (blankL l) = rdSum l := by rw [crcN, if_pos (by rw [blankL_len h8]; omega), rdSum]
  have HK := hidH (fun (u : World) (X : Option Addr) (cx : Nat) (h : Bs u X (blankL l)) => crc_impl X (blankL l) cx u h (blankL_bytes hl) (by rw [blankL_len h8]; omega))
  rw [blankL_len h8, e] at HK
  have HR := hidH (fun (u : World) (B : Nat) (v : Value) (h : u.ownsRow B 5 1 v l.length (l.map (Value.int .u8))) => own_row h (by omega))
  have HCL := hidH (fun (u : World) (g cap : Nat) (cur : Array Value) (h : Blk u g 5 cur) (hs : cur.size = cap) (hc : l.length ≤ cap) (ht : cur.toList.take l.length = l.map (Value.int .u8)) => clear_row h hs hc h8 ht)
  have h8I : (8 : Int) ≤ (l.length : Int) := by omega
  have hmI : (l.length : Int) ≤ 700 := by omega
  obtain ⟨s, hs⟩ : ∃ s, rdSum l = s := ⟨_, rfl⟩
  rw [hs] at HK ⊢
  obtain ⟨cc, hcc⟩ : ∃ s, crcC (blankL l) = s := ⟨_, rfl⟩
  rw [hcc] at HK
  clear hA hl e hs hcc h8 hm
  go_enter Tryd.func29, Tryd.ntmps29
  go_wp2_with fail
  refine HC.out.mono ?_
  rintro e w1 ⟨v, rfl, o1, b1⟩
  obtain ⟨g, cap, cur, rfl, hg, hgl, K1, hc, hcm, hsz, ht⟩ := HR.out _ _ _ o1
  obtain ⟨hcl, s2, bc⟩ := HCL.out _ _ _ _ K1 hsz hc ht
  have hcI : (8 : Int) ≤ (cap : Int) := by omega
  have S2 := hidH s2
  have B2 := hidH (b1.trans (bc.mono hg))
  obtain ⟨w2, hw2⟩ : ∃ w2, w1.setCells g 4 (List.replicate 4 (.int .u8 0)) = w2 := ⟨_, rfl⟩
  rw [hw2] at hcl S2 B2
  clear HC o1 K1 hsz ht HR HCL b1 bc hw2 s2
  go_wp2_with fail
  refine (HK.out w2 _ cap S2.out).mono ?_
  rintro e w3 ⟨rfl, b3⟩
  have B3 := hidH (btr B2.out b3)
  clear b3 HK hcl
  have f1 := fldI1 cc s
  go_wp2
  go_ret
  exact ⟨rfl, B3.out⟩
end Go.Proofs.YtepcikghhnfacaaDoor
