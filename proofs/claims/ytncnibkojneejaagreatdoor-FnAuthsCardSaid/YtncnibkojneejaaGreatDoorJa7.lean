import Derived.Test.YtncnibkojneejaaGreatDoorJa4
import Derived.Test.YtncnibkojneejaaGreatDoorJa6
import Derived.Test.YtncnibkojneejaaGreatDoorTyChs
import Derived.Laws.Slices
import Derived.Test.YtncnibkojneejaaGreatDoorJa0
import Derived.Deep.WholeRow
import Derived.Great.BuildSlice

/- The laws' own lwAt (a number in its range) and lwTurned (a copy of bytes with one turned). -/
namespace Go.Proofs.YtncnibkojneejaaGreatDoor
open Go.RowKit Go.Deep

set_option maxHeartbeats 1000000 in
theorem at_nil (A : Option Addr) (c i : Nat) (n : Int) (w : World) (hi : i ≤ 100) (hn : 1 < n) :
    Calls Tryz.prog 14 #[.slice A 0 c, .int .i64 i, .int .i64 n] w fun e w' => ∃ v : Int, e = .returned (.int .i64 v) ∧ 0 ≤ v ∧ v < n ∧ Below w.heap.size w w' := by
  have hm := mod_lt' ((i : Int) * 7) n (by omega)
  have hi2 : (i : Int) ≤ 100 := by omega
  go_enter Tryz.func14, Tryz.ntmps14
  go_wp2
  go_ret
  exact ⟨_, rfl, hm.1, hm.2, Below.refl _ _⟩
set_option maxHeartbeats 1000000 in
theorem at_one (A : Option Addr) (k c i : Nat) (n : Int) (w : World) (hn : n ≤ 1) :
    Calls Tryz.prog 14 #[.slice A k c, .int .i64 i, .int .i64 n] w fun e w' => e = .returned (.int .i64 0) ∧ Below w.heap.size w w' := by
  go_enter Tryz.func14, Tryz.ntmps14
  go_wp2
  go_ret
  exact ⟨rfl, Below.refl _ _⟩
set_option maxHeartbeats 1000000 in
theorem at_pos (b off : Nat) (l : List Int) (c i : Nat) (n : Int) (w : World) (hA : Bs w (some ⟨b, off, none⟩) l) (hl : Bytes l) (hp : 0 < l.length) (hm : (l.length : Int) ≤ 1048576) (hi : i ≤ 100) (hn : 1 < n) (hn2 : n ≤ 100000) :
    Calls Tryz.prog 14 #[.slice (some ⟨b, off, none⟩) l.length c, .int .i64 i, .int .i64 n] w fun e w' => ∃ v : Int, e = .returned (.int .i64 v) ∧ 0 ≤ v ∧ v < n ∧ Below w.heap.size w w' := by
  have cell : ∀ j, j < l.length → w.cell? ⟨b, off + j, none⟩ = some (.int .u8 (l.getD j 0)) := by
    rcases hA with h | ⟨b', off', h1, _, h3⟩
    · rw [h] at hp; simp at hp
    · simp at h1; obtain ⟨rfl, rfl⟩ := h1; exact h3
  have hi2 : (i : Int) ≤ 100 := by omega
  have hk1 : (1 : Int) ≤ (l.length : Int) := by omega
  have hne : ((l.length : Int) == 0) = false := by rw [beq_eq_false_iff_ne]; omega
  obtain ⟨m0, m1⟩ := mod_lt' (i : Int) (l.length : Int) hk1
  obtain ⟨m2, m3⟩ := mod_lt' ((i : Int) + 1) (l.length : Int) hk1
  have d0 : 0 ≤ (i : Int) / (l.length : Int) := Int.ediv_nonneg (by omega) (by omega)
  have d1 : (i : Int) / (l.length : Int) ≤ 100 := Int.le_trans (Int.ediv_le_self _ (by omega)) hi2
  obtain ⟨x0, e0, y0, z0⟩ : ∃ x0 : Int, w.cell? ⟨b, off + i % l.length, none⟩ = some (.int .u8 x0) ∧ 0 ≤ x0 ∧ x0 ≤ 255 := ⟨_, cell _ (Nat.mod_lt _ hp), hl.get _⟩
  obtain ⟨x1, e1, y1, z1⟩ : ∃ x1 : Int, w.cell? ⟨b, off + (i + 1) % l.length, none⟩ = some (.int .u8 x1) ∧ 0 ≤ x1 ∧ x1 ≤ 255 := ⟨_, cell _ (Nat.mod_lt _ hp), hl.get _⟩
  have t0 : ((i : Int) % (l.length : Int)).toNat = i % l.length := by
    have e : (i : Int) % (l.length : Int) = ((i % l.length : Nat) : Int) := by simp
    rw [e]; rfl
  have t1 : (((i : Int) + 1) % (l.length : Int)).toNat = (i + 1) % l.length := by
    have e : ((i : Int) + 1) % (l.length : Int) = (((i + 1) % l.length : Nat) : Int) := by simp
    rw [e]; rfl
  clear cell hA hl
  rcases Int.lt_or_le 200 n with h7 | h7
  · go_enter Tryz.func14, Tryz.ntmps14
    go_wp2
    go_quiet (fail)
    go_wp2
    go_ret
    exact ⟨_, rfl, (mod_lt' _ n (by omega)).1, (mod_lt' _ n (by omega)).2, below_drewN (Below.refl _ _) _⟩
  · go_enter Tryz.func14, Tryz.ntmps14
    go_wp2
    go_quiet (fail)
    go_wp2
    go_ret
    exact ⟨_, rfl, (mod_lt' _ n (by omega)).1, (mod_lt' _ n (by omega)).2, below_drewN (Below.refl _ _) _⟩
theorem at_any (A : Option Addr) (l : List Int) (c i : Nat) (n : Int) (w : World) (hA : Bs w A l) (hl : Bytes l) (hm : (l.length : Int) ≤ 1048576) (hi : i ≤ 100) (hn : 1 ≤ n) (hn2 : n ≤ 100000) :
    Calls Tryz.prog 14 #[.slice A l.length c, .int .i64 i, .int .i64 n] w fun e w' => ∃ v : Int, e = .returned (.int .i64 v) ∧ 0 ≤ v ∧ v < n ∧ Below w.heap.size w w' := by
  by_cases h1 : n ≤ 1
  · exact (at_one A l.length c i n w h1).mono fun _ _ h => ⟨0, h.1, Int.le_refl 0, by omega, h.2⟩
  · rcases l with _ | ⟨x, l⟩
    · exact at_nil A c i n w hi (by omega)
    · rcases hA with h | ⟨b, off, rfl, h2, h3⟩
      · simp at h
      · exact at_pos b off (x :: l) c i n w (.inr ⟨b, off, rfl, h2, h3⟩) hl (by simp) hm hi (by omega) hn2
/-- One byte set. -/
theorem ob_set {B C : Nat} {w : World} {b off k : Nat} {l : List Int} (v : Int) (hB : B ≤ b) (hb : b < C) (hC : C ≤ w.heap.size) (hk : k < l.length)
    (h : ∀ j, j < l.length → w.cell? ⟨b, off + j, none⟩ = some (.int .u8 (l.getD j 0)) ∧ w.frozen? ⟨b, off + j, none⟩ = false) :
    Ob B C (w.setCell ⟨b, off + k, none⟩ (.int .u8 v)) (some ⟨b, off, none⟩) (l.set k v) := by
  refine .inr ⟨b, off, rfl, hB, hb, by simpa [World.setCell] using hC, fun j hj => ?_⟩
  rw [List.length_set] at hj
  refine ⟨?_, (World.frozen?_setCell _ _ _ _).trans (h j hj).2⟩
  by_cases e : j = k
  · subst e
    rw [World.cell?_setCell_same _ _ _ (h j hj).1]
    simp [hj]
  · rw [World.cell?_setCell_other _ _ _ _ (fun e2 => by injection e2 with _ e3; omega), (h j hj).1]
    simp [List.getD_eq_getElem?_getD, List.getElem?_set_ne (fun h => e h.symm)]
def turnL (l : List Int) (k m : Nat) : List Int := l.set k (byteX m (l.getD k 0))
set_option maxHeartbeats 1000000 in
theorem turned_any (A : Option Addr) (l : List Int) (c k m : Nat) (w : World) (hA : Bs w A l) (hl : Bytes l) (hk : k < l.length) (hm : m ≤ 255) (hn : l.length ≤ 100000) :
    Calls Tryz.prog 13 #[.slice A l.length c, .int .i64 k, .int .i64 m] w fun e w' => ∃ A' c', e = .returned (.slice A' (turnL l k m).length c') ∧ Ob w.heap.size w'.heap.size w' A' (turnL l k m) ∧ Below w.heap.size w w' ∧ (turnL l k m).length ≤ c' ∧ (c' : Int) ≤ 9223372036854775807 := by
  have hown : (w.alloc (.cells #[] 5)).ownsRow w.heap.size 5 1 (.slice (some ⟨w.heap.size, 0, none⟩) 0 0) 0 [] := World.ownsRow_lit w #[] 0 (Nat.le_refl _) (by unfold maxLen; omega) rfl
  have hA2 := bs_below hA (bal (Below.refl _ w) (.cells #[] 5))
  have HO := hidH hown
  have HA := hidH hA2
  have hb2 := hidH (bal (Below.refl _ w) (.cells #[] 5))
  clear hown hA2 hA
  go_enter Tryz.func13, Tryz.ntmps13
  go_wp2_with (at_builtin; refine wpList_append_bs rfl _ _ rfl w.heap.size _ _ _ rfl HO.out A l c rfl HA.out (by omega) (by simp) ?_)
  intro v' w2 hown' hgrow
  have B2 := hidH (hb2.out.grown hgrow (by simp) (fun k hk => by simp [Value.ownBlock] at hk; omega))
  obtain ⟨A2, c2, rfl, o2, hcc, hcm⟩ := own_ob (d := l) (by simpa using hown')
  have HCC := hidH (And.intro hcc hcm)
  clear hcc hcm
  rcases o2 with h | ⟨b, off, rfl, h1, h2, h3, h4⟩
  · rw [h] at hk; simp at hk
  have c0 := (h4 k hk).1
  have f0 := (h4 k hk).2
  have p0 := hl.get k
  have H4 := hidH h4
  have hkI : (k : Int) < (l.length : Int) := by omega
  have hk0 : (0 : Int) ≤ (k : Int) := by omega
  have hmI : (m : Int) ≤ 255 := by omega
  have hm0 : (0 : Int) ≤ (m : Int) := by omega
  have hx := u8_xor (l.getD k 0) m p0.1 p0.2 hm0 hmI
  rw [Int.toNat_natCast] at hx
  obtain ⟨x, hxe⟩ : ∃ x, l.getD k 0 = x := ⟨_, rfl⟩
  rw [hxe] at hx c0 p0
  have HX := hidH hx
  have HXE := hidH hxe
  clear h4 hown' hgrow HO HA hb2 hx hxe
  go_wp2
  go_ret
  rw [turnL, HXE.out, ← HX.out]
  refine ⟨some ⟨b, off, none⟩, c2, by rw [List.length_set]; rfl, ?_, bst B2.out (by simpa using h1) _, by rw [List.length_set]; exact HCC.out.1, HCC.out.2⟩
  have := ob_set (C := w2.heap.size) (bits .xor .u8 x (m : Int)) h1 h2 h3 hk H4.out
  simpa [World.setCell] using this
theorem turnL_len (l : List Int) (k m : Nat) : (turnL l k m).length = l.length := List.length_set
theorem turnL_bytes {l : List Int} (h : Bytes l) (k m : Nat) (hm : m < 256) : Bytes (turnL l k m) := by
  intro x hx
  rcases List.mem_or_eq_of_mem_set hx with h1 | h1
  · exact h x h1
  · rw [h1]
    have := h.get k
    exact byteX_byte hm this.1 this.2
theorem at_nat (A : Option Addr) (l : List Int) (c i : Nat) (n : Int) (w : World) (hA : Bs w A l) (hl : Bytes l) (hm : (l.length : Int) ≤ 1048576) (hi : i ≤ 100) (hn : 1 ≤ n) (hn2 : n ≤ 100000) :
    Calls Tryz.prog 14 #[.slice A l.length c, .int .i64 i, .int .i64 n] w fun e w' => ∃ k : Nat, e = .returned (.int .i64 (k : Int)) ∧ (k : Int) < n ∧ Below w.heap.size w w' :=
  (at_any A l c i n w hA hl hm hi hn hn2).mono fun _ _ ⟨v, h1, h2, h3, h4⟩ => ⟨v.toNat, by rw [h1, Int.toNat_of_nonneg h2], by omega, h4⟩
theorem turned_one (A : Option Addr) (l : List Int) (c k m : Nat) (w : World) (hA : Bs w A l) (hl : Bytes l) (hk : k < l.length) (hm : m < 255) (hn : l.length ≤ 100000) :
    Calls Tryz.prog 13 #[.slice A l.length c, .int .i64 k, .int .i64 (1 + (m : Int))] w fun e w' => ∃ A' c', e = .returned (.slice A' (turnL l k (1 + m)).length c') ∧ Bs w' A' (turnL l k (1 + m)) ∧ Below w.heap.size w w' := by
  have h := turned_any A l c k (1 + m) w hA hl hk (by omega) hn
  rw [show ((1 + m : Nat) : Int) = 1 + (m : Int) by omega] at h
  exact h.mono fun _ _ ⟨A', c', h1, h2, h3, _⟩ => ⟨A', c', h1, h2.bs, h3⟩
theorem turned_cap (A : Option Addr) (l : List Int) (c k m : Nat) (w : World) (hA : Bs w A l) (hl : Bytes l) (hk : k < l.length) (hm : m < 255) (hn : l.length ≤ 100000) :
    Calls Tryz.prog 13 #[.slice A l.length c, .int .i64 k, .int .i64 (1 + (m : Int))] w fun e w' => ∃ A' c', e = .returned (.slice A' (turnL l k (1 + m)).length c') ∧ (Bs w' A' (turnL l k (1 + m)) ∧ (turnL l k (1 + m)).length ≤ c' ∧ (c' : Int) ≤ 9223372036854775807) ∧ Below w.heap.size w w' := by
  have h := turned_any A l c k (1 + m) w hA hl hk (by omega) hn
  rw [show ((1 + m : Nat) : Int) = 1 + (m : Int) by omega] at h
  exact h.mono fun _ _ ⟨A', c', h1, h2, h3, h4⟩ => ⟨A', c', h1, ⟨h2.bs, h4⟩, h3⟩
end Go.Proofs.YtncnibkojneejaaGreatDoor

/- Chapter 7 on lists: what was protected passes the check, and fails it with a digest that was turned. -/
namespace Go.Proofs.YtncnibkojneejaaGreatDoor
open Go.RowKit Go.Deep

theorem pcF_zero9 {id : Int} {key : List Int} {r : List ChunkM} (h : pcF id key r = 0) : key.length ≤ 200 ∧ (0 ≤ id ∧ id ≤ 99) ∧ r.length ≤ 7 ∧ cmsF r = 0 ∧ mtF id r = 0 := by
  unfold pcF at h
  split at h
  · next hk =>
    have hm := h
    unfold mtF at h
    split at h
    · next hi =>
      split at h
      · next hc =>
        have h2 := csF_zero hc
        simp [inB] at hi
        exact ⟨hk, hi, h2.1, h2.2, hm⟩
      · next hc => exact absurd h hc
    · cases h
  · cases h
theorem pcR_ok9 {id : Int} {key : List Int} {r : List ChunkM} (h : pcF id key r = 0) : pcR id key r = ⟨0, pcL id key r⟩ := by rw [pcR, if_pos h]
theorem pcR_no9 {id : Int} {key : List Int} {r : List ChunkM} (h : pcF id key r ≠ 0) : pcR id key r = ⟨pcF id key r, []⟩ := by rw [pcR, if_neg h]
theorem pcR_code (id : Int) (key : List Int) (r : List ChunkM) : (pcR id key r).Code = pcF id key r := by
  by_cases h : pcF id key r = 0
  · rw [pcR_ok9 h, h]
  · rw [pcR_no9 h]
/-- A tag chunk in front: it is found. -/
theorem caR_tag {id : Int} {key : List Int} {r : List ChunkM} {b : List Int} (h : pcF id key r = 0) (hb : b.length = 34) (hp : pairAt b 0 = id) :
    caR key (⟨15, 0, b⟩ :: r) = if sameM (b.drop 2) (hmL key (txtL id r)) then ⟨0, id, 1⟩ else ⟨10, 0, 0⟩ := by
  obtain ⟨hk, ⟨h0, h1⟩, hl, hc, hm⟩ := pcF_zero9 h
  have hf : faR (⟨15, 0, b⟩ :: r) = ⟨0, id, 1⟩ := by
    have hcs : csF 8 (⟨15, 0, b⟩ :: r) = 0 := by
      rw [csF_few (by simp; omega), cmsF_cons, if_pos, hc]
      show chF 15 0 b = 0
      unfold chF
      rw [if_pos (by decide), if_pos (by omega)]
    rw [faR, if_pos hcs, faL, if_pos rfl, if_pos (by simp [isTag, hb, hp]; omega), hp]
    rfl
  rw [caR, if_pos hk, hf, if_pos rfl, caT]
  have e1 : (⟨15, 0, b⟩ :: r : List ChunkM).drop (1 : Int).toNat = r := rfl
  have e2 : ((⟨15, 0, b⟩ :: r : List ChunkM).getD ((1 : Int).toNat - 1) ⟨0, 0, []⟩).Body = b := rfl
  simp only [e1, e2, hm, if_true]
theorem hm32_9 (key data : List Int) : (hmL key data).length = 32 := shaL_len' _
theorem caR_good {id : Int} {key : List Int} {r : List ChunkM} (h : pcF id key r = 0) : caR key (pcL id key r) = ⟨0, id, 1⟩ := by
  obtain ⟨hk, ⟨h0, h1⟩, hl, hc, hm⟩ := pcF_zero9 h
  have := caR_tag (key := key) (b := tagB id (hmL key (txtL id r))) h (by rw [tagB_len, hm32_9]) (by simp [pairAt, tagB]; omega)
  rw [show pcL id key r = ⟨15, 0, tagB id (hmL key (txtL id r))⟩ :: r from rfl, this, if_pos]
  show sameM (hmL key (txtL id r)) (hmL key (txtL id r)) = true
  simp [sameM, hm32_9]
theorem caR_bad {id : Int} {key : List Int} {r : List ChunkM} (h : pcF id key r = 0) (k m : Nat) (hk : k < 32) (hm : m < 255) :
    caR key (⟨15, 0, turnL (tagB id (hmL key (txtL id r))) (2 + k) (1 + m)⟩ :: r) = ⟨10, 0, 0⟩ := by
  obtain ⟨_, ⟨h0, h1⟩, hl, hc, _⟩ := pcF_zero9 h
  obtain ⟨D, hD⟩ : ∃ D, hmL key (txtL id r) = D := ⟨_, rfl⟩
  have hd : D.length = 32 := by rw [← hD]; exact hm32_9 _ _
  have hby : Bytes D := by rw [← hD]; exact hmL_bytes _ _
  rw [hD]
  have e : turnL (tagB id D) (2 + k) (1 + m) = id / 256 :: id % 256 :: D.set k (byteX (1 + m) (D.getD k 0)) := by
    unfold turnL tagB
    rw [show 2 + k = k + 1 + 1 by omega]
    simp [List.getD_eq_getElem?_getD]
  rw [caR_tag h (by rw [e]; simp [hd]) (by rw [e]; simp [pairAt]; omega), if_neg]
  rw [e, hD]
  show ¬ sameM (D.set k (byteX (1 + m) (D.getD k 0))) D = true
  have hne := turn_ne hby k (1 + m) (by omega) (by omega)
  simp only [sameM, Bool.and_eq_true, beq_iff_eq, not_and]
  intro _
  exact hne
end Go.Proofs.YtncnibkojneejaaGreatDoor

/- Chapter 7: the rest of a list of chunks, chunks[i:]. -/
namespace Go.Proofs.YtncnibkojneejaaGreatDoor
open Go.RowKit Go.Deep

theorem RdL.rest {w : World} : ∀ {xs ys : List V} {g o : Nat}, RdL w (xs ++ ys) g o → RdL w ys g (o + xs.length)
  | [], _, _, _, h => by simpa using h
  | x :: xs, ys, g, o, h => by
    rw [List.cons_append] at h
    unfold RdL at h
    have := RdL.rest h.2
    rw [List.length_cons]
    rwa [show o + (xs.length + 1) = o + 1 + xs.length by omega]
/-- The address behind i chunks. -/
def cutC (A : Option Addr) (i c : Nat) : Option Addr := if c = i then A else A.map (·.add (i * 3))
theorem cutC_rd {w : World} {A : Option Addr} {r : List ChunkM} {c i : Nat} (h : Rd w (st_Chunk r) (.slice A r.length c)) (hi : i ≤ r.length) : Rd w (st_Chunk (r.drop i)) (.slice (cutC A i c) (r.length - i) (c - i)) := by
  unfold st_Chunk Rd at h
  obtain ⟨A', c', e, ⟨hc, hm⟩, h⟩ := h
  injection e with e1 _ e3
  subst e1 e3
  unfold st_Chunk Rd
  have hl : (r.drop i).length = r.length - i := List.length_drop
  refine ⟨cutC A i c, c - i, by rw [hl], ⟨by rw [hl]; omega, by omega⟩, ?_⟩
  by_cases he : i = r.length
  · left
    have : r.drop i = [] := List.drop_eq_nil_of_le (by omega)
    rw [this]
    exact ⟨rfl, rfl⟩
  · right
    rcases h with ⟨h0, _⟩ | ⟨g, o, rfl, hg, h⟩
    · omega
    · refine ⟨g, o + i * 3, ?_, hg, ?_⟩
      · unfold cutC
        rw [if_neg (by omega)]
        simp only [Option.map_some]
        congr 1
        unfold Addr.add
        split <;> simp_all
      · have hs : r.flatMap ChunkM.vs = (r.take i).flatMap ChunkM.vs ++ (r.drop i).flatMap ChunkM.vs := by rw [← List.flatMap_append, List.take_append_drop]
        rw [hs] at h
        have := h.rest
        rwa [take_len (f := ChunkM.vs) (W := 3) (fun _ => rfl) r i hi] at this
theorem wf_drop {r : List ChunkM} (h : WfV (st_Chunk r)) (i : Nat) : WfV (st_Chunk (r.drop i)) := by
  have key : ∀ (r : List ChunkM), WfV.WfA (r.flatMap ChunkM.vs) → ∀ i, WfV.WfA ((r.drop i).flatMap ChunkM.vs) := by
    intro r
    induction r with
    | nil => intro _ i; simp; trivial
    | cons y r ih =>
      intro h i
      cases i with
      | zero => exact h
      | succ i =>
        rw [List.drop_succ_cons]
        rw [List.flatMap_cons] at h
        obtain ⟨_, _, _, h2⟩ := h
        exact ih h2 i
  exact key r h i
theorem tot_drop (r : List ChunkM) (i : Nat) : tot (st_Chunk (r.drop i)) ≤ tot (st_Chunk r) := by
  have hs : r.flatMap ChunkM.vs = (r.take i).flatMap ChunkM.vs ++ (r.drop i).flatMap ChunkM.vs := by rw [← List.flatMap_append, List.take_append_drop]
  show (r.drop i).length + tot.totL ((r.drop i).flatMap ChunkM.vs) ≤ r.length + tot.totL (r.flatMap ChunkM.vs)
  rw [hs, totL_append, List.length_drop]
  omega
theorem infoCk7 : (Tryz.prog.info? 37).map (fun i => (i.zero, i.size, i.bytes)) = some (some (.agg #[.int .i64 0, .int .i64 0, .slice none 0 0]), 3, 40) := by kernel_rfl
theorem sizeCk7 (u : World) : (sizeOf (Tryz.prog.elem 24)).run Tryz.prog u = .ok 3 u := by
  obtain ⟨i0, hi, hzz⟩ := Option.map_eq_some_iff.1 infoCk7
  simp only [Prod.mk.injEq] at hzz
  have he : Tryz.prog.elem 24 = 37 := by kernel_rfl
  rw [he]
  simp [sizeOf, typeInfo, hi, hzz.2.1]
theorem undCk7 : Tryz.prog.underlying 24 = some (.slice (Tryz.prog.elem 24)) := by kernel_rfl
theorem cutC_l (A : Option Addr) (z c i : Nat) (H : Int) (hH : H = (i : Int)) (hz : i ≤ z) (u : World) :
    (Instr.slice 24 (.slice A z c) (some (.int .i64 H)) none none).run Tryz.prog u = .ok (.slice (cutC A i c) (z - i) (c - i)) u := by
  subst hH
  rw [run_slice_l (w := u) 24 A z c undCk7 .i64 (i : Int) (by omega) (by omega)]
  simp only [sizeCk7, Result.andThen, sliced]
  rw [Int.toNat_natCast]
  rfl
end Go.Proofs.YtncnibkojneejaaGreatDoor

/- Parts of a slice of bytes: what s[i:h], s[:h], s[i:] hand back. -/
namespace Go.Proofs.YtncnibkojneejaaGreatDoor
open Go.RowKit Go.Deep

theorem sizeU8 (u : World) : (sizeOf (Tryz.prog.elem 22)).run Tryz.prog u = .ok 1 u := by
  obtain ⟨i0, hi, hzz⟩ := Option.map_eq_some_iff.1 infoU8
  simp only [Prod.mk.injEq] at hzz
  have he : Tryz.prog.elem 22 = 5 := by kernel_rfl
  rw [he]
  simp [sizeOf, typeInfo, hi, hzz.2.1]
theorem undB : Tryz.prog.underlying 22 = some (.slice (Tryz.prog.elem 22)) := by kernel_rfl
theorem add_off (b off i : Nat) : (⟨b, off, none⟩ : Addr).add i = ⟨b, off + i, none⟩ := by unfold Addr.add; split <;> simp_all
/-- The address behind i elements: the old one where nothing is left of the capacity. -/
def cutA (A : Option Addr) (i c : Nat) : Option Addr := if c = i then A else A.map (·.add i)
theorem cutA_bs {w : World} {A : Option Addr} {l m : List Int} {i c : Nat} (hA : Bs w A l) (hm : i + m.length ≤ l.length) (hc : l.length ≤ c) (he : ∀ j, j < m.length → l.getD (i + j) 0 = m.getD j 0) : Bs w (cutA A i c) m := by
  rcases hA with h | ⟨b, off, rfl, h2, h3⟩
  · rw [h] at hm
    exact .inl (List.eq_nil_of_length_eq_zero (by rw [List.length_nil] at hm; omega))
  · unfold cutA
    split
    · exact .inl (List.eq_nil_of_length_eq_zero (by omega))
    · exact .inr ⟨b, off + i, by simp [add_off], h2, fun j hj => by rw [show off + i + j = off + (i + j) by omega, h3 (i + j) (by omega), he j hj]⟩
theorem cutA_drop {w : World} {A : Option Addr} {l : List Int} {i c : Nat} (hA : Bs w A l) (hi : i ≤ l.length) (hc : l.length ≤ c) : Bs w (cutA A i c) (l.drop i) :=
  cutA_bs hA (by rw [List.length_drop]; omega) hc (fun j _ => by simp [List.getD_eq_getElem?_getD])
theorem cutA_take {w : World} {A : Option Addr} {l : List Int} {n : Nat} (hA : Bs w A l) (hn : n ≤ l.length) : Bs w A (l.take n) := by
  rcases hA with h | ⟨b, off, rfl, h2, h3⟩
  · exact .inl (by rw [h]; simp)
  · exact .inr ⟨b, off, rfl, h2, fun j hj => by
      rw [List.length_take] at hj
      rw [h3 j (by omega)]
      simp [List.getD_eq_getElem?_getD, List.getElem?_take_of_lt (show j < n by omega)]⟩
theorem cut_lh (A : Option Addr) (z c i n : Nat) (H : Int) (hH : H = (i : Int) + (n : Int)) (hc : i + n ≤ c) (u : World) :
    (Instr.slice 22 (.slice A z c) (some (.int .i64 (i : Int))) (some (.int .i64 H)) none).run Tryz.prog u = .ok (.slice (cutA A i c) n (c - i)) u := by
  subst hH
  rw [run_slice_lh (w := u) 22 A z c undB .i64 .i64 (i : Int) ((i : Int) + (n : Int)) (by omega) (by omega) (by omega)]
  simp only [sizeU8, Result.andThen, sliced]
  rw [show ((i : Int) + (n : Int)).toNat - (i : Int).toNat = n by omega, Int.toNat_natCast, Nat.mul_one]
  rfl
theorem cut_h (A : Option Addr) (z c n : Nat) (H : Int) (hH : H = (n : Int)) (hc : n ≤ c) (u : World) :
    (Instr.slice 22 (.slice A z c) none (some (.int .i64 H)) none).run Tryz.prog u = .ok (.slice A n c) u := by
  subst hH
  rw [run_slice_h (w := u) 22 A z c undB .i64 (n : Int) (by omega) (by omega)]
  simp only [sizeU8, Result.andThen, sliced]
  rw [Int.toNat_natCast, Nat.sub_zero, Nat.sub_zero, Nat.zero_mul]
  split
  · rfl
  · rcases A with _ | ⟨b, off, sp⟩
    · rfl
    · simp [Addr.add]
theorem cut_l (A : Option Addr) (z c i : Nat) (H : Int) (hH : H = (i : Int)) (hz : i ≤ z) (u : World) :
    (Instr.slice 22 (.slice A z c) (some (.int .i64 H)) none none).run Tryz.prog u = .ok (.slice (cutA A i c) (z - i) (c - i)) u := by
  subst hH
  rw [run_slice_l (w := u) 22 A z c undB .i64 (i : Int) (by omega) (by omega)]
  simp only [sizeU8, Result.andThen, sliced]
  rw [Int.toNat_natCast, Nat.mul_one]
  rfl
end Go.Proofs.YtncnibkojneejaaGreatDoor

/- Single operations of a region that draws its order. -/
namespace Go.Proofs.YtncnibkojneejaaGreatDoor
open Go.RowKit Go.Deep

theorem wp_allocRow {P : Program} {o : Oper} {a : Act} {w : World} {K : Act → World → Prop} {Q : Exit → Act → World → Prop} (t : TypeId) (ho : o.op = .alloc t) (dst : Option Tmp) (hd : o.dst = dst)
    (cs : Array Value) (hz : (P.info? t).bind (·.zero) = some (.agg cs))
    (h : K (a.put dst (.pointer (some ⟨w.heap.size, 0, none⟩))) (w.alloc (.cells cs t))) : o.wp P a w K Q := by
  subst hd
  unfold Oper.wp execOp
  cases hi : P.info? t with
  | none => simp [hi] at hz
  | some i =>
    simp [hi] at hz
    have hzr : ∀ u : World, (zeroValue t).run P u = .ok (.agg cs) u := (zero_of_info (n := i.size) (by simp [hi, hz])).1
    simp only [ho, Instr.alloc, hzr, newVar, newRow, Value.cells, Sem.run_bind, run_newObj_alloc, Sem.run_pure, Result.andThen_ok]
    exact h
/-- A call by its contract, as one operation. -/
theorem wp_callOp {P : Program} {o : Oper} {a : Act} {w : World} {K : Act → World → Prop} {Q : Exit → Act → World → Prop} (f : FuncId) (fn : Func) (hf : P.funcs[f]? = some fn) (hname : (fn.name == "runtime.NumGoroutine") = false) (hb : fn.body.isNone = false) (args : Array Value)
    (xs : Array Operand) (ts : Array TypeId) (ho : o.op = .call { callee := .value (.func f), args := xs, argTypes := ts }) (hx : xs.map a.eval = args) (dst : Option Tmp) (hd : o.dst = dst) (v : Value) (R : World → Prop) (hc : Calls P f args w fun e w' => e = .returned v ∧ R w')
    (h : ∀ w', R w' → K (a.put dst v) w') : o.wp P a w K Q := by
  subst hd
  have hrun : (execOp a.eval o).run P w = .ok (.enter f args) w := by
    subst hx
    have hn : ¬ fn.name = "runtime.NumGoroutine" := by simpa using hname
    have hb2 : ¬ fn.body = none := fun h => by rw [h] at hb; simp at hb
    simp [execOp, ho, resolve, invoke, Act.eval, Deferred.ofValue, callFunc, hf, hn, hb2]
  unfold Oper.wp
  rw [hrun, Oper.upon_enter]
  refine hc.mono fun e w'' hh => ?_
  obtain ⟨rfl, hr⟩ := hh
  exact h _ hr
/-- An operation that only reckons. -/
theorem wp_valueOp {P : Program} {o : Oper} {a : Act} {w : World} {K : Act → World → Prop} {Q : Exit → Act → World → Prop} (v : Value) (hrun : (execOp a.eval o).run P w = .ok (.value v) w) (dst : Option Tmp) (hd : o.dst = dst)
    (h : K (a.put dst v) w) : o.wp P a w K Q := by
  subst hd
  unfold Oper.wp
  rw [hrun]
  exact h
theorem op_parts {ops : Array Oper} {i : Nat} {op : Op} {dst : Option Tmp} (h : (ops[i]?).map (fun o => (o.op, o.dst, o.guard)) = some (op, dst, none)) :
    ∃ o, ops[i]? = some o ∧ o.op = op ∧ o.dst = dst ∧ o.guard = none := by
  obtain ⟨o, h1, h2⟩ := Option.map_eq_some_iff.1 h
  simp only [Prod.mk.injEq] at h2
  exact ⟨o, h1, h2.1, h2.2.1, h2.2.2⟩
/-- One operation of a region that draws, none of them guarded. -/
theorem wpOp_plain {P : Program} {ops : Array Oper} {Q : Exit → Act → World → Prop} {i : Nat} {o : Oper} {K : Act → World → Prop} {a : Act} {w : World} (ho : ops[i]? = some o) (hg : o.guard = none)
    (h : o.wp P a w K Q) : wpOp P ops Q i K a w := by
  refine wpOp_step ho (fun K' hK => ?_)
  rw [if_pos (by simp [Region.wanted, hg])]
  exact Oper.wp_mono hK h
def cnt (b : Bool) : Nat := if b then 0 else 1
end Go.Proofs.YtncnibkojneejaaGreatDoor

/- A region that draws its order, by an invariant over what is done. -/
namespace Go.Proofs.YtncnibkojneejaaGreatDoor
open Go.RowKit Go.Deep

/-- How many of the first operations are left. -/
def leftOf (d : Nat → Bool) : Nat → Nat
  | 0 => 0
  | k + 1 => leftOf d k + (if d k then 0 else 1)
theorem leftOf_le (d : Nat → Bool) (i k : Nat) : leftOf (fun j => j == i || d j) k ≤ leftOf d k := by
  induction k with
  | zero => exact Nat.le_refl _
  | succ k ih =>
    simp only [leftOf]
    by_cases h : d k = true
    · simp [h]; exact ih
    · by_cases e : k = i
      · subst e; simp [h]; omega
      · simp [h, e]; exact ih
theorem leftOf_lt (d : Nat → Bool) (i k : Nat) (hi : i < k) (hd : d i = false) : leftOf (fun j => j == i || d j) k < leftOf d k := by
  induction k with
  | zero => omega
  | succ k ih =>
    simp only [leftOf]
    by_cases e : k = i
    · subst e
      have := leftOf_le d k k
      simp [hd]; omega
    · have := ih (by omega)
      by_cases h : d k = true
      · simp [h]; exact this
      · simp [h, e]; exact this
theorem leftOf_zero (d : Nat → Bool) (k : Nat) (h : leftOf d k = 0) : ∀ j, j < k → d j = true := by
  induction k with
  | zero => intro j hj; omega
  | succ k ih =>
    simp only [leftOf] at h
    intro j hj
    by_cases hk : d k = true
    · by_cases e : j = k
      · subst e; exact hk
      · exact ih (by omega) j (by omega)
    · simp [hk] at h
theorem leftOf_false (k : Nat) : leftOf (fun _ => false) k = k := by
  induction k with
  | zero => rfl
  | succ k ih => simp only [leftOf, ih]; simp
theorem getD_set (L : Array Bool) (i : Nat) (hi : i < L.size) : (fun j => (L.setIfInBounds i true).getD j false) = fun j => j == i || L.getD j false := by
  funext j
  simp only [Array.getD_eq_getD_getElem?]
  rw [Array.getElem?_setIfInBounds]
  by_cases e : i = j
  · subst e; simp [hi]
  · have e2 : (j == i) = false := by simpa using fun h => e h.symm
    rw [if_neg e, e2, Bool.false_or]
/-- The region's walk: 'deps i' are operations that surely come ahead of i. -/
theorem wpAny_inv {P : Program} {ops : Array Oper} {Q : Exit → Act → World → Prop} (n : Nat) (deps : Nat → List Nat) (J : (Nat → Bool) → Act → World → Prop)
    (hn : ops.size = n)
    (hdeps : ((List.range n).all fun i => (deps i).all fun j => ((ops[i]?).map fun o => o.after.any fun e => Region.binds .any e && e.on == j).getD false) = true)
    (hback : ((List.range n).all fun i => ((ops[i]?).map fun o => o.after.all fun e => decide (e.on < i)).getD false) = true)
    (step : ∀ i, i < n → ∀ d a w, J d a w → d i = false → (∀ j, j ∈ deps i → d j = true) → wpOp P ops Q i (J (fun j => j == i || d j)) a w)
    (fin : ∀ d a w, J d a w → (∀ j, j < n → d j = true) → Q .normal a w) :
    ∀ (fuel : Nat) (L : Array Bool) (a : Act) (w : World), L.size = n → leftOf (fun j => L.getD j false) n ≤ fuel → J (fun j => L.getD j false) a w → wpAny P .any ops Q fuel L a w := by
  have mem : ∀ (L : Array Bool), L.size = n → ∀ i, i ∈ Region.ready .any ops L → i < n ∧ L.getD i false = false ∧ ∀ j, j ∈ deps i → L.getD j false = true := by
    intro L hL i hi
    simp only [Region.ready, List.mem_filter, List.mem_range, Bool.and_eq_true, Bool.not_eq_true'] at hi
    obtain ⟨h1, h2, h3⟩ := hi
    rw [hn] at h1
    refine ⟨h1, ?_, fun j hj => ?_⟩
    · simp only [Array.getD_eq_getD_getElem?] at h2 ⊢
      rw [Array.getElem?_eq_getElem (by omega)] at h2 ⊢
      exact h2
    · have h4 := List.all_eq_true.1 (List.all_eq_true.1 hdeps i (List.mem_range.2 h1)) j hj
      cases ho : ops[i]? with
      | none => simp [ho] at h4
      | some o =>
        simp only [ho, Option.map_some, Option.getD_some] at h3 h4
        obtain ⟨k, hk, he⟩ := Array.any_eq_true.1 h4
        simp only [Bool.and_eq_true, beq_iff_eq] at he
        have h5 := Array.all_eq_true.1 h3 k hk
        simp only [he.1, Bool.not_true, Bool.false_or] at h5
        rw [← he.2]; exact h5
  have done : ∀ (L : Array Bool), L.size = n → Region.ready .any ops L = [] → ∀ j, j < n → L.getD j false = true := by
    intro L hL h j
    induction j using Nat.strongRecOn with
    | ind j ih =>
      intro hj
      cases hd : L.getD j false with
      | true => rfl
      | false =>
        exfalso
        have hm : j ∈ Region.ready .any ops L := by
          simp only [Region.ready, List.mem_filter, List.mem_range, Bool.and_eq_true, Bool.not_eq_true']
          refine ⟨by omega, ?_, ?_⟩
          · simp only [Array.getD_eq_getD_getElem?] at hd ⊢
            rw [Array.getElem?_eq_getElem (by omega)] at hd ⊢
            exact hd
          · have h4 := List.all_eq_true.1 hback j (List.mem_range.2 hj)
            cases ho : ops[j]? with
            | none => simp [ho] at h4
            | some o =>
              simp only [ho, Option.map_some, Option.getD_some] at h4 ⊢
              rw [Array.all_eq_true]
              intro k hk
              have h5 := Array.all_eq_true.1 h4 k hk
              rw [decide_eq_true_eq] at h5
              rw [ih _ h5 (by omega), Bool.or_true]
        rw [h] at hm
        cases hm
  intro fuel
  induction fuel with
  | zero =>
    intro L a w hL hf hJ
    have hall := leftOf_zero (fun j => L.getD j false) n (by omega)
    refine ⟨?_, fin _ a w hJ hall⟩
    cases hr : Region.ready .any ops L with
    | nil => rfl
    | cons i t =>
      obtain ⟨h1, h2, _⟩ := mem L hL i (by rw [hr]; exact List.mem_cons_self)
      have h9 : L.getD i false = true := hall i h1
      rw [h2] at h9
      cases h9
  | succ fuel ih =>
    intro L a w hL hf hJ
    refine ⟨fun h => fin _ a w hJ (done L hL h), fun i hi => ?_⟩
    obtain ⟨h1, h2, h3⟩ := mem L hL i hi
    have hs := step i h1 _ a w hJ h2 h3
    have hg := getD_set L i (by omega)
    have hl := leftOf_lt (fun j => L.getD j false) i n h1 h2
    refine wpOp_mono (fun a' w' hJ' => ih _ a' w' (by simpa using hL) ?_ ?_) hs
    · rw [hg]; omega
    · rw [hg]; exact hJ'
theorem region_inv {P : Program} {ops : Array Oper} {Q : Exit → Act → World → Prop} (n : Nat) (deps : Nat → List Nat) (J : (Nat → Bool) → Act → World → Prop)
    (hn : ops.size = n)
    (hdeps : ((List.range n).all fun i => (deps i).all fun j => ((ops[i]?).map fun o => o.after.any fun e => Region.binds .any e && e.on == j).getD false) = true)
    (hback : ((List.range n).all fun i => ((ops[i]?).map fun o => o.after.all fun e => decide (e.on < i)).getD false) = true)
    {a : Act} {w : World} (h0 : J (fun _ => false) a w)
    (step : ∀ i, i < n → ∀ d a w, J d a w → d i = false → (∀ j, j ∈ deps i → d j = true) → wpOp P ops Q i (J (fun j => j == i || d j)) a w)
    (fin : ∀ d a w, J d a w → (∀ j, j < n → d j = true) → Q .normal a w) :
    wpAny P .any ops Q ops.size (Array.replicate ops.size false) a w := by
  have e : (fun j => (Array.replicate ops.size false).getD j false) = fun _ => false := by
    funext j
    simp only [Array.getD_eq_getD_getElem?, Array.getElem?_replicate]
    split <;> rfl
  refine wpAny_inv n deps J hn hdeps hback step fin _ _ a w (by simpa using hn) ?_ ?_
  · rw [e, leftOf_false]; omega
  · rw [e]; exact h0
theorem then_normal {K : Act → World → Prop} {Q : Exit → Act → World → Prop} {a : Act} {w : World} (h : K a w) : Exit.then K Q .normal a w := h
theorem letsOut_then {K : Act → World → Prop} {Q : Exit → Act → World → Prop} (h : LetsOut (Exit.then K Q)) : LetsOut Q := h
/-- One operation, walked as a list of its own. -/
theorem wpOp_of_list {P : Program} {ops : Array Oper} {Q : Exit → Act → World → Prop} {i : Nat} {o : Oper} {K : Act → World → Prop} {a : Act} {w : World} (ho : ops[i]? = some o)
    (h : wpList P ops (Exit.then K Q) [o] a w) : wpOp P ops Q i K a w := by
  unfold wpOp
  simp only [ho]
  simp only [wpList] at h
  split
  · next hw =>
    rw [if_pos hw] at h
    refine h.imp (fun hh => ?_) (fun hh => ⟨hh.1, letsOut_then hh.2⟩)
    unfold Oper.wp at *
    generalize (execOp a.eval o).run P w = r at *
    cases r with
    | ok n w' =>
      cases n <;> simp only [Oper.upon] at hh ⊢ <;>
        first
          | exact hh
          | exact Calls.mono hh (fun e w'' he => by cases e <;> exact he)
          | exact Rows.mono hh (fun _ _ he => he)
    | halt x w' => cases x <;> simp only [Oper.upon] at hh ⊢ <;> exact hh
  · next hw =>
    rw [if_neg hw] at h
    exact h
theorem op_lit {ops : Array Oper} {lits : Array (Op × Option Tmp × Option (Nat × Bool))} (hops : (ops.map fun o => (o.op, o.dst, o.guard)) = lits) {i : Nat} {op : Op} {dst : Option Tmp} {g : Option (Nat × Bool)} (h : lits[i]? = some (op, dst, g)) :
    ∃ ty ps af, ops[i]? = some { dst := dst, op := op, type := ty, pos := ps, after := af, guard := g } := by
  subst hops
  rw [Array.getElem?_map] at h
  obtain ⟨o, h1, h2⟩ := Option.map_eq_some_iff.1 h
  simp only [Prod.mk.injEq] at h2
  obtain ⟨rfl, rfl, rfl⟩ := h2
  exact ⟨o.type, o.pos, o.after, h1⟩
/-- Whose truth another operation waits for. -/
theorem yielded_lit {ops : Array Oper} {lits : Array (Op × Option Tmp × Option (Nat × Bool))} (hops : (ops.map fun o => (o.op, o.dst, o.guard)) = lits) {i : Nat} {op : Op} {t : Tmp} {g : Option (Nat × Bool)} (h : lits[i]? = some (op, some t, g)) (tmps : Array Value) (b : Bool) (ht : tmps[t]? = some (.bool b)) :
    yielded ops tmps i = some b := by
  obtain ⟨ty, ps, af, h1⟩ := op_lit hops h
  simp [yielded, h1, ht]
theorem wpOp_lit {P : Program} {ops : Array Oper} {Q : Exit → Act → World → Prop} {i : Nat} {dst : Option Tmp} {op : Op} {ty : TypeId} {ps : String} {af : Array Edge} {g : Option (Nat × Bool)} {K : Act → World → Prop} {a : Act} {w : World}
    (ho : ops[i]? = some { dst := dst, op := op, type := ty, pos := ps, after := af, guard := g }) (hg : ∀ j b, g = some (j, b) → yielded ops a.tmps j = some b)
    (h : wpList P #[] (Exit.then K Q) [{ dst := dst, op := op, type := ty, pos := "", after := #[], guard := none }] a w) : wpOp P ops Q i K a w := by
  have h2 : wpOp P #[{ dst := dst, op := op, type := ty, pos := "", after := #[], guard := none }] Q 0 K a w := wpOp_of_list (ops := #[{ dst := dst, op := op, type := ty, pos := "", after := #[], guard := none }]) rfl (by
    simp only [wpList] at h ⊢
    rw [if_pos (by rfl)] at h ⊢
    exact h)
  unfold wpOp at h2 ⊢
  simp only [ho]
  simp only [List.getElem?_toArray, List.getElem?_cons_zero] at h2
  rw [if_pos (by rfl)] at h2
  rw [if_pos (by
    cases g with
    | none => rfl
    | some jb => simp [Region.wanted, hg jb.1 jb.2 rfl])]
  exact h2
theorem wpOp_off {P : Program} {ops : Array Oper} {Q : Exit → Act → World → Prop} {i : Nat} {dst : Option Tmp} {op : Op} {ty : TypeId} {ps : String} {af : Array Edge} {j : Nat} {b c : Bool} {K : Act → World → Prop} {a : Act} {w : World}
    (ho : ops[i]? = some { dst := dst, op := op, type := ty, pos := ps, after := af, guard := some (j, b) }) (hy : yielded ops a.tmps j = some c) (hne : c ≠ b) (h : K (a.put dst undef) w) : wpOp P ops Q i K a w := by
  unfold wpOp
  simp only [ho]
  rw [if_neg (by simp [Region.wanted, hy, hne])]
  exact h
theorem wp_fieldAddr {P : Program} {o : Oper} {a : Act} {w : World} {K : Act → World → Prop} {Q : Exit → Act → World → Prop} (t : TypeId) (x : Operand) (f : Nat) (ho : o.op = .fieldAddr t x f) (dst : Option Tmp) (hd : o.dst = dst) (v p : Value)
    (hx : a.eval x = p) (hrun : (Instr.fieldAt t p f).run P w = .ok v w) (h : K (a.put dst v) w) : o.wp P a w K Q := by
  refine wp_valueOp v ?_ dst hd h
  unfold execOp
  simp only [ho, hx, Sem.run_bind, hrun, Result.andThen_ok, Sem.run_pure]
theorem wp_moveOp {P : Program} {o : Oper} {a : Act} {w : World} {K : Act → World → Prop} {Q : Exit → Act → World → Prop} (x : Operand) (ho : o.op = .move x) (dst : Option Tmp) (hd : o.dst = dst) (v : Value)
    (hx : a.eval x = v) (h : K (a.put dst v) w) : o.wp P a w K Q := by
  refine wp_valueOp v ?_ dst hd h
  unfold execOp
  simp only [ho, hx, Sem.run_pure]
/-- A call whose answer is known by a property. -/
theorem wp_callAny {P : Program} {o : Oper} {a : Act} {w : World} {K : Act → World → Prop} {Q : Exit → Act → World → Prop} (f : FuncId) (fn : Func) (hf : P.funcs[f]? = some fn) (hname : (fn.name == "runtime.NumGoroutine") = false) (hb : fn.body.isNone = false) (args : Array Value)
    (xs : Array Operand) (ts : Array TypeId) (ho : o.op = .call { callee := .value (.func f), args := xs, argTypes := ts }) (hx : xs.map a.eval = args) (dst : Option Tmp) (hd : o.dst = dst) (R : Value → World → Prop) (hc : Calls P f args w fun e w' => ∃ v, e = .returned v ∧ R v w')
    (h : ∀ v w', R v w' → K (a.put dst v) w') : o.wp P a w K Q := by
  subst hd
  have hrun : (execOp a.eval o).run P w = .ok (.enter f args) w := by
    subst hx
    have hn : ¬ fn.name = "runtime.NumGoroutine" := by simpa using hname
    have hb2 : ¬ fn.body = none := fun h => by rw [h] at hb; simp at hb
    simp [execOp, ho, resolve, invoke, Act.eval, Deferred.ofValue, callFunc, hf, hn, hb2]
  unfold Oper.wp
  rw [hrun, Oper.upon_enter]
  refine hc.mono fun e w'' hh => ?_
  obtain ⟨v, rfl, hr⟩ := hh
  exact h v _ hr
end Go.Proofs.YtncnibkojneejaaGreatDoor
