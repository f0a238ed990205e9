import Derived.Test.YtncnibkojneejaaGreatDoorJa6
import Derived.Laws.OwnMore
import Derived.Laws.BitsAllLaws
import Derived.Test.YtncnibkojneejaaGreatDoorS7CR
import Derived.Test.YtncnibkojneejaaGreatDoorJb1

/- The model's HMAC: l3Block, l3Hmac, HmacSha. -/
namespace Go.Proofs.YtncnibkojneejaaGreatDoor
open Go.RowKit Go.Deep

def padK (L : List Int) (k : Nat) : List Int := L ++ List.replicate k 0
theorem padK_len (L : List Int) (k : Nat) : (padK L k).length = L.length + k := by simp [padK]
theorem padK_succ (L : List Int) (k : Nat) : padK L (k + 1) = padK L k ++ [0] := by simp [padK, List.replicate_succ']
/-- The first k bytes turned. -/
def turnTo (L : List Int) (m k : Nat) : List Int := (L.take k).map (byteX m) ++ L.drop k
theorem turnTo_len (L : List Int) (m k : Nat) : (turnTo L m k).length = L.length := by simp [turnTo]; omega
theorem turnTo_get (L : List Int) (m k : Nat) (hk : k < L.length) : (turnTo L m k)[k]? = some (L.getD k 0) := by
  have : ((L.take k).map (byteX m)).length = k := by simp; omega
  rw [turnTo, List.getElem?_append_right (by omega), this, Nat.sub_self, List.getElem?_drop, Nat.add_zero, List.getD_eq_getElem?_getD, List.getElem?_eq_getElem hk]; rfl
theorem turnTo_succ (L : List Int) (m k : Nat) (hk : k < L.length) : (turnTo L m k).set k (byteX m (L.getD k 0)) = turnTo L m (k + 1) := by
  have h1 : ((L.take k).map (byteX m)).length = k := by simp; omega
  have h2 : L.getD k 0 = L[k] := by rw [List.getD_eq_getElem?_getD, List.getElem?_eq_getElem hk]; rfl
  rw [turnTo, List.set_append_right _ _ (by omega), h1, Nat.sub_self, h2, turnTo, List.take_succ_eq_append_getElem hk, List.map_append, List.append_assoc, List.drop_eq_getElem_cons hk]
  rfl
theorem turnTo_zero (L : List Int) (m : Nat) : turnTo L m 0 = L := by simp [turnTo]
theorem turnTo_all (L : List Int) (m : Nat) : turnTo L m L.length = L.map (byteX m) := by simp [turnTo]
set_option maxRecDepth 100000 in
set_option maxHeartbeats 4000000 in
theorem block_any (A : Option Addr) (l : List Int) (c : Nat) (m : Int) (w : World) (hA : Bs w A l) (hl : Bytes l) (hm : l.length ≤ 50000) (hm0 : 0 ≤ m) (hm1 : m ≤ 255) :
    Calls Tryz.prog 54 #[.slice A l.length c, .int .u8 m] w (OwnB w (blockK l m.toNat)) := by
  have hmi : (l.length : Int) ≤ 50000 := by omega
  have hkl := keyK_len l
  have hkb := keyK_bytes hl
  have hfin : blockK l m.toNat = turnTo (padK (keyK l) (64 - (keyK l).length)) m.toNat 64 := by
    have e : (padK (keyK l) (64 - (keyK l).length)).length = 64 := by rw [padK_len]; omega
    have h := turnTo_all (padK (keyK l) (64 - (keyK l).length)) m.toNat
    rw [e] at h
    rw [h]; rfl
  have HF := hidH hfin
  clear hfin
  have HKB := hidH hkb
  clear hkb
  go_enter Tryz.func54, Tryz.ntmps54
  go_wp2_with fail
  refine (copy_any _ _ _ _ hA (by omega)).mono ?_
  rintro e w1 ⟨v, rfl, o1, b1⟩
  obtain ⟨A1, c1, rfl, ob, _, _⟩ := own_ob o1
  have H1 := hidH ob.bs
  have O1 := hidH o1
  have B1 := hidH b1
  clear o1 b1 ob
  by_cases h64 : 64 < l.length
  case' pos =>
    have h64i : (64 : Int) < (l.length : Int) := by omega
    have hk : keyK l = shaL l := by rw [keyK, if_pos h64]
    go_wp2_with fail
    refine (sha_any _ _ _ _ H1.out hl (by omega)).mono ?_
    rintro e w2 ⟨v, rfl, o2, b2⟩
    have O2 := hidH (own_mono o2 B1.out.size)
    have B2 := hidH (btr B1.out b2)
    clear o2 b2 h64 h64i
    rw [← hk] at O2
  case' neg =>
    have h64i : (l.length : Int) ≤ 64 := by omega
    have hk : keyK l = l := by rw [keyK, if_neg h64]
    have O2 : Hid (w1.ownsRow w.heap.size 5 1 (.slice A1 l.length c1) (keyK l).length ((keyK l).map (Value.int .u8))) := hidH (by rw [hk]; exact O1.out)
    have B2 := B1
    clear h64
  all_goals
    clear H1 O1 B1 hk
    generalize keyK l = L at *
    obtain ⟨z, hz⟩ : ∃ z, 64 - L.length = z := ⟨_, rfl⟩
    have HZ := hidH hz
    go_wp2_with fail
    go_loopg [5] z (fun g v wr => ∃ k : Nat, k ≤ z ∧ g = z - k ∧ wr.ownsRow w.heap.size 5 1 v (padK L k).length ((padK L k).map (Value.int .u8)) ∧ Below w.heap.size w wr)
    case atStart => exact ⟨0, by omega, by omega, by simpa [padK] using O2.out, B2.out⟩
    case round =>
      obtain ⟨k, hk, rfl, hown, hB⟩ := hrel
      have hsz := hB.size
      have HL := hidH (padK_len L k)
      have hpl : ((padK L k).length : Int) ≤ 64 := by rw [HL.out]; omega
      by_cases hlt : k < z
      · have ht : ((padK L k).length : Int) < 64 := by rw [HL.out]; omega
        obtain ⟨A5, c5, rfl, ob5, _, _⟩ := own_ob hown
        have PH := hidH (lit_bs wr 5 [0])
        have OH := hidH hown
        clear ob5
        go_wp2_with (at_builtin; refine wpList_append_bs rfl _ _ rfl w.heap.size _ _ _ rfl (OH.out.alloc _) (some ⟨wr.heap.size, 0, none⟩) [0] 1 rfl PH.out (by have := HL.out; simp; omega) (by simp; omega) ?_)
        intro v3 w3 o3 g3
        have B3 := hidH (own_grow (m := 0) hB hown g3)
        have O3 := hidH o3
        clear o3 g3 hown hB
        go_wp2
        go_roundg (z - (k + 1))
        case rel => exact ⟨k + 1, by omega, rfl, by rw [padK_succ]; simpa using O3.out, B3.out⟩
        case measure => omega
      · obtain rfl : k = z := by omega
        have e64 : (padK L k).length = 64 := by rw [HL.out]; omega
        rw [e64] at hown
        obtain ⟨g, cap, rfl, hbg, hgs⟩ := hown.form (by decide)
        obtain ⟨M, hM⟩ : ∃ M, padK L k = M := ⟨_, rfl⟩
        rw [hM] at hown e64
        have HM := hidH hM
        have OH := hidH hown
        have HB := hidH hB
        have E64 := hidH e64
        have MB : Hid (Bytes M) := hidH (by
          intro x hx
          rw [← HM.out, padK, List.mem_append, List.mem_replicate] at hx
          rcases hx with hx | ⟨_, rfl⟩
          · exact HKB.out x hx
          · omega)
        have HF2 : Hid (blockK l m.toNat = turnTo M m.toNat 64) := hidH (by rw [HF.out, hz]; exact congrArg (fun X => turnTo X m.toNat 64) HM.out)
        clear hM hown hB hlt hpl e64
        go_wp2
        go_loopg [6] 64 (fun q i wq => ∃ t : Nat, t ≤ 64 ∧ q = 64 - t ∧ i = .int .i64 t ∧ wq.ownsRow w.heap.size 5 1 (.slice (some ⟨g, 0, none⟩) 64 cap) 64 ((turnTo M m.toNat t).map (Value.int .u8)) ∧ Below w.heap.size w wq)
        case atStart => exact ⟨0, by omega, by omega, rfl, by rw [turnTo_zero]; exact OH.out, HB.out⟩
        case round =>
          obtain ⟨t, ht, rfl, rfl, hown, hB⟩ := hrel
          by_cases hlt : t < 64
          · have ht0 : (0 : Int) ≤ (t : Int) := by omega
            have ht1 : (t : Int) < 64 := by omega
            have hti : t < M.length := by rw [E64.out]; exact hlt
            obtain ⟨x, hx⟩ : ∃ x, M.getD t 0 = x := ⟨_, rfl⟩
            have cc : wr.cell? ⟨g, t, none⟩ = some (.int .u8 x) := by rw [hown.cellAt t (by omega), List.getElem?_map, turnTo_get _ _ _ hti, hx]; rfl
            have f1 := hown.frozenAt t
            have hxb := MB.out.get t
            rw [hx] at hxb
            have hv := u8_xor x m hxb.1 hxb.2 hm0 hm1
            have hst := hown.stored t (.int .u8 (byteX m.toNat x))
            have hsucc := turnTo_succ M m.toNat t hti
            rw [hx] at hsucc
            have ST := hidH hst
            have SC := hidH hsucc
            clear hst hsucc hown
            go_wp2
            go_roundg (64 - (t + 1))
            case rel => exact ⟨t + 1, by omega, rfl, by go_num, by rw [← SC.out, List.map_set]; exact ST.out.1, bst hB hbg _⟩
            case measure => omega
          · obtain rfl : t = 64 := by omega
            rw [show ((64 : Nat) : Int) = 64 from rfl]
            have el : (blockK l m.toNat).length = 64 := blockK_len _ _
            have R := hidH hown
            have RB := hidH hB
            clear hown hB hlt ht
            go_wp2
            go_ret
            exact ⟨_, rfl, by rw [el, HF2.out]; exact R.out, RB.out⟩
theorem bytes_app {a b : List Int} (ha : Bytes a) (hb : Bytes b) : Bytes (a ++ b) := fun x hx => (List.mem_append.1 hx).elim (ha x) (hb x)
set_option maxRecDepth 100000 in
set_option maxHeartbeats 4000000 in
theorem hmac_any (A B : Option Addr) (l d : List Int) (c1 c2 : Nat) (w : World) (hA : Bs w A l) (hB : Bs w B d) (hl : Bytes l) (hd : Bytes d) (hm : l.length ≤ 40000) (hn : d.length ≤ 40000) :
    Calls Tryz.prog 35 #[.slice A l.length c1, .slice B d.length c2] w (OwnB w (hmL l d)) := by
  have k54 := blockK_bytes hl (m := 54) (by decide)
  have k92 := blockK_bytes hl (m := 92) (by decide)
  have l54 := blockK_len l 54
  have l92 := blockK_len l 92
  have hfin : hmL l d = shaL (blockK l 92 ++ shaL (blockK l 54 ++ d)) := rfl
  have C54 := fun A c w hA => block_any A l c 54 w hA hl (by omega) (by decide) (by decide)
  have C92 := fun A c w hA => block_any A l c 92 w hA hl (by omega) (by decide) (by decide)
  rw [show (54 : Int).toNat = 54 from rfl] at C54
  rw [show (92 : Int).toNat = 92 from rfl] at C92
  generalize blockK l 54 = K at k54 l54 hfin C54
  generalize blockK l 92 = K' at k92 l92 hfin C92
  obtain ⟨X, hX⟩ : ∃ X, K ++ d = X := ⟨_, rfl⟩
  have x1 : X.length = K.length + d.length := by rw [← hX, List.length_append]
  have x2 : Bytes X := by rw [← hX]; exact bytes_app k54 hd
  obtain ⟨S, hS⟩ : ∃ S, shaL X = S := ⟨_, rfl⟩
  have s1 : S.length = 32 := by rw [← hS]; exact shaL_len' _
  have s2 : Bytes S := by rw [← hS]; exact shaL_bytes _
  obtain ⟨Y, hY⟩ : ∃ Y, K' ++ S = Y := ⟨_, rfl⟩
  have y1 : Y.length = K'.length + S.length := by rw [← hY, List.length_append]
  have y2 : Bytes Y := by rw [← hY]; exact bytes_app k92 s2
  rw [hX, hS, hY] at hfin
  have SX := fun A c w hA => sha_any A X c w hA x2 (by omega)
  have SY := fun A c w hA => sha_any A Y c w hA y2 (by omega)
  rw [hS] at SX
  rw [← hfin] at SY
  obtain ⟨Z, hZ⟩ : ∃ Z, hmL l d = Z := ⟨_, rfl⟩
  rw [hZ] at SY ⊢
  have hmd : ∀ (v : Value), K.length + d.length ≤ 4000000 := fun _ => by omega
  have b64 : K.length + d.length ≤ 4000000 := by omega
  have b96 : K'.length + S.length ≤ 4000000 := by omega
  clear k54 k92 l54 l92 hfin x2 s2 y2 hZ hmd s1 hm hn hl hd
  have XA := hidH hX
  have YA := hidH hY
  have X1 := hidH x1
  have Y1 := hidH y1
  have HA := hidH hA
  have HB := hidH hB
  have SXH := hidH SX
  have SYH := hidH SY
  have C54H := hidH C54
  have C92H := hidH C92
  clear hX hY x1 y1 hA hB SX SY C54 C92 hS
  go_enter Tryz.func35, Tryz.ntmps35
  go_wp2_with fail
  refine (C54H.out _ _ _ HA.out).mono ?_
  rintro e w1 ⟨v, rfl, o1, b1⟩
  have O1 := hidH o1
  have B1 := hidH b1
  clear o1 b1
  go_wp2_with (at_builtin; refine wpList_append_bs rfl _ _ rfl w.heap.size _ _ _ rfl O1.out B d c2 rfl (bs_below HB.out B1.out) b64 B1.out.size ?_)
  intro v2 w2 o2 g2
  have B2 : Hid (Below w.heap.size w w2) := hidH (B1.out.grown g2 B1.out.size (fun k hk => (O1.out.lt k hk).1))
  rw [← List.map_append, ← X1.out, XA.out] at o2
  obtain ⟨A2, c3, rfl, ob2, hc1, hc2⟩ := own_ob o2
  have P2 := hidH ob2.bs
  clear o2 g2 ob2 hc1 hc2
  go_wp2_with fail
  refine (SXH.out _ _ _ P2.out).mono ?_
  rintro e w3 ⟨v3, rfl, o3, b3⟩
  have B3 := hidH (btr B2.out b3)
  obtain ⟨A3, c5, rfl, ob3, hc1, hc2⟩ := own_ob o3
  have P3 := hidH ob3.bs
  clear o3 b3 ob3 hc1 hc2
  go_wp2_with fail
  refine (C92H.out _ _ _ (bs_below HA.out B3.out)).mono ?_
  rintro e w4 ⟨v4, rfl, o4, b4⟩
  have P4 := hidH (bs_below P3.out b4)
  have O4 := hidH (own_mono o4 B3.out.size)
  have B4 := hidH (btr B3.out b4)
  clear o4 b4
  go_wp2_with (at_builtin; refine wpList_append_bs rfl _ _ rfl w.heap.size _ _ _ rfl O4.out A3 S c5 rfl P4.out b96 B4.out.size ?_)
  intro v5 w5 o5 g5
  have B5 : Hid (Below w.heap.size w w5) := hidH (B4.out.grown g5 B4.out.size (fun k hk => (O4.out.lt k hk).1))
  rw [← List.map_append, ← Y1.out, YA.out] at o5
  obtain ⟨A5, c6, rfl, ob5, hc1, hc2⟩ := own_ob o5
  have P5 := hidH ob5.bs
  clear o5 g5 ob5 hc1 hc2
  go_wp2_with fail
  refine (SYH.out _ _ _ P5.out).mono ?_
  rintro e w6 ⟨v6, rfl, o6, b6⟩
  have B6 := hidH (btr B5.out b6)
  have O6 := hidH (own_mono o6 B5.out.size)
  clear o6 b6
  go_wp2
  go_ret
  exact ⟨_, rfl, O6.out, B6.out⟩
end Go.Proofs.YtncnibkojneejaaGreatDoor

/- Chapter 7: the model's l4Copies, l7Protect, ProtectChunks. -/
namespace Go.Proofs.YtncnibkojneejaaGreatDoor
open Go.RowKit Go.Deep

/-- A row that is the list r, owned. -/
def CpsC (r : List ChunkM) (u : World) (e : Ending) (w' : World) : Prop := ∃ (v : Value) (q : List RowE), e = .returned v ∧ RowCk q r ∧ w'.ownsRow u.heap.size 37 3 v r.length (flatR q) ∧ RTs u.heap.size w' q ∧ Below u.heap.size u w'
set_option maxRecDepth 100000 in
set_option maxHeartbeats 4000000 in
theorem cps4_any (r : List ChunkM) (v : Value) (u : World) (h : Rd u (st_Chunk r) v) (hn : r.length ≤ 1000) (hc : ∀ x ∈ r, x.Body.length ≤ 4000000) : Calls Tryz.prog 45 #[v] u (CpsC r u) := by
  obtain ⟨A, c, rfl⟩ := st_Chunk_sh h
  have hm : (r.length : Int) ≤ 1000 := by omega
  have HI := hidH h
  have HZ := hidH (And.intro hn hc)
  have HO0 := hidH (show (u.alloc (.cells #[] 37)).ownsRow u.heap.size 37 3 (.slice (some ⟨u.heap.size, 0, none⟩) 0 0) 0 [] from World.ownsRow_lit u #[] 0 (Nat.le_refl _) (by unfold maxLen; omega) rfl)
  have HB0 := hidH (bal (Below.refl u.heap.size u) (.cells #[] 37))
  clear h hn hc
  go_enter Tryz.func45, Tryz.ntmps45
  go_wp2
  go_loopw [3, 4] (fun v i wr => ∃ (j : Nat) (q : List RowE), j ≤ r.length ∧ i = .int .i64 j ∧ RowCk q (r.take j) ∧ wr.ownsRow u.heap.size 37 3 v j (flatR q) ∧ RTs u.heap.size wr q ∧ Below u.heap.size u wr) (fun _ i _ => r.length - (intOf i).toNat)
  case atStart => exact ⟨0, [], by omega, rfl, RowCk.nil, HO0.out, RTs.nil _ _, HB0.out⟩
  case round =>
    obtain ⟨j, q, hj, rfl, hq, ho, hk, hB⟩ := hrel
    have hj0 : (0 : Int) ≤ (j : Int) := by omega
    by_cases hlt : j < r.length
    · have hj1 : (j : Int) < (r.length : Int) := by omega
      obtain ⟨g, o, c', B, cB, e, CK, _⟩ := chunk_at HI.out hlt
      injection e with e1 e2 e3
      subst e1 e3
      have HO := hidH ho
      have HK := hidH hk
      have HBW := hidH hB
      have HQ := hidH hq
      have HLT := hidH hlt
      have HCK := hidH CK
      clear ho hk hB hq CK
      go_wp2
      refine wp_region_any (by kernel_rfl) ?_
      refine regC4 _ _ _ _ _ _ _ _ _ _ _ _ _ _ _ _ _ _ _ _ _ _ _ _ _ _ _ _ _ _ _ (flatR q) wr u.heap.size j j g o r.length c r[j].Kind r[j].Flags B r[j].Body cB HCK.out.lt (hidH (by have := HZ.out.1; have := HLT.out; omega)) hj1 hj0 (hidH (HZ.out.2 _ (List.getElem_mem HLT.out))) (hidH (fun W hb => bs_below HCK.out.body (HBW.out.trans hb))) ((HBW.out.cell (p := ⟨g, o + j * 3, none⟩) HCK.out.lt).trans HCK.out.c0) ((HBW.out.cell (p := ⟨g, o + j * 3 + 1, none⟩) HCK.out.lt).trans HCK.out.c1) ((HBW.out.cell (p := ⟨g, o + j * 3 + 2, none⟩) HCK.out.lt).trans HCK.out.c2) (by kernel_rfl) (by kernel_rfl) (by kernel_rfl) rfl (fun h => by cases h) (fun h => by cases h) (fun h => by cases h) (Below.refl _ _).drew (B8.of_below (Below.refl _ _).drew) HBW.out.size (Nat.le_refl _) (fun _ => HO.out) ?_
      intros
      rename_i W gB gU gS gW gR
      obtain ⟨A9, c9, o9, s9⟩ := gR
      obtain ⟨lo, hi, hlo, hkt⟩ := RT.of_row s9 gW [.int r[j].Kind, .int r[j].Flags]
      have HN := hidH (show RowCk (q ++ [ckE r[j] (.slice A9 r[j].Body.length c9) lo hi]) (r.take (j + 1)) ∧ RTs u.heap.size W (q ++ [ckE r[j] (.slice A9 r[j].Body.length c9) lo hi]) ∧ Below u.heap.size u W from
        ⟨HQ.out.take HLT.out _ _ _, (HK.out.turn gW gU).snoc hkt (Nat.le_trans HBW.out.size hlo) (fun y hy => Nat.le_trans (HK.out.top y hy) hlo), HBW.out.trans gB⟩)
      have HO9 := hidH (show W.ownsRow u.heap.size 37 3 _ (j + 1) (flatR (q ++ [ckE r[j] (.slice A9 r[j].Body.length c9) lo hi])) by rw [flatR_app]; exact o9)
      clear gB gU gS gW o9 s9 hkt
      go_wp2
      go_roundw
      case rel => exact ⟨j + 1, _, HLT.out, by go_num, HN.out.1, HO9.out, HN.out.2.1, HN.out.2.2⟩
      case measure => simp [intOf]; have := HLT.out; omega
    · obtain rfl : j = r.length := by omega
      rw [List.take_length] at hq
      have HO := hidH ho
      have HK := hidH hk
      have HBW := hidH hB
      have HQ := hidH hq
      clear ho hk hB hq hlt hj
      go_wp2
      go_ret
      exact ⟨_, q, rfl, HQ.out, HO.out, HK.out, HBW.out⟩
/-- A list of chunks, owned. -/
def ListC (r : List ChunkM) (u : World) (e : Ending) (w' : World) : Prop := ∃ v, e = .returned v ∧ OwV u.heap.size w'.heap.size w' (st_Chunk r) v ∧ Below u.heap.size u w'
/-- The same, as a row. -/
def ListR (r : List ChunkM) (u : World) (e : Ending) (w' : World) : Prop := ∃ (v : Value) (q : List RowE), e = .returned v ∧ RowCk q r ∧ w'.ownsRow u.heap.size 37 3 v r.length (flatR q) ∧ RTs u.heap.size w' q ∧ Below u.heap.size u w'
set_option maxRecDepth 100000 in
set_option maxHeartbeats 4000000 in
theorem l7ProtectR_any (id : Int) (key : List Int) (r : List ChunkM) (K : Option Addr) (ck : Nat) (v : Value) (u : World) (hK : Bs u K key) (h : Rd u (st_Chunk r) v) (h0 : 0 ≤ id) (h1 : id < 65536) (hkb : Bytes key) (hkl : key.length ≤ 40000) (hc : ∀ x ∈ r, cmOk x) (hb : ∀ x ∈ r, Bytes x.Body) (hn : r.length ≤ 20) :
    Calls Tryz.prog 26 #[.int .i64 id, .slice K key.length ck, v] u (ListR (pcL id key r) u) := by
  have HTX := hidH (l7Text_any id r v u h h0 h1 hc hn)
  have HI := hidH (fun (w : World) (hb : Below u.heap.size u w) => Rd.below hb _ h)
  have HKB := hidH (fun (w : World) (hb : Below u.heap.size u w) => bs_below hK hb)
  have HC := hidH hc
  have HN := hidH hn
  have HTL := hidH (txtTo_len id r hc r.length (Nat.le_refl _))
  have HTB := hidH (txtTo_bytes h0 (by omega) hc hb r.length)
  obtain ⟨L, hL⟩ : ∃ L, txtL id r = L := ⟨_, rfl⟩
  have HLL := hidH hL
  have e0 : txtTo id r r.length = L := hL
  rw [e0] at HTL HTB
  rw [hL] at HTX
  have HKL := hidH (And.intro hkb hkl)
  have HPL := hidH (show pcL id key r = tagC id (hmL key L) :: r by rw [pcL, hL])
  have hd32 := (show (hmL key L).length = 32 from shaL_len' _)
  obtain ⟨D, hD⟩ : ∃ D, hmL key L = D := ⟨_, rfl⟩
  rw [hD] at hd32 HPL
  have HD := hidH hD
  have HD32 := hidH hd32
  clear h hK hc hb hn hL e0 hkb hkl hD hd32
  go_enter Tryz.func26, Tryz.ntmps26
  go_wp2_with fail
  refine HTX.out.mono ?_
  rintro e w1 ⟨v1, rfl, o1, b1⟩
  obtain ⟨A1, c1, rfl, ob1, _, _⟩ := own_ob o1
  have HM := hidH (hmac_any K A1 key L ck c1 w1 (HKB.out w1 b1) ob1.bs HKL.out.1 HTB.out HKL.out.2 (by have := HTL.out; have := HN.out; omega))
  rw [HD.out] at HM
  have HB1 := hidH b1
  clear o1 ob1 b1 HTX
  go_wp2_with fail
  refine HM.out.mono ?_
  rintro e w2 ⟨v2, rfl, o2, b2⟩
  obtain ⟨A2, c2, rfl, ob2, _, _⟩ := own_ob o2
  have HT := hidH (l7Tag_any id D A2 c2 w2 ob2.bs h0 h1 (by rw [HD32.out]; omega))
  have HB2 := hidH (btr HB1.out b2)
  clear o2 ob2 b2 HM
  go_wp2_with fail
  refine HT.out.mono ?_
  rintro e w3 ⟨A3, c3, rfl, o3, b3⟩
  obtain ⟨lo, hi, hlo, hkt⟩ := RT.of_row o3 b3.size [.int 15, .int 0]
  have HB3 := hidH (btr HB2.out b3)
  have ba := bal (Below.refl w3.heap.size w3) (.cells #[.int .i64 15, .int .i64 0, .slice A3 (tagB id D).length c3] 37)
  have HR4 := hidH (show (w3.alloc (.cells #[.int .i64 15, .int .i64 0, .slice A3 (tagB id D).length c3] 37)).ownsRow w3.heap.size 37 3 (.slice (some ⟨w3.heap.size, 0, none⟩) 1 1) 1 (flatR [ckE (tagC id D) (.slice A3 (tagB id D).length c3) lo hi]) from
    World.ownsRow_lit w3 #[.int .i64 15, .int .i64 0, .slice A3 (tagB id D).length c3] 1 (Nat.le_refl _) (by unfold maxLen; omega) rfl)
  have HKT := hidH (hkt.turn ba.size (B8.of_below ba))
  have HLO := hidH (And.intro hlo hkt.1.1)
  have HBA := hidH (btr HB3.out ba)
  have HZA := hidH ba.size
  obtain ⟨W4, hW4⟩ : ∃ W4, w3.alloc (.cells #[.int .i64 15, .int .i64 0, .slice A3 (tagB id D).length c3] 37) = W4 := ⟨_, rfl⟩
  rw [hW4] at HR4 HKT HBA HZA
  have HW4 := hidH hW4
  have HCP := hidH (cps4_any r v W4 (HI.out _ HBA.out) (by have := HN.out; omega) (fun x hx => by have := (HC.out x hx).2.2; omega))
  have HTN := hidH (tagB_len id D)
  unfold ckV
  clear o3 b3 hlo hkt ba hW4 HT
  go_wp2_with fail
  rw [HW4.out]
  refine HCP.out.mono ?_
  rintro e w5 ⟨v5, q, rfl, hq, o5, t5, b5⟩
  have HR5 := hidH (own_below0 HR4.out b5)
  have HKT5 := hidH (HKT.out.turn b5.size (B8.of_below b5))
  have HB5 := hidH (btr HBA.out b5)
  have HO5 := hidH o5
  have HT5 := hidH t5
  have HQ := hidH hq
  have hsz5 : w3.heap.size ≤ w5.heap.size := Nat.le_trans HZA.out b5.size
  obtain ⟨X, hX⟩ : ∃ X, flatR [ckE (tagC id D) (.slice A3 (tagB id D).length c3) lo hi] = X := ⟨_, rfl⟩
  rw [hX] at HR5
  have HX := hidH hX
  obtain ⟨Y, hY⟩ : ∃ Y, flatR q = Y := ⟨_, rfl⟩
  have HONE := hidH (show ∀ u ∈ Y, u.oneCell' = true by rw [← hY]; exact flatR_one hq.ok (fun x hx => (t5.1 x hx).1.val))
  rw [hY] at HO5
  have HY := hidH hY
  clear hq o5 t5 b5 hX hY HCP HW4
  go_wp2_with (at_builtin; go_loud (refine wpList_append_rows rfl _ _ Tryz.underlying24 infoCk rfl (by decide) (by decide) rfl w3.heap.size _ 1 X rfl HR5.out _ r.length _ Y rfl HO5.out HONE.out (by have := HN.out; omega) hsz5 ?_))
  intro v6 w6 o6 g6 _
  have HB6 := hidH (show Below u.heap.size u w6 from HB5.out.grown g6 (by have := HB5.out.size; omega) (fun x hx => Nat.le_trans HB3.out.size (HR5.out.lt x hx).1))
  have HO6 := hidH (show RowCk (ckE (tagC id D) (.slice A3 (tagB id D).length c3) lo hi :: q) (tagC id D :: r) ∧ w6.ownsRow u.heap.size 37 3 v6 (tagC id D :: r).length (flatR (ckE (tagC id D) (.slice A3 (tagB id D).length c3) lo hi :: q)) ∧ RTs u.heap.size w6 (ckE (tagC id D) (.slice A3 (tagB id D).length c3) lo hi :: q) from by
    have hu8 : B8 w5 w6 := B8.of_grown g6 HR5.out (by decide)
    have hl : (tagC id D :: r).length = 1 + r.length := by simp; omega
    refine ⟨HQ.out.cons _ _ _ _, own_monoT (B := w3.heap.size) ?_ HB3.out.size, ⟨fun x hx => ?_, ?_⟩⟩
    · rw [hl, flatR_cons]
      rw [← HX.out, ← HY.out] at o6
      simpa [flatR] using o6
    · rcases List.mem_cons.1 hx with rfl | hx
      · exact ⟨HKT5.out.turn g6.size hu8, Nat.le_trans HB2.out.size HLO.out.1⟩
      · exact ⟨(HT5.out.1 x hx).1.turn g6.size hu8, Nat.le_trans HBA.out.size (HT5.out.1 x hx).2⟩
    · refine List.pairwise_cons.2 ⟨fun y hy => .inl ?_, HT5.out.2⟩
      have h9 := (HT5.out.1 y hy).2
      have h8 : hi ≤ w3.heap.size := HLO.out.2
      have h7 := HZA.out
      show hi ≤ y.lo
      omega)
  clear o6 g6
  go_wp2
  go_ret
  refine ⟨_, _, rfl, ?_, ?_, HO6.out.2.2, HB6.out⟩
  · rw [HPL.out]; exact HO6.out.1
  · rw [HPL.out]; exact HO6.out.2.1
theorem l7Protect_any (id : Int) (key : List Int) (r : List ChunkM) (K : Option Addr) (ck : Nat) (v : Value) (u : World) (hK : Bs u K key) (h : Rd u (st_Chunk r) v) (h0 : 0 ≤ id) (h1 : id < 65536) (hkb : Bytes key) (hkl : key.length ≤ 40000) (hc : ∀ x ∈ r, cmOk x) (hb : ∀ x ∈ r, Bytes x.Body) (hn : r.length ≤ 20) :
    Calls Tryz.prog 26 #[.int .i64 id, .slice K key.length ck, v] u (ListC (pcL id key r) u) :=
  (l7ProtectR_any id key r K ck v u hK h h0 h1 hkb hkl hc hb hn).mono (fun _ _ ⟨v, _, h1, hq, ho, hk, hb⟩ => ⟨v, h1, RowCk.own hq ho (Nat.le_refl _) hk, hb⟩)
end Go.Proofs.YtncnibkojneejaaGreatDoor
