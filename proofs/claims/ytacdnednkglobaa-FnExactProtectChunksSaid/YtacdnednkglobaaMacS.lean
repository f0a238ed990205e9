/- The model's HMAC: l3Block, l3Hmac, HmacSha. -/
import Derived.Test.YtacdnednkglobaaMa5
import Derived.Laws.OwnMore
import Derived.Laws.BitsAllLaws
namespace Go.Proofs.Ytacdnednkglobaa
open Go.RowKit Go.Deep

def padK (L : List Int) (k : Nat) : List Int := L ++ List.replicate k 0
theorem padK_len (L : List Int) (k : Nat) : (padK L k).length = L.length + k := by simp [padK]
theorem padK_succ (L : List Int) (k : Nat) : padK L (k + 1) = padK L k ++ [0] := by simp [padK, List.replicate_succ']
/-- The first k bytes turned. -/
def turnTo (L : List Int) (m k : Nat) : List Int := (L.take k).map (byteX m) ++ L.drop k
theorem turnTo_len (L : List Int) (m k : Nat) : (turnTo L m k).length = L.length := by simp [turnTo]; omega
theorem turnTo_get (L : List Int) (m k : Nat) (hk : k < L.length) : (turnTo L m k)[k]? = some (L.getD k 0) := by
  have : ((L.take k).map (byteX m)).length = k := by simp; omega
  rw [turnTo, List.getElem?_append_right (by omega), this, Nat.sub_self, List.getElem?_drop, Nat.add_zero, List.getD_eq_getElem?_getD, List.getElem?_eq_getElem hk]; rfl
theorem turnTo_succ (L : List Int) (m k : Nat) (hk : k < L.length) : (turnTo L m k).set k (byteX m (L.getD k 0)) = turnTo L m (k + 1) := by
  have h1 : ((L.take k).map (byteX m)).length = k := by simp; omega
  have h2 : L.getD k 0 = L[k] := by rw [List.getD_eq_getElem?_getD, List.getElem?_eq_getElem hk]; rfl
  rw [turnTo, List.set_append_right _ _ (by omega), h1, Nat.sub_self, h2, turnTo, List.take_succ_eq_append_getElem hk, List.map_append, List.append_assoc, List.drop_eq_getElem_cons hk]
  rfl
theorem turnTo_zero (L : List Int) (m : Nat) : turnTo L m 0 = L := by simp [turnTo]
theorem turnTo_all (L : List Int) (m : Nat) : turnTo L m L.length = L.map (byteX m) := by simp [turnTo]
set_option maxRecDepth 100000 in
set_option maxHeartbeats 4000000 in
theorem block_any (A : Option Addr) (l : List Int) (c : Nat) (m : Int) (w : World) (hA : Bs w A l) (hl : Bytes l) (hm : l.length ≤ 50000) (hm0 : 0 ≤ m) (hm1 : m ≤ 255) :
    Calls Try.prog 56 #[.slice A l.length c, .int .u8 m] w (OwnB w (blockK l m.toNat)) := by
  have hmi : (l.length : Int) ≤ 50000 := by omega
  have hkl := keyK_len l
  have hkb := keyK_bytes hl
  have hfin : blockK l m.toNat = turnTo (padK (keyK l) (64 - (keyK l).length)) m.toNat 64 := by
    have e : (padK (keyK l) (64 - (keyK l).length)).length = 64 := by rw [padK_len]; omega
    have h := turnTo_all (padK (keyK l) (64 - (keyK l).length)) m.toNat
    rw [e] at h
    rw [h]; rfl
  have HF := hidH hfin
  clear hfin
  have HKB := hidH hkb
  clear hkb
  go_enter Try.func56, Try.ntmps56
  go_wp2_with fail
  refine (copy_any _ _ _ _ hA (by omega)).mono ?_
  rintro e w1 ⟨v, rfl, o1, b1⟩
  obtain ⟨A1, c1, rfl, ob, _, _⟩ := own_ob o1
  have H1 := hidH ob.bs
  have O1 := hidH o1
  have B1 := hidH b1
  clear o1 b1 ob
  by_cases h64 : 64 < l.length
  case' pos =>
    have h64i : (64 : Int) < (l.length : Int) := by omega
    have hk : keyK l = shaL l := by rw [keyK, if_pos h64]
    go_wp2_with fail
    refine (sha_any _ _ _ _ H1.out hl (by omega)).mono ?_
    rintro e w2 ⟨v, rfl, o2, b2⟩
    have O2 := hidH (own_mono o2 B1.out.size)
    have B2 := hidH (btr B1.out b2)
    clear o2 b2 h64 h64i
    rw [← hk] at O2
  case' neg =>
    have h64i : (l.length : Int) ≤ 64 := by omega
    have hk : keyK l = l := by rw [keyK, if_neg h64]
    have O2 : Hid (w1.ownsRow w.heap.size 5 1 (.slice A1 l.length c1) (keyK l).length ((keyK l).map (Value.int .u8))) := hidH (by rw [hk]; exact O1.out)
    have B2 := B1
    clear h64
  all_goals
    clear H1 O1 B1 hk
    generalize keyK l = L at *
    obtain ⟨z, hz⟩ : ∃ z, 64 - L.length = z := ⟨_, rfl⟩
    have HZ := hidH hz
    go_wp2_with fail
    go_loopg [5] z (fun g v wr => ∃ k : Nat, k ≤ z ∧ g = z - k ∧ wr.ownsRow w.heap.size 5 1 v (padK L k).length ((padK L k).map (Value.int .u8)) ∧ Below w.heap.size w wr)
    case atStart => exact ⟨0, by omega, by omega, by simpa [padK] using O2.out, B2.out⟩
    case round =>
      obtain ⟨k, hk, rfl, hown, hB⟩ := hrel
      have hsz := hB.size
      have HL := hidH (padK_len L k)
      have hpl : ((padK L k).length : Int) ≤ 64 := by rw [HL.out]; omega
      by_cases hlt : k < z
      · have ht : ((padK L k).length : Int) < 64 := by rw [HL.out]; omega
        obtain ⟨A5, c5, rfl, ob5, _, _⟩ := own_ob hown
        have PH := hidH (lit_bs wr 5 [0])
        have OH := hidH hown
        clear ob5
        go_wp2_with (at_builtin; refine wpList_append_bs rfl _ _ rfl w.heap.size _ _ _ rfl (OH.out.alloc _) (some ⟨wr.heap.size, 0, none⟩) [0] 1 rfl PH.out (by have := HL.out; simp; omega) (by simp; omega) ?_)
        intro v3 w3 o3 g3
        have B3 := hidH (own_grow (m := 0) hB hown g3)
        have O3 := hidH o3
        clear o3 g3 hown hB
        go_wp2
        go_roundg (z - (k + 1))
        case rel => exact ⟨k + 1, by omega, rfl, by rw [padK_succ]; simpa using O3.out, B3.out⟩
        case measure => omega
      · obtain rfl : k = z := by omega
        have e64 : (padK L k).length = 64 := by rw [HL.out]; omega
        rw [e64] at hown
        obtain ⟨g, cap, rfl, hbg, hgs⟩ := hown.form (by decide)
        obtain ⟨M, hM⟩ : ∃ M, padK L k = M := ⟨_, rfl⟩
        rw [hM] at hown e64
        have HM := hidH hM
        have OH := hidH hown
        have HB := hidH hB
        have E64 := hidH e64
        have MB : Hid (Bytes M) := hidH (by
          intro x hx
          rw [← HM.out, padK, List.mem_append, List.mem_replicate] at hx
          rcases hx with hx | ⟨_, rfl⟩
          · exact HKB.out x hx
          · omega)
        have HF2 : Hid (blockK l m.toNat = turnTo M m.toNat 64) := hidH (by rw [HF.out, hz]; exact congrArg (fun X => turnTo X m.toNat 64) HM.out)
        clear hM hown hB hlt hpl e64
        go_wp2
        go_loopg [6] 64 (fun q i wq => ∃ t : Nat, t ≤ 64 ∧ q = 64 - t ∧ i = .int .i64 t ∧ wq.ownsRow w.heap.size 5 1 (.slice (some ⟨g, 0, none⟩) 64 cap) 64 ((turnTo M m.toNat t).map (Value.int .u8)) ∧ Below w.heap.size w wq)
        case atStart => exact ⟨0, by omega, by omega, rfl, by rw [turnTo_zero]; exact OH.out, HB.out⟩
        case round =>
          obtain ⟨t, ht, rfl, rfl, hown, hB⟩ := hrel
          by_cases hlt : t < 64
          · have ht0 : (0 : Int) ≤ (t : Int) := by omega
            have ht1 : (t : Int) < 64 := by omega
            have hti : t < M.length := by rw [E64.out]; exact hlt
            obtain ⟨x, hx⟩ : ∃ x, M.getD t 0 = x := ⟨_, rfl⟩
            have cc : wr.cell? ⟨g, t, none⟩ = some (.int .u8 x) := by rw [hown.cellAt t (by omega), List.getElem?_map, turnTo_get _ _ _ hti, hx]; rfl
            have f1 := hown.frozenAt t
            have hxb := MB.out.get t
            rw [hx] at hxb
            have hv := u8_xor x m hxb.1 hxb.2 hm0 hm1
            have hst := hown.stored t (.int .u8 (byteX m.toNat x))
            have hsucc := turnTo_succ M m.toNat t hti
            rw [hx] at hsucc
            have ST := hidH hst
            have SC := hidH hsucc
            clear hst hsucc hown
            go_wp2
            go_roundg (64 - (t + 1))
            case rel => exact ⟨t + 1, by omega, rfl, by go_num, by rw [← SC.out, List.map_set]; exact ST.out.1, bst hB hbg _⟩
            case measure => omega
          · obtain rfl : t = 64 := by omega
            rw [show ((64 : Nat) : Int) = 64 from rfl]
            have el : (blockK l m.toNat).length = 64 := blockK_len _ _
            have R := hidH hown
            have RB := hidH hB
            clear hown hB hlt ht
            go_wp2
            go_ret
            exact ⟨_, rfl, by rw [el, HF2.out]; exact R.out, RB.out⟩
theorem bytes_app {a b : List Int} (ha : Bytes a) (hb : Bytes b) : Bytes (a ++ b) := fun x hx => (List.mem_append.1 hx).elim (ha x) (hb x)
set_option maxRecDepth 100000 in
set_option maxHeartbeats 4000000 in
theorem hmac_any (A B : Option Addr) (l d : List Int) (c1 c2 : Nat) (w : World) (hA : Bs w A l) (hB : Bs w B d) (hl : Bytes l) (hd : Bytes d) (hm : l.length ≤ 40000) (hn : d.length ≤ 40000) :
    Calls Try.prog 49 #[.slice A l.length c1, .slice B d.length c2] w (OwnB w (hmL l d)) := by
  have k54 := blockK_bytes hl (m := 54) (by decide)
  have k92 := blockK_bytes hl (m := 92) (by decide)
  have l54 := blockK_len l 54
  have l92 := blockK_len l 92
  have hfin : hmL l d = shaL (blockK l 92 ++ shaL (blockK l 54 ++ d)) := rfl
  have C54 := fun A c w hA => block_any A l c 54 w hA hl (by omega) (by decide) (by decide)
  have C92 := fun A c w hA => block_any A l c 92 w hA hl (by omega) (by decide) (by decide)
  rw [show (54 : Int).toNat = 54 from rfl] at C54
  rw [show (92 : Int).toNat = 92 from rfl] at C92
  generalize blockK l 54 = K at k54 l54 hfin C54
  generalize blockK l 92 = K' at k92 l92 hfin C92
  obtain ⟨X, hX⟩ : ∃ X, K ++ d = X := ⟨_, rfl⟩
  have x1 : X.length = K.length + d.length := by rw [← hX, List.length_append]
  have x2 : Bytes X := by rw [← hX]; exact bytes_app k54 hd
  obtain ⟨S, hS⟩ : ∃ S, shaL X = S := ⟨_, rfl⟩
  have s1 : S.length = 32 := by rw [← hS]; exact shaL_len' _
  have s2 : Bytes S := by rw [← hS]; exact shaL_bytes _
  obtain ⟨Y, hY⟩ : ∃ Y, K' ++ S = Y := ⟨_, rfl⟩
  have y1 : Y.length = K'.length + S.length := by rw [← hY, List.length_append]
  have y2 : Bytes Y := by rw [← hY]; exact bytes_app k92 s2
  rw [hX, hS, hY] at hfin
  have SX := fun A c w hA => sha_any A X c w hA x2 (by omega)
  have SY := fun A c w hA => sha_any A Y c w hA y2 (by omega)
  rw [hS] at SX
  rw [← hfin] at SY
  obtain ⟨Z, hZ⟩ : ∃ Z, hmL l d = Z := ⟨_, rfl⟩
  rw [hZ] at SY ⊢
  have hmd : ∀ (v : Value), K.length + d.length ≤ 4000000 := fun _ => by omega
  have b64 : K.length + d.length ≤ 4000000 := by omega
  have b96 : K'.length + S.length ≤ 4000000 := by omega
  clear k54 k92 l54 l92 hfin x2 s2 y2 hZ hmd s1 hm hn hl hd
  have XA := hidH hX
  have YA := hidH hY
  have X1 := hidH x1
  have Y1 := hidH y1
  have HA := hidH hA
  have HB := hidH hB
  have SXH := hidH SX
  have SYH := hidH SY
  have C54H := hidH C54
  have C92H := hidH C92
  clear hX hY x1 y1 hA hB SX SY C54 C92 hS
  go_enter Try.func49, Try.ntmps49
  go_wp2_with fail
  refine (C54H.out _ _ _ HA.out).mono ?_
  rintro e w1 ⟨v, rfl, o1, b1⟩
  have O1 := hidH o1
  have B1 := hidH b1
  clear o1 b1
  go_wp2_with (at_builtin; refine wpList_append_bs rfl _ _ rfl w.heap.size _ _ _ rfl O1.out B d c2 rfl (bs_below HB.out B1.out) b64 B1.out.size ?_)
  intro v2 w2 o2 g2
  have B2 : Hid (Below w.heap.size w w2) := hidH (B1.out.grown g2 B1.out.size (fun k hk => (O1.out.lt k hk).1))
  rw [← List.map_append, ← X1.out, XA.out] at o2
  obtain ⟨A2, c3, rfl, ob2, hc1, hc2⟩ := own_ob o2
  have P2 := hidH ob2.bs
  clear o2 g2 ob2 hc1 hc2
  go_wp2_with fail
  refine (SXH.out _ _ _ P2.out).mono ?_
  rintro e w3 ⟨v3, rfl, o3, b3⟩
  have B3 := hidH (btr B2.out b3)
  obtain ⟨A3, c5, rfl, ob3, hc1, hc2⟩ := own_ob o3
  have P3 := hidH ob3.bs
  clear o3 b3 ob3 hc1 hc2
  go_wp2_with fail
  refine (C92H.out _ _ _ (bs_below HA.out B3.out)).mono ?_
  rintro e w4 ⟨v4, rfl, o4, b4⟩
  have P4 := hidH (bs_below P3.out b4)
  have O4 := hidH (own_mono o4 B3.out.size)
  have B4 := hidH (btr B3.out b4)
  clear o4 b4
  go_wp2_with (at_builtin; refine wpList_append_bs rfl _ _ rfl w.heap.size _ _ _ rfl O4.out A3 S c5 rfl P4.out b96 B4.out.size ?_)
  intro v5 w5 o5 g5
  have B5 : Hid (Below w.heap.size w w5) := hidH (B4.out.grown g5 B4.out.size (fun k hk => (O4.out.lt k hk).1))
  rw [← List.map_append, ← Y1.out, YA.out] at o5
  obtain ⟨A5, c6, rfl, ob5, hc1, hc2⟩ := own_ob o5
  have P5 := hidH ob5.bs
  clear o5 g5 ob5 hc1 hc2
  go_wp2_with fail
  refine (SYH.out _ _ _ P5.out).mono ?_
  rintro e w6 ⟨v6, rfl, o6, b6⟩
  have B6 := hidH (btr B5.out b6)
  have O6 := hidH (own_mono o6 B5.out.size)
  clear o6 b6
  go_wp2
  go_ret
  exact ⟨_, rfl, O6.out, B6.out⟩
end Go.Proofs.Ytacdnednkglobaa
