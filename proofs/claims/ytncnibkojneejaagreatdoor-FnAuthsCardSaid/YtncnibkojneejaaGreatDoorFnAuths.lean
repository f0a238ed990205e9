/- At every slice of bytes, and whatever the listed variables hold, the law FnAuths answers true. -/
import Derived.Test.YtncnibkojneejaaGreatDoorRows
import Derived.Test.YtncnibkojneejaaGreatDoorCards
import Derived.Test.YtncnibkojneejaaGreatDoorTie
import Derived.SevenTiedAt
import Derived.LaidMore
import Derived.LaidLaws
import Derived.LaidHandle
import Derived.ChangeVars
import Derived.RowKitTokens
import Derived.Stop.Joined
import Derived.Stop.LaidErr
import Derived.Test.YtncnibkojneejaaGreatDoorJb0
import Derived.Test.YtncnibkojneejaaGreatDoorJb3
import Derived.Test.YtncnibkojneejaaGreatDoorJb9
import Derived.Test.YtncnibkojneejaaGreatDoorJc1
import Derived.Test.YtncnibkojneejaaGreatDoorJc2
import Derived.Test.YtncnibkojneejaaGreatDoorJa6
import Derived.WalkSpells
import Derived.WalkLawsBesides
import Derived.WalkKit
import Derived.ProofKit
import Derived.OpenShut
import Derived.ShutString
import Derived.ChangeOld
import Derived.Below
namespace Go.Proofs.YtncnibkojneejaaGreatDoor.fnAuths
open Go.ChangeShapes Go.WideShapes Go.ChangeAt Go.RowKit
open Go.ChangeMaps (open_string shut_string)
set_option linter.unusedVariables false

theorem own : ownKnob Tryz.prog.godebug = none := by kernel_rfl
theorem laidOut : laidOutB Tryz.prog = true := by kernel_rfl

/-- WHAT THE WALK IS TOLD OF A SLICE OF INTEGERS THAT CAME IN: it is nil; or it leads to a row of 'cap' cells, the numbers 'zs' (the first 'len' are its elements, the rest its spare room), each fitting its kind. -/
def IsRow (k : IntKind) (w : World) (a : Option Addr) (len cap : Nat) (zs : List Int) : Prop :=
  (a = none ∧ len = 0 ∧ cap = 0 ∧ zs = []) ∨
  ∃ x, a = some x ∧ len ≤ cap ∧ cap ≤ maxLen ∧ zs.length = cap ∧ (∀ i, i < zs.length → w.cell? (x.add i) = some (.int k (zs.getD i 0))) ∧ ∀ n ∈ zs, (Lit.int k n).wf = true


set_option maxRecDepth 100000 in
set_option maxHeartbeats 4000000 in
theorem walk (a0 : Option Addr) (len0 cap0 : Nat) (z0 : List Int) (w : World) (w0 : IsRow .u8 w a0 len0 cap0 z0) (ty : TypeId) (pv : Value) (hE : w.cell? ⟨1, 0, none⟩ = some (.iface ty pv)) (hG : w.cell? ⟨0, 0, none⟩ = some (.iface 130 (.agg #[.pointer (some ⟨2, 62, none⟩)]))) :
    Calls Tryz.prog 3 #[.slice a0 len0 cap0] w fun e w' => e = .returned (.bool true) ∧ Below w.heap.size w w' := by
  obtain ⟨l, rfl, hA, hl, hlc, hcap⟩ := row_bs w0
  clear w0
  by_cases hbig : (1048576 : Int) < (l.length : Int)
  · have hd : decide ((1048576 : Int) < (l.length : Int)) = true := by simpa using hbig
    clear hbig hE hG
    go_enter Tryz.func3, Tryz.ntmps3
    go_wp2_with (go_at_call 4; refine (big8_any _ _ _ _).mono ?_; rintro e w' ⟨rfl, rfl⟩)
    go_ret
    exact ⟨rfl, Below.refl _ _⟩
  have hlen : (l.length : Int) ≤ 1048576 := by omega
  have hd : decide ((1048576 : Int) < (l.length : Int)) = false := by simpa using hlen
  have HE := hidH (fun (u : World) (hB : Below w.heap.size w u) => (hB.cell (p := ⟨1, 0, none⟩) (World.block_lt_of_cell? _ _ hE)).trans hE)
  have HG := hidH (fun (u : World) (hB : Below w.heap.size w u) => show ErrT u from (hB.cell (p := ⟨0, 0, none⟩) (World.block_lt_of_cell? _ _ hG)).trans hG)
  have HA := hidH (fun (u : World) (hB : Below w.heap.size w u) => bs_below hA hB)
  have HLL := hidH (And.intro hl hlen)
  clear hbig hE hG hcap hlc
  go_enter Tryz.func3, Tryz.ntmps3
  go_wp2_with (go_at_call 4; refine (big8_any _ _ _ _).mono ?_; rintro e w' ⟨rfl, rfl⟩)
  refine (drawPc_any _ _ _ _ hA hl hlen).mono ?_
  rintro e w1 ⟨id, key, vk, v, r, rfl, hid, ⟨hkb, hkl⟩, hrl, hrp, hkO, hvO, b1⟩
  obtain ⟨Ak, ck, rfl⟩ := hkO.rd.bs_sh
  obtain ⟨Av, cv, rfl⟩ := st_Chunk_sh hvO.rd
  have HK := hidH (fun (u : World) (hB : Below w1.heap.size w1 u) => Rd.below hB _ hkO.rd)
  have HV := hidH (fun (u : World) (hB : Below w1.heap.size w1 u) => Rd.below hB _ hvO.rd)
  have HB1 := hidH b1
  have HWI := hidH (show WfV (.int id) by unfold WfV; omega)
  have HWK := hidH (show WfV (.bs key) ∧ tot (.bs key) ≤ 1048576 from ⟨hkb, by show key.length ≤ 1048576; omega⟩)
  have HWR := hidH (show WfV (st_Chunk r) ∧ tot (st_Chunk r) ≤ 1048576 from ⟨ckP_wf hrp, by have := ckP_tot hrp; show r.length + tot.totL (r.flatMap ChunkM.vs) ≤ 1048576; omega⟩)
  have HRP := hidH (And.intro hid (And.intro hrl hrp))
  have HPC := hidH (pc_impl id key _ r _ w1 HWI.out hkO.rd HWK.out.1 HWK.out.2 hvO.rd HWR.out.1 HWR.out.2)
  have hrl9 : (r.length : Int) ≤ 9 := by omega
  clear hid hkb hkl hrl hrp hkO hvO b1 hA hl hlen
  obtain ⟨R, hR⟩ : ∃ R, pcR id key r = R := ⟨_, rfl⟩
  have HRC := hidH (show R.Code = pcF id key r by rw [← hR]; exact pcR_code id key r)
  have HROK := hidH (fun (h : pcF id key r = 0) => show R.Chunks = pcL id key r by rw [← hR, pcR_ok9 h])
  have HRR := hidH hR
  rw [hR] at HPC
  clear hR
  go_wp2_with fail
  refine HPC.out.mono ?_
  rintro e w2 ⟨vs, rfl, O2, b2⟩
  obtain ⟨A2, c2, rfl⟩ := shape_ChunksResult O2.rd
  obtain ⟨C, hC⟩ : ∃ C, R.Code = C := ⟨_, rfl⟩
  obtain ⟨rr, hrr⟩ : ∃ rr, R.Chunks = rr := ⟨_, rfl⟩
  have hO2 : Rd w2 (st_Chunk rr) (.slice A2 rr.length c2) := by rw [← hrr]; exact O2.rd.tl.hd
  rw [hC] at HRC ⊢
  rw [hrr] at HROK ⊢
  have K3 := Blk.new w2 28 #[.int .i64 C, .slice A2 rr.length c2]
  have B3 := bal (Below.refl w2.heap.size w2) (.cells #[.int .i64 C, .slice A2 rr.length c2] 28)
  have HB13 := hidH (btr b2 B3)
  obtain ⟨w3, hw3⟩ : ∃ W, w2.alloc (.cells #[.int .i64 C, .slice A2 rr.length c2] 28) = W := ⟨_, rfl⟩
  rw [hw3] at K3 B3 HB13
  have HB3 := hidH (HB1.out.trans (HB13.out.mono HB1.out.size))
  have HP3 := hidH (Rd.below B3 _ hO2)
  have HK3 := hidH K3
  have HW3 := hidH hw3
  have HCR := hidH hC
  have HDC := hidH (drawCa_any _ l cap0 w3 (HA.out w3 HB3.out) HLL.out.1 HLL.out.2)
  clear O2 b2 hC hrr hO2 K3 B3 hw3 HPC
  go_wp2_with fail
  rw [HW3.out]
  refine HDC.out.mono ?_
  rintro e w4 ⟨key2, vo, vm, r2, rfl, ⟨hk2, hk2l⟩, hr2l, hr2p, hko, hvm, b4⟩
  have HO := hidH (fun (u : World) (hB : Below w4.heap.size w4 u) => Rd.below hB _ hko.rd)
  have HM := hidH (fun (u : World) (hB : Below w4.heap.size w4 u) => Rd.below hB _ hvm.rd)
  have HWO := hidH (show WfV (.bs key2) ∧ tot (.bs key2) ≤ 1048576 from ⟨hk2, by show key2.length ≤ 1048576; omega⟩)
  have HWM := hidH (show WfV (st_Chunk r2) ∧ tot (st_Chunk r2) ≤ 1048576 from ⟨ckP_wf hr2p, by have := ckP_tot hr2p; show r2.length + tot.totL (r2.flatMap ChunkM.vs) ≤ 1048576; omega⟩)
  have HB4 := hidH (HB3.out.trans (b4.mono HB3.out.size))
  have HB34 := hidH b4
  have HCA := hidH (ca_impl key2 vo r2 vm w4 ty pv (HE.out _ HB4.out) (HG.out _ HB4.out) hko.rd HWO.out.1 HWO.out.2 hvm.rd HWM.out.1 HWM.out.2)
  clear hk2 hk2l hr2l hr2p hko hvm b4 HDC
  obtain ⟨Y, hY⟩ : ∃ Y, caR key2 r2 = Y := ⟨_, rfl⟩
  obtain ⟨Z, hZ⟩ : ∃ Z, faR r2 = Z := ⟨_, rfl⟩
  rw [hY] at HCA
  have HYE := hidH hY
  have HZE := hidH hZ
  clear hY hZ
  go_wp2_with fail
  refine HCA.out.mono ?_
  rintro e w5 ⟨vs, rfl, O5, b5⟩
  obtain rfl := shape_AuthResult O5.rd
  have K6 := Blk.new w5 33 #[.int .i64 Y.Code, .int .i64 Y.KeyId, .int .i64 Y.From]
  have B6 := bal (Below.refl w5.heap.size w5) (.cells #[.int .i64 Y.Code, .int .i64 Y.KeyId, .int .i64 Y.From] 33)
  obtain ⟨w6, hw6⟩ : ∃ W, w5.alloc (.cells #[.int .i64 Y.Code, .int .i64 Y.KeyId, .int .i64 Y.From] 33) = W := ⟨_, rfl⟩
  rw [hw6] at K6 B6
  have HB46 := hidH (btr b5 B6)
  have HB36 := hidH (btr HB34.out HB46.out)
  have HB6 := hidH (HB4.out.trans (HB46.out.mono HB4.out.size))
  have HB16 := hidH (btr HB13.out HB36.out)
  have HK6 := hidH K6
  have HW6 := hidH hw6
  have F5 := hidH (fun (u : World) (hB : Below w6.heap.size w6 u) => (pc_spec id key _ r _ u HWI.out (HK.out u (btr HB16.out hB)) HWK.out.1 HWK.out.2 (HV.out u (btr HB16.out hB)) HWR.out.1 HWR.out.2).mono (fun e w' h => show ∃ (A : Option Addr) (n c : Nat), e = .returned (.agg #[.int .i64 C, .slice A n c]) ∧ Below u.heap.size u w' from by
    obtain ⟨vs, rfl, O, hb⟩ := h
    obtain ⟨A, c, rfl⟩ := shape_ChunksResult O.rd
    exact ⟨A, _, c, by rw [HRR.out, HCR.out], hb⟩))
  have F12 := hidH (fun (u : World) (hB : Below w6.heap.size w6 u) => (ca_spec key2 vo r2 vm u (HO.out u (btr HB46.out hB)) HWO.out.1 HWO.out.2 (HM.out u (btr HB46.out hB)) HWM.out.1 HWM.out.2).mono (fun e w' h => show e = .returned (.agg #[.int .i64 Y.Code, .int .i64 Y.KeyId, .int .i64 Y.From]) ∧ Below u.heap.size u w' from by
    obtain ⟨vs, rfl, O, hb⟩ := h
    rw [HYE.out] at O
    obtain rfl := shape_AuthResult O.rd
    exact ⟨rfl, hb⟩))
  have F17 := hidH (fun (u : World) (hB : Below w6.heap.size w6 u) => (fa_implW r2 vm u ty pv (HE.out u (HB6.out.trans (hB.mono HB6.out.size))) (HG.out u (HB6.out.trans (hB.mono HB6.out.size))) (HM.out u (btr HB46.out hB)) HWM.out.1 HWM.out.2).mono (fun e w' h => show e = .returned (.agg #[.int .i64 Z.Code, .int .i64 Z.KeyId, .int .i64 Z.From]) ∧ Below u.heap.size u w' from by
    obtain ⟨vs, rfl, O, hb⟩ := h
    rw [HZE.out] at O
    obtain rfl := shape_AuthResult O.rd
    exact ⟨rfl, hb⟩))
  have F19 := hidH (fun (u : World) (hB : Below w6.heap.size w6 u) => (fa_specW r2 vm u (HM.out u (btr HB46.out hB)) HWM.out.1 HWM.out.2).mono (fun e w' h => show e = .returned (.agg #[.int .i64 Z.Code, .int .i64 Z.KeyId, .int .i64 Z.From]) ∧ Below u.heap.size u w' from by
    obtain ⟨vs, rfl, O, hb⟩ := h
    rw [HZE.out] at O
    obtain rfl := shape_AuthResult O.rd
    exact ⟨rfl, hb⟩))
  clear O5 b5 K6 B6 hw6 HCA
  go_wp2_with fail
  rw [HW6.out]
  have HDR := hidH ((Below.refl w6.heap.size w6).drew)
  have HP6 := hidH (HK3.out.below HB36.out)
  refine wp_region_any (by kernel_rfl) ?_
  refine regFA7 _ _ _ _ _ _ _ _ _ _ _ _ _ _ _ _ _ _ _ _ _ _ _ _ _ _ _ _ _ w6 w2.heap.size w5.heap.size rr.length c2 id C A2 Y Z F5.out F12.out F17.out F19.out (by kernel_rfl) (by kernel_rfl) (by kernel_rfl) rfl (HP6.out.below HDR.out) (HK6.out.below HDR.out) HDR.out ?_
  intros
  rename_i w7 b7
  have HB37 := hidH (btr HB36.out b7)
  have HB7 := hidH (HB3.out.trans (HB37.out.mono HB3.out.size))
  have HP7 := hidH (HP6.out.below b7)
  have HB17 := hidH (btr HB16.out b7)
  have HC7 := hidH (Rd.below HB37.out _ HP3.out)
  clear b7 F5 F12 F17 F19 HDR HP6
  have x0 := HP7.out.cell 0
  simp only [List.getElem?_toArray, List.getElem?_cons_zero] at x0
  by_cases hC0 : C = 0
  case neg =>
    have hne : (C != 0) = true := by rw [bne_iff_ne]; exact hC0
    clear hC0
    go_wp2
    go_ret
    exact ⟨rfl, HB7.out⟩
  have hp : pcF id key r = 0 := by rw [← HRC.out]; exact hC0
  have hrr := HROK.out hp
  obtain ⟨D, hD⟩ : ∃ D, hmL key (txtL id r) = D := ⟨_, rfl⟩
  have e1 : rr = tagC id D :: r := by rw [hrr, pcL, hD]
  subst hC0
  subst e1
  have HPF := hidH hp
  have HDD := hidH hD
  have hd32 : (tagB id D).length = 34 := by rw [tagB_len, ← hD, hm32_9]
  have hbyD : Bytes (tagB id D) := tagB_bytes (pcF_zero9 hp).2.1.1 (by have := (pcF_zero9 hp).2.1.2; omega) (by rw [← hD]; exact hmL_bytes _ _)
  have hidr := (pcF_zero9 hp).2.1
  have HBY := hidH (And.intro hd32 hbyD)
  have HCP := hidH (show ∀ x ∈ tagC id D :: r, CkP x from fun x hx => by
    rcases List.mem_cons.1 hx with rfl | hx
    · exact ⟨by show (-1 : Int) ≤ 15 ∧ (15 : Int) ≤ 256; omega, by show (-1 : Int) ≤ 0 ∧ (0 : Int) ≤ 256; omega, hbyD, by show (tagB id D).length ≤ 200; omega⟩
    · exact HRP.out.2.2 x hx)
  have hw2 : WfV (st_Chunk (tagC id D :: r)) := ckP_wf HCP.out
  have ht2 : tot (st_Chunk (tagC id D :: r)) ≤ 1048576 := by
    have h1 := ckP_tot HCP.out
    have h2 := HRP.out.2.1
    show (tagC id D :: r).length + tot.totL ((tagC id D :: r).flatMap ChunkM.vs) ≤ 1048576
    simp only [List.length_cons] at h1 ⊢
    omega
  have hcg : caR key (tagC id D :: r) = ⟨0, id, 1⟩ := by have := caR_good hp; rwa [pcL, hD] at this
  have HCA2 := hidH (ca_impl key _ (tagC id D :: r) _ w7 ty pv (HE.out _ HB7.out) (HG.out _ HB7.out) (HK.out _ HB17.out) HWK.out.1 HWK.out.2 HC7.out hw2 ht2)
  rw [hcg] at HCA2
  obtain ⟨g2, o2, ys, eA, hg2, hCA, hys, h1c⟩ := rd_cells HC7.out (by simp)
  subst eA
  obtain ⟨u0, hy0, hc0, hr0⟩ := hys 0 (.int 15) rfl
  have e0 := hr0.int_out
  subst e0
  obtain ⟨u2, hy2, hc2, hr2⟩ := hys 2 (.bs (tagB id D)) rfl
  obtain ⟨X, cx, e2⟩ := hr2.bs_sh
  rw [hd32] at e2
  subst e2
  have HBX := hidH (bsOf hr2)
  have HCEL := hidH (And.intro hc0 hc2)
  have HYS := hidH hys
  have HY2 := hidH hy2
  have H1C := hidH h1c
  have HCC := hidH hCA
  have HG2 := hidH hg2
  have x1 := HP7.out.cell 1
  simp only [List.getElem?_toArray, List.getElem?_cons_succ, List.getElem?_cons_zero, List.length_cons] at x1
  have hx7 := HP7.out.lt
  have hne : ((0 : Int) != 0) = false := rfl
  clear hp hrr hD hd32 hbyD hw2 ht2 hcg hys h1c hCA hr0 hr2 hy0 hy2 hc0 hc2 hg2
  go_wp2_with fail
  refine HCA2.out.mono ?_
  rintro e w8 ⟨vs, rfl, O8, b8⟩
  obtain rfl := shape_AuthResult O8.rd
  have B9 := bal (Below.refl w8.heap.size w8) (.cells #[.int .i64 0, .int .i64 id, .int .i64 1] 33)
  have K9 := Blk.new w8 33 #[.int .i64 0, .int .i64 id, .int .i64 1]
  obtain ⟨w9, hw9⟩ : ∃ W, w8.alloc (.cells #[.int .i64 0, .int .i64 id, .int .i64 1] 33) = W := ⟨_, rfl⟩
  rw [hw9] at B9 K9
  have HB79 := hidH (btr b8 B9)
  have HW9 := hidH hw9
  have HK9 := hidH K9
  have P8 := HP7.out.below b8
  clear x0 x1 hx7
  have x0 := P8.cell 0
  have x1 := P8.cell 1
  have hx8 := P8.lt
  simp only [List.getElem?_toArray, List.getElem?_cons_succ, List.getElem?_cons_zero, List.length_cons] at x0 x1
  have c0 := (b8.cell (p := ⟨g2, o2 + 0, none⟩) HG2.out).trans HCEL.out.1
  have c2' := (b8.cell (p := ⟨g2, o2 + 2, none⟩) HG2.out).trans HCEL.out.2
  rw [Nat.add_zero] at c0
  have hg8 : g2 < w8.heap.size := Nat.lt_of_lt_of_le HG2.out b8.size
  have hl1 : (0 : Int) < (r.length : Int) + 1 := by omega
  have hl2 : (r.length : Int) ≤ 9 := hrl9
  have HB8 := hidH (show Below w.heap.size w w8 from HB7.out.trans (b8.mono HB7.out.size))
  have HB78 := hidH b8
  have HB18 := hidH (btr HB17.out b8)
  have HP8 := hidH P8
  have ba := bal (bal (Below.refl w8.heap.size w8) (.cells #[.int .i64 0, .int .i64 id, .int .i64 1] 33)) (.cells #[] 37)
  have OL : ((w8.alloc (.cells #[.int .i64 0, .int .i64 id, .int .i64 1] 33)).alloc (.cells #[] 37)).ownsRow (w8.alloc (.cells #[.int .i64 0, .int .i64 id, .int .i64 1] 33)).heap.size 37 3 (.slice (some ⟨(w8.alloc (.cells #[.int .i64 0, .int .i64 id, .int .i64 1] 33)).heap.size, 0, none⟩) 0 0) 0 [] :=
    World.ownsRow_lit _ #[] 0 (Nat.le_refl _) (by unfold maxLen; omega) rfl
  rw [World.size_alloc] at OL
  have hs10 : w8.heap.size + 1 ≤ ((w8.alloc (.cells #[.int .i64 0, .int .i64 id, .int .i64 1] 33)).alloc (.cells #[] 37)).heap.size := by simp only [World.size_alloc]; omega
  obtain ⟨w10, hw10⟩ : ∃ W, (w8.alloc (.cells #[.int .i64 0, .int .i64 id, .int .i64 1] 33)).alloc (.cells #[] 37) = W := ⟨_, rfl⟩
  rw [hw10] at ba OL hs10
  have HW10 := hidH hw10
  have HB810 := hidH ba
  have HO10 := hidH OL
  have HS10 := hidH hs10
  have HC10 := hidH ((HCC.out.below b8).below ba)
  clear O8 b8 B9 K9 hw9 HCA2 P8 ba OL hs10 hw10 HCC
  go_wp2_with (at_builtin; go_loud (rw [HW10.out]; refine wpList_append_cells rfl _ _ Tryz.underlying24 infoCk7 rfl (by decide) (by decide) rfl (w8.heap.size + 1) _ 0 [] rfl HO10.out _ (r.length + 1) c2 ys rfl HC10.out (fun h => by cases h) H1C.out (by omega) HS10.out ?_))
  intro v11 w11 o11 hg11 _
  have O11 : w11.ownsRow (w8.heap.size + 1) 37 3 v11 (r.length + 1) ys := by simpa using o11
  have HB811 := hidH (HB810.out.grown hg11 (Nat.le_of_succ_le HS10.out) (fun x hx => Nat.le_of_succ_le (HO10.out.lt x hx).1))
  obtain ⟨Ab, cb, eb, hcb⟩ := own_cellsT O11
  obtain ⟨gb, eg, hgb, _, _⟩ := hcb 0 (by omega)
  subst eg
  subst eb
  have HO11 := hidH O11
  have hgb8 : w8.heap.size ≤ gb := by omega
  have HKY := hidH (show ∀ u, Below w8.heap.size w8 u → Calls Tryz.prog 14 #[.slice a0 l.length cap0, .int .i64 2, .int .i64 32] u (fun e w' => ∃ k : Nat, e = .returned (.int .i64 (k : Int)) ∧ (k : Int) < 32 ∧ Below u.heap.size u w') from fun u hB =>
    at_nat a0 l cap0 2 32 u (HA.out u (HB8.out.trans (hB.mono HB8.out.size))) HLL.out.1 HLL.out.2 (by omega) (by omega) (by omega))
  have HMY := hidH (show ∀ u, Below w8.heap.size w8 u → Calls Tryz.prog 14 #[.slice a0 l.length cap0, .int .i64 3, .int .i64 255] u (fun e w' => ∃ k : Nat, e = .returned (.int .i64 (k : Int)) ∧ (k : Int) < 255 ∧ Below u.heap.size u w') from fun u hB =>
    at_nat a0 l cap0 3 255 u (HA.out u (HB8.out.trans (hB.mono HB8.out.size))) HLL.out.1 HLL.out.2 (by omega) (by omega) (by omega))
  have HTY := hidH (show ∀ u, Below w8.heap.size w8 u → ∀ k m : Nat, k < 32 → m < 255 → Calls Tryz.prog 13 #[.slice X 34 cx, .int .i64 ((2 + k : Nat) : Int), .int .i64 (1 + (m : Int))] u (fun e w' => ∃ (A : Option Addr) (c : Nat), e = .returned (.slice A 34 c) ∧ Ob u.heap.size w'.heap.size w' A (turnL (tagB id D) (2 + k) (1 + m)) ∧ Caps 34 c ∧ Below u.heap.size u w') from fun u hB k m hk hm => by
    have h := turned_any X (tagB id D) cx (2 + k) (1 + m) u (bs_below HBX.out (btr HB78.out hB)) HBY.out.2 (by rw [HBY.out.1]; omega) (by omega) (by rw [HBY.out.1]; omega)
    rw [HBY.out.1, show ((1 + m : Nat) : Int) = 1 + (m : Int) by omega] at h
    refine h.mono (fun e w' h => ?_)
    obtain ⟨A', c', rfl, h1, h2, h3, h4⟩ := h
    rw [turnL_len, HBY.out.1] at h3 ⊢
    exact ⟨A', c', rfl, h1, ⟨h3, h4⟩, h2⟩)
  clear o11 hg11 O11 hcb hgb HO10 HC10 x0 x1 hx8 c0 c2' hg8
  go_wp2_with fail
  refine wp_region_any (by kernel_rfl) ?_
  refine regFA15 _ _ _ _ _ _ _ _ _ _ _ _ _ _ _ _ _ _ _ _ _ _ _ _ _ _ _ _ _ _ _ _ _ _ _ _ _ _ _ _ _ _ _ _ _ _ _ _ _ _ _ _ _ _ _ _ _ _ _ _ _ _ _ _ _ _ _ _ _ _ _ _ _ _ _ _ _ _ _ _ _ _ _ _ _ w8 gb (r.length + 1) cb (w8.heap.size + 1) l.length cap0 cx a0 X ys (tagB id D) hgb8 (by omega) HY2.out HKY.out HMY.out HTY.out (by kernel_rfl) (by kernel_rfl) (by kernel_rfl) rfl ⟨(fun h => by cases h), (fun h => by cases h)⟩ (fun _ => own_below0 HO11.out (Below.refl _ _).drew) (fun h => by cases h) (btr HB811.out (Below.refl _ _).drew) ?_
  intros
  rename_i w12 hF b12
  obtain ⟨k, m, AT, cT, ⟨hk, hm, hcap⟩, hrow, hbs⟩ := hF
  obtain ⟨tb, htb⟩ : ∃ tb, turnL (tagB id D) (2 + k) (1 + m) = tb := ⟨_, rfl⟩
  have htl : tb.length = 34 := by rw [← htb, turnL_len, HBY.out.1]
  have hbt : Bytes tb := by rw [← htb]; exact turnL_bytes HBY.out.2 _ _ (by omega)
  have hcab : caR key (⟨15, 0, tb⟩ :: r) = ⟨10, 0, 0⟩ := by have := caR_bad HPF.out k m hk hm; rwa [HDD.out, htb] at this
  rw [htb] at hbs
  have HB712 := btr HB78.out b12
  have hrb : Rd w12 (st_Chunk (⟨15, 0, tb⟩ :: r)) (.slice (some ⟨gb, 0, none⟩) (r.length + 1) cb) :=
    rd_bad (w := w7) (x := tagC id D) (n := r.length + 1) rfl ⟨rfl, rfl⟩ (fun i y h => by obtain ⟨u, h1, _, h2⟩ := HYS.out i y h; exact ⟨u, h1, h2⟩) HB712 (by rw [htl]; exact hrow) hbs (by rw [htl]; exact hcap)
  have hcp : ∀ x ∈ (⟨15, 0, tb⟩ :: r : List ChunkM), CkP x := fun x hx => by
    rcases List.mem_cons.1 hx with rfl | hx
    · exact ⟨by show (-1 : Int) ≤ 15 ∧ (15 : Int) ≤ 256; omega, by show (-1 : Int) ≤ 0 ∧ (0 : Int) ≤ 256; omega, hbt, by show tb.length ≤ 200; omega⟩
    · exact HCP.out x (by simp [hx])
  have hwt : WfV (st_Chunk (⟨15, 0, tb⟩ :: r)) := ckP_wf hcp
  have htt : tot (st_Chunk (⟨15, 0, tb⟩ :: r)) ≤ 1048576 := by
    have h1 := ckP_tot hcp
    have h2 := HRP.out.2.1
    show (⟨15, 0, tb⟩ :: r : List ChunkM).length + tot.totL ((⟨15, 0, tb⟩ :: r : List ChunkM).flatMap ChunkM.vs) ≤ 1048576
    simp only [List.length_cons] at h1 ⊢
    omega
  have HB12 := hidH (show Below w.heap.size w w12 from HB8.out.trans (b12.mono HB8.out.size))
  have HCA3 := hidH (ca_impl key _ (⟨15, 0, tb⟩ :: r) _ w12 ty pv (HE.out _ HB12.out) (HG.out _ HB12.out) (HK.out _ (btr HB18.out b12)) HWK.out.1 HWK.out.2 hrb hwt htt)
  rw [hcab] at HCA3
  have HB812 := hidH b12
  have HB7x := hidH HB712
  clear hk hm hcap hrow hbs htb htl hbt hcab hrb hcp hwt htt b12 HB712
  go_wp2_with fail
  refine HCA3.out.mono ?_
  rintro e w13 ⟨vs, rfl, O13, b13⟩
  obtain rfl := shape_AuthResult O13.rd
  have HB13x := hidH (show Below w.heap.size w w13 from HB12.out.trans (b13.mono HB12.out.size))
  have P13 := (HP8.out.below HB812.out).below b13
  have x1 := P13.cell 1
  have hx13 := P13.lt
  simp only [List.getElem?_toArray, List.getElem?_cons_succ, List.getElem?_cons_zero, List.length_cons] at x1
  have c0 := ((btr HB7x.out b13).cell (p := ⟨g2, o2 + 0, none⟩) HG2.out).trans HCEL.out.1
  rw [Nat.add_zero] at c0
  have f0 := fldAR0
  have n15 : naB 15 = false := by decide
  have n193 : naB 193 = true := by decide
  clear O13 b13 P13 HCA3
  go_wp2_with (go_at_call 15; refine (na_impl _ _).mono ?_; rintro e w' ⟨rfl, rfl⟩)
  go_ret
  exact ⟨rfl, HB13x.out⟩

/-! ### WHAT THE ROW LISTS: the sentinel -/
theorem gE : Tryz.prog.globalNamed "loop.example/g00670/impl.errUnreadable" = some 1 := by kernel_rfl
theorem tE : (Tryz.prog.globals[1]?).map (·.type) = some 62 := by kernel_rfl
theorem cellsE : Tryz.prog.cellsOf 196 = 1 := by kernel_rfl
theorem cellsS : Tryz.prog.cellsOf 9 = 1 := by kernel_rfl
theorem star : "*" ++ "errors.errorString" = "*errors.errorString" := by decide
theorem rowE (u : TypeId) (h : Tryz.prog.typeName? 3 u = some "*errors.errorString") : u = 174 :=
  typeName_ptr_named (nm := "errors.errorString") (by rw [star]; kernel_rfl) (by kernel_rfl) (by decide) u (by rw [star]; exact h)
theorem gT : Tryz.prog.globalNamed "errors.errorType" = some 0 := by kernel_rfl
theorem rtT : (Tryz.prog.cutTypes.find? (·.1 == "internal/reflectlite.rtype")).map (·.2) = some 130 := by kernel_rfl
theorem oneRow : ((List.range 208).filter fun t => Tryz.prog.rowNamed t [101, 114, 114, 111, 114]) = [62] := by kernel_rfl
theorem sizeT : Tryz.prog.types.size = 208 := by kernel_rfl
/-- What the condition says of the library's variable: its one cell. -/
theorem handle_of {W : World} (h : handlesMet Tryz.prog [("errors.errorType", Rows.laid_errors_errorType)] W) : W.cell? ⟨0, 0, none⟩ = some (.iface 130 (.agg #[.pointer (some ⟨2, 62, none⟩)])) := by
  obtain ⟨name, u, ty, e1, e2, e3, e4, e5⟩ := h _ (List.mem_singleton.2 rfl)
  have en : name = [101, 114, 114, 111, 114] := (Option.some.inj e1).symm
  subst en
  obtain rfl := Option.some.inj (rtT.symm.trans e2)
  have hm : ty ∈ (List.range 208).filter fun t => Tryz.prog.rowNamed t [101, 114, 114, 111, 114] := List.mem_filter.2 ⟨List.mem_range.2 (by rw [← sizeT]; exact e3), e4⟩
  rw [oneRow] at hm
  obtain rfl := List.mem_singleton.1 hm
  have hh : typeHandle Tryz.prog 62 = .pointer (some ⟨2, 62, none⟩) := by kernel_rfl
  rw [hh] at e5
  simpa using World.var?_cell gT e5 0
/-- The door's own heap meets the condition. -/
theorem door_met (os : Os) (args : Array Value) : laidMetH Tryz.prog Rows.fnAuthsRow.laid ((World.doorLaid Tryz.prog 28 os).forCall (fun _ _ => 0) ⟨#[], args, []⟩).memory :=
  laidMetH_of_parts3 (fuel := 8) (laidMet_of_run' 8 (by kernel_rfl) (by kernel_rfl)) (by kernel_rfl) (by kernel_rfl)

/-! ### THE ROW's STEP: WRITTEN OUT: LEAVE IT -/
set_option maxRecDepth 100000 in
theorem lifted (os : Os) (started : os.Started) (H : Type) (enc : TypeId × Value → H) :
    ReturnsInHanded {} Tryz.checked os 3 .any (fun w args => (Rows.fnAuthsSpec.pre enc Tryz.prog Tryz.f3 [] false w args ∧ laidMetH Tryz.prog Rows.fnAuthsRow.laid w) ∧ sizedMet enc Tryz.prog Tryz.f3 (OpenSpec.ofChange Rows.fnAuthsSpec) false w args) (Rows.fnAuthsSpec.post enc Tryz.prog Tryz.f3 false true false false) := by
  refine returnsInHanded_of_change_and (C := Tryz.checked) (X := fun w _ => laidMetH Tryz.prog Rows.fnAuthsRow.laid w) (fun _ _ _ hh h => h.of_heap hh) own started (by kernel_rfl) Tryz.func3
    (ChangeSpec.witness_shaped (enc := enc) (C := Tryz.checked) (os := os) (X := fun w _ => laidMetH Tryz.prog Rows.fnAuthsRow.laid w) false (World.doorLaid Tryz.prog 28 os) #[.slice none 0 0] 8 rfl (World.shaped_of_RefB (by kernel_rfl) (by kernel_rfl)) (by kernel_rfl) (by kernel_rfl) (by kernel_rfl) (door_met os _)) ?_
  intro W base args ds gs before hval0 hW _ _ hL _
  have hval : ∀ (j : Nat) t v, Tryz.f3.params[j]? = some t → args[j]? = some v → Value.okWide Tryz.prog W .any base t v := hval0
  have hW' := hW
  obtain ⟨p, q, hA0, hV, rfl, hfz, hnd⟩ := hW
  have hA : DataW.TrodAll enc Tryz.prog W 0 (fun _ => true) true Tryz.f3.params.toList args.toList ds p := hA0
  rw [Tryz.params3] at hA hval
  obtain ⟨v0, vs0, d0, ds0, p0, q0, hargs, rfl, rfl, h0, r0⟩ := trodAll_cons hA
  obtain ⟨rfl, rfl, rfl⟩ := trodAll_nil r0
  obtain rfl : args = #[v0] := by cases args; simp_all
  have hV1 : DataW.TrodVars enc Tryz.prog W (fun _ => true) ["loop.example/g00670/impl.errUnreadable"] gs q := hV
  have hLp : laidMet Tryz.prog [("loop.example/g00670/impl.errUnreadable", Rows.laid_loop_example_g00670_impl_errUnreadable)] W ∧ handlesMet Tryz.prog [("errors.errorType", Rows.laid_errors_errorType)] W := hL
  have hL1 := hLp.1
  obtain ⟨ae, se, hve, hce, hse, hze⟩ := laid_sentinel hL1 gE tE Tryz.underlying62 rowE Tryz.underlying174 Tryz.underlying196 rfl rfl Tryz.underlying9 cellsE cellsS
  obtain ⟨rfl, rfl⟩ := hV1.unique (vars_read1 enc gE tE Tryz.underlying62 hve trivial _)
  have hE : W.cell? ⟨1, 0, none⟩ = some (.iface 174 (.pointer (some ae))) := by simpa using World.var?_cell gE hve 0
  have hG := handle_of hLp.2
  obtain ⟨a0, len0, cap0, rfl⟩ := okWide_slice Tryz.underlying22 (hval 0 22 v0 rfl rfl)
  have k0 := h0
  have lt0 : ∀ x ∈ p0, x.block < W.heap.size := by obtain ⟨m, hm⟩ := k0; exact DataW.trod_lt m _ _ _ hm
  obtain ⟨z0, w0⟩ : ∃ zs, IsRow .u8 W a0 len0 cap0 zs := by
    obtain ⟨fuel, hf⟩ := h0
    rcases open_ints Tryz.underlying22 Tryz.underlying5 (by kernel_rfl) hf with ⟨hcs, _⟩ | ⟨x, l, c, zs, hcs, _, hl, hm, hz, _, hcell, hwz⟩
    · simp [Value.cells] at hcs
      obtain ⟨rfl, rfl, rfl⟩ := hcs
      exact ⟨[], .inl ⟨rfl, rfl, rfl, rfl⟩⟩
    · simp [Value.cells] at hcs
      obtain ⟨rfl, rfl, rfl⟩ := hcs
      exact ⟨zs, .inr ⟨_, rfl, hl, hm, by simpa using hz, hcell, hwz⟩⟩
  clear hA0 hval0
  refine (walk a0 len0 cap0 z0 W w0 _ _ hE hG).mono fun e W' ⟨he, bel⟩ => ?_
  subst he
  have hve2 : W'.var? Tryz.prog "loop.example/g00670/impl.errUnreadable" = some #[.iface 174 (.pointer (some ae))] := by
    have hb0 := bel.block 1 (World.block_lt_of_cell? _ _ hE)
    simpa [World.var?, gE, hb0] using hve
  exact ⟨_, rfl, _, _, _, [], _, [.cell 1 0], hW', trodAll_mk1 (shut_bool Tryz.underlying4 _), (trodAll_cons_mk (Below.trod laidOut (by kernel_rfl) (of_decide_eq_true (by kernel_rfl)) k0 bel lt0) trodAll_mk0), vars_read1 enc gE tE Tryz.underlying62 hve2 trivial _, bel.frame _, fun h => by cases h⟩

theorem over : Rows.fnAuthsRow.holds Tryz.pinned (OpenSpec.ofChange Rows.fnAuthsSpec) :=
  OpenClaim.holds_of_wide 3 Tryz.f3 rfl rfl rfl rfl rfl rfl rfl ⟨rfl, rfl, rfl, rfl, rfl⟩ rfl rfl rfl rfl rfl (by kernel_rfl) Tryz.func3 (by kernel_rfl)
    (of_decide_eq_true (by kernel_rfl)) (by unfold Func.isWrapper; first | (rw [if_pos (by decide +kernel)]; kernel_rfl) | (rw [if_neg (by decide +kernel)]; exact ⟨rfl, rfl⟩))
    (fun os started H enc _ => lifted os started H enc)

/-- ████ THE STATEMENT: THE TIED CARD ████ -/
theorem proved : Rows.FnAuthsCardSaid :=
  Claim7.holds_tied_plain_at .later [] [.handle, .sentinel] true (true, "ad76fb2fe99d425d1ff54bf047b61fdc11e99f485f3097c1d838f40900d44f8d") true
    over (fun _ h => by cases h) (by kernel_rfl) (fun _ h => by cases h) fnAuths_row_tie rfl ⟨rfl, rfl⟩ (by kernel_rfl) rfl
    (fun f fn hf hfn => by
      obtain rfl : f = 3 := Option.some.inj ((show Tryz.prog.funcNamed "loop.example/g00670/laws.FnAuths" = some 3 by kernel_rfl).symm.trans hf) |>.symm
      obtain rfl : fn = Tryz.f3 := (Option.some.inj (Tryz.func3.symm.trans hfn)).symm
      exact ⟨by kernel_rfl, fun j t ht => by
        rw [Tryz.params3] at ht
        have hm : t ∈ [22] := by simpa using Array.mem_of_getElem? ht
        have hall : ([22].all fun u => !Tryz.prog.wantsStandIn u) = true := by kernel_rfl
        exact (show Tryz.prog.wantsStandIn t = false by simpa using List.all_eq_true.1 hall t hm)⟩)
    (by kernel_rfl)
#print axioms proved
end Go.Proofs.YtncnibkojneejaaGreatDoor.fnAuths
