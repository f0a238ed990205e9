import Derived.Test.YtncnibkojneejaaGreatDoorJc0
import Derived.Test.YtncnibkojneejaaGreatDoorAsE
import Derived.Test.YtncnibkojneejaaGreatDoorS7KR
import Derived.Test.YtncnibkojneejaaGreatDoorJb1
import Derived.Test.YtncnibkojneejaaGreatDoorJa6
import Derived.Test.YtncnibkojneejaaGreatDoorJb2
import Derived.Test.YtncnibkojneejaaGreatDoorJa0
import Derived.Laws.BitsAllLaws

/- Chapter 7: the program's findTag, authResult, FindAuth. -/
namespace Go.Proofs.YtncnibkojneejaaGreatDoor
open Go.RowKit Go.Deep

theorem chunk_y {w : World} {r : List ChunkM} {v : Value} (h : Rd w (st_Chunk r) v) {j : Nat} (hj : j < r.length) :
    ∃ k f l g o c A cA, r[j]? = some ⟨k, f, l⟩ ∧ v = .slice (some ⟨g, o, none⟩) r.length c ∧ CkB w g (o + j * 3) k f A l cA ∧ Caps l.length cA := by
  obtain ⟨gb, ob, cb, eb, hgb, RB⟩ := Rd.row (f := ChunkM.vs) (W := 3) (fun _ => rfl) h hj
  obtain ⟨u0, p0, t0⟩ := RB 0 (.int r[j].Kind) rfl
  obtain ⟨u1, p1, t1⟩ := RB 1 (.int r[j].Flags) rfl
  obtain ⟨u2, p2, t2⟩ := RB 2 (.bs r[j].Body) rfl
  have e0 := t0.int_out
  subst e0
  have e1 := t1.int_out
  subst e1
  rw [Nat.add_zero] at p0
  obtain ⟨A, cA, e2, hc, hb⟩ := t2.bs_out
  subst e2
  exact ⟨_, _, _, gb, ob, cb, A, cA, List.getElem?_eq_getElem hj, eb, ⟨hgb, p0, p1, p2, hb⟩, hc⟩
def FtR (r : List ChunkM) (u : World) (e : Ending) (w' : World) : Prop :=
  (((faR r).Code ≠ 0 ∧ ∃ id A n c fr, e = .returned (.tuple #[tagV id A n c fr, errU (faR r).Code])) ∨
   ((faR r).Code = 0 ∧ ∃ (A : Option Addr) (c j : Nat) (f : Int) (l : List Int), e = .returned (.tuple #[tagV (faR r).KeyId A 32 c (faR r).From, .nilIface]) ∧ r[j]? = some ⟨15, f, l⟩ ∧ (faR r).From = (j : Int) + 1 ∧ (l.drop 2).length = 32 ∧ Bs w' A (l.drop 2))) ∧ Below u.heap.size u w'
set_option maxRecDepth 100000 in
set_option maxHeartbeats 4000000 in
theorem findTag_any (r : List ChunkM) (v : Value) (u : World) (ty : TypeId) (pv : Value) (hE : u.cell? ⟨1, 0, none⟩ = some (.iface ty pv)) (h : Rd u (st_Chunk r) v) (hcb : ∀ x ∈ r, Bytes x.Body) : Calls Tryz.prog 30 #[v] u (FtR r u) := by
  have h0lt := World.block_lt_of_cell? _ _ hE
  have R0 := Blk.new u 60 #[.int .i64 0, .slice none 0 0, .int .i64 0]
  have b0 := bal (Below.refl u.heap.size u) (.cells #[.int .i64 0, .slice none 0 0, .int .i64 0] 60)
  obtain ⟨w0, hw0⟩ : ∃ w0, u.alloc (.cells #[.int .i64 0, .slice none 0 0, .int .i64 0] 60) = w0 := ⟨_, rfl⟩
  rw [hw0] at R0 b0
  have HI := hidH (fun (w : World) (hb : Below u.heap.size u w) => Rd.below hb _ h)
  have HE := hidH (fun (w : World) (hb : Below u.heap.size u w) => (hb.cell (p := ⟨1, 0, none⟩) h0lt).trans hE)
  have HW := hidH hw0
  have HR := hidH R0
  have HB := hidH b0
  have HCB := hidH hcb
  have HCF := hidH (chunksFault_any r v 8 w0 (HI.out _ b0) (by omega))
  have HIX := hidH (fun (w : World) (hb : Below u.heap.size u w) (hn : r.length ≤ 8) => idx_any r v w (HI.out w hb) hn)
  obtain ⟨AR, cr, rfl⟩ := st_Chunk_sh h
  clear hw0 R0 b0 h hcb h0lt hE
  obtain ⟨F, hF⟩ : ∃ F, csF 8 r = F := ⟨_, rfl⟩
  rw [hF] at HCF
  go_enter Tryz.func30, Tryz.ntmps30
  go_wp2_with fail
  rw [HW.out]
  refine HCF.out.mono ?_
  rintro e w1 ⟨rfl, b1⟩
  have HB1 := hidH (btr HB.out b1)
  have HR1 := hidH (HR.out.below b1)
  clear b1 HCF
  by_cases hz : F = 0
  · have q : (F != 0) = false := by rw [bne_eq_false_iff_eq]; exact hz
    have HM := hidH (show faR r = faL r 0 by rw [faR, if_pos (hF.trans hz)])
    have HN := hidH (csF_zero (hF.trans hz)).1
    have hnI : (r.length : Int) ≤ 8 := by have := HN.out; omega
    clear hz hF
    go_wp2_with fail
    refine (HIX.out _ HB1.out HN.out).mono ?_
    rintro e w2 ⟨n, rfl, hidx, b2⟩
    have HB2 := hidH (btr HB1.out b2)
    have HR2 := hidH (HR1.out.below b2)
    clear b2
    rcases hidx with ⟨rfl, hno⟩ | ⟨j, f, l, rfl, hx, hk⟩
    · have HF := hidH (show (faR r).Code = 4 by rw [HM.out, faL_none hno])
      have x0 := HR2.out.cell 0
      have x1 := HR2.out.cell 1
      have x2 := HR2.out.cell 2
      have f0 := HR2.out.frozen 0
      have f1 := HR2.out.frozen 1
      have f2 := HR2.out.frozen 2
      simp only [List.getElem?_toArray, List.getElem?_cons_succ, List.getElem?_cons_zero] at x0 x1 x2
      have hrl := HR2.out.lt
      clear hno
      go_wp2
      exact bodyPost_ret (v := .tuple #[tagV 0 none 0 0 0, errU 4]) (by simp [results, Tryz.results30, go_sem, x0, x1, x2, tagV, errU]) rfl ⟨.inl ⟨by rw [HF.out]; omega, 0, none, 0, 0, 0, by rw [HF.out]⟩, bst (bst (bst HB2.out (Nat.le_refl _) _) (Nat.le_refl _) _) (Nat.le_refl _) _⟩
    · have hj : j < r.length := (List.getElem?_eq_some_iff.1 hx).1
      obtain ⟨k', f', l', g, o, c', B, cB, hx', e, CK, hcp⟩ := chunk_y (HI.out _ HB2.out) hj
      rw [hx] at hx'
      injection hx' with hx'
      injection hx' with q1 q2 q3
      subst q1 q2 q3
      injection e with e1 e2 e3
      subst e1 e3
      have hj0 : (0 : Int) ≤ (j : Int) := by omega
      have hj1 : (j : Int) < (r.length : Int) := by omega
      have p0 := CK.c0
      have p1 := CK.c1
      have p2 := CK.c2
      have hg := CK.lt
      have HRT := hidH (readTag_any f B l cB w2 ty pv (HE.out _ HB2.out) CK.body (HCB.out _ (List.mem_of_getElem? hx)) hcp.1 hcp.2)
      have HHIT := hidH (HM.out.trans (faL_hit hk hx rfl))
      have HX := hidH hx
      unfold RtR at HRT
      have hdl : isTag ⟨15, f, l⟩ = true → (l.drop 2).length = 32 := fun q => by have := (isTag_out q).2.1; simp at this ⊢; omega
      have HDL := hidH hdl
      clear CK hx hk hcp hdl hj
      go_wp2_with fail
      refine HRT.out.mono ?_
      rintro e w3 (⟨hno, rfl, b3⟩ | ⟨hyes, A3, c3, rfl, s3, b3⟩)
      · have HF := hidH (show (faR r).Code = 5 by have := HHIT.out; rw [hno] at this; rw [this]; rfl)
        have ba := bal (Below.refl w3.heap.size w3) (.cells #[.int .i64 0, .slice none 0 0, .int .i64 ((j : Int) + 1)] 60)
        have HB4 := hidH (btr (btr HB2.out b3) ba)
        have R4 := (HR2.out.below b3).below ba
        have x0 := R4.cell 0
        have x1 := R4.cell 1
        have x2 := R4.cell 2
        have f0 := R4.frozen 0
        have f1 := R4.frozen 1
        have f2 := R4.frozen 2
        simp only [List.getElem?_toArray, List.getElem?_cons_succ, List.getElem?_cons_zero] at x0 x1 x2
        have hrl := R4.lt
        clear b3 ba R4 HRT hno p0 p1 p2
        unfold tagV errU
        go_wp2
        exact bodyPost_ret (v := .tuple #[tagV 0 none 0 0 ((j : Int) + 1), errU 5]) (by simp [results, Tryz.results30, go_sem, x0, x1, x2, tagV, errU]) rfl ⟨.inl ⟨by rw [HF.out]; omega, 0, none, 0, 0, _, by rw [HF.out]⟩, bst (bst (bst HB4.out (Nat.le_refl _) _) (Nat.le_refl _) _) (Nat.le_refl _) _⟩
      · have HF := hidH (show faR r = ⟨0, pairAt l 0, (j : Int) + 1⟩ by have := HHIT.out; rw [hyes] at this; exact this)
        obtain ⟨P, hP⟩ : ∃ P, pairAt l 0 = P := ⟨_, rfl⟩
        rw [hP] at HF ⊢
        have ba := bal (Below.refl w3.heap.size w3) (.cells #[.int .i64 P, .slice A3 32 c3, .int .i64 ((j : Int) + 1)] 60)
        have HB4 := hidH (btr (btr HB2.out b3) ba)
        have R4 := (HR2.out.below b3).below ba
        have HS4 := hidH (bs_below s3 ba)
        have HD := hidH (HDL.out hyes)
        have HFA := hidH (bs_far HS4.out (by rw [HD.out]; omega) R4 (fun v hv x => by
          simp only [List.mem_toArray, List.mem_cons, List.not_mem_nil, or_false] at hv
          rcases hv with rfl | rfl | rfl <;> exact fun q => by cases q))
        have x0 := R4.cell 0
        have x1 := R4.cell 1
        have x2 := R4.cell 2
        have f0 := R4.frozen 0
        have f1 := R4.frozen 1
        have f2 := R4.frozen 2
        simp only [List.getElem?_toArray, List.getElem?_cons_succ, List.getElem?_cons_zero] at x0 x1 x2
        have hrl := R4.lt
        clear b3 ba R4 HRT hyes p0 p1 p2 s3 hP
        unfold tagV
        go_wp2
        exact bodyPost_ret (v := .tuple #[tagV P A3 32 c3 ((j : Int) + 1), .nilIface]) (by simp [results, Tryz.results30, go_sem, x0, x1, x2, tagV]) rfl ⟨.inr ⟨by rw [HF.out], A3, c3, j, f, l, by rw [HF.out], HX.out, by rw [HF.out], HD.out, Bs.setR (Bs.setR (Bs.setR HS4.out _ _ HFA.out) _ _ HFA.out) _ _ HFA.out⟩, bst (bst (bst HB4.out (Nat.le_refl _) _) (Nat.le_refl _) _) (Nat.le_refl _) _⟩
  · have q : (F != 0) = true := by rw [bne_iff_ne]; exact hz
    have HM := hidH (show (faR r).Code = F by rw [faR, if_neg (by rw [hF]; exact hz), hF])
    have HZ := hidH hz
    have x0 := HR1.out.cell 0
    have x1 := HR1.out.cell 1
    have x2 := HR1.out.cell 2
    have f0 := HR1.out.frozen 0
    have f1 := HR1.out.frozen 1
    have f2 := HR1.out.frozen 2
    simp only [List.getElem?_toArray, List.getElem?_cons_succ, List.getElem?_cons_zero] at x0 x1 x2
    have hrl := HR1.out.lt
    clear hz hF
    go_wp2
    exact bodyPost_ret (v := .tuple #[tagV 0 none 0 0 0, errU F]) (by simp [results, Tryz.results30, go_sem, x0, x1, x2, tagV, errU]) rfl ⟨.inl ⟨by rw [HM.out]; exact HZ.out, 0, none, 0, 0, 0, by rw [HM.out]⟩, bst (bst (bst HB1.out (Nat.le_refl _) _) (Nat.le_refl _) _) (Nat.le_refl _) _⟩
end Go.Proofs.YtncnibkojneejaaGreatDoor

/- Chapter 7: the model's CheckAuth. -/
namespace Go.Proofs.YtncnibkojneejaaGreatDoor
open Go.RowKit Go.Deep

theorem fa_ok {r : List ChunkM} (h : (faR r).Code = 0) : ∃ (j : Nat) (f : Int) (l : List Int), r[j]? = some ⟨15, f, l⟩ ∧ faR r = ⟨0, pairAt l 0, (j : Int) + 1⟩ ∧ l.length = 34 ∧ pairAt l 0 ≤ 99 ∧ csF 8 r = 0 := by
  unfold faR at h ⊢
  split at h
  · next hc =>
    rw [if_pos hc]
    obtain ⟨j, hj, e, hk, ht⟩ := faL_ok h
    obtain ⟨_, h2, h3⟩ := isTag_out ht
    refine ⟨j, r[j].Flags, r[j].Body, ?_, ?_, h2, h3, hc⟩
    · rw [List.getElem?_eq_getElem hj, ← hk]
    · rw [e]; simp
  · next hc => exact absurd h hc
/-- What a check answers whose tag chunk was found. -/
theorem caR_at {key : List Int} {r : List ChunkM} {j : Nat} {f : Int} {l : List Int} (hk : key.length ≤ 200) (hx : r[j]? = some ⟨15, f, l⟩) (hf : faR r = ⟨0, pairAt l 0, (j : Int) + 1⟩) :
    caR key r = if mtF (pairAt l 0) (r.drop (j + 1)) = 0 then (if sameM (l.drop 2) (hmL key (txtL (pairAt l 0) (r.drop (j + 1)))) then ⟨0, pairAt l 0, (j : Int) + 1⟩ else ⟨10, 0, 0⟩) else ⟨mtF (pairAt l 0) (r.drop (j + 1)), 0, 0⟩ := by
  have e1 : ((j : Int) + 1).toNat = j + 1 := by omega
  rw [caR, if_pos hk, hf, if_pos rfl, caT]
  simp only [e1, Nat.add_sub_cancel]
  rw [List.getD_eq_getElem?_getD, hx]
  rfl
theorem caR_no {key : List Int} {r : List ChunkM} (hk : key.length ≤ 200) (hf : (faR r).Code ≠ 0) : caR key r = faR r := by rw [caR, if_pos hk, if_neg hf]
theorem caR_many {key : List Int} {r : List ChunkM} (hk : ¬ key.length ≤ 200) : caR key r = ⟨2, 0, 0⟩ := by rw [caR, if_neg hk]
set_option maxRecDepth 100000 in
set_option maxHeartbeats 8000000 in
theorem ca_spec (key : List Int) (vk : Value) (r : List ChunkM) (v : Value) (u : World) (hk : Rd u (.bs key) vk) (hkb : WfV (.bs key)) (_ : tot (.bs key) ≤ 1048576) (h : Rd u (st_Chunk r) v) (hw : WfV (st_Chunk r)) (ht : tot (st_Chunk r) ≤ 1048576) :
    Calls Tryz.prog 10 #[vk, v] u (Res u (caR key r).vs) := by
  have R0 := Blk.new u 33 #[.int .i64 0, .int .i64 0, .int .i64 0]
  have b0 := bal (Below.refl u.heap.size u) (.cells #[.int .i64 0, .int .i64 0, .int .i64 0] 33)
  obtain ⟨w0, hw0⟩ : ∃ w0, u.alloc (.cells #[.int .i64 0, .int .i64 0, .int .i64 0] 33) = w0 := ⟨_, rfl⟩
  rw [hw0] at R0 b0
  have HI := hidH (fun (w : World) (hb : Below u.heap.size u w) => Rd.below hb _ h)
  have HKR := hidH (fun (w : World) (hb : Below u.heap.size u w) => Rd.below hb _ hk)
  have HW := hidH hw0
  have HR := hidH R0
  have HB := hidH b0
  have HWF := hidH (And.intro hw (And.intro ht hkb))
  have HFA := hidH (fa_spec r v w0 (HI.out _ b0) (st_Chunk_bytes hw))
  obtain ⟨PK, ck, rfl⟩ := hk.bs_sh
  have hkm := rdB_len hk
  obtain ⟨AR, cr, rfl⟩ := st_Chunk_sh h
  clear hw0 R0 b0 h hk hw ht hkb
  by_cases h200 : key.length ≤ 200
  · have h2I : ¬ (200 : Int) < (key.length : Int) := by omega
    have H200 := hidH h200
    clear h200
    go_enter Tryz.func10, Tryz.ntmps10
    go_wp2_with fail
    rw [HW.out]
    refine HFA.out.mono ?_
    rintro e w1 ⟨vs, rfl, o1, b1⟩
    obtain rfl := shape_AuthResult o1.rd
    have HB1 := hidH (btr HB.out b1)
    have HR1 := hidH (HR.out.below b1)
    clear o1 b1 HFA
    by_cases hz : (faR r).Code = 0
    · obtain ⟨j, f, l, hx, hf, hl34, h99, hcs⟩ := fa_ok hz
      have HV := hidH (caR_at H200.out hx hf)
      have HX := hidH hx
      have hjl := (List.getElem?_eq_some_iff.1 hx).1
      rw [hf]
      have HL := hidH (And.intro hl34 (And.intro hjl (csF_zero hcs).1))
      have HLB := hidH (show Bytes l from st_Chunk_bytes HWF.out.1 _ (List.mem_of_getElem? hx))
      have hp0 : 0 ≤ pairAt l 0 := by
        have h1 := HLB.out.get 0
        have h2 := HLB.out.get 1
        show 0 ≤ l.getD 0 0 * 256 + l.getD 1 0
        omega
      obtain ⟨P, hP⟩ : ∃ P, pairAt l 0 = P := ⟨_, rfl⟩
      rw [hP] at HV hp0 h99 ⊢
      have HP := hidH (And.intro hp0 h99)
      have ba := bal (Below.refl w1.heap.size w1) (.cells #[.int .i64 0, .int .i64 P, .int .i64 ((j : Int) + 1)] 33)
      have KF := Blk.new w1 33 #[.int .i64 0, .int .i64 P, .int .i64 ((j : Int) + 1)]
      have HB2 := hidH (btr HB1.out ba)
      have HR2 := hidH (HR1.out.below ba)
      obtain ⟨w2, hw2⟩ : ∃ w2, w1.alloc (.cells #[.int .i64 0, .int .i64 P, .int .i64 ((j : Int) + 1)] 33) = w2 := ⟨_, rfl⟩
      rw [hw2] at KF HB2 HR2
      have HW2 := hidH hw2
      have HKF := hidH KF
      have z0 := KF.cell 0
      have z1 := KF.cell 1
      have z2 := KF.cell 2
      simp only [List.getElem?_toArray, List.getElem?_cons_succ, List.getElem?_cons_zero] at z0 z1 z2
      have HZ := hidH (And.intro z1 z2)
      have hkf := KF.lt
      have hin : j + 1 ≤ r.length := hjl
      have HDR := hidH (fun (w : World) (hb : Below u.heap.size u w) => cutC_rd (HI.out w hb) hin)
      obtain ⟨y, hy⟩ : ∃ y, mtR P (r.drop (j + 1)) = y := ⟨_, rfl⟩
      have hyc : y.Code = mtF P (r.drop (j + 1)) := by rw [← hy, mtR_code]
      have HY := hidH hy
      have CALL := hidH (show ∀ w : World, Below w2.heap.size w2 w → Calls Tryz.prog 33 #[.int .i64 P, .slice (cutC AR (j + 1) cr) (r.length - (j + 1)) (cr - (j + 1))] w (fun e w' => ∃ (A9 : Option Addr) (c9 : Nat), e = .returned (.agg #[.int .i64 y.Code, .slice A9 y.Bytes.length c9]) ∧ Bs w' A9 y.Bytes ∧ Below w.heap.size w w') from fun (w : World) (hb : Below w2.heap.size w2 w) => (mt_spec P (r.drop (j + 1)) _ w ⟨by have := HP.out; omega, by have := HP.out; omega⟩ (HDR.out w (btr HB2.out hb)) (wf_drop HWF.out.1 _) (Nat.le_trans (tot_drop r _) HWF.out.2.1)).mono (fun e w' hh => by
        rw [hy] at hh
        obtain ⟨vs, rfl, o, b⟩ := hh
        obtain ⟨A9, c9, rfl⟩ := shape_BytesResult o.rd
        exact ⟨A9, c9, rfl, rdB o.rd.tl.hd, b⟩))
      clear hx hf hl34 h99 hcs hjl hP hp0 ba KF hw2 hz hy z1 z2
      go_wp2_with fail
      rw [HW2.out]
      go_wp2_with fail
      refine wp_region_any (by kernel_rfl) ?_
      refine regCA6 _ _ _ _ _ _ _ _ _ _ _ _ _ _ w2 w1.heap.size r.length cr (j + 1) P y.Code AR y.Bytes hkf HZ.out.1 HZ.out.2 hin CALL.out (by kernel_rfl) (by kernel_rfl) (by kernel_rfl) rfl (fun h => by cases h) (Below.refl _ _).drew ?_
      intros
      rename_i w3 b3 hT
      obtain ⟨g, A9, c9, rfl, KG, S9, hg9⟩ := hT
      have HB3 := hidH (btr HB2.out b3)
      have HR3 := hidH (HR2.out.below b3)
      have HKF3 := hidH (HKF.out.below b3)
      have HKG := hidH KG
      have HS9 := hidH S9
      obtain ⟨q0, q1, qz⟩ := KG.two
      clear KG S9 b3 CALL z0
      by_cases hc : y.Code = 0
      · have hm0 : mtF P (r.drop (j + 1)) = 0 := by rw [← hyc]; exact hc
        have hyb : y.Bytes = txtL P (r.drop (j + 1)) := by rw [← HY.out, mtR_ok hm0]
        have HV2 := hidH (show caR key r = if sameM (l.drop 2) (hmL key y.Bytes) then ⟨0, P, (j : Int) + 1⟩ else ⟨10, 0, 0⟩ by rw [HV.out, if_pos hm0, hyb])
        have HYB := hidH (show Bytes y.Bytes ∧ y.Bytes.length ≤ 500 by
          rw [hyb]
          exact ⟨txtTo_bytes HP.out.1 (by have := HP.out; omega) (cmsF_ok (csF_zero (mtF_zero hm0).2.1).2) (st_Chunk_bytes (wf_drop HWF.out.1 _)) _, (mtF_zero hm0).2.2⟩)
        obtain ⟨D, hD⟩ : ∃ D, hmL key y.Bytes = D := ⟨_, rfl⟩
        have HDB := hidH (show Bytes D by rw [← hD]; exact hmL_bytes _ _)
        obtain ⟨b, hb⟩ : ∃ b, sameM (l.drop 2) D = b := ⟨_, rfl⟩
        rw [hD, hb] at HV2
        obtain ⟨k', f', l', g0, o0, c0, B, cB, hx', e, CK, hcp⟩ := chunk_y (HI.out _ HB3.out) (show j < r.length from HL.out.2.1)
        rw [HX.out] at hx'
        injection hx' with hx'
        injection hx' with q1' q2' q3'
        subst q1' q2' q3'
        injection e with e1 e2 e3
        subst e1 e3
        have HMAC := hidH (show ∀ w : World, Below w3.heap.size w3 w → Calls Tryz.prog 35 #[.slice PK key.length ck, .slice A9 y.Bytes.length c9] w (fun e w' => ∃ (A : Option Addr) (c : Nat), e = .returned (.slice A D.length c) ∧ Bs w' A D ∧ Below w.heap.size w w') from fun (w : World) (hbw : Below w3.heap.size w3 w) => (hmac_any PK A9 key y.Bytes ck c9 w (rdB (HKR.out w (btr HB3.out hbw))) (bs_below HS9.out hbw) HWF.out.2.2 HYB.out.1 (by have := H200.out; omega) (by have := HYB.out.2; omega)).mono (fun e w' hh => by
          rw [hD] at hh
          obtain ⟨v', rfl, o, b⟩ := hh
          obtain ⟨A, c, rfl, ob, _, _⟩ := own_ob o
          exact ⟨A, c, rfl, ob.bs, b⟩))
        have hl2 : (l.drop 2).length = l.length - 2 := List.length_drop
        have SAME := hidH (show ∀ (w : World) (A : Option Addr) (c : Nat), Below w3.heap.size w3 w → Bs w A D → Calls Tryz.prog 34 #[.slice (cutA B 2 cB) (l.drop 2).length (cB - 2), .slice A D.length c] w (fun e w' => e = .returned (.bool b) ∧ Below w.heap.size w w') from fun (w : World) (A : Option Addr) (c : Nat) (hbw : Below w3.heap.size w3 w) (hA : Bs w A D) => (same_spec (cutA B 2 cB) A (l.drop 2) D (cB - 2) c w (bs_below (cutA_drop CK.body (by have := HL.out.1; omega) hcp.1) hbw) hA (fun x hx => HLB.out x (List.mem_of_mem_drop hx)) HDB.out).mono (fun e w' hh => by
          rw [hb] at hh
          exact ⟨hh.1, by rw [← hh.2]; exact Below.refl _ _⟩))
        rw [hl2] at SAME
        have r2 := CK.c2
        have hab := CK.lt
        have hkl := HKF3.out.lt
        have hgl := HKG.out.lt
        have hk2 := HKF3.out.cell 2
        simp only [List.getElem?_toArray, List.getElem?_cons_succ, List.getElem?_cons_zero] at hk2
        have hz2 : 2 ≤ l.length := by have := HL.out.1; omega
        have hj0 : (0 : Int) ≤ (j : Int) := by omega
        have hj1 : (j : Int) < (r.length : Int) := by have := HL.out.2.1; omega
        have hjm : (j : Int) ≤ 1000 := by have := HL.out; omega
        have hq1 := hidH q1
        rw [hc] at q0
        have hcr := hidH hc
        clear hc hm0 hyb hD hb CK hcp hl2 hyc q1
        go_wp2_with fail
        refine wp_region_any (by kernel_rfl) ?_
        refine regCA9 _ _ _ _ _ _ _ _ _ _ _ _ _ _ _ _ _ _ _ _ _ _ _ _ _ _ _ w3 w1.heap.size g g0 o0 r.length cr j l.length cB c9 A9 B y.Bytes D b hkl hgl hab hk2 hq1.out r2 hz2 hj0 hj1 hjm HMAC.out SAME.out (by kernel_rfl) (by kernel_rfl) (by kernel_rfl) rfl (Below.refl _ _).drew ?_
        intros
        rename_i w4 b4
        have HB4 := hidH (btr HB3.out b4)
        have R4 := HR3.out.below b4
        have K4 := HKF3.out.below b4
        have z0 := K4.cell 0
        have z1 := K4.cell 1
        have z2 := K4.cell 2
        have x0 := R4.cell 0
        have x1 := R4.cell 1
        have x2 := R4.cell 2
        have f0 := R4.frozen 0
        have f1 := R4.frozen 1
        have f2 := R4.frozen 2
        simp only [List.getElem?_toArray, List.getElem?_cons_succ, List.getElem?_cons_zero] at z0 z1 z2 x0 x1 x2
        have hkf4 := K4.lt
        have hr := R4.lt
        clear b4 R4 K4 r2 hk2 q0 hkl hgl hab
        cases b
        · have HE := hidH (show (caR key r).vs = [.int 10, .int 0, .int 0] by rw [HV2.out]; rfl)
          go_wp2
          exact bodyPost_ret (v := .agg #[.int .i64 10, .int .i64 0, .int .i64 0]) (by simp [results, Tryz.results10, go_sem, x0, x1, x2]) rfl (by rw [HE.out]; exact ar_res 10 0 0 (bst (bst (bst HB4.out (Nat.le_refl _) _) (Nat.le_refl _) _) (Nat.le_refl _) _))
        · have HE := hidH (show (caR key r).vs = [.int 0, .int P, .int ((j : Int) + 1)] by rw [HV2.out]; rfl)
          go_wp2
          exact bodyPost_ret (v := .agg #[.int .i64 0, .int .i64 P, .int .i64 ((j : Int) + 1)]) (by simp [results, Tryz.results10, go_sem, x0, x1, x2]) rfl (by rw [HE.out]; exact ar_res 0 P _ (bst (bst (bst HB4.out (Nat.le_refl _) _) (Nat.le_refl _) _) (Nat.le_refl _) _))
      · have hq : (y.Code != 0) = true := by rw [bne_iff_ne]; exact hc
        have HE := hidH (show (caR key r).vs = [.int y.Code, .int 0, .int 0] by rw [HV.out, if_neg (by rw [← hyc]; exact hc), ← hyc]; rfl)
        obtain ⟨C, hC⟩ : ∃ C, y.Code = C := ⟨_, rfl⟩
        rw [hC] at q0 hq HE
        have x0 := HR3.out.cell 0
        have x1 := HR3.out.cell 1
        have x2 := HR3.out.cell 2
        have f0 := HR3.out.frozen 0
        have f1 := HR3.out.frozen 1
        have f2 := HR3.out.frozen 2
        simp only [List.getElem?_toArray, List.getElem?_cons_succ, List.getElem?_cons_zero] at x0 x1 x2
        have hr := HR3.out.lt
        have hgl := HKG.out.lt
        clear hc hyc hC
        go_wp2
        exact bodyPost_ret (v := .agg #[.int .i64 C, .int .i64 0, .int .i64 0]) (by simp [results, Tryz.results10, go_sem, x0, x1, x2]) rfl (by rw [HE.out]; exact ar_res C 0 0 (bst (bst (bst HB3.out (Nat.le_refl _) _) (Nat.le_refl _) _) (Nat.le_refl _) _))
    · have HV := hidH (caR_no H200.out hz)
      have q : ((faR r).Code != 0) = true := by rw [bne_iff_ne]; exact hz
      have hv : (caR key r).vs = [.int (faR r).Code, .int (faR r).KeyId, .int (faR r).From] := by rw [HV.out]; rfl
      have HVS := hidH hv
      obtain ⟨C, hC⟩ : ∃ C, (faR r).Code = C := ⟨_, rfl⟩
      obtain ⟨I, hI⟩ : ∃ I, (faR r).KeyId = I := ⟨_, rfl⟩
      obtain ⟨G, hG⟩ : ∃ G, (faR r).From = G := ⟨_, rfl⟩
      rw [hC, hI, hG] at HVS
      rw [hC] at q
      rw [hC, hI, hG]
      have ba := bal (Below.refl w1.heap.size w1) (.cells #[.int .i64 C, .int .i64 I, .int .i64 G] 33)
      have KF := Blk.new w1 33 #[.int .i64 C, .int .i64 I, .int .i64 G]
      have HB2 := hidH (btr HB1.out ba)
      have R2 := HR1.out.below ba
      have z0 := KF.cell 0
      have z1 := KF.cell 1
      have z2 := KF.cell 2
      have x0 := R2.cell 0
      have x1 := R2.cell 1
      have x2 := R2.cell 2
      have f0 := R2.frozen 0
      have f1 := R2.frozen 1
      have f2 := R2.frozen 2
      simp only [List.getElem?_toArray, List.getElem?_cons_succ, List.getElem?_cons_zero] at z0 z1 z2 x0 x1 x2
      have hkf := KF.lt
      have hr := R2.lt
      clear ba KF R2 hz hv hC hI hG
      go_wp2
      exact bodyPost_ret (v := .agg #[.int .i64 C, .int .i64 I, .int .i64 G]) (by simp [results, Tryz.results10, go_sem, x0, x1, x2]) rfl (by rw [HVS.out]; exact ar_res C I G (bst (bst (bst HB2.out (Nat.le_refl _) _) (Nat.le_refl _) _) (Nat.le_refl _) _))
  · have h2I : (200 : Int) < (key.length : Int) := by omega
    have HV := hidH (show (caR key r).vs = [.int 2, .int 0, .int 0] by rw [caR_many h200]; rfl)
    have R1 := Blk.new u 33 #[.int .i64 2, .int .i64 0, .int .i64 0]
    have x0 := R1.cell 0
    have x1 := R1.cell 1
    have x2 := R1.cell 2
    simp only [List.getElem?_toArray, List.getElem?_cons_succ, List.getElem?_cons_zero] at x0 x1 x2
    have HBB := hidH (bal (Below.refl u.heap.size u) (.cells #[.int .i64 2, .int .i64 0, .int .i64 0] 33))
    clear h200 R1
    go_enter Tryz.func10, Tryz.ntmps10
    go_wp2
    exact bodyPost_ret (v := .agg #[.int .i64 2, .int .i64 0, .int .i64 0]) (by simp [results, Tryz.results10, go_sem, x0, x1, x2]) rfl (by rw [HV.out]; exact ar_res 2 0 0 HBB.out)
end Go.Proofs.YtncnibkojneejaaGreatDoor

/- Chapter 7: the program's authResult, FindAuth. -/
namespace Go.Proofs.YtncnibkojneejaaGreatDoor
open Go.RowKit Go.Deep

/-- The cell of the library's own variable errors.errorType. -/
def ErrT (w : World) : Prop := w.cell? ⟨0, 0, none⟩ = some (.iface 130 (.agg #[.pointer (some ⟨2, 62, none⟩)]))
theorem ErrT.lt {w : World} (h : ErrT w) : 0 < w.heap.size := World.block_lt_of_cell? _ _ h
theorem ErrT.below {w w' : World} (h : ErrT w) (hb : Below w.heap.size w w') : ErrT w' := (hb.cell (p := ⟨0, 0, none⟩) h.lt).trans h
set_option maxRecDepth 100000 in
set_option maxHeartbeats 4000000 in
theorem ar_nil (id : Int) (A : Option Addr) (n c : Nat) (fr : Int) (w : World) : Calls Tryz.prog 32 #[tagV id A n c fr, .nilIface] w (Res w [.int 0, .int id, .int fr]) := by
  unfold tagV
  have K1 := ((Blk.new w 60 #[.int .i64 id, .slice A n c, .int .i64 fr]).alloc (.cells #[.int .i64 0, .int .i64 0, .int .i64 0] 33)).alloc (.cells #[.int .i64 0] 83)
  have R1 := (Blk.new (w.alloc (.cells #[.int .i64 id, .slice A n c, .int .i64 fr] 60)) 33 #[.int .i64 0, .int .i64 0, .int .i64 0]).alloc (.cells #[.int .i64 0] 83)
  have b1 := bal (bal (bal (Below.refl w.heap.size w) (.cells #[.int .i64 id, .slice A n c, .int .i64 fr] 60)) (.cells #[.int .i64 0, .int .i64 0, .int .i64 0] 33)) (.cells #[.int .i64 0] 83)
  rw [World.size_alloc] at R1
  obtain ⟨w1, hw1⟩ : ∃ w1, ((w.alloc (.cells #[.int .i64 id, .slice A n c, .int .i64 fr] 60)).alloc (.cells #[.int .i64 0, .int .i64 0, .int .i64 0] 33)).alloc (.cells #[.int .i64 0] 83) = w1 := ⟨_, rfl⟩
  rw [hw1] at K1 R1 b1
  have z0 := K1.cell 0
  have z2 := K1.cell 2
  have x0 := R1.cell 0
  have x1 := R1.cell 1
  have x2 := R1.cell 2
  have f0 := R1.frozen 0
  have f1 := R1.frozen 1
  have f2 := R1.frozen 2
  simp only [List.getElem?_toArray, List.getElem?_cons_succ, List.getElem?_cons_zero] at z0 z2 x0 x1 x2
  have hk := K1.lt
  have hr := R1.lt
  have HB := hidH b1
  have HW := hidH hw1
  clear K1 R1 b1 hw1
  go_enter Tryz.func32, Tryz.ntmps32
  go_wp2_with fail
  rw [HW.out]
  refine (as_nil _ _).mono ?_
  rintro e w2 ⟨rfl, rfl⟩
  go_wp2
  exact bodyPost_ret (v := .agg #[.int .i64 0, .int .i64 id, .int .i64 fr]) (by simp [results, Tryz.results32, go_sem, x0, x1, x2]) rfl (ar_res 0 id fr (bst (bst (bst HB.out (Nat.le_succ _) _) (Nat.le_succ _) _) (Nat.le_succ _) _))
set_option maxRecDepth 100000 in
set_option maxHeartbeats 4000000 in
theorem ar_err (id : Int) (A : Option Addr) (n c : Nat) (fr code : Int) (w : World) (hg : ErrT w) : Calls Tryz.prog 32 #[tagV id A n c fr, errU code] w (Res w [.int code, .int 0, .int 0]) := by
  unfold tagV errU
  have R1 := (Blk.new (w.alloc (.cells #[.int .i64 id, .slice A n c, .int .i64 fr] 60)) 33 #[.int .i64 0, .int .i64 0, .int .i64 0]).alloc (.cells #[.int .i64 0] 83)
  have U1 := Blk.new ((w.alloc (.cells #[.int .i64 id, .slice A n c, .int .i64 fr] 60)).alloc (.cells #[.int .i64 0, .int .i64 0, .int .i64 0] 33)) 83 #[.int .i64 0]
  have b1 := bal (bal (bal (Below.refl w.heap.size w) (.cells #[.int .i64 id, .slice A n c, .int .i64 fr] 60)) (.cells #[.int .i64 0, .int .i64 0, .int .i64 0] 33)) (.cells #[.int .i64 0] 83)
  rw [World.size_alloc] at R1
  rw [World.size_alloc, World.size_alloc] at U1
  obtain ⟨w1, hw1⟩ : ∃ w1, ((w.alloc (.cells #[.int .i64 id, .slice A n c, .int .i64 fr] 60)).alloc (.cells #[.int .i64 0, .int .i64 0, .int .i64 0] 33)).alloc (.cells #[.int .i64 0] 83) = w1 := ⟨_, rfl⟩
  rw [hw1] at R1 U1 b1
  have HH := hidH (as_hit code 0 (w.heap.size + 1 + 1) w1 (hg.below b1) U1 (by omega))
  have HR := hidH R1
  have HB := hidH b1
  have HW := hidH hw1
  have HU := hidH U1.lt
  clear R1 U1 b1 hw1 hg
  go_enter Tryz.func32, Tryz.ntmps32
  go_wp2_with fail
  rw [HW.out]
  refine HH.out.mono ?_
  rintro e w2 ⟨rfl, U2, hw2⟩
  have R2 := hw2.blk HR.out (.inl (by omega))
  have HB2 := hidH (HB.out.trans ((hw2.below (by have := HU.out; omega)).mono (by omega)))
  have y0 := U2.cell 0
  have x0 := R2.cell 0
  have x1 := R2.cell 1
  have x2 := R2.cell 2
  have f0 := R2.frozen 0
  have f1 := R2.frozen 1
  have f2 := R2.frozen 2
  simp only [List.getElem?_toArray, List.getElem?_cons_succ, List.getElem?_cons_zero] at y0 x0 x1 x2
  have hu := U2.lt
  have hr := R2.lt
  clear U2 R2 hw2 HH
  go_wp2
  exact bodyPost_ret (v := .agg #[.int .i64 code, .int .i64 0, .int .i64 0]) (by simp [results, Tryz.results32, go_sem, x0, x1, x2]) rfl (ar_res code 0 0 (bst (bst (bst HB2.out (Nat.le_succ _) _) (Nat.le_succ _) _) (Nat.le_succ _) _))
theorem faL_err : ∀ {r : List ChunkM} {i : Nat}, (faL r i).Code ≠ 0 → faL r i = ⟨(faL r i).Code, 0, 0⟩
  | [], _, _ => rfl
  | x :: r, i, h => by
    unfold faL at h ⊢
    split
    · next hk =>
      rw [if_pos hk] at h
      split
      · next ht => rw [if_pos ht] at h; exact absurd rfl h
      · rfl
    · next hk => rw [if_neg hk] at h; exact faL_err h
set_option maxRecDepth 100000 in
set_option maxHeartbeats 4000000 in
theorem fa_impl (r : List ChunkM) (v : Value) (u : World) (ty : TypeId) (pv : Value) (hE : u.cell? ⟨1, 0, none⟩ = some (.iface ty pv)) (hg : ErrT u) (h : Rd u (st_Chunk r) v) (hcb : ∀ x ∈ r, Bytes x.Body) : Calls Tryz.prog 11 #[v] u (Res u (faR r).vs) := by
  have h0lt := World.block_lt_of_cell? _ _ hE
  have R0 := Blk.new u 33 #[.int .i64 0, .int .i64 0, .int .i64 0]
  have b0 := bal (Below.refl u.heap.size u) (.cells #[.int .i64 0, .int .i64 0, .int .i64 0] 33)
  obtain ⟨w0, hw0⟩ : ∃ w0, u.alloc (.cells #[.int .i64 0, .int .i64 0, .int .i64 0] 33) = w0 := ⟨_, rfl⟩
  rw [hw0] at R0 b0
  have HFT := hidH (findTag_any r v w0 ty pv ((b0.cell (p := ⟨1, 0, none⟩) h0lt).trans hE) (Rd.below b0 _ h) hcb)
  have HG := hidH (hg.below b0)
  have HW := hidH hw0
  have HR := hidH R0
  have HB := hidH b0
  unfold FtR at HFT
  clear hw0 R0 b0 h hcb h0lt hE hg
  go_enter Tryz.func11, Tryz.ntmps11
  go_wp2_with fail
  rw [HW.out]
  refine HFT.out.mono ?_
  rintro e w1 ⟨hh, b1⟩
  have HB1 := hidH (btr HB.out b1)
  have HR1 := hidH (HR.out.below b1)
  have HG1 := hidH (HG.out.below b1)
  clear b1 HFT
  rcases hh with ⟨hne, id, A, n, c, fr, rfl⟩ | ⟨h0, A, c, j, f, l, rfl, _, _, _, _⟩
  · have hv : (faR r).vs = [.int (faR r).Code, .int 0, .int 0] := by
      unfold faR at hne ⊢
      split at hne
      · next hc => rw [if_pos hc]; rw [faL_err hne]; rfl
      · next hc => rw [if_neg hc]; rfl
    have HV := hidH hv
    obtain ⟨C, hC⟩ : ∃ C, (faR r).Code = C := ⟨_, rfl⟩
    rw [hC] at HV ⊢
    have ba := bal (Below.refl w1.heap.size w1) (.cells #[.int .i64 id, .slice A n c, .int .i64 fr] 60)
    have KT := Blk.new w1 60 #[.int .i64 id, .slice A n c, .int .i64 fr]
    have HAR := hidH (ar_err id A n c fr C _ (HG1.out.below ba))
    have HB2 := hidH (btr HB1.out ba)
    have HR2 := hidH (HR1.out.below ba)
    obtain ⟨w2, hw2⟩ : ∃ w2, w1.alloc (.cells #[.int .i64 id, .slice A n c, .int .i64 fr] 60) = w2 := ⟨_, rfl⟩
    rw [hw2] at KT HAR HB2 HR2
    have z0 := KT.cell 0
    have z1 := KT.cell 1
    have z2 := KT.cell 2
    simp only [List.getElem?_toArray, List.getElem?_cons_succ, List.getElem?_cons_zero] at z0 z1 z2
    have hk := KT.lt
    have HW2 := hidH hw2
    clear KT ba hw2 hv hne hC
    unfold tagV at HAR ⊢
    unfold errU at HAR ⊢
    go_wp2_with fail
    rw [HW2.out]
    go_wp2_with fail
    refine HAR.out.mono ?_
    rintro e w3 ⟨vs, rfl, o3, b3⟩
    obtain rfl := shape_AuthResult o3.rd
    have HB3 := hidH (btr HB2.out b3)
    have R3 := HR2.out.below b3
    have x0 := R3.cell 0
    have x1 := R3.cell 1
    have x2 := R3.cell 2
    have f0 := R3.frozen 0
    have f1 := R3.frozen 1
    have f2 := R3.frozen 2
    simp only [List.getElem?_toArray, List.getElem?_cons_succ, List.getElem?_cons_zero] at x0 x1 x2
    have hr := R3.lt
    clear o3 b3 R3 HAR z0 z1 z2
    go_wp2
    exact bodyPost_ret (v := .agg #[.int .i64 C, .int .i64 0, .int .i64 0]) (by simp [results, Tryz.results11, go_sem, x0, x1, x2]) rfl (by rw [HV.out]; exact ar_res C 0 0 (bst (bst (bst HB3.out (Nat.le_refl _) _) (Nat.le_refl _) _) (Nat.le_refl _) _))
  · have hv : (faR r).vs = [.int 0, .int (faR r).KeyId, .int (faR r).From] := by
      show [V.int (faR r).Code, V.int (faR r).KeyId, V.int (faR r).From] = _
      rw [h0]
    have HV := hidH hv
    obtain ⟨id, hid⟩ : ∃ id, (faR r).KeyId = id := ⟨_, rfl⟩
    obtain ⟨fr, hfr⟩ : ∃ fr, (faR r).From = fr := ⟨_, rfl⟩
    rw [hid, hfr] at HV ⊢
    have ba := bal (Below.refl w1.heap.size w1) (.cells #[.int .i64 id, .slice A 32 c, .int .i64 fr] 60)
    have KT := Blk.new w1 60 #[.int .i64 id, .slice A 32 c, .int .i64 fr]
    have HB2 := hidH (btr HB1.out ba)
    have HR2 := hidH (HR1.out.below ba)
    obtain ⟨w2, hw2⟩ : ∃ w2, w1.alloc (.cells #[.int .i64 id, .slice A 32 c, .int .i64 fr] 60) = w2 := ⟨_, rfl⟩
    rw [hw2] at KT HB2 HR2
    have HAR := hidH (ar_nil id A 32 c fr w2)
    have z0 := KT.cell 0
    have z1 := KT.cell 1
    have z2 := KT.cell 2
    simp only [List.getElem?_toArray, List.getElem?_cons_succ, List.getElem?_cons_zero] at z0 z1 z2
    have hk := KT.lt
    have HW2 := hidH hw2
    clear KT ba hw2 hv h0 hid hfr
    unfold tagV at HAR ⊢
    go_wp2_with fail
    rw [HW2.out]
    go_wp2_with fail
    refine HAR.out.mono ?_
    rintro e w3 ⟨vs, rfl, o3, b3⟩
    obtain rfl := shape_AuthResult o3.rd
    have HB3 := hidH (btr HB2.out b3)
    have R3 := HR2.out.below b3
    have x0 := R3.cell 0
    have x1 := R3.cell 1
    have x2 := R3.cell 2
    have f0 := R3.frozen 0
    have f1 := R3.frozen 1
    have f2 := R3.frozen 2
    simp only [List.getElem?_toArray, List.getElem?_cons_succ, List.getElem?_cons_zero] at x0 x1 x2
    have hr := R3.lt
    clear o3 b3 R3 HAR z0 z1 z2
    go_wp2
    exact bodyPost_ret (v := .agg #[.int .i64 0, .int .i64 id, .int .i64 fr]) (by simp [results, Tryz.results11, go_sem, x0, x1, x2]) rfl (by rw [HV.out]; exact ar_res 0 id fr (bst (bst (bst HB3.out (Nat.le_refl _) _) (Nat.le_refl _) _) (Nat.le_refl _) _))
theorem fa_implW (r : List ChunkM) (v : Value) (u : World) (ty : TypeId) (pv : Value) (hE : u.cell? ⟨1, 0, none⟩ = some (.iface ty pv)) (hg : ErrT u) (h : Rd u (st_Chunk r) v) (hw : WfV (st_Chunk r)) (_ : tot (st_Chunk r) ≤ 1048576) : Calls Tryz.prog 11 #[v] u (Res u (faR r).vs) := fa_impl r v u ty pv hE hg h (st_Chunk_bytes hw)
theorem fa_specW (r : List ChunkM) (v : Value) (u : World) (h : Rd u (st_Chunk r) v) (hw : WfV (st_Chunk r)) (_ : tot (st_Chunk r) ≤ 1048576) : Calls Tryz.prog 12 #[v] u (Res u (faR r).vs) := fa_spec r v u h (st_Chunk_bytes hw)
end Go.Proofs.YtncnibkojneejaaGreatDoor

/- The program's SameMac. -/
namespace Go.Proofs.YtncnibkojneejaaGreatDoor
open Go.RowKit Go.Deep

theorem u8_or (a b : Nat) (ha : a < 256) (hb : b < 256) : bits .or .u8 (a : Int) (b : Int) = ((a ||| b : Nat) : Int) := by
  have hx : a ||| b < 256 := Nat.or_lt_two_pow (n := 8) ha hb
  show IntKind.u8.wrap ((BitVec.ofInt 8 (a : Int) ||| BitVec.ofInt 8 (b : Int)).toNat : Int) = _
  have e1 : (BitVec.ofInt 8 (a : Int)).toNat = a := by simp; omega
  have e2 : (BitVec.ofInt 8 (b : Int)).toNat = b := by simp; omega
  rw [BitVec.toNat_or, e1, e2]
  unfold IntKind.wrap
  simp [IntKind.bits, IntKind.signed]
  omega
theorem u8_xor' (a b : Nat) (ha : a < 256) (hb : b < 256) : bits .xor .u8 (a : Int) (b : Int) = ((a ^^^ b : Nat) : Int) := by
  have hx : a ^^^ b < 256 := Nat.xor_lt_two_pow (n := 8) ha hb
  show IntKind.u8.wrap ((BitVec.ofInt 8 (a : Int) ^^^ BitVec.ofInt 8 (b : Int)).toNat : Int) = _
  have e1 : (BitVec.ofInt 8 (a : Int)).toNat = a := by simp; omega
  have e2 : (BitVec.ofInt 8 (b : Int)).toNat = b := by simp; omega
  rw [BitVec.toNat_xor, e1, e2]
  unfold IntKind.wrap
  simp [IntKind.bits, IntKind.signed]
  omega
/-- Once two bytes have differed the sum stays other than zero. -/
theorem differ (d x y : Int) (hd : 0 ≤ d ∧ d ≤ 255) (hx : 0 ≤ x ∧ x ≤ 255) (hy : 0 ≤ y ∧ y ≤ 255) :
    ∃ q v : Int, bits .xor .u8 x y = q ∧ bits .or .u8 d q = v ∧ (0 ≤ v ∧ v ≤ 255) ∧ (v = 0 ↔ d = 0 ∧ x = y) := by
  obtain ⟨d, rfl⟩ : ∃ n : Nat, d = n := ⟨d.toNat, by omega⟩
  obtain ⟨x, rfl⟩ : ∃ n : Nat, x = n := ⟨x.toNat, by omega⟩
  obtain ⟨y, rfl⟩ : ∃ n : Nat, y = n := ⟨y.toNat, by omega⟩
  have h1 : x ^^^ y < 256 := Nat.xor_lt_two_pow (n := 8) (by omega) (by omega)
  have h2 : d ||| (x ^^^ y) < 256 := Nat.or_lt_two_pow (n := 8) (by omega) h1
  refine ⟨_, _, u8_xor' x y (by omega) (by omega), u8_or d (x ^^^ y) (by omega) h1, by omega, ?_⟩
  have h3 : x ^^^ y = 0 ↔ x = y := by
    constructor
    · intro h
      exact xor_can (c := y) (by rw [h, Nat.xor_self])
    · intro h; rw [h, Nat.xor_self]
  have h4 : d ||| (x ^^^ y) = 0 ↔ d = 0 ∧ x ^^^ y = 0 := Nat.or_eq_zero_iff
  omega
def eqTo (a b : List Int) (k : Nat) : Prop := ∀ j, j < k → a.getD j 0 = b.getD j 0
theorem eqTo_succ (a b : List Int) (k : Nat) : eqTo a b (k + 1) ↔ eqTo a b k ∧ a.getD k 0 = b.getD k 0 := by
  constructor
  · intro h; exact ⟨fun j hj => h j (by omega), h k (by omega)⟩
  · rintro ⟨h1, h2⟩ j hj
    by_cases e : j = k
    · subst e; exact h2
    · exact h1 j (by omega)
theorem eqTo_all {a b : List Int} (k : Nat) (ha : a.length = k) (hb : b.length = k) : eqTo a b k ↔ a = b := by
  constructor
  · intro h
    refine List.ext_getElem (by omega) fun j h1 h2 => ?_
    have := h j (by omega)
    rw [List.getD_eq_getElem?_getD, List.getD_eq_getElem?_getD, List.getElem?_eq_getElem h1, List.getElem?_eq_getElem h2] at this
    exact this
  · intro h; subst h; intro j _; rfl
theorem bs_cells {w : World} {A : Option Addr} {l : List Int} (h : Bs w A l) (hp : 0 < l.length) : ∃ b off, A = some ⟨b, off, none⟩ ∧ b < w.heap.size ∧ ∀ j, j < l.length → w.cell? ⟨b, off + j, none⟩ = some (.int .u8 (l.getD j 0)) := by
  rcases h with h | h
  · rw [h] at hp; simp at hp
  · exact h
set_option maxHeartbeats 1000000 in
theorem same_impl (A B : Option Addr) (a b : List Int) (c d : Nat) (w : World) (hA : Bs w A a) (hB : Bs w B b) (ha : Bytes a) (hb : Bytes b) :
    Calls Tryz.prog 50 #[.slice A a.length c, .slice B b.length d] w fun e w' => e = .returned (.bool (sameM a b)) ∧ ∃ k, w.drewN k = w' := by
  by_cases h1 : a.length = 32
  · by_cases h2 : b.length = 32
    · obtain ⟨p, o, rfl, _, cA⟩ := bs_cells hA (by omega)
      obtain ⟨q, r, rfl, _, cB⟩ := bs_cells hB (by omega)
      have HS : Hid (sameM a b = true ↔ eqTo a b 32) := hidH (by
        rw [eqTo_all 32 h1 h2, sameM, h1]
        simp)
      rw [h1] at cA ⊢
      rw [h2] at cB ⊢
      have CA := hidH cA
      have CB := hidH cB
      clear cA cB hA hB h1 h2
      go_enter Tryz.func50, Tryz.ntmps50
      go_wp2
      go_loopw [5, 15] (fun v i wr => ∃ (k n : Nat) (x : Int), k ≤ 32 ∧ v = .int .u8 x ∧ i = .int .i64 k ∧ wr = w.drewN n ∧ (0 ≤ x ∧ x ≤ 255) ∧ (x = 0 ↔ eqTo a b k)) (fun _ i _ => 32 - (intOf i).toNat)
      case atStart => exact ⟨0, 0, 0, by omega, rfl, rfl, rfl, by omega, by simp [eqTo]⟩
      case round =>
        obtain ⟨k, n, x, hk, rfl, rfl, rfl, hx, he⟩ := hrel
        by_cases hlt : k < 32
        · have c1 : w.cell? ⟨p, o + k, none⟩ = some (.int .u8 (a.getD k 0)) := CA.out k hlt
          have c2 : w.cell? ⟨q, r + k, none⟩ = some (.int .u8 (b.getD k 0)) := CB.out k hlt
          have hsuc := eqTo_succ a b k
          have hya := ha.get k
          have hyb := hb.get k
          obtain ⟨y, hy⟩ : ∃ y, a.getD k 0 = y := ⟨_, rfl⟩
          obtain ⟨t, ht⟩ : ∃ t, b.getD k 0 = t := ⟨_, rfl⟩
          rw [hy] at c1 hsuc hya
          rw [ht] at c2 hsuc hyb
          obtain ⟨u, v, q1, q2, hv, hz⟩ := differ x y t hx hya hyb
          have HZ : Hid (v = 0 ↔ eqTo a b (k + 1)) := hidH (by rw [hsuc, ← he]; exact hz)
          clear hsuc hy ht hya hyb
          have HV := hidH hv
          clear hz hv he hx
          have hi0 : (0 : Int) ≤ (k : Int) := by omega
          have hi1 : (k : Int) < 32 := by omega
          go_wp2
          go_quiet (fail)
          go_wp2
          go_roundw
          case rel => exact ⟨k + 1, n + nq, v, by omega, rfl, by go_num, rfl, HV.out, HZ.out⟩
          case measure => simp [intOf]; omega
        · obtain rfl : k = 32 := by omega
          rw [show ((32 : Nat) : Int) = 32 from rfl]
          have HD : Hid (sameM a b = (x == 0)) := hidH (by
            have := HS.out
            by_cases e : x = 0
            · rw [this.2 (he.1 e), e]; rfl
            · rw [beq_eq_false_iff_ne.2 e, Bool.eq_false_iff]
              exact fun y => e (he.2 (this.1 y)))
          clear he hx hlt hk
          go_wp2
          exact bodyPost_ret (v := .bool (x == 0)) (by simp [results, Tryz.results50, go_sem]) rfl ⟨by rw [HD.out], n, rfl⟩
    · have h4 : ((b.length : Int) == 32) = false := by rw [beq_eq_false_iff_ne]; omega
      have hs : sameM a b = false := by
        rw [sameM]
        have : a ≠ b := fun e => h2 (e ▸ h1)
        simp [this]
      rw [hs, h1]
      clear hA hB h1 h2 hs
      go_enter Tryz.func50, Tryz.ntmps50
      go_wp2
      go_ret
      exact ⟨rfl, 0, rfl⟩
  · have h3 : ((a.length : Int) == 32) = false := by rw [beq_eq_false_iff_ne]; omega
    have hs : sameM a b = false := by simp [sameM, h1]
    rw [hs]
    clear hA hB h1 hs
    go_enter Tryz.func50, Tryz.ntmps50
    go_wp2
    go_ret
    exact ⟨rfl, 0, rfl⟩
theorem sameM_comm (a b : List Int) : sameM a b = sameM b a := by
  unfold sameM
  by_cases e : a = b
  · subst e; rfl
  · have e2 : b ≠ a := fun x => e x.symm
    rw [beq_eq_false_iff_ne.2 e, beq_eq_false_iff_ne.2 e2, Bool.and_false, Bool.and_false]
end Go.Proofs.YtncnibkojneejaaGreatDoor
