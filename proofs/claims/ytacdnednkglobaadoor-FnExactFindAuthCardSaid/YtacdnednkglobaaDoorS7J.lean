/- Chapter 7: the program's findTag, authResult, FindAuth. -/
import Derived.Test.YtacdnednkglobaaDoorS7H
import Derived.Test.YtacdnednkglobaaDoorAsE
namespace Go.Proofs.YtacdnednkglobaaDoor
open Go.RowKit Go.Deep

theorem chunk_y {w : World} {r : List ChunkM} {v : Value} (h : Rd w (st_Chunk r) v) {j : Nat} (hj : j < r.length) :
    ∃ k f l g o c A cA, r[j]? = some ⟨k, f, l⟩ ∧ v = .slice (some ⟨g, o, none⟩) r.length c ∧ CkB w g (o + j * 3) k f A l cA ∧ Caps l.length cA := by
  obtain ⟨gb, ob, cb, eb, hgb, RB⟩ := Rd.row (f := ChunkM.vs) (W := 3) (fun _ => rfl) h hj
  obtain ⟨u0, p0, t0⟩ := RB 0 (.int r[j].Kind) rfl
  obtain ⟨u1, p1, t1⟩ := RB 1 (.int r[j].Flags) rfl
  obtain ⟨u2, p2, t2⟩ := RB 2 (.bs r[j].Body) rfl
  have e0 := t0.int_out
  subst e0
  have e1 := t1.int_out
  subst e1
  rw [Nat.add_zero] at p0
  obtain ⟨A, cA, e2, hc, hb⟩ := t2.bs_out
  subst e2
  exact ⟨_, _, _, gb, ob, cb, A, cA, List.getElem?_eq_getElem hj, eb, ⟨hgb, p0, p1, p2, hb⟩, hc⟩
def FtR (r : List ChunkM) (u : World) (e : Ending) (w' : World) : Prop :=
  (((faR r).Code ≠ 0 ∧ ∃ id A n c fr, e = .returned (.tuple #[tagV id A n c fr, errU (faR r).Code])) ∨
   ((faR r).Code = 0 ∧ ∃ (A : Option Addr) (c j : Nat) (f : Int) (l : List Int), e = .returned (.tuple #[tagV (faR r).KeyId A 32 c (faR r).From, .nilIface]) ∧ r[j]? = some ⟨15, f, l⟩ ∧ (faR r).From = (j : Int) + 1 ∧ (l.drop 2).length = 32 ∧ Bs w' A (l.drop 2))) ∧ Below u.heap.size u w'
set_option maxRecDepth 100000 in
set_option maxHeartbeats 4000000 in
theorem findTag_any (r : List ChunkM) (v : Value) (u : World) (ty : TypeId) (pv : Value) (hE : u.cell? ⟨0, 0, none⟩ = some (.iface ty pv)) (h : Rd u (st_Chunk r) v) (hcb : ∀ x ∈ r, Bytes x.Body) : Calls Tryd.prog 66 #[v] u (FtR r u) := by
  have h0lt := World.block_lt_of_cell? _ _ hE
  have R0 := Blk.new u 130 #[.int .i64 0, .slice none 0 0, .int .i64 0]
  have b0 := bal (Below.refl u.heap.size u) (.cells #[.int .i64 0, .slice none 0 0, .int .i64 0] 130)
  obtain ⟨w0, hw0⟩ : ∃ w0, u.alloc (.cells #[.int .i64 0, .slice none 0 0, .int .i64 0] 130) = w0 := ⟨_, rfl⟩
  rw [hw0] at R0 b0
  have HI := hidH (fun (w : World) (hb : Below u.heap.size u w) => Rd.below hb _ h)
  have HE := hidH (fun (w : World) (hb : Below u.heap.size u w) => (hb.cell (p := ⟨0, 0, none⟩) h0lt).trans hE)
  have HW := hidH hw0
  have HR := hidH R0
  have HB := hidH b0
  have HCB := hidH hcb
  have HCF := hidH (chunksFault_any r v 8 w0 (HI.out _ b0) (by omega))
  have HIX := hidH (fun (w : World) (hb : Below u.heap.size u w) (hn : r.length ≤ 8) => idx_any r v w (HI.out w hb) hn)
  obtain ⟨AR, cr, rfl⟩ := st_Chunk_sh h
  clear hw0 R0 b0 h hcb h0lt hE
  obtain ⟨F, hF⟩ : ∃ F, csF 8 r = F := ⟨_, rfl⟩
  rw [hF] at HCF
  go_enter Tryd.func66, Tryd.ntmps66
  go_wp2_with fail
  rw [HW.out]
  refine HCF.out.mono ?_
  rintro e w1 ⟨rfl, b1⟩
  have HB1 := hidH (btr HB.out b1)
  have HR1 := hidH (HR.out.below b1)
  clear b1 HCF
  by_cases hz : F = 0
  · have q : (F != 0) = false := by rw [bne_eq_false_iff_eq]; exact hz
    have HM := hidH (show faR r = faL r 0 by rw [faR, if_pos (hF.trans hz)])
    have HN := hidH (csF_zero (hF.trans hz)).1
    have hnI : (r.length : Int) ≤ 8 := by have := HN.out; omega
    clear hz hF
    go_wp2_with fail
    refine (HIX.out _ HB1.out HN.out).mono ?_
    rintro e w2 ⟨n, rfl, hidx, b2⟩
    have HB2 := hidH (btr HB1.out b2)
    have HR2 := hidH (HR1.out.below b2)
    clear b2
    rcases hidx with ⟨rfl, hno⟩ | ⟨j, f, l, rfl, hx, hk⟩
    · have HF := hidH (show (faR r).Code = 4 by rw [HM.out, faL_none hno])
      have x0 := HR2.out.cell 0
      have x1 := HR2.out.cell 1
      have x2 := HR2.out.cell 2
      have f0 := HR2.out.frozen 0
      have f1 := HR2.out.frozen 1
      have f2 := HR2.out.frozen 2
      simp only [List.getElem?_toArray, List.getElem?_cons_succ, List.getElem?_cons_zero] at x0 x1 x2
      have hrl := HR2.out.lt
      clear hno
      go_wp2
      exact bodyPost_ret (v := .tuple #[tagV 0 none 0 0 0, errU 4]) (by simp [results, Tryd.results66, go_sem, x0, x1, x2, tagV, errU]) rfl ⟨.inl ⟨by rw [HF.out]; omega, 0, none, 0, 0, 0, by rw [HF.out]⟩, bst (bst (bst HB2.out (Nat.le_refl _) _) (Nat.le_refl _) _) (Nat.le_refl _) _⟩
    · have hj : j < r.length := (List.getElem?_eq_some_iff.1 hx).1
      obtain ⟨k', f', l', g, o, c', B, cB, hx', e, CK, hcp⟩ := chunk_y (HI.out _ HB2.out) hj
      rw [hx] at hx'
      injection hx' with hx'
      injection hx' with q1 q2 q3
      subst q1 q2 q3
      injection e with e1 e2 e3
      subst e1 e3
      have hj0 : (0 : Int) ≤ (j : Int) := by omega
      have hj1 : (j : Int) < (r.length : Int) := by omega
      have p0 := CK.c0
      have p1 := CK.c1
      have p2 := CK.c2
      have hg := CK.lt
      have HRT := hidH (readTag_any f B l cB w2 ty pv (HE.out _ HB2.out) CK.body (HCB.out _ (List.mem_of_getElem? hx)) hcp.1 hcp.2)
      have HHIT := hidH (HM.out.trans (faL_hit hk hx rfl))
      have HX := hidH hx
      unfold RtR at HRT
      have hdl : isTag ⟨15, f, l⟩ = true → (l.drop 2).length = 32 := fun q => by have := (isTag_out q).2.1; simp at this ⊢; omega
      have HDL := hidH hdl
      clear CK hx hk hcp hdl hj
      go_wp2_with fail
      refine HRT.out.mono ?_
      rintro e w3 (⟨hno, rfl, b3⟩ | ⟨hyes, A3, c3, rfl, s3, b3⟩)
      · have HF := hidH (show (faR r).Code = 5 by have := HHIT.out; rw [hno] at this; rw [this]; rfl)
        have ba := bal (Below.refl w3.heap.size w3) (.cells #[.int .i64 0, .slice none 0 0, .int .i64 ((j : Int) + 1)] 130)
        have HB4 := hidH (btr (btr HB2.out b3) ba)
        have R4 := (HR2.out.below b3).below ba
        have x0 := R4.cell 0
        have x1 := R4.cell 1
        have x2 := R4.cell 2
        have f0 := R4.frozen 0
        have f1 := R4.frozen 1
        have f2 := R4.frozen 2
        simp only [List.getElem?_toArray, List.getElem?_cons_succ, List.getElem?_cons_zero] at x0 x1 x2
        have hrl := R4.lt
        clear b3 ba R4 HRT hno p0 p1 p2
        unfold tagV errU
        go_wp2
        exact bodyPost_ret (v := .tuple #[tagV 0 none 0 0 ((j : Int) + 1), errU 5]) (by simp [results, Tryd.results66, go_sem, x0, x1, x2, tagV, errU]) rfl ⟨.inl ⟨by rw [HF.out]; omega, 0, none, 0, 0, _, by rw [HF.out]⟩, bst (bst (bst HB4.out (Nat.le_refl _) _) (Nat.le_refl _) _) (Nat.le_refl _) _⟩
      · have HF := hidH (show faR r = ⟨0, pairAt l 0, (j : Int) + 1⟩ by have := HHIT.out; rw [hyes] at this; exact this)
        obtain ⟨P, hP⟩ : ∃ P, pairAt l 0 = P := ⟨_, rfl⟩
        rw [hP] at HF ⊢
        have ba := bal (Below.refl w3.heap.size w3) (.cells #[.int .i64 P, .slice A3 32 c3, .int .i64 ((j : Int) + 1)] 130)
        have HB4 := hidH (btr (btr HB2.out b3) ba)
        have R4 := (HR2.out.below b3).below ba
        have HS4 := hidH (bs_below s3 ba)
        have HD := hidH (HDL.out hyes)
        have HFA := hidH (bs_far HS4.out (by rw [HD.out]; omega) R4 (fun v hv x => by
          simp only [List.mem_toArray, List.mem_cons, List.not_mem_nil, or_false] at hv
          rcases hv with rfl | rfl | rfl <;> exact fun q => by cases q))
        have x0 := R4.cell 0
        have x1 := R4.cell 1
        have x2 := R4.cell 2
        have f0 := R4.frozen 0
        have f1 := R4.frozen 1
        have f2 := R4.frozen 2
        simp only [List.getElem?_toArray, List.getElem?_cons_succ, List.getElem?_cons_zero] at x0 x1 x2
        have hrl := R4.lt
        clear b3 ba R4 HRT hyes p0 p1 p2 s3 hP
        unfold tagV
        go_wp2
        exact bodyPost_ret (v := .tuple #[tagV P A3 32 c3 ((j : Int) + 1), .nilIface]) (by simp [results, Tryd.results66, go_sem, x0, x1, x2, tagV]) rfl ⟨.inr ⟨by rw [HF.out], A3, c3, j, f, l, by rw [HF.out], HX.out, by rw [HF.out], HD.out, Bs.setR (Bs.setR (Bs.setR HS4.out _ _ HFA.out) _ _ HFA.out) _ _ HFA.out⟩, bst (bst (bst HB4.out (Nat.le_refl _) _) (Nat.le_refl _) _) (Nat.le_refl _) _⟩
  · have q : (F != 0) = true := by rw [bne_iff_ne]; exact hz
    have HM := hidH (show (faR r).Code = F by rw [faR, if_neg (by rw [hF]; exact hz), hF])
    have HZ := hidH hz
    have x0 := HR1.out.cell 0
    have x1 := HR1.out.cell 1
    have x2 := HR1.out.cell 2
    have f0 := HR1.out.frozen 0
    have f1 := HR1.out.frozen 1
    have f2 := HR1.out.frozen 2
    simp only [List.getElem?_toArray, List.getElem?_cons_succ, List.getElem?_cons_zero] at x0 x1 x2
    have hrl := HR1.out.lt
    clear hz hF
    go_wp2
    exact bodyPost_ret (v := .tuple #[tagV 0 none 0 0 0, errU F]) (by simp [results, Tryd.results66, go_sem, x0, x1, x2, tagV, errU]) rfl ⟨.inl ⟨by rw [HM.out]; exact HZ.out, 0, none, 0, 0, 0, by rw [HM.out]⟩, bst (bst (bst HB1.out (Nat.le_refl _) _) (Nat.le_refl _) _) (Nat.le_refl _) _⟩
end Go.Proofs.YtacdnednkglobaaDoor
