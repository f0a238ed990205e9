import Derived.Test.YtncnibkojneejaaGreatDoorJb1
import Derived.Test.YtncnibkojneejaaGreatDoorS7DR
import Derived.Test.YtncnibkojneejaaGreatDoorJb2
import Derived.Test.YtncnibkojneejaaGreatDoorJa0
import Derived.Test.YtncnibkojneejaaGreatDoorJa9
import Derived.Test.YtncnibkojneejaaGreatDoorJa6
import Derived.Test.YtncnibkojneejaaGreatDoorJa5
import Derived.Laws.BitsAllLaws
import Derived.IntWalk
import Derived.Deep.QuietTactic
import Derived.Test.YtncnibkojneejaaGreatDoorJa8
import Derived.Lib.LazyBuf
import Derived.Test.YtncnibkojneejaaGreatDoorJa4
import Derived.Test.YtncnibkojneejaaGreatDoorJa7
import Derived.Lib.AppendZeros

/- Chapter 7: DrawCheckAuth. -/
namespace Go.Proofs.YtncnibkojneejaaGreatDoor
open Go.RowKit Go.Deep

theorem tagC_p {id : Int} {D : List Int} (h0 : 0 ≤ id) (h1 : id ≤ 255) (hD : Bytes D) (hl : D.length = 32) : CkP (tagC id D) :=
  ⟨by show (-1 : Int) ≤ 15 ∧ (15 : Int) ≤ 256; omega, by show (-1 : Int) ≤ 0 ∧ (0 : Int) ≤ 256; omega, tagB_bytes h0 (by omega) hD, by show (tagB id D).length ≤ 200; rw [tagB_len]; omega⟩
theorem RowCk.head {x0 : RowE} {q : List RowE} {x : ChunkM} {r : List ChunkM} (h : RowCk (x0 :: q) (x :: r)) : x0 = ckE x x0.val x0.lo x0.hi ∧ RowCk q r := by
  have hv := h.vs
  rw [List.flatMap_cons, List.flatMap_cons] at hv
  have hok := h.ok x0 (by simp)
  obtain ⟨e1, e2⟩ := List.append_inj hv (by rw [show x.vs.length = 3 from rfl]; simp only [RowE.vs, List.length_append, List.length_cons, List.length_nil]; have := hok.1; omega)
  obtain ⟨pre, val, bytes, lo, hi⟩ := x0
  refine ⟨?_, ⟨by have := h.len; simpa using this, e2, fun y hy => h.ok y (by simp [hy])⟩⟩
  have hp : pre.length = 2 := by have := hok.1; simp at this; omega
  have e3 : pre ++ [V.bs bytes] = [.int x.Kind, .int x.Flags] ++ [.bs x.Body] := e1
  obtain ⟨e4, e5⟩ := List.append_inj e3 (by rw [hp]; rfl)
  injection e5 with e5 _
  injection e5 with e5
  subst e4 e5
  rfl
theorem RT.first {W : World} {x : RowE} (h : RT W x) (hb : x.bytes.length = 34) : ∃ xb xo cx cs, x.val = .slice (some ⟨xb, xo, none⟩) 34 cx ∧ x.lo = xb ∧ x.hi = xb + 1 ∧ Blk W xb 5 cs := by
  obtain ⟨⟨h1, h2⟩, h3⟩ := h
  unfold Ow at h2
  obtain ⟨A, c, e, _, h2⟩ := h2
  rcases h2 with h2 | ⟨g, o, rfl, _, h2⟩
  · rw [h2] at hb; cases hb
  · have h4 := (h2 0 (by omega)).1
    rcases h3 with h3 | ⟨h3, cs, h5⟩
    · have := h4.1; have := h4.2; omega
    · have e1 : x.lo = g := by have := h4.1; have := h4.2; omega
      refine ⟨g, o, c, cs, by rw [e, hb], e1, by omega, ?_⟩
      rw [← e1]; exact h5
theorem OwV.belowC7 {B C : Nat} {w w' : World} {x : V} {v : Value} (h : OwV B C w x v) (hb : Below C w w') (hs : w.heap.size ≤ w'.heap.size) : OwV B C w' x v :=
  ⟨Nat.le_trans h.1 hs, Ow.kept x ⟨hs, fun g o _ z => hb.cell (p := ⟨g, o, none⟩) z.2, fun g o _ z => hb.frozen (p := ⟨g, o, none⟩) z.2⟩ h.2⟩
theorem RTs.cons7 {B : Nat} {w : World} {x : RowE} {q : List RowE} (hx : RT w x) (hB : B ≤ x.lo) (h : RTs B w q) (hl : ∀ y ∈ q, x.hi ≤ y.lo ∨ y.hi ≤ x.lo) : RTs B w (x :: q) :=
  ⟨fun y hy => by
    rcases List.mem_cons.1 hy with rfl | hy
    · exact ⟨hx, hB⟩
    · exact h.1 y hy, List.pairwise_cons.2 ⟨hl, h.2⟩⟩
/-- A key and a list come back. -/
def CaRes (w : World) (e : Ending) (w' : World) : Prop :=
  ∃ (key : List Int) (vk v : Value) (r : List ChunkM), e = .returned (.tuple #[vk, v]) ∧ (Bytes key ∧ key.length ≤ 201) ∧ r.length ≤ 10 ∧ (∀ x ∈ r, CkP x) ∧ OwV w.heap.size w'.heap.size w' (.bs key) vk ∧ OwV w.heap.size w'.heap.size w' (st_Chunk r) v ∧ Below w.heap.size w w'
set_option maxRecDepth 100000 in
set_option maxHeartbeats 8000000 in
theorem drawCa_any (A : Option Addr) (l : List Int) (c : Nat) (w : World) (hA : Bs w A l) (hl : Bytes l) (hm : (l.length : Int) ≤ 1048576) :
    Calls Tryz.prog 7 #[.slice A l.length c] w (CaRes w) := by
  have HS := hidH (source_any A l c w hA hl hm)
  have HFA := hidH (fun (W : World) (hW : Below w.heap.size w W) => drawFa_any A l c W (bs_below hA hW) hl hm)
  clear hA
  go_enter Tryz.func7, Tryz.ntmps7
  go_wp2_with fail
  refine HS.out.mono ?_
  rintro e w1 ⟨rfl, S1, b1⟩
  have HB1 := hidH b1
  have HLT := hidH S1.lt
  clear HS b1
  obtain ⟨g, hg⟩ : ∃ g, w.heap.size = g := ⟨_, rfl⟩
  rw [hg] at S1 HLT
  have HG := hidH hg
  rw [hg]
  clear hg
  go_wp2_with fail
  refine (pick_any g A l c 0 w1.heap.size [0, 9, 60, 80, 201] _ (S1.below (bal (Below.refl _ _) _)) (by omega) (Ns.of_blk (t := 2) (Blk.new w1 _ _)) (by simp) (by simp) (by have := S1.lt; omega)).mono ?_
  rintro e w3 ⟨y3, a3, rfl, hy3, ha3, S3, V3⟩
  obtain ⟨L, rfl, hL⟩ : ∃ L : Nat, y3 = L ∧ L ≤ 201 := by
    simp at hy3
    exact ⟨y3.toNat, by omega, by omega⟩
  have W3 : Win g (g + 1) w1 w3 := (Win.of_below (bal (Below.refl _ _) _)).trans V3
  have HW3 := hidH W3
  have HG3 := hidH (show g + 1 ≤ w3.heap.size by have := S3.lt; omega)
  clear S1 V3 hy3 W3
  go_wp2_with fail
  refine (some_any L _ _ _ _ _ _ S3 (by omega) (by omega)).mono ?_
  rintro e w4 ⟨v5, d5, a5, rfl, hd5, hl5, O5, S5, ha5, V5⟩
  obtain ⟨A5, c5, e5, ob5, k5, m5⟩ := own_ob O5
  subst e5
  have HW := hidH (HW3.out.trans V5)
  have HB4 := hidH (show Below w.heap.size w w4 from HB1.out.trans ((HW.out.below (Nat.le_of_lt HLT.out)).mono (by have := HG.out; omega)))
  have HK := hidH (show OwV w3.heap.size w4.heap.size w4 (.bs d5) (.slice A5 d5.length c5) from ob5.owv (Nat.le_refl _) ⟨k5, m5⟩)
  have HD := hidH (And.intro hd5 (show d5.length ≤ 201 by omega))
  have HA5 := hidH (show a5 ≤ 300 by omega)
  have HC := hidH (chance_any g A l c a5 4 w4 S5 (by omega))
  have HS5 := hidH S5
  clear S3 O5 ob5 k5 m5 S5 V5 hd5 hl5 ha5 ha3 hL
  go_wp2_with fail
  refine HC.out.mono ?_
  rintro e w5 ⟨b, rfl, S6, W5⟩
  have HB5 := hidH (show Below w.heap.size w w5 from HB4.out.trans ((W5.below (Nat.le_of_lt HS5.out.lt)).mono (by have := HG.out; omega)))
  have HK5 := hidH (HK.out.win W5 (.inr HG3.out))
  have HZ5 := hidH W5.size
  have HZ3 := hidH (show w.heap.size ≤ w3.heap.size by have := HG.out; have := HG3.out; omega)
  clear HC W5 HK
  cases b with
  | true =>
    have HF := hidH (HFA.out w5 HB5.out)
    clear S6
    go_wp2_with fail
    refine HF.out.mono ?_
    rintro e w6 ⟨v, r, rfl, hrl, hr, hv, b6⟩
    have HB6 := hidH (btr HB5.out b6)
    have HK6 := hidH ((HK5.out.below b6).mono HZ3.out (Nat.le_trans HZ5.out b6.size) (Nat.le_refl _))
    have HV := hidH (hv.mono HB5.out.size (Nat.le_refl _) (Nat.le_refl _))
    have HR := hidH (And.intro hrl hr)
    clear hrl hr hv b6 HF
    go_wp2
    refine bodyPost_ret (v := .tuple #[.slice A5 d5.length c5, v]) (by simp [results, Tryz.results7, go_sem]) rfl ?_
    exact ⟨d5, _, v, r, rfl, HD.out, HR.out.1, HR.out.2, HK6.out, HV.out, HB6.out⟩
  | false =>
    go_wp2_with fail
    refine (pick_any g A l c (a5 + 1) w5.heap.size [0, 5, 99] _ (S6.below (bal (Below.refl _ _) _)) (by have := HA5.out; omega) (Ns.of_blk (t := 2) (Blk.new w5 _ _)) (by simp) (by simp) (by have := S6.lt; omega)).mono ?_
    rintro e w7 ⟨y7, a7, rfl, hy7, ha7, S7, V7⟩
    have HY := hidH (show 0 ≤ y7 ∧ y7 ≤ 99 by simp at hy7; omega)
    have W7 : Win g (g + 1) w5 w7 := (Win.of_below (bal (Below.refl _ _) _)).trans V7
    have HB7 := hidH (show Below w.heap.size w w7 from HB5.out.trans ((W7.below (Nat.le_of_lt S6.lt)).mono (by have := HG.out; omega)))
    have HK7 := hidH (HK5.out.win W7 (.inr HG3.out))
    have HZ7 := hidH (Nat.le_trans HZ5.out W7.size)
    have HA7 := hidH (show a7 ≤ 310 by have := HA5.out; omega)
    have HLD := hidH (l7Draw_any g A l c a7 w7 S7 (by have := HA7.out; omega))
    have HS7 := hidH S7
    clear S6 V7 hy7 W7 S7 ha7 HK5
    go_wp2_with fail
    refine HLD.out.mono ?_
    rintro e w8 ⟨v8, q8, r, a8, rfl, hq8, hrl, hr, ho8, hk8, S8, ha8, W8⟩
    have HB8 := hidH (show Below w.heap.size w w8 from HB7.out.trans ((W8.below (Nat.le_of_lt HS7.out.lt)).mono (by have := HG.out; omega)))
    have HK8 := hidH (HK7.out.win W8 (.inr HG3.out))
    have HZ8 := hidH (Nat.le_trans HZ7.out W8.size)
    have HR := hidH (And.intro hrl hr)
    have HA8 := hidH (show a8 ≤ 480 by have := HA7.out; omega)
    have HPR := hidH (l7ProtectR_any y7 d5 r A5 c5 v8 w8 (bsOf HK8.out.rd) (CsRes.own (Nat.le_refl _) hq8 ho8 hk8).rd HY.out.1 (by have := HY.out.2; omega) HD.out.1 (by have := HD.out.2; omega) (fun x hx => (hr x hx).1) (fun x hx => (hr x hx).2) (by omega))
    have HS8 := hidH S8
    clear hq8 hrl hr ho8 hk8 S8 ha8 W8 HK7 HLD
    go_wp2_with fail
    refine HPR.out.mono ?_
    rintro e w9 ⟨v9, q9, rfl, hq9, ho9, hk9, b9⟩
    have HNX := hidH (next_any g A l c a8 6 w9 (HS8.out.below b9) (by have := HA8.out; omega))
    have HO9 := hidH ho9
    have HT9 := hidH hk9
    have HQ9 := hidH hq9
    have HS9 := hidH (HS8.out.below b9)
    have HB9 := hidH (btr HB8.out b9)
    have HK9 := hidH (HK8.out.below b9)
    have HZ9 := hidH (Nat.le_trans HZ8.out b9.size)
    have HG8 := hidH (show g < w8.heap.size from HS8.out.lt)
    have HZ89 := hidH b9.size
    clear ho9 hk9 hq9 b9 HPR HK8
    go_wp2_with fail
    refine HNX.out.mono ?_
    rintro e w10 ⟨y, rfl, hy0, hy1, S10, V10, hs10⟩
    have ub := B8.of_win V10 HS9.out.blk (by decide)
    have HO10 := hidH (own_keptT HO9.out V10 HG8.out)
    have HT10 := hidH (HT9.out.turn V10.size ub)
    have HB10 := hidH (show Below w.heap.size w w10 from HB9.out.trans ((V10.below (Nat.le_of_lt HS9.out.lt)).mono (by have := HG.out; omega)))
    have HK10 := hidH (HK9.out.win V10 (.inr HG3.out))
    have HZ10 := hidH (Nat.le_trans HZ9.out V10.size)
    have HBZ := hidH (show w8.heap.size ≤ w10.heap.size from Nat.le_trans HZ89.out V10.size)
    have HS10 := hidH S10
    clear hy0 hy1 S10 V10 hs10 ub HNX HK9
    obtain ⟨D, hD⟩ : ∃ D, hmL d5 (txtL y7 r) = D := ⟨_, rfl⟩
    have HPL := hidH (show pcL y7 d5 r = tagC y7 D :: r by rw [pcL, hD])
    have HDL := hidH (show D.length = 32 ∧ Bytes D by rw [← hD]; exact ⟨shaL_len' _, hmL_bytes _ _⟩)
    rw [HPL.out] at HO10 HQ9
    clear hD
    have HFIN := hidH (fun (W : World) (v : Value) (q : List RowE) (r' : List ChunkM) (hq : RowCk q r') (ho : W.ownsRow w8.heap.size 37 3 v r'.length (flatR q)) (hk : RTs w8.heap.size W q) (hl : r'.length ≤ 10) (hp : ∀ x ∈ r', CkP x) (hK : OwV w3.heap.size w4.heap.size W (.bs d5) (.slice A5 d5.length c5)) (hB : Below w.heap.size w W) =>
      show CaRes w (.returned (.tuple #[.slice A5 d5.length c5, v])) W from ⟨d5, _, v, r', rfl, HD.out, hl, hp, hK.mono HZ3.out hK.1 (Nat.le_refl _), (RowCk.own hq ho (Nat.le_refl _) hk).mono HB8.out.size (Nat.le_refl _) (Nat.le_refl _), hB⟩)
    have HTP := hidH (tagC_p HY.out.1 (by have := HY.out.2; omega) HDL.out.2 HDL.out.1)
    have HRP := hidH (fun (x : ChunkM) (hx : x ∈ tagC y7 D :: r) => show CkP x from by
      rcases List.mem_cons.1 hx with rfl | hx
      · exact HTP.out
      · exact (HR.out.2 x hx).p)
    have HRL := hidH (show (tagC y7 D :: r).length ≤ 4 by have := HR.out.1; simp; omega)
    have HA10 := hidH (show a8 + 1 ≤ 481 by have := HA8.out; omega)
    clear HO9 HT9 HS9
    by_cases h0 : y = 0
    · have e0 : (y == 0) = true := by simp [h0]
      clear h0
      obtain ⟨Av, cv, hAv, hcells⟩ := own_cellsT HO10.out
      subst hAv
      obtain ⟨go, rfl, hgo, hgo2, _⟩ := hcells 0 (by simp)
      rcases q9 with _ | ⟨x0, q1⟩
      · have := HQ9.out.len; simp at this
      obtain ⟨ex, hq1⟩ := HQ9.out.head
      obtain ⟨val, lo, hi, ex⟩ : ∃ val lo hi, x0 = ckE (tagC y7 D) val lo hi := ⟨_, _, _, ex⟩
      subst ex
      have hx0 := HT10.out.1 (ckE (tagC y7 D) val lo hi) (by simp)
      have hb34 : (tagB y7 D).length = 34 := by rw [tagB_len, HDL.out.1]
      obtain ⟨xb, xo, cx, cs, hval, hlo, hhi, hblk⟩ := hx0.1.first hb34
      replace hval : val = .slice (some ⟨xb, xo, none⟩) 34 cx := hval
      replace hlo : lo = xb := hlo
      replace hhi : hi = xb + 1 := hhi
      subst hval hlo hhi
      have hpw := List.pairwise_cons.1 HT10.out.2
      have HQ1 := hidH hq1
      have HT1 := hidH (show RTs w8.heap.size w10 q1 from ⟨fun x hx => HT10.out.1 x (by simp [hx]), hpw.2⟩)
      have HAP := hidH (show ∀ x ∈ q1, x.hi ≤ lo ∨ lo < x.lo from fun x hx => by
        rcases hpw.1 x hx with h | h
        · exact .inr (by have h2 : lo + 1 ≤ x.lo := h; omega)
        · exact .inl h)
      have HX0 := hidH hx0
      have HBK := hidH (show ∃ cs, Blk w10 lo 5 cs from ⟨cs, hblk⟩)
      have HBB := hidH (show ∃ b : List Int, b.length = 34 ∧ Bytes b ∧ OwV lo (lo + 1) w10 (.bs b) (.slice (some ⟨lo, xo, none⟩) 34 cx) from ⟨tagB y7 D, hb34, tagB_bytes HY.out.1 (by have := HY.out.2; omega) HDL.out.2, hx0.1.1⟩)
      have hl8 : w8.heap.size ≤ lo := hx0.2
      have hgs : w.heap.size ≤ g := Nat.le_of_eq HG.out
      have hgl : g + 1 ≤ lo := by have := HG8.out; omega
      have hkh : w4.heap.size ≤ lo := Nat.le_trans HZ8.out hl8
      have hxb : w.heap.size ≤ lo := by omega
      have hB1 : (Below w10.heap.size w10 w10.drew) := (Below.refl _ _).drew
      have HD1 := hidH hB1
      obtain ⟨n, hn⟩ : ∃ n, (tagC y7 D :: r).length = n := ⟨_, rfl⟩
      have hn1 : 1 ≤ n := by rw [← hn]; simp
      have hnn : (0 : Int) < (n : Int) := by omega
      have HN := hidH hn
      rw [hn] at HO10
      rw [hn]
      clear hcells hq1 hx0 hblk hpw hn hb34 hB1 hgo
      go_wp2_with fail
      refine wp_region_any (by kernel_rfl) ?_
      refine regD7 _ _ _ _ _ _ _ _ _ _ _ _ _ _ _ _ _ _ _ _ _ _ _ _ _ _ _ _ w g go n cv lo xo cx lo (lo + 1) w8.heap.size A l c (flatR (ckE (tagC y7 D) (.slice (some ⟨lo, xo, none⟩) 34 cx) lo (lo + 1) :: q1)) q1 w3.heap.size w4.heap.size d5 (.slice A5 d5.length c5) hgs HG8.out hgl hgl HG3.out hkh hxb hn1 rfl HAP.out _ _ _ _ _ _ _ _ _ _ _ _ _ _ _ _ (by kernel_rfl) (by kernel_rfl) (by kernel_rfl) rfl (fun h => by cases h) ⟨fun _ => ⟨a8 + 1, by have := HA10.out; simp [cnt]; omega, HS10.out.below HD1.out⟩, fun h => by cases h⟩ (by obtain ⟨b, h1, h2, h3⟩ := HBB.out; exact ⟨b, h1, h2, h3.below HD1.out⟩) (by obtain ⟨cs, h⟩ := HBK.out; exact ⟨cs, h.below HD1.out⟩) (own_below0 HO10.out HD1.out) (HT1.out.turn HD1.out.size (B8.of_below HD1.out)) (HK10.out.below HD1.out) (btr HB10.out HD1.out) ?_
      intros
      rename_i W h1 h2 h3 h4 h5 h6
      have HF1 := hidH h1
      have HF2 := hidH h2
      have HF3 := hidH h3
      have HF4 := hidH h4
      have HF5 := hidH h5
      have HF6 := hidH h6
      clear h1 h2 h3 h4 h5 h6
      go_wp2
      refine bodyPost_ret (v := .tuple #[.slice A5 d5.length c5, .slice (some ⟨go, 0, none⟩) n cv]) (by simp [results, Tryz.results7, go_sem]) rfl ?_
      obtain ⟨b, hb1, hb2, hb3⟩ := HF1.out
      obtain ⟨cs, hcs⟩ := HF2.out
      refine HFIN.out W _ (ckE ⟨15, 0, b⟩ (.slice (some ⟨lo, xo, none⟩) 34 cx) lo (lo + 1) :: q1) (⟨15, 0, b⟩ :: r) (HQ1.out.cons _ _ _ _) ?_ (RTs.cons7 ⟨hb3, .inr ⟨rfl, cs, hcs⟩⟩ hl8 HF4.out (fun y hy => ?_)) ?_ ?_ HF5.out HF6.out
      · have h9 := HF3.out
        have e9 : ((⟨15, 0, b⟩ : ChunkM) :: r).length = n := by rw [← HN.out]; rfl
        rw [e9]
        exact h9
      · rcases HAP.out y hy with h | h
        · exact .inr h
        · exact .inl h
      · have := HRL.out; simp at this ⊢; omega
      · intro x hx
        rcases List.mem_cons.1 hx with rfl | hx
        · exact ⟨by show (-1 : Int) ≤ 15 ∧ (15 : Int) ≤ 256; omega, by show (-1 : Int) ≤ 0 ∧ (0 : Int) ≤ 256; omega, hb2, by show b.length ≤ 200; omega⟩
        · exact HRP.out x (by simp [hx])
    have e0 : (y == 0) = false := by simp [h0]
    clear h0
    obtain ⟨rr, hrr⟩ : ∃ rr, tagC y7 D :: r = rr := ⟨_, rfl⟩
    rw [hrr] at HO10 HQ9 HRP HRL
    clear hrr
    by_cases h1 : y = 1
    · have e1 : (y == 1) = true := by simp [h1]
      have HDR := hidH (l4Draw_ok g A l c (a8 + 1) w10 HS10.out (by have := HA10.out; omega))
      clear h1
      go_wp2_with fail
      refine HDR.out.mono ?_
      rintro e w11 ⟨k, f, b, X, cx, a5', rfl, hok, hby, hX, hc5, hm5, S5, ha5, V5⟩
      have ub := B8.of_win V5 HS10.out.blk (by decide)
      obtain ⟨lo, hi, hlo, hkt⟩ := RT.of_xb hX V5.size hc5 hm5 [.int k, .int f]
      have HO5 := hidH (own_keptT HO10.out V5 HG8.out)
      have HT5 := hidH ((HT10.out.turn V5.size ub).snoc (x := ckE ⟨k, f, b⟩ (.slice X b.length cx) lo hi) hkt (Nat.le_trans (show w8.heap.size ≤ w10.heap.size from HBZ.out) hlo) (fun y hy => Nat.le_trans (HT10.out.top y hy) hlo))
      have HB5' := hidH (show Below w.heap.size w w11 from HB10.out.trans ((V5.below (Nat.le_of_lt HS10.out.lt)).mono (by have := HG.out; omega)))
      have HK5' := hidH (HK10.out.win V5 (.inr HG3.out))
      have HDP := hidH (show CkP ⟨k, f, b⟩ from CkG.p ⟨hok, hby⟩)
      have ba := bal (Below.refl w11.heap.size w11) (.cells #[.int .i64 k, .int .i64 f, .slice X b.length cx] 37)
      have HBA := hidH ba
      have KB := hidH (Blk.new w11 37 #[.int .i64 k, .int .i64 f, .slice X b.length cx])
      have HZ11 := hidH (show w8.heap.size ≤ w11.heap.size from Nat.le_trans HBZ.out V5.size)
      unfold ckV
      clear S5 V5 ub hkt hlo hok hby hX hc5 hm5 ha5 ba HDR
      go_wp2_with (at_builtin; go_loud (refine wpList_append_Ck rfl _ _ rfl w8.heap.size _ rr.length (flatR q9) rfl (own_below0 HO5.out HBA.out) w11.heap.size _ k f X b.length cx rfl KB.out (by have := HRL.out; omega) (Nat.le_trans HZ11.out HBA.out.size) ?_))
      intro v6 w6 o6 hg6
      have r5 := own_below0 HO5.out HBA.out
      have HB6 := hidH (show Below w.heap.size w w6 from (btr HB5'.out HBA.out).grown hg6 (Nat.le_trans HB8.out.size (Nat.le_trans HZ11.out HBA.out.size)) (fun x hx => Nat.le_trans HB8.out.size (r5.lt x hx).1))
      have HK6 := hidH ((HK5'.out.below HBA.out).belowC7 ((Below.refl w4.heap.size _).grown hg6 (HK5'.out.below HBA.out).1 (fun x hx => Nat.le_trans HZ8.out (r5.lt x hx).1)) hg6.size)
      have HT6 := hidH (HT5.out.turn (Nat.le_trans HBA.out.size hg6.size) ((B8.of_below HBA.out).trans (B8.of_grown hg6 r5 (by decide))))
      have HO6 := hidH (show w6.ownsRow w8.heap.size 37 3 v6 (rr ++ [(⟨k, f, b⟩ : ChunkM)]).length (flatR (q9 ++ [ckE ⟨k, f, b⟩ (.slice X b.length cx) lo hi])) by rw [List.length_append, flatR_app]; exact o6)
      clear o6 hg6 r5
      go_wp2
      refine bodyPost_ret (v := .tuple #[.slice A5 d5.length c5, v6]) (by simp [results, Tryz.results7, go_sem]) rfl ?_
      refine HFIN.out _ _ _ (rr ++ [(⟨k, f, b⟩ : ChunkM)]) (HQ9.out.snoc _ _ _ _) HO6.out HT6.out ?_ ?_ HK6.out HB6.out
      · have := HRL.out; simp; omega
      · intro x hx
        rcases List.mem_append.1 hx with hx | hx
        · exact HRP.out x hx
        · simp at hx; subst hx; exact HDP.out
    have e1 : (y == 1) = false := by simp [h1]
    clear h1
    by_cases h2 : y = 2
    case neg =>
      have e2 : (y == 2) = false := by simp [h2]
      have HLAST := hidH (HFIN.out w10 v9 q9 rr HQ9.out HO10.out HT10.out (by have := HRL.out; omega) HRP.out HK10.out HB10.out)
      clear h2
      go_wp2
      refine bodyPost_ret (v := .tuple #[.slice A5 d5.length c5, v9]) (by simp [results, Tryz.results7, go_sem]) rfl ?_
      exact HLAST.out
    have e2 : (y == 2) = true := by simp [h2]
    have HDR := hidH (l4Draw_ok g A l c (a8 + 1) w10 HS10.out (by have := HA10.out; omega))
    clear h2
    go_wp2_with fail
    refine HDR.out.mono ?_
    rintro e w11 ⟨k, f, b, X, cx, a5', rfl, hok, hby, hX, hc5, hm5, S5, ha5, V5⟩
    have ub := B8.of_win V5 HS10.out.blk (by decide)
    obtain ⟨lo, hi, hlo, hkt⟩ := RT.of_xb hX V5.size hc5 hm5 [.int k, .int f]
    have HO5 := hidH (own_keptT HO10.out V5 HG8.out)
    have HT5 := hidH (HT10.out.turn V5.size ub)
    have HTOP := hidH (show ∀ y ∈ q9, y.hi ≤ lo from fun y hy => Nat.le_trans (HT10.out.top y hy) hlo)
    have HLO := hidH (show w8.heap.size ≤ lo from Nat.le_trans HBZ.out hlo)
    have HB5' := hidH (show Below w.heap.size w w11 from HB10.out.trans ((V5.below (Nat.le_of_lt HS10.out.lt)).mono (by have := HG.out; omega)))
    have HK5' := hidH (HK10.out.win V5 (.inr HG3.out))
    have HDP := hidH (show CkP ⟨k, f, b⟩ from CkG.p ⟨hok, hby⟩)
    have HKT := hidH hkt
    obtain ⟨w12, hw12⟩ : ∃ W, w11.alloc (.cells #[.int .i64 k, .int .i64 f, .slice X b.length cx] 37) = W := ⟨_, rfl⟩
    have ba := bal (Below.refl w11.heap.size w11) (.cells #[.int .i64 k, .int .i64 f, .slice X b.length cx] 37)
    have OL : (w11.alloc (.cells #[.int .i64 k, .int .i64 f, .slice X b.length cx] 37)).ownsRow w11.heap.size 37 3 (.slice (some ⟨w11.heap.size, 0, none⟩) 1 1) 1 (flatR [ckE ⟨k, f, b⟩ (.slice X b.length cx) lo hi]) :=
      World.ownsRow_lit w11 #[.int .i64 k, .int .i64 f, .slice X b.length cx] 1 (Nat.le_refl _) (by unfold maxLen; omega) rfl
    rw [hw12] at ba OL
    have HBA := hidH ba
    have HOL := hidH OL
    have HW12 := hidH hw12
    have HZ11 := hidH (show w8.heap.size ≤ w11.heap.size from Nat.le_trans HBZ.out V5.size)
    obtain ⟨Y, hY⟩ : ∃ Y, flatR q9 = Y := ⟨_, rfl⟩
    have HONE := hidH (show ∀ u ∈ Y, u.oneCell' = true by rw [← hY]; exact flatR_one HQ9.out.ok (fun x hx => (HT10.out.1 x hx).1.val))
    have HO6 := hidH (own_below0 HO5.out HBA.out)
    rw [hY] at HO6
    have HY9 := hidH hY
    obtain ⟨Z, hZ⟩ : ∃ Z, flatR [ckE ⟨k, f, b⟩ (.slice X b.length cx) lo hi] = Z := ⟨_, rfl⟩
    rw [hZ] at HOL
    have HZZ := hidH hZ
    unfold ckV
    clear S5 V5 ub hkt hlo hok hby hX hc5 hm5 ha5 ba HDR OL hw12 hY hZ
    go_wp2_with (at_builtin; go_loud (rw [HW12.out]; refine wpList_append_rows rfl _ _ Tryz.underlying24 infoCk rfl (by decide) (by decide) rfl w11.heap.size _ 1 Z rfl HOL.out _ rr.length _ Y rfl HO6.out HONE.out (by have := HRL.out; omega) HBA.out.size ?_))
    intro v6 w6 o6 hg6 _
    have HB6 := hidH (show Below w.heap.size w w6 from (btr HB5'.out HBA.out).grown hg6 (Nat.le_trans HB8.out.size (Nat.le_trans HZ11.out HBA.out.size)) (fun x hx => Nat.le_trans HB8.out.size (Nat.le_trans HZ11.out (HOL.out.lt x hx).1)))
    have HK6 := hidH ((HK5'.out.below HBA.out).belowC7 ((Below.refl w4.heap.size _).grown hg6 (HK5'.out.below HBA.out).1 (fun x hx => Nat.le_trans HZ8.out (Nat.le_trans HZ11.out (HOL.out.lt x hx).1))) hg6.size)
    have u6 := (B8.of_below HBA.out).trans (B8.of_grown hg6 HOL.out (by decide))
    have hs6 := Nat.le_trans HBA.out.size hg6.size
    have HT6 := hidH (RTs.cons7 (x := ckE ⟨k, f, b⟩ (.slice X b.length cx) lo hi) (HKT.out.turn hs6 u6) HLO.out (HT5.out.turn hs6 u6) (fun y hy => .inr (HTOP.out y hy)))
    have HO7 := hidH (show w6.ownsRow w8.heap.size 37 3 v6 ((⟨k, f, b⟩ : ChunkM) :: rr).length (flatR (ckE ⟨k, f, b⟩ (.slice X b.length cx) lo hi :: q9)) from by
      have e9 : ((⟨k, f, b⟩ : ChunkM) :: rr).length = 1 + rr.length := by simp; omega
      rw [e9, flatR_cons]
      rw [← HZZ.out, ← HY9.out] at o6
      exact own_monoT (by simpa [flatR] using o6) HZ11.out)
    clear o6 hg6 u6 hs6
    go_wp2
    refine bodyPost_ret (v := .tuple #[.slice A5 d5.length c5, v6]) (by simp [results, Tryz.results7, go_sem]) rfl ?_
    refine HFIN.out _ _ _ ((⟨k, f, b⟩ : ChunkM) :: rr) (HQ9.out.cons _ _ _ _) HO7.out HT6.out ?_ ?_ HK6.out HB6.out
    · have := HRL.out; simp; omega
    · intro x hx
      rcases List.mem_cons.1 hx with rfl | hx
      · exact HDP.out
      · exact HRP.out x hx
end Go.Proofs.YtncnibkojneejaaGreatDoor

/- The program's isId. -/
namespace Go.Proofs.YtncnibkojneejaaGreatDoor
open Go.RowKit Go.Deep

set_option maxHeartbeats 400000 in
theorem isId_any (n : Int) (w : World) : Calls Tryz.prog 57 #[.int .i64 n] w fun e w' => e = .returned (.bool (inB n 0 99)) ∧ w = w' := by
  by_cases h1 : 0 ≤ n
  · rw [show inB n 0 99 = decide (n ≤ 99) from by simp [inB, h1]]
    go_enter Tryz.func57, Tryz.ntmps57
    go_wp2
    go_ret
    exact ⟨rfl, rfl⟩
  · have h : n < 0 := by omega
    rw [show inB n 0 99 = false from inB_lo h]
    clear h1
    go_enter Tryz.func57, Tryz.ntmps57
    go_wp2
    go_ret
    exact ⟨rfl, rfl⟩
end Go.Proofs.YtncnibkojneejaaGreatDoor

/- The model's packets: l4Raw. -/
namespace Go.Proofs.YtncnibkojneejaaGreatDoor
open Go.RowKit Go.Deep

structure Chk where
  kind : Int
  flags : Int
  body : List Int
def chkL (x : Chk) : List Int := chL x.kind x.flags x.body
def chkOk (x : Chk) : Prop := (0 ≤ x.kind ∧ x.kind ≤ 255) ∧ (0 ≤ x.flags ∧ x.flags ≤ 255) ∧ x.body.length ≤ 160
/-- A list of chunks in memory, three cells a chunk. -/
def Cs (w : World) (P : Option Addr) (cs : List Chk) : Prop :=
  cs = [] ∨ ∃ g o, P = some ⟨g, o, none⟩ ∧ g < w.heap.size ∧ ∀ j (hj : j < cs.length), ∃ A c, CkB w g (o + j * 3) cs[j].kind cs[j].flags A cs[j].body c
theorem Cs.below {w w' : World} {P : Option Addr} {cs : List Chk} (h : Cs w P cs) (hb : Below w.heap.size w w') : Cs w' P cs := by
  rcases h with h | ⟨g, o, h1, h2, h3⟩
  · exact .inl h
  · exact .inr ⟨g, o, h1, Nat.lt_of_lt_of_le h2 hb.size, fun j hj => by obtain ⟨A, c, h⟩ := h3 j hj; exact ⟨A, c, h.below hb⟩⟩
/-- A packet in memory. -/
structure PkB (w : World) (g o : Nat) (tag : Int) (P : Option Addr) (cs : List Chk) (c : Nat) : Prop where
  lt : g < w.heap.size
  c0 : w.cell? ⟨g, o, none⟩ = some (.int .i64 tag)
  c1 : w.cell? ⟨g, o + 1, none⟩ = some (.slice P cs.length c)
  list : Cs w P cs
theorem PkB.below {w w' : World} {B g o : Nat} {tag : Int} {P : Option Addr} {cs : List Chk} {c : Nat} (h : PkB w g o tag P cs c) (hb : Below B w w') (hB : w.heap.size ≤ B := by first | exact Nat.le_refl _ | assumption) : PkB w' g o tag P cs c :=
  have hb' : Below w.heap.size w w' := hb.mono hB
  ⟨Nat.lt_of_lt_of_le h.lt hb'.size, (hb'.cell (p := ⟨g, o, none⟩) h.lt).trans h.c0, (hb'.cell (p := ⟨g, o + 1, none⟩) h.lt).trans h.c1, h.list.below hb'⟩
def rawTo (tag sum : Int) (cs : List Chk) (j : Nat) : List Int := pk tag ++ pk sum ++ (cs.take j).flatMap chkL
def rawL (tag sum : Int) (cs : List Chk) : List Int := rawTo tag sum cs cs.length
theorem rawTo_succ (tag sum : Int) (cs : List Chk) (j : Nat) (hj : j < cs.length) : rawTo tag sum cs (j + 1) = rawTo tag sum cs j ++ chkL cs[j] := by
  rw [rawTo, rawTo, List.take_add_one, List.getElem?_eq_getElem hj, Option.toList_some, List.flatMap_append, List.append_assoc (pk tag ++ pk sum)]
  simp only [List.flatMap_cons, List.flatMap_nil, List.append_nil]
theorem chkL_len (x : Chk) (h : x.body.length ≤ 160) : (chkL x).length ≤ 168 := by
  rw [chkL, chL_len]; unfold chPad; omega
theorem rawTo_len (tag sum : Int) (cs : List Chk) (hc : ∀ x ∈ cs, chkOk x) (j : Nat) (hj : j ≤ cs.length) : (rawTo tag sum cs j).length ≤ 8 + 168 * j := by
  induction j with
  | zero => simp [rawTo, pk]
  | succ j ih =>
    rw [rawTo_succ _ _ _ _ (by omega), List.length_append]
    have := chkL_len cs[j] (hc _ (List.getElem_mem _)).2.2
    have := ih (by omega)
    omega
end Go.Proofs.YtncnibkojneejaaGreatDoor

/- The model's Crc32c. -/
namespace Go.Proofs.YtncnibkojneejaaGreatDoor
open Go.RowKit Go.Deep

theorem i64_xor_nat (a b : Nat) (ha : a < 4294967296) (hb : b < 4294967296) : bits .xor .i64 (a : Int) (b : Int) = ((a ^^^ b : Nat) : Int) := by
  have hx : a ^^^ b < 4294967296 := Nat.xor_lt_two_pow (n := 32) ha hb
  show IntKind.i64.wrap ((BitVec.ofInt 64 (a : Int) ^^^ BitVec.ofInt 64 (b : Int)).toNat : Int) = _
  rw [BitVec.toNat_xor, ofInt_u64 a (by omega), ofInt_u64 b (by omega)]
  exact IntWalk.i64_in _ (by omega)
def nB (l : List Int) : List Nat := l.map Int.toNat
theorem nB_lt {l : List Int} (h : Bytes l) : ∀ x ∈ nB l, x < 256 := by
  intro x hx
  simp only [nB, List.mem_map] at hx
  obtain ⟨y, hy, rfl⟩ := hx
  have := h y hy
  omega
theorem nB_get (l : List Int) (k : Nat) : (nB l).getD k 0 = (l.getD k 0).toNat := by
  simp only [nB, List.getD_eq_getElem?_getD, List.getElem?_map]
  cases l[k]? <;> rfl
def crcP (l : List Nat) (k : Nat) : Nat := crcTo 4294967295 (l.take k)
theorem crcP_succ (l : List Nat) (k : Nat) (hk : k < l.length) : crcP l (k + 1) = crcBits (crcP l k ^^^ l.getD k 0) 8 := by
  rw [crcP, List.take_succ_eq_append_getElem hk, crcTo, List.foldl_append, List.getD_eq_getElem?_getD, List.getElem?_eq_getElem hk]
  rfl
theorem crcP_lt {l : List Nat} (hl : ∀ x ∈ l, x < 256) (k : Nat) : crcP l k < 4294967296 := crcTo_lt (by decide) (fun x hx => hl x (List.mem_of_mem_take hx))
def crcC (l : List Int) : Int := if l.length ≤ 700 then 0 else 2
def crcN (l : List Int) : Int := if l.length ≤ 700 then ((crcV (nB l) : Nat) : Int) else 0
end Go.Proofs.YtncnibkojneejaaGreatDoor

/- The model's PacketFault, l4Pack and PackPacket. -/
namespace Go.Proofs.YtncnibkojneejaaGreatDoor
open Go.RowKit Go.Deep

/-- A packet's value. -/
def pkV (tag : Int) (P : Option Addr) (n c : Nat) : Value := .agg #[.int .i64 tag, .slice P n c]
def chkF (x : Chk) : Int := chF x.kind x.flags x.body
def firstF : List Chk → Int
  | [] => 0
  | x :: r => if chkF x = 0 then firstF r else chkF x
theorem firstF_app (a b : List Chk) (h : firstF a = 0) : firstF (a ++ b) = firstF b := by
  induction a with
  | nil => rfl
  | cons x r ih =>
    simp only [firstF] at h
    simp only [List.cons_append, firstF]
    split at h
    · next hx => rw [if_pos hx]; exact ih h
    · next hx => exact absurd h hx
theorem firstF_mem {cs : List Chk} (h : firstF cs = 0) : ∀ x ∈ cs, chkF x = 0 := by
  induction cs with
  | nil => intro x hx; cases hx
  | cons y r ih =>
    simp only [firstF] at h
    split at h
    · next hy =>
      intro x hx
      rcases List.mem_cons.1 hx with rfl | hx
      · exact hy
      · exact ih h x hx
    · next hy => exact absurd h hy
theorem firstF_ok {cs : List Chk} (h : firstF cs = 0) : ∀ x ∈ cs, chkOk x := fun x hx => chF_zero (firstF_mem h x hx)
theorem firstF_take {cs : List Chk} {j : Nat} (hj : j < cs.length) (h : firstF (cs.take j) = 0) : firstF (cs.take (j + 1)) = chkF cs[j] := by
  rw [List.take_add_one, List.getElem?_eq_getElem hj, Option.toList_some, firstF_app _ _ h]
  simp only [firstF]
  split
  · next hx => exact hx.symm
  · rfl
theorem firstF_hit {cs : List Chk} {j : Nat} (hj : j < cs.length) (h : firstF (cs.take j) = 0) (hne : chkF cs[j] ≠ 0) : firstF cs = chkF cs[j] := by
  have h2 : cs.take j ++ cs[j] :: cs.drop (j + 1) = cs := by simp
  have h3 := firstF_app (cs.take j) (cs[j] :: cs.drop (j + 1)) h
  rw [h2] at h3
  rw [h3]
  simp [firstF, hne]
def pkF (tag : Int) (cs : List Chk) : Int :=
  if wB tag then (if 1 ≤ cs.length ∧ cs.length ≤ 8 then (if firstF cs = 0 then (if (rawL tag 0 cs).length ≤ 500 then 0 else 2) else firstF cs) else 2) else 3
end Go.Proofs.YtncnibkojneejaaGreatDoor

/- The model's l4Pack and PackPacket. -/
namespace Go.Proofs.YtncnibkojneejaaGreatDoor
open Go.RowKit Go.Deep

theorem bytes_app0 {a b : List Int} (ha : Bytes a) (hb : Bytes b) : Bytes (a ++ b) := fun x hx => (List.mem_append.1 hx).elim (ha x) (hb x)
theorem pk_bytes0 {a : Int} (h0 : 0 ≤ a) (h1 : a ≤ 4294967295) : Bytes (pk a) := by
  intro x hx
  simp only [pk, List.mem_cons, List.not_mem_nil, or_false] at hx
  rcases hx with rfl | rfl | rfl | rfl <;> omega
theorem chkL_bytes {x : Chk} (h : chkOk x) (hb : Bytes x.body) : Bytes (chkL x) := by
  obtain ⟨⟨h1, h2⟩, ⟨h3, h4⟩, h5⟩ := h
  unfold chkL chL
  refine bytes_app0 (bytes_app0 ?_ hb) ?_
  · intro y hy
    simp only [List.mem_cons, List.not_mem_nil, or_false] at hy
    rcases hy with rfl | rfl | rfl | rfl <;> omega
  · intro y hy
    obtain ⟨_, rfl⟩ := List.mem_replicate.1 hy
    omega
theorem rawL_bytes {tag sum : Int} {cs : List Chk} (ht0 : 0 ≤ tag) (ht1 : tag ≤ 4294967295) (hs0 : 0 ≤ sum) (hs1 : sum ≤ 4294967295) (hc : ∀ x ∈ cs, chkOk x) (hb : ∀ x ∈ cs, Bytes x.body) : Bytes (rawL tag sum cs) := by
  unfold rawL rawTo
  rw [List.take_length]
  refine bytes_app0 (bytes_app0 (pk_bytes0 ht0 ht1) (pk_bytes0 hs0 hs1)) ?_
  intro y hy
  obtain ⟨x, hx, hy⟩ := List.mem_flatMap.1 hy
  exact chkL_bytes (hc x hx) (hb x hx) y hy
def sumOf (tag : Int) (cs : List Chk) : Int := ((crcV (nB (rawL tag 0 cs)) : Nat) : Int)
def pkL (tag : Int) (cs : List Chk) : List Int := rawL tag (sumOf tag cs) cs
theorem sumOf_word {tag : Int} {cs : List Chk} (ht0 : 0 ≤ tag) (ht1 : tag ≤ 4294967295) (hc : ∀ x ∈ cs, chkOk x) (hb : ∀ x ∈ cs, Bytes x.body) : 0 ≤ sumOf tag cs ∧ sumOf tag cs ≤ 4294967295 := by
  have := crcV_lt (nB_lt (rawL_bytes (sum := 0) ht0 ht1 (by omega) (by omega) hc hb))
  unfold sumOf
  omega
def pkM (tag : Int) (cs : List Chk) : List Int := if pkF tag cs = 0 then pkL tag cs else []
theorem pkF_zero {tag : Int} {cs : List Chk} (h : pkF tag cs = 0) : (0 ≤ tag ∧ tag ≤ 4294967295) ∧ (1 ≤ cs.length ∧ cs.length ≤ 8) ∧ (∀ x ∈ cs, chkOk x) ∧ (rawL tag 0 cs).length ≤ 500 := by
  unfold pkF at h
  split at h
  · next h1 =>
    split at h
    · next h2 =>
      split at h
      · next h3 =>
        split at h
        · next h4 => exact ⟨by simpa [wB, inB] using h1, h2, firstF_ok h3, h4⟩
        · cases h
      · next h3 => exact absurd h h3
    · cases h
  · cases h
end Go.Proofs.YtncnibkojneejaaGreatDoor

/- The model's ActionOf, SamePackets. -/
namespace Go.Proofs.YtncnibkojneejaaGreatDoor
open Go.RowKit Go.Deep

def actC (k : Int) : Int := if inB k 0 255 then 0 else 3
def actV (k : Int) : Int := if inB k 0 255 then k / 64 else 0
theorem chk_eq {x y : Chk} : x = y ↔ x.kind = y.kind ∧ x.flags = y.flags ∧ x.body = y.body := by
  cases x; cases y; simp
end Go.Proofs.YtncnibkojneejaaGreatDoor

/- The program's ChunkFault, paddingSize, chunkSize, ActionOf, bytes.Clone, bytes.Equal. -/
namespace Go.Proofs.YtncnibkojneejaaGreatDoor
open Go.RowKit Go.Deep

set_option maxHeartbeats 400000 in
theorem padz_any (A : Option Addr) (n c : Nat) (w : World) (hm : (n : Int) ≤ 9223372036854775807) : Calls Tryz.prog 76 #[.slice A n c] w fun e w' => e = .returned (.int .i64 ((chPad n : Nat) : Int)) ∧ w' = w := by
  go_enter Tryz.func76, Tryz.ntmps76
  go_wp2
  go_ret
  refine ⟨ret_int ?_, rfl⟩
  unfold chPad
  omega
end Go.Proofs.YtncnibkojneejaaGreatDoor

/- slices.Grow and slices.Concat at bytes, however many slices. -/
namespace Go.Proofs.YtncnibkojneejaaGreatDoor
open Go.RowKit Go.Deep

theorem wpList_append_run {w : World} {ops : Array Oper} {rest : List Oper} {o : Oper} {a : Act} {Q : Exit → Act → World → Prop} (hgd : o.guard = none) (s x : Operand) (ts : Array TypeId)
    (ho : o.op = .call { callee := .builtin .append, args := #[s, x], argTypes := ts }) (sv xv : Value) (hs : a.eval s = sv) (hx : a.eval x = xv) (d : Option Tmp) (hd : o.dst = d)
    (v : Value) (w1 : World) (hrun : ∀ ty, (Builtin.append_ ts ty #[sv, xv]).run Tryz.prog w = .ok v w1) (h : wpList Tryz.prog ops Q rest (a.put d v) w1) : wpList Tryz.prog ops Q (o :: rest) a w := by
  subst hd
  refine wpList_plain hgd fun K hK => ?_
  unfold Oper.wp
  simp [execOp, ho, resolve, invoke, builtin, hs, hx, hrun, Result.andThen]
  exact hK _ _ h
set_option maxHeartbeats 1000000 in
theorem grow_any (n : Nat) (w : World) (h : n ≤ 100000) : Calls Tryz.prog 92 #[.slice none 0 0, .int .i64 n] w fun e w' => ∃ v, e = .returned v ∧ w'.ownsRow w.heap.size 5 1 v 0 [] ∧ Below w.heap.size w w' := by
  by_cases h0 : n = 0
  · subst h0
    rw [show ((0 : Nat) : Int) = 0 from rfl]
    go_enter Tryz.func92, Tryz.ntmps92
    go_wp2
    go_ret
    exact ⟨_, rfl, ⟨rfl, .inl ⟨rfl, rfl⟩⟩, Below.refl _ _⟩
  · obtain ⟨i0, hi, hz0, hz1, hz2⟩ := info_parts infoU8
    have hnI : (0 : Int) < (n : Int) := by omega
    have hnJ : (n : Int) ≤ 100000 := by omega
    have hap : ∀ ty, (Builtin.append_ #[22, 3] ty #[.slice none 0 0, .int .i64 n]).run Tryz.prog w = .ok (.slice (some ⟨w.heap.size, 0, none⟩) n (grownCap w n 0 5)) (w.drew.alloc (.cells (Builtin.zeroCells #[.int .u8 0] n ++ Builtin.zeroCells #[.int .u8 0] (grownCap w n 0 5 - n)) 5)) := fun ty =>
      Lib.run_append_nil_zeros w 22 3 ty 5 i0 (.int .u8 0) .i64 .i64 Tryz.underlying22 (by kernel_rfl) hi hz0 n (by omega) (by rw [hz1]; omega) (by omega) (by rw [hz2]; omega)
    have hge := grownCap_ge w n 0 5
    have hle := grownCap_le_maxLen w n 0 5 (by unfold maxLen; omega)
    generalize grownCap w n 0 5 = c at *
    have hsz : (Builtin.zeroCells #[Value.int .u8 0] n ++ Builtin.zeroCells #[Value.int .u8 0] (c - n)).size = c * 1 := by
      rw [Array.size_append, size_zeroCells, size_zeroCells]; simp; omega
    generalize Builtin.zeroCells #[Value.int .u8 0] n ++ Builtin.zeroCells #[Value.int .u8 0] (c - n) = cs at *
    have HC := hidH (And.intro hge (And.intro hle hsz))
    have hc : (0 : Int) ≤ (c : Int) := by omega
    have HAP := hidH hap
    clear hi hz0 hz1 hz2 hge hle hsz h0 hap
    go_enter Tryz.func92, Tryz.ntmps92
    go_wp2_with (at_builtin; refine wpList_append_run rfl _ _ _ rfl (.slice none 0 0) (.int .i64 n) rfl rfl _ rfl _ _ HAP.out ?_)
    go_ret
    refine ⟨_, rfl, ⟨rfl, .inr ⟨w.heap.size, c, cs, rfl, Nat.le_refl _, ?_, by omega, HC.out.2.1, HC.out.2.2, by simp⟩⟩, bal (Below.refl _ _).drew _⟩
    exact heap_alloc_new w.drew _
/-- Slices of bytes in a row of their own. -/
def Parts (w : World) (g : Nat) (ps : List (List Int)) : Prop :=
  g < w.heap.size ∧ ∀ i (hi : i < ps.length), ∃ A c, w.cell? ⟨g, i, none⟩ = some (.slice A ps[i].length c) ∧ Bs w A ps[i]
theorem Parts.below {w w' : World} {g : Nat} {ps : List (List Int)} (h : Parts w g ps) (hb : Below w.heap.size w w') : Parts w' g ps :=
  ⟨Nat.lt_of_lt_of_le h.1 hb.size, fun i hi => by
    obtain ⟨A, c, h1, h2⟩ := h.2 i hi
    exact ⟨A, c, (hb.cell (p := ⟨g, i, none⟩) h.1).trans h1, bs_below h2 hb⟩⟩
def catP (ps : List (List Int)) (k : Nat) : List Int := (ps.take k).flatten
theorem catP_succ (ps : List (List Int)) (k : Nat) (hk : k < ps.length) : catP ps (k + 1) = catP ps k ++ ps[k] := by
  rw [catP, catP, List.take_add_one, List.getElem?_eq_getElem hk, Option.toList_some, List.flatten_append]
  simp
theorem catP_le (ps : List (List Int)) (k : Nat) : (catP ps k).length ≤ ps.flatten.length := by
  have h : ps.flatten = catP ps k ++ (ps.drop k).flatten := by rw [catP, ← List.flatten_append, List.take_append_drop]
  rw [h, List.length_append]
  omega
set_option maxRecDepth 100000 in
set_option maxHeartbeats 1000000 in
theorem concat_all (g c : Nat) (ps : List (List Int)) (w : World) (hg : Parts w g ps) (hn : ps.length ≤ 100) (ht : ps.flatten.length ≤ 40000) :
    Calls Tryz.prog 75 #[.slice (some ⟨g, 0, none⟩) ps.length c] w (OwnB w ps.flatten) := by
  have HG := hidH hg
  have HT := hidH ht
  have HLE := hidH (catP_le ps)
  have HS := hidH (catP_succ ps)
  have HZ := hidH (show catP ps ps.length = ps.flatten by rw [catP, List.take_length])
  have hnI : (ps.length : Int) ≤ 100 := by omega
  clear hg ht
  go_enter Tryz.func75, Tryz.ntmps75
  go_wp2
  go_loopw [3, 11] (fun s i wr => ∃ k : Nat, k ≤ ps.length ∧ i = .int .i64 k ∧ s = .int .i64 ((catP ps k).length : Nat) ∧ w = wr) (fun _ i _ => ps.length - (intOf i).toNat)
  case atStart => exact ⟨0, by omega, rfl, rfl, rfl⟩
  case round =>
    obtain ⟨k, hk, rfl, rfl, rfl⟩ := hrel
    by_cases hlt : k < ps.length
    · obtain ⟨A, cA, e1, _⟩ := HG.out.2 k hlt
      have hk0 : (0 : Int) ≤ (k : Int) := by omega
      have hk1 : (k : Int) < (ps.length : Int) := by omega
      have h1 := HLE.out k
      have h2 := HLE.out (k + 1)
      have h3 := HS.out k hlt
      have h4 : (catP ps (k + 1)).length = (catP ps k).length + ps[k].length := by rw [h3, List.length_append]
      have h5 : ((catP ps k).length : Int) ≤ 40000 := by have := HT.out; omega
      have h6 : (ps[k].length : Int) ≤ 40000 := by have := HT.out; omega
      obtain ⟨x, hx⟩ : ∃ x, (catP ps k).length = x := ⟨_, rfl⟩
      obtain ⟨y, hy⟩ : ∃ y, ps[k].length = y := ⟨_, rfl⟩
      rw [hx] at h5 h4
      rw [hy] at h6 h4 e1
      rw [hx]
      have H4 := hidH h4
      clear h1 h2 h3 h4 hx hy
      go_wp2
      go_round
      case rel => exact ⟨k + 1, by omega, by go_num, by rw [H4.out]; go_num, trivial⟩
      case measure => simp [intOf]; omega
    · obtain rfl : k = ps.length := by omega
      have hgr := grow_any ps.flatten.length w (by have := HT.out; omega)
      rw [HZ.out]
      have HGR := hidH hgr
      obtain ⟨x, hx⟩ : ∃ x, ps.flatten.length = x := ⟨_, rfl⟩
      rw [hx] at HGR ⊢
      clear hgr hlt hk hx
      go_wp2_with fail
      refine HGR.out.mono ?_
      rintro e w1 ⟨v, rfl, o1, b1⟩
      have O1 := hidH o1
      have B1 := hidH b1
      clear o1 b1 HGR
      go_wp2
      go_loopw [6, 27] (fun v i wr => ∃ k : Nat, k ≤ ps.length ∧ i = .int .i64 k ∧ wr.ownsRow w.heap.size 5 1 v (catP ps k).length ((catP ps k).map (Value.int .u8)) ∧ Below w.heap.size w wr) (fun _ i _ => ps.length - (intOf i).toNat)
      case atStart => exact ⟨0, by omega, rfl, O1.out, B1.out⟩
      case round =>
        obtain ⟨k, hk, rfl, ho, hbw⟩ := hrel
        by_cases hlt : k < ps.length
        · obtain ⟨A, cA, e1, s1⟩ := (HG.out.below hbw).2 k hlt
          have hk0 : (0 : Int) ≤ (k : Int) := by omega
          have hk1 : (k : Int) < (ps.length : Int) := by omega
          have hsz := hbw.size
          have HLN := hidH (show (catP ps k).length + ps[k].length ≤ 4000000 by
            have h2 := HLE.out (k + 1)
            have h3 := HS.out k hlt
            have := HT.out
            rw [h3, List.length_append] at h2
            omega)
          have HS1 := hidH s1
          have HO := hidH ho
          have HW := hidH hbw
          clear ho hbw s1
          go_wp2_with (at_builtin; refine wpList_append_bs rfl _ _ rfl w.heap.size _ _ _ rfl HO.out A ps[k] cA rfl HS1.out HLN.out hsz ?_)
          intro v' w2 o2 g2
          have B2 := hidH (HW.out.grown g2 hsz (fun k hk => (HO.out.lt k hk).1))
          have O2 := hidH (show w2.ownsRow w.heap.size 5 1 v' (catP ps (k + 1)).length ((catP ps (k + 1)).map (Value.int .u8)) from by rw [HS.out k hlt]; simpa using o2)
          clear o2 g2 HO HW HS1 e1 HLN
          go_wp2
          go_roundw
          case rel => exact ⟨k + 1, by omega, by go_num, O2.out, B2.out⟩
          case measure => simp [intOf]; omega
        · obtain rfl : k = ps.length := by omega
          rw [HZ.out] at ho
          have HO := hidH ho
          have HW := hidH hbw
          clear ho hbw hlt hk
          go_wp2
          go_ret
          exact ⟨_, rfl, HO.out, HW.out⟩
end Go.Proofs.YtncnibkojneejaaGreatDoor
