/- Chapter 10: the program's isDue, send, the closure of EmitDatas, queue.first. -/
import Derived.Test.YthljdikcpdokdaaS10ER
import Derived.Test.YthljdikcpdokdaaS10E
import Derived.Test.YthljdikcpdokdaaNb2
namespace Go.Proofs.Ythljdikcpdokdaa
open Go.RowKit Go.Deep

set_option maxHeartbeats 1000000 in
theorem isDue_any (x : SendItemM) (gi o : Nat) (now : Int) (w : World) (_ : gi < w.heap.size) (_ : w.cell? ⟨gi, o, none⟩ = some (.int .i64 x.Data_Tsn)) (c7 : w.cell? ⟨gi, o + 7, none⟩ = some (.int .i64 x.Sent)) (c8 : w.cell? ⟨gi, o + 8, none⟩ = some (.int .i64 x.Due)) :
    Calls Try.prog 100 #[.pointer (some ⟨gi, o, none⟩), .int .i64 now] w (BolR (decide (x.Sent = 0) || decide (x.Due ≤ now)) w) := by
  by_cases h : x.Sent = 0
  · have h0 : (x.Sent == 0) = true := by rw [beq_iff_eq]; exact h
    have e : (decide (x.Sent = 0) || decide (x.Due ≤ now)) = true := by simp [h]
    rw [e]
    obtain ⟨z, hz⟩ : ∃ z, x.Sent = z := ⟨_, rfl⟩
    rw [hz] at h0 c7
    clear e h hz
    go_enter Try.func100, Try.ntmps100
    go_wp2
    go_ret
    exact ⟨rfl, Below.refl _ _⟩
  · have h0 : (x.Sent == 0) = false := by rw [beq_eq_false_iff_ne]; exact h
    have e : (decide (x.Sent = 0) || decide (x.Due ≤ now)) = decide (x.Due ≤ now) := by simp [h]
    rw [e]
    clear e h
    go_enter Try.func100, Try.ntmps100
    go_wp2
    go_ret
    exact ⟨rfl, Below.refl _ _⟩
set_option maxHeartbeats 1000000 in
theorem send_any (x : SendItemM) (gi o : Nat) (now rto sn du : Int) (w : World) (_ : gi < w.heap.size) (_ : w.cell? ⟨gi, o, none⟩ = some (.int .i64 x.Data_Tsn)) (c7 : w.cell? ⟨gi, o + 7, none⟩ = some (.int .i64 x.Sent)) (c8 : w.cell? ⟨gi, o + 8, none⟩ = some (.int .i64 x.Due))
    (f7 : w.frozen? ⟨gi, o + 7, none⟩ = false) (f8 : w.frozen? ⟨gi, o + 8, none⟩ = false) (s1 : 0 ≤ x.Sent) (s2 : x.Sent ≤ 99) (n1 : 0 ≤ now) (n2 : now ≤ 1000000000) (r1 : 1 ≤ rto) (r2 : rto ≤ 1000000) (hsn : min (x.Sent + 1) 99 = sn) (hdu : min (now + rto) 1000000000 = du) :
    Calls Try.prog 101 #[.pointer (some ⟨gi, o, none⟩), .int .i64 now, .int .i64 rto] w fun e w' => e = .returned (.tuple #[]) ∧ w' = (w.setCell ⟨gi, o + 7, none⟩ (.int .i64 sn)).setCell ⟨gi, o + 8, none⟩ (.int .i64 du) := by
  go_enter Try.func101, Try.ntmps101
  go_wp2
  all_goals refine bodyPost_end (v := .tuple #[]) (by simp [results, Try.results101, go_sem]) rfl (And.intro rfl ?_)
  all_goals ((first | rw [show sn = 99 by omega] | rw [show sn = x.Sent + 1 by omega]); (first | rw [show du = 1000000000 by omega] | rw [show du = now + rto by omega]))
set_option maxRecDepth 100000 in
set_option maxHeartbeats 2000000 in
theorem ed1_any (y : SendM) (x : SendItemM) (now : Int) (gi oi go gp : Nat) (A2 A3 : Option Addr) (c2 c3 : Nat) (w : World) (hil : gi < w.heap.size) (h0 : w.cell? ⟨gi, oi, none⟩ = some (.int .i64 x.Data_Tsn)) (h7 : w.cell? ⟨gi, oi + 7, none⟩ = some (.int .i64 x.Sent)) (h8 : w.cell? ⟨gi, oi + 8, none⟩ = some (.int .i64 x.Due))
    (HSB : Blk w go 47 #[.int .i64 y.Next, .int .i64 y.Acked, .slice A2 y.Seqs.length c2, .slice A3 y.Items.length c3]) (HPB : Blk w gp 2 #[.int .i64 now]) :
    Calls Try.prog 99 #[.pointer (some ⟨gi, oi, none⟩), .pointer (some ⟨go, 0, none⟩), .pointer (some ⟨gp, 0, none⟩)] w (BolR (dueB y.Acked now x) w) := by
  have HDU := fun (W : World) (hW : Below w.heap.size w W) => isDue_any x gi oi now W (Nat.lt_of_lt_of_le hil hW.size) ((hW.cell (p := ⟨gi, oi, none⟩) hil).trans h0) ((hW.cell (p := ⟨gi, oi + 7, none⟩) hil).trans h7) ((hW.cell (p := ⟨gi, oi + 8, none⟩) hil).trans h8)
  have HDI := fun (W : World) => dist10_impl y.Next y.Acked A2 A3 y.Seqs.length y.Items.length c2 c3 x.Data_Tsn W
  obtain ⟨p, hp⟩ : ∃ p, (decide (x.Sent = 0) || decide (x.Due ≤ now)) = p := ⟨_, rfl⟩
  rw [hp] at HDU
  have hdue : dueB y.Acked now x = (decide (gapV y.Acked x.Data_Tsn ≤ 16) && p) := by rw [← hp]; rfl
  rw [hdue]
  obtain ⟨gx, hgx⟩ : ∃ z, gapV y.Acked x.Data_Tsn = z := ⟨_, rfl⟩
  obtain ⟨ts, hts⟩ : ∃ z, x.Data_Tsn = z := ⟨_, rfl⟩
  rw [hgx] at HDI ⊢
  rw [hts] at h0 HDI
  have p0 := HPB.cell 0
  simp only [List.getElem?_toArray, List.getElem?_cons_zero] at p0
  have pl := HPB.lt
  obtain ⟨q, hq⟩ : ∃ q, decide (gx ≤ 16) = q := ⟨_, rfl⟩
  rw [hq]
  clear hp hdue hgx hts HPB h7 h8
  cases q
  · go_enter Try.func99, Try.ntmps99
    go_wp2_with fail
    refine wp_region_any (by kernel_rfl) ?_
    refine regED1n _ _ w gi oi go gp y A2 A3 c2 c3 ts gx now p hil pl h0 p0 HSB hq HDI HDU (by kernel_rfl) (by kernel_rfl) (by kernel_rfl) rfl (Below.refl _ _).drew ?_
    intros
    rename_i W hO
    have HO := hidH hO
    clear hO HDU HDI HSB
    go_wp2
    go_ret
    exact ⟨rfl, HO.out⟩
  · go_enter Try.func99, Try.ntmps99
    go_wp2_with fail
    refine wp_region_any (by kernel_rfl) ?_
    refine regED1y _ _ w gi oi go gp y A2 A3 c2 c3 ts gx now p hil pl h0 p0 HSB hq HDI HDU (by kernel_rfl) (by kernel_rfl) (by kernel_rfl) rfl (Below.refl _ _).drew ?_
    intros
    rename_i W hO
    have HO := hidH hO
    clear hO HDU HDI HSB
    go_wp2
    go_ret
    exact ⟨rfl, HO.out⟩
theorem infoPt : (Try.prog.info? 122).map (fun i => (i.zero, i.size, i.bytes)) = some (some (.pointer none), 1, 8) := by kernel_rfl
def ptI (gi : Nat) (l : List Nat) : List Value := l.map (fun i => .pointer (some ⟨gi, i * 9, none⟩))
theorem ptI_snoc (gi : Nat) (l : List Nat) (j : Nat) : ptI gi (l ++ [j]) = ptI gi l ++ [.pointer (some ⟨gi, j * 9, none⟩)] := by simp [ptI]
set_option maxRecDepth 100000 in
set_option maxHeartbeats 4000000 in
theorem first_any (P : SendItemM → Bool) (r : List SendItemM) (ks : List (Value × Nat × Nat)) (most : Int) (go gp B0 B : Nat) (I : Value) (w : World) (hI : SZ w B0 B I r ks) (hn : r.length ≤ 1000)
    (FT : ∀ (j : Nat) (hj : j < r.length) (gi : Nat) (v : Value) (W : World), Below w.heap.size w W → gi < W.heap.size → (∀ t u, (scs r[j] v)[t]? = some u → W.cell? ⟨gi, j * 9 + t, none⟩ = some u) → Calls Try.prog 99 #[.pointer (some ⟨gi, j * 9, none⟩), .pointer (some ⟨go, 0, none⟩), .pointer (some ⟨gp, 0, none⟩)] W (BolR (P r[j]) W)) :
    Calls Try.prog 98 #[I, .int .i64 most, .func (.func 99) #[] #[.pointer (some ⟨go, 0, none⟩), .pointer (some ⟨gp, 0, none⟩)]] w fun e w' =>
      ∃ (F : Value) (gi : Nat), e = .returned F ∧ (0 < r.length → ∃ c, I = .slice (some ⟨gi, 0, none⟩) r.length c) ∧ w'.ownsRow w.heap.size 122 1 F (fdS P most r r.length).length (ptI gi (fdS P most r r.length)) ∧ Below w.heap.size w w' := by
  obtain ⟨AI, cI, rfl⟩ := hI.shape
  obtain ⟨gi, hgi0⟩ : ∃ gi, (0 < r.length → AI = some ⟨gi, 0, none⟩) := by
    by_cases h : 0 < r.length
    · obtain ⟨g, c, _, _, _, e, _⟩ := hI.cell9 h
      injection e with e _ _
      exact ⟨g, fun _ => e⟩
    · exact ⟨0, fun q => absurd q h⟩
  have HGI := hidH hgi0
  have HI := hidH (fun (W : World) (hW : Below w.heap.size w W) => hI.below hW)
  have hnI : (r.length : Int) ≤ 1000 := by omega
  have HFT := hidH FT
  clear hI hgi0 FT
  go_enter Try.func98, Try.ntmps98
  go_wp2
  go_loopw [7, 11] (fun f i wr => ∃ (j : Nat), j ≤ r.length ∧ i = .int .i64 (j : Int) ∧ wr.ownsRow w.heap.size 122 1 f (fdS P most r j).length (ptI gi (fdS P most r j)) ∧ Below w.heap.size w wr) (fun _ i _ => r.length - (intOf i).toNat)
  case atStart => exact ⟨0, by omega, rfl, ⟨rfl, .inl ⟨rfl, rfl⟩⟩, Below.refl _ _⟩
  case round =>
    obtain ⟨j, hj, rfl, hF, hBr⟩ := hrel
    obtain ⟨W, hW⟩ : ∃ W, wr = W := ⟨_, rfl⟩
    rw [hW] at hF hBr ⊢
    clear hW
    obtain ⟨AF, cF, rfl⟩ := own_lenT hF
    obtain ⟨nf, hnf⟩ : ∃ n, (fdS P most r j).length = n := ⟨_, rfl⟩
    rw [hnf] at hF ⊢
    have HNF := hidH hnf
    have hnf2 : nf ≤ j := by rw [← hnf]; exact fdS_len
    have HF := hidH hF
    have HBR := hidH hBr
    clear hF hnf
    by_cases hlt : j < r.length
    case neg =>
      obtain rfl : j = r.length := by omega
      clear hBr
      go_wp2
      go_ret
      exact ⟨_, gi, rfl, fun h => ⟨cI, by rw [HGI.out h]⟩, by rw [HNF.out]; exact HF.out, HBR.out⟩
    have hj0 : (0 : Int) ≤ (j : Int) := by omega
    have hj1 : (j : Int) < (r.length : Int) := by omega
    have eA := HGI.out (by omega)
    subst eA
    obtain ⟨g2, c2, A9, n9, c9, eI, _, hgi, _, hcell⟩ := (HI.out W hBr).cell9 hlt
    injection eI with eI _ eC
    injection eI with eI
    injection eI with eI _
    subst eI
    have d0 := hcell 0 _ rfl
    have HC := hidH (HFT.out j hlt gi _ W hBr hgi hcell)
    obtain ⟨x, hx⟩ : ∃ x, r[j] = x := ⟨_, rfl⟩
    rw [hx] at HC d0
    have d0 : W.cell? ⟨gi, j * 9, none⟩ = some (.int .i64 x.Data_Tsn) := d0
    have HX := hidH hx
    clear hcell hx eC hBr
    by_cases hA : (nf : Int) < most
    case neg =>
      have dA : decide ((nf : Int) < most) = false := by simpa using hA
      have HNO := hidH (show ¬ (((fdS P most r j).length : Int) < most ∧ P r[j] = true) from fun h => by have := HNF.out; omega)
      clear hA
      go_wp2
      go_roundw
      case rel => exact ⟨j + 1, by omega, by go_num, by rw [fdS_no hlt HNO.out, HNF.out]; exact HF.out, HBR.out⟩
      case measure => simp [intOf]; omega
    have dA : decide ((nf : Int) < most) = true := by simpa using hA
    have HA := hidH hA
    obtain ⟨p, hp⟩ : ∃ p, P x = p := ⟨_, rfl⟩
    rw [hp] at HC
    have HP := hidH hp
    clear hA hp
    go_wp2_with fail
    refine HC.out.mono ?_
    rintro e wf ⟨rfl, bf⟩
    have HFF := hidH (own_below0 HF.out bf)
    have HBF := hidH (btr HBR.out bf)
    have e0 := (bf.cell (p := ⟨gi, j * 9, none⟩) hgi).trans d0
    have hgf := Nat.lt_of_lt_of_le hgi bf.size
    clear d0 hgi bf
    cases p
    · have HNO := hidH (show ¬ (((fdS P most r j).length : Int) < most ∧ P r[j] = true) from fun h => by have h2 := h.2; rw [HX.out, HP.out] at h2; cases h2)
      go_wp2
      go_roundw
      case rel => exact ⟨j + 1, by omega, by go_num, by rw [fdS_no hlt HNO.out, HNF.out]; exact HFF.out, HBF.out⟩
      case measure => simp [intOf]; omega
    · have HYES := hidH (show ((fdS P most r j).length : Int) < most ∧ P r[j] = true from ⟨by rw [HNF.out]; exact HA.out, by rw [HX.out]; exact HP.out⟩)
      have B1 := bal (Below.refl wf.heap.size wf) (.cells #[.pointer (some ⟨gi, j * 9, none⟩)] 122)
      have HK1 := hidH (Blk.new wf 122 #[.pointer (some ⟨gi, j * 9, none⟩)])
      have HF1 := hidH (own_below0 HFF.out B1)
      have HB1 := hidH (btr HBF.out B1)
      have HS1 := hidH (show w.heap.size ≤ _ from (btr HBF.out B1).size)
      clear B1
      go_wp2_with (at_builtin; go_loud (refine wpList_append_row rfl _ _ Try.underlying144 infoPt rfl (by decide) (by decide) rfl w.heap.size _ nf _ rfl HF1.out wf.heap.size 1 1 [.pointer (some ⟨gi, j * 9, none⟩)] rfl rfl (fun t u hu => by rw [HK1.out.cell, ← hu]; simp) (fun u hu => by simp at hu; subst hu; rfl) (by omega) HS1.out ?_))
      intro v2 w2 o2 hg _
      have HBB := hidH (HB1.out.grown hg HS1.out (fun kk hk => (own_block HF1.out hk).1))
      have HO2 := hidH o2
      clear o2 hg HK1 HF1 HB1 e0 hgf
      go_wp2
      go_roundw
      case rel =>
        refine ⟨j + 1, by omega, by go_num, ?_, HBB.out⟩
        rw [fdS_yes hlt HYES.out.1 HYES.out.2, List.length_append, ptI_snoc, HNF.out]
        exact HO2.out
      case measure => simp [intOf]; omega
end Go.Proofs.Ythljdikcpdokdaa
