import Derived.Test.YtjjileefdjjijaaDoorMa1
import Derived.Test.YtjjileefdjjijaaDoorMa7
import Derived.Test.YtjjileefdjjijaaDoorMb5
import Derived.Defers
import Derived.Recover
import Derived.Tactics2
import Derived.Handy

/- The program's sameChunk (chapter 5's words), unreadCode. -/
namespace Go.Proofs.YtjjileefdjjijaaDoor
open Go.RowKit Go.Deep

theorem chkM_eq {x y : ChunkM} : x = y ↔ x.Kind = y.Kind ∧ x.Flags = y.Flags ∧ x.Body = y.Body := by
  cases x; cases y; simp
set_option maxHeartbeats 1000000 in
theorem sameC_any (x y : ChunkM) (A B : Option Addr) (ca cb : Nat) (w : World) (hA : Bs w A x.Body) (hB : Bs w B y.Body) (bx : Bytes x.Body) (by_ : Bytes y.Body) :
    Calls Tryd.prog 114 #[ckV x.Kind x.Flags A x.Body.length ca, ckV y.Kind y.Flags B y.Body.length cb] w fun e w' => ∃ r : Bool, e = .returned (.bool r) ∧ (r = true ↔ x = y) ∧ Below w.heap.size w w' := by
  have B2 := bal (bal (Below.refl w.heap.size w) (.cells #[.int .i64 x.Kind, .int .i64 x.Flags, .slice A x.Body.length ca] 28)) (.cells #[.int .i64 y.Kind, .int .i64 y.Flags, .slice B y.Body.length cb] 28)
  have HE := hidH (fun u h1 h2 => bEqual_any A B x.Body y.Body ca cb u h1 h2 bx by_)
  have HB := hidH B2
  have HA1 := hidH (bs_below hA B2)
  have HB1 := hidH (bs_below hB B2)
  unfold ckV
  clear hA hB bx by_ B2
  by_cases e1 : x.Kind = y.Kind
  · have f1 : (x.Kind == y.Kind) = true := by rw [beq_iff_eq]; exact e1
    by_cases e2 : x.Flags = y.Flags
    · have f2 : (x.Flags == y.Flags) = true := by rw [beq_iff_eq]; exact e2
      have HX := hidH (fun (h : x.Body = y.Body) => chkM_eq.2 ⟨e1, e2, h⟩)
      have HY := hidH (fun (h : x = y) => (chkM_eq.1 h).2.2)
      clear e1 e2
      go_enter Tryd.func114, Tryd.ntmps114
      go_wp2_with fail
      refine (HE.out _ HA1.out HB1.out).mono ?_
      rintro e w3 ⟨rfl, rfl⟩
      clear HE
      obtain ⟨d, hd⟩ : ∃ d : Bool, decide (x.Body = y.Body) = d := ⟨_, rfl⟩
      rw [hd]
      have HD := hidH hd
      clear hd
      go_wp2
      go_ret
      refine ⟨d, by cases d <;> rfl, ⟨fun h => HX.out (by have := HD.out; rw [h] at this; exact of_decide_eq_true this), fun h => by rw [← HD.out]; exact decide_eq_true (HY.out h)⟩, HB.out⟩
    · have f2 : (x.Flags == y.Flags) = false := by rw [beq_eq_false_iff_ne]; exact e2
      have HX := hidH (show ¬ x = y from fun h => e2 (chkM_eq.1 h).2.1)
      clear e1 e2
      go_enter Tryd.func114, Tryd.ntmps114
      go_wp2
      go_ret
      exact ⟨false, rfl, ⟨(fun h => by cases h), fun h => absurd h HX.out⟩, HB.out⟩
  · have f1 : (x.Kind == y.Kind) = false := by rw [beq_eq_false_iff_ne]; exact e1
    have HX := hidH (show ¬ x = y from fun h => e1 (chkM_eq.1 h).1)
    clear e1
    go_enter Tryd.func114, Tryd.ntmps114
    go_wp2
    go_ret
    exact ⟨false, rfl, ⟨(fun h => by cases h), fun h => absurd h HX.out⟩, HB.out⟩
set_option maxHeartbeats 1000000 in
theorem unread_any (x : ChunkM) (A : Option Addr) (c : Nat) (w : World) (hm : (x.Body.length : Int) ≤ 9223372036854775807) :
    Calls Tryd.prog 71 #[.agg #[.int .i64 x.Kind, .int .i64 x.Flags, .slice A x.Body.length c]] w fun e w' => e = .returned (.int .i64 (rdOf x)) ∧ Below w.heap.size w w' := by
  have B1 := bal (Below.refl w.heap.size w) (.cells #[.int .i64 x.Kind, .int .i64 x.Flags, .slice A x.Body.length c] 28)
  have HF := hidH (fun u => chFault_impl x.Kind x.Flags A x.Body c u hm)
  unfold ckV at HF
  have HB := hidH B1
  clear B1 hm
  go_enter Tryd.func71, Tryd.ntmps71
  go_wp2_with fail
  refine (HF.out _).mono ?_
  rintro e w3 ⟨rfl, b3⟩
  have HB3 := hidH (btr HB.out b3)
  clear HF b3
  by_cases hz : chF x.Kind x.Flags x.Body = 0
  · have HR := hidH (show rdOf x = 5 by rw [rdOf, if_pos hz])
    rw [hz]
    clear hz
    go_wp2
    go_ret
    exact ⟨ret_int HR.out.symm, HB3.out⟩
  · have HR := hidH (show rdOf x = chF x.Kind x.Flags x.Body by rw [rdOf, if_neg hz])
    obtain ⟨F, hF⟩ : ∃ F, chF x.Kind x.Flags x.Body = F := ⟨_, rfl⟩
    rw [hF] at hz HR ⊢
    have hne : (F != 0) = true := by rw [bne_iff_ne]; exact hz
    clear hz hF
    go_wp2
    go_ret
    exact ⟨ret_int HR.out.symm, HB3.out⟩
end Go.Proofs.YtjjileefdjjijaaDoor

/- The program's contentOf. -/
namespace Go.Proofs.YtjjileefdjjijaaDoor
open Go.RowKit Go.Deep

theorem OwA.pre {w : World} : ∀ {xs ys : List V} {S : Fp} {vs us : List Value}, vs.length = xs.length → OwA w (xs ++ ys) S (vs ++ us) → OwA w xs S vs
  | [], _, _, [], _, _, _ => by unfold OwA; trivial
  | x :: xs, ys, S, v :: vs, us, hl, h => by
    rw [List.cons_append, List.cons_append] at h
    unfold OwA at h ⊢
    obtain ⟨S1, S2, a, b, c, d, e⟩ := h
    exact ⟨S1, S2, a, OwA.pre (by simpa using hl) b, c, d, e⟩
theorem own_init5 {B C : Nat} {w : World} {y : InitM} {k : Int} {a b c d e f : Value} (h : OwN B C w (y.vs ++ [.int k]) [a, b, c, d, e, f]) : OwN B C w y.vs [a, b, c, d, e] :=
  ⟨h.1, OwA.pre (xs := y.vs) (ys := [.int k]) (vs := [a, b, c, d, e]) (us := [f]) rfl h.2⟩
set_option maxHeartbeats 1000000 in
theorem co_panicking (R : Nat) (a : Value) (ty : TypeId) (pv : Value) (older : List PanicEntry) (w : World) (hK : Blk w R 113 #[a]) :
    CallsD Tryd.prog 112 #[.pointer (some ⟨R, 0, none⟩)] (.panicking ({ v := .iface ty pv, recovered := false } :: older)) w fun e u' w' =>
      e = .returned (.tuple #[]) ∧ u' = .panicking ({ v := .iface ty pv, recovered := true } :: older) ∧ w' = w.setCell ⟨R, 0, none⟩ .nilIface := by
  have y0 := hK.cell 0
  have f0 := hK.frozen 0
  simp only [List.getElem?_toArray, List.getElem?_cons_zero] at y0
  refine callsD_of_wpS Tryd.func112 rfl fun c₀ cs hu => ?_
  apply wpS_seq
  apply wpS_region
  simp [wpOpsS, go_sem, recoverD, hu, Tryd.ntmps112, Exit.thenS]
  refine wpS_cond (t := true) (by simp [Act.eval, Array.replicate]) ?_
  simp only [if_true]
  apply wpS_region
  simp [wpOpsS, go_sem, y0, f0, bodyPostS, results, Tryd.results112]
set_option maxHeartbeats 1000000 in
theorem co_idle (p : Addr) (w : World) :
    CallsD Tryd.prog 112 #[.pointer (some p)] .returning w fun e u' w' => e = .returned (.tuple #[]) ∧ u' = .returning ∧ w' = w := by
  refine callsD_of_wpS Tryd.func112 rfl fun c₀ cs hu => ?_
  apply wpS_seq
  apply wpS_region
  simp [wpOpsS, go_sem, recoverD, hu, Tryd.ntmps112, Exit.thenS]
  refine wpS_cond (t := false) (by simp [Act.eval, Array.replicate]) ?_
  simp only [Bool.false_eq_true, if_false]
  refine wpS_of_wp (wp_skip ?_)
  cases c₀
  simp_all [bodyPostS, results, Tryd.results112]
/-- What contentOf leaves. -/
def CoRes (x : ChunkM) (w : World) (e : Ending) (w' : World) : Prop := ∃ v, e = .returned v ∧ CtIs w' w.heap.size w'.heap.size (ctM x) v ∧ Below w.heap.size w w'
theorem CtIs.below {y : Ct} {v : Value} {B C : Nat} {w w' : World} (h : CtIs w B C y v) (hb : Below w.heap.size w w') : CtIs w' B C y v := by
  match y, h with
  | .no, h => exact h
  | .data y, ⟨vs, e, h⟩ => exact ⟨vs, e, h.below hb⟩
  | .sack y, ⟨vs, e, h⟩ => exact ⟨vs, e, h.below hb⟩
  | .init k y, ⟨vs, e, h⟩ => exact ⟨vs, e, h.below hb⟩
  | .ask y, ⟨vs, e, h⟩ => exact ⟨vs, e, h.below hb⟩
  | .ans y, ⟨vs, e, h⟩ => exact ⟨vs, e, h.below hb⟩
theorem CtIs.win {y : Ct} {v : Value} {B C B' C' : Nat} {w w' : World} (h : CtIs w B C y v) (hb : Win B' C' w w') (ho : C ≤ B' ∨ C' ≤ B) : CtIs w' B C y v := by
  match y, h with
  | .no, h => exact h
  | .data y, ⟨vs, e, h⟩ => exact ⟨vs, e, h.win hb ho⟩
  | .sack y, ⟨vs, e, h⟩ => exact ⟨vs, e, h.win hb ho⟩
  | .init k y, ⟨vs, e, h⟩ => exact ⟨vs, e, h.win hb ho⟩
  | .ask y, ⟨vs, e, h⟩ => exact ⟨vs, e, h.win hb ho⟩
  | .ans y, ⟨vs, e, h⟩ => exact ⟨vs, e, h.win hb ho⟩
theorem CtIs.mono {y : Ct} {v : Value} {B C B' C' : Nat} {w : World} (h : CtIs w B C y v) (hB : B' ≤ B) (hC : C ≤ C') (hw : C' ≤ w.heap.size) : CtIs w B' C' y v := by
  match y, h with
  | .no, h => exact h
  | .data y, ⟨vs, e, h⟩ => exact ⟨vs, e, h.mono hB hC hw⟩
  | .sack y, ⟨vs, e, h⟩ => exact ⟨vs, e, h.mono hB hC hw⟩
  | .init k y, ⟨vs, e, h⟩ => exact ⟨vs, e, h.mono hB hC hw⟩
  | .ask y, ⟨vs, e, h⟩ => exact ⟨vs, e, h.mono hB hC hw⟩
  | .ans y, ⟨vs, e, h⟩ => exact ⟨vs, e, h.mono hB hC hw⟩
theorem ct_iface {y : Ct} {v : Value} {B C : Nat} {w : World} (h : CtIs w B C y v) (hn : y ≠ .no) : ∃ T u, v = .iface T u := by
  match y, h with
  | .no, _ => exact absurd rfl hn
  | .data y, ⟨vs, e, _⟩ => exact ⟨_, _, e⟩
  | .sack y, ⟨vs, e, _⟩ => exact ⟨_, _, e⟩
  | .init k y, ⟨vs, e, _⟩ => exact ⟨_, _, e⟩
  | .ask y, ⟨vs, e, _⟩ => exact ⟨_, _, e⟩
  | .ans y, ⟨vs, e, _⟩ => exact ⟨_, _, e⟩
theorem isM_fields (x : ChunkM) (z : ChunkResultM) : isM x z = true ↔ z.Code = 0 ∧ (⟨z.Chunk_Kind, z.Chunk_Flags, z.Chunk_Body⟩ : ChunkM) = x := by
  cases x; cases z
  simp only [isM, Bool.and_eq_true, beq_iff_eq, ChunkM.mk.injEq]
  constructor
  · rintro ⟨⟨⟨a, rfl⟩, rfl⟩, rfl⟩; exact ⟨a, rfl, rfl, rfl⟩
  · rintro ⟨a, rfl, rfl, rfl⟩; exact ⟨⟨⟨a, rfl⟩, rfl⟩, rfl⟩
set_option maxRecDepth 100000 in
set_option maxHeartbeats 8000000 in
theorem contentOf_any (x : ChunkM) (A : Option Addr) (c : Nat) (w : World) (ty : TypeId) (pv : Value) (hA : Bs w A x.Body) (hb : Bytes x.Body) (hm : x.Body.length ≤ 4000000) (hc : x.Body.length ≤ c) (hcm : (c : Int) ≤ 9223372036854775807) (hE : w.cell? ⟨0, 0, none⟩ = some (.iface ty pv)) :
    Calls Tryd.prog 70 #[.agg #[.int .i64 x.Kind, .int .i64 x.Flags, .slice A x.Body.length c]] w (CoRes x w) := by
  have hmf : ∀ (fn : Fn) (first cap : Array Value) (w : World), (Instr.makeFunc fn first cap).run Tryd.prog w = .ok (.func fn first cap) w := fun _ _ _ _ => rfl
  have hpos : 0 < w.heap.size := World.block_lt_of_cell? _ _ hE
  have K1 := ((Blk.new w 28 #[.int .i64 x.Kind, .int .i64 x.Flags, .slice A x.Body.length c]).alloc (.cells #[.nilIface] 113)).alloc (.cells #[.slice A x.Body.length c] 159)
  have K2 := (Blk.new (w.alloc (.cells #[.int .i64 x.Kind, .int .i64 x.Flags, .slice A x.Body.length c] 28)) 113 #[.nilIface]).alloc (.cells #[.slice A x.Body.length c] 159)
  have K3 := Blk.new ((w.alloc (.cells #[.int .i64 x.Kind, .int .i64 x.Flags, .slice A x.Body.length c] 28)).alloc (.cells #[.nilIface] 113)) 159 #[.slice A x.Body.length c]
  have B3 := bal (bal (bal (Below.refl w.heap.size w) (.cells #[.int .i64 x.Kind, .int .i64 x.Flags, .slice A x.Body.length c] 28)) (.cells #[.nilIface] 113)) (.cells #[.slice A x.Body.length c] 159)
  simp only [World.size_alloc] at K1 K2 K3
  obtain ⟨w3, hw3⟩ : ∃ w3, ((w.alloc (.cells #[.int .i64 x.Kind, .int .i64 x.Flags, .slice A x.Body.length c] 28)).alloc (.cells #[.nilIface] 113)).alloc (.cells #[.slice A x.Body.length c] 159) = w3 := ⟨_, rfl⟩
  have hs3 : w3.heap.size = w.heap.size + 1 + 1 + 1 := by rw [← hw3]; simp
  rw [hw3] at K1 K2 K3 B3
  have A3 := bs_below hA B3
  have E3 := (B3.cell (p := ⟨0, 0, none⟩) hpos).trans hE
  have HRE : RE w3 (w.heap.size + 1 + 1) ty pv x.Body ∨ (x.Body = [] ∧ R0 w3 (w.heap.size + 1 + 1) ty pv) := by
    by_cases hn : x.Body = []
    · refine .inr ⟨hn, ⟨⟨A, c, ?_⟩, E3, by omega⟩⟩
      rw [hn] at K3
      exact K3
    · refine .inl ⟨⟨A, c, K3, A3, hc, hcm, fun a ha => ?_⟩, E3, by omega, hb⟩
      rcases hA with hA | ⟨b, off, e, hbb, _⟩
      · exact absurd hA hn
      · rw [e] at ha; cases ha; show b < _; omega
  have HC := hidH (content_any (w.heap.size + 1 + 1) x w3 ty pv HRE hm)
  have HW3 := hidH hw3
  have HX := hidH (And.intro K1 (And.intro K2 (And.intro B3 (And.intro A3 hb))))
  have HS := hidH hs3
  have hA0 := hidH hA
  have HE0 := hidH hE
  clear K1 K2 K3 B3 A3 E3 HRE hw3 hs3 hA hb hm hc hcm hE
  go_enter_defers Tryd.func70, Tryd.ntmps70
  go_wp2_with fail
  rw [HW3.out]
  refine HC.out.mono ?_
  rintro e w4 ⟨hw, hcase⟩
  have K4 := HX.out.2.1.win2 hw (.inl (Nat.lt_succ_self _))
  have K4c := HX.out.1.win2 hw (.inl (by omega))
  have B4 := HX.out.2.2.1.trans ((hw.below (B := w.heap.size + 1 + 1) (by have := HS.out; omega)).mono (Nat.le_trans (Nat.le_succ _) (Nat.le_succ _)))
  have A4 := bs_below hA0.out B4
  rcases hcase with ⟨hno, rfl⟩ | ⟨y, v, hy, rfl, hv⟩
  · have HR := hidH (And.intro (rw_none hno) (And.intro K4 B4))
    unfold PanE
    clear HC HX hno K4 K4c B4 A4 hw HW3 hA0
    go_wp2
    refine leaves_cons (f := 112) (args := #[.pointer (some ⟨w.heap.size + 1, 0, none⟩)]) (by simp) (by simp [go_sem]) ?_
    refine (co_panicking (w.heap.size + 1) _ ty pv [] w4 HR.out.2.1).mono ?_
    rintro e u' w'' ⟨rfl, rfl, rfl⟩
    obtain y0 := HR.out.2.1.cell 0
    have hlt := HR.out.2.1.lt
    simp only [List.getElem?_toArray, List.getElem?_cons_zero] at y0
    exact ⟨.nilIface, by simp [results, Tryd.results70, go_sem, y0], ⟨.nilIface, rfl, by rw [HR.out.1]; exact rfl, bst HR.out.2.2 (Nat.le_succ _) _⟩⟩
  · obtain ⟨hyn, hy1, hy2, hyb⟩ := rw_some HX.out.2.2.2.2 hy
    obtain ⟨T0, u0, rfl⟩ := ct_iface hv hyn
    have HP := pcA_any y (.iface T0 u0) _ _ w4 hv hyn
    have hv' : CtIs w4 w3.heap.size w4.heap.size y (.iface T0 u0) := hv
    obtain ⟨z, hz⟩ : ∃ z, ctPk y = z := ⟨_, rfl⟩
    rw [hz] at hy1 hy2 hyb HP
    replace HP := hidH HP
    have HY := hidH (And.intro hy1 (And.intro hy2 hyb))
    have HZ := hidH (And.intro K4 (And.intro K4c (And.intro B4 (And.intro A4 hv'))))
    have HX2 := hidH HX.out.2.2.2.2
    clear HC hyn hy1 hy2 hyb hv hv' K4 K4c B4 A4 hw HW3 hz hy
    go_wp2_with fail
    refine HP.out.mono ?_
    rintro e w5 ⟨rs, rfl, ho, b5⟩
    obtain ⟨A9, c9, rfl⟩ := shape_ChunkResult ho.rd
    have hrz := ho.rd
    have hbz : Bs w5 A9 z.Chunk_Body := by
      have h4 := hrz.tl.tl.tl.hd
      unfold Rd at h4
      obtain ⟨A', c', e, _, hb'⟩ := h4
      cases e
      exact hb'
    cases z with
    | mk cd kd fl L =>
    simp only at hbz
    obtain ⟨n9, hn9⟩ : ∃ n, L.length = n := ⟨_, rfl⟩
    have B6 := bal (Below.refl w5.heap.size w5) (.cells #[.int .i64 cd, .int .i64 kd, .int .i64 fl, .slice A9 n9 c9] 30)
    have K6 := Blk.new w5 30 #[.int .i64 cd, .int .i64 kd, .int .i64 fl, .slice A9 n9 c9]
    obtain ⟨w6, hw6⟩ : ∃ w6, w5.alloc (.cells #[.int .i64 cd, .int .i64 kd, .int .i64 fl, .slice A9 n9 c9] 30) = w6 := ⟨_, rfl⟩
    rw [hw6] at B6 K6
    have b46 := btr b5 B6
    have Kf := HZ.out.1.below b46
    have Kc := HZ.out.2.1.below b46
    have HB6 := hidH (btr HZ.out.2.2.1 b46)
    have HV6 := hidH (HZ.out.2.2.2.2.below b46)
    have HA6 := hidH (bs_below HZ.out.2.2.2.1 b46)
    have HL6 := hidH (bs_below hbz B6)
    have x0 := K6.cell 0
    have x1 := K6.cell 1
    have x2 := K6.cell 2
    have x3 := K6.cell 3
    have k0 := Kc.cell 0
    have k1 := Kc.cell 1
    have k2 := Kc.cell 2
    simp only [List.getElem?_toArray, List.getElem?_cons_succ, List.getElem?_cons_zero] at x0 x1 x2 x3 k0 k1 k2
    have HKf := hidH Kf
    have HS6 := hidH (And.intro b46.size (And.intro HS.out HZ.out.2.2.1.size))
    have HN := hidH hn9
    clear HP HX HZ ho hrz hbz b5 B6 K6 b46 Kf Kc
    simp only [hn9]
    clear hn9
    by_cases hcd : cd = 0
    · have q : (cd != 0) = false := by rw [bne_eq_false_iff_eq]; exact hcd
      have HCD := hidH hcd
      have HSC := hidH (sameC_any ⟨kd, fl, L⟩ x A9 A c9 c w6 HL6.out HA6.out HY.out.2.2 HX2.out)
      unfold ckV at HSC
      simp only [HN.out] at HSC
      clear hcd
      go_wp2_with fail
      refine HSC.out.mono ?_
      rintro e w7 ⟨r, rfl, hr, b7⟩
      have HR := hidH hr
      have HB7 := hidH (btr HB6.out b7)
      have HV7 := hidH (HV6.out.below b7)
      have Kf7 := HKf.out.below b7
      have y0 := Kf7.cell 0
      have f0 := Kf7.frozen 0
      have hl7 := Kf7.lt
      simp only [List.getElem?_toArray, List.getElem?_cons_zero] at y0
      have HKf7 := hidH Kf7
      have HS7 := hidH b7.size
      clear hr b7 HSC HB6 HV6 Kf7 x0 x1 x2 x3 k0 k1 k2 hw6 HKf HA6 HL6
      have E7 := (HB7.out.cell (p := ⟨0, 0, none⟩) hpos).trans HE0.out
      cases r
      · have HNO := hidH (show ctM x = .no from HY.out.2.1 (by
          cases hm : isM x ⟨cd, kd, fl, L⟩
          · rfl
          · exact absurd (HR.out.2 ((isM_fields _ _).1 hm).2) (by simp)))
        go_wp2
        refine leaves_cons (f := 112) (args := #[.pointer (some ⟨w.heap.size + 1, 0, none⟩)]) (by simp) (by simp [go_sem]) ?_
        refine (co_panicking (w.heap.size + 1) _ ty pv [] w7 HKf7.out).mono ?_
        rintro e u' w'' ⟨rfl, rfl, rfl⟩
        exact ⟨.nilIface, by simp [results, Tryd.results70, go_sem, y0], ⟨.nilIface, rfl, by rw [HNO.out]; exact rfl, bst HB7.out (Nat.le_succ _) _⟩⟩
      · have HYES := hidH (show ctM x = y from HY.out.1 ((isM_fields _ _).2 ⟨HCD.out, HR.out.1 rfl⟩))
        go_wp2
        refine leaves_cons (f := 112) (args := #[.pointer (some ⟨w.heap.size + 1, 0, none⟩)]) (by simp) (by simp [go_sem]) ?_
        refine (co_idle ⟨w.heap.size + 1, 0, none⟩ _).mono ?_
        rintro e u' w'' ⟨rfl, rfl, rfl⟩
        have hv9 := (HV7.out.win (win_set _ (w.heap.size + 1) 0 (.iface T0 u0)) (.inr (by have := HS.out; omega))).mono (B' := w.heap.size) (C' := (w7.setCell ⟨w.heap.size + 1, 0, none⟩ (.iface T0 u0)).heap.size) (by have := HS.out; omega) (by have := HS6.out; have := HS7.out; simp [World.setCell]; omega) (Nat.le_refl _)
        exact ⟨.iface T0 u0, by simp [results, Tryd.results70, go_sem, y0], ⟨.iface T0 u0, rfl, by rw [HYES.out]; exact hv9, bst HB7.out (Nat.le_succ _) _⟩⟩
    · have q : (cd != 0) = true := by rw [bne_iff_ne]; exact hcd
      have HNO := hidH (show ctM x = .no from HY.out.2.1 (by
        cases hm : isM x ⟨cd, kd, fl, L⟩
        · rfl
        · exact absurd ((isM_fields _ _).1 hm).1 hcd))
      have E6 := (HB6.out.cell (p := ⟨0, 0, none⟩) hpos).trans HE0.out
      have y0 := HKf.out.cell 0
      have hl6 := HKf.out.lt
      simp only [List.getElem?_toArray, List.getElem?_cons_zero] at y0
      clear hcd
      go_wp2
      refine leaves_cons (f := 112) (args := #[.pointer (some ⟨w.heap.size + 1, 0, none⟩)]) (by simp) (by simp [go_sem]) ?_
      refine (co_panicking (w.heap.size + 1) _ ty pv [] w6 HKf.out).mono ?_
      rintro e u' w'' ⟨rfl, rfl, rfl⟩
      exact ⟨.nilIface, by simp [results, Tryd.results70, go_sem, y0], ⟨.nilIface, rfl, by rw [HNO.out]; exact rfl, bst HB6.out (Nat.le_succ _) _⟩⟩
end Go.Proofs.YtjjileefdjjijaaDoor
