import Derived.Test.YtepcikghhnfacaaDoorGrL
import Derived.Test.YtepcikghhnfacaaDoorDrawCh
import Derived.Test.YtepcikghhnfacaaDoorJa7
import Derived.Test.YtepcikghhnfacaaDoorJa5
import Derived.Test.YtepcikghhnfacaaDoorJa1
import Derived.Test.YtepcikghhnfacaaDoorJa2
import Derived.Lib.AppendZeros

/- A packet cell behind its list's own memory: stores in it, appends to the list; sources of draws kept. -/
namespace Go.Proofs.YtepcikghhnfacaaDoor
open Go.RowKit Go.Deep

theorem Src.lowB {B : Nat} {w w' : World} {r : Nat} {A : Option Addr} {l : List Int} {c at_ : Nat} (h : Src w r A l c at_) (hb : Below B w w') (hr : r < B) : Src w' r A l c at_ := by
  refine ⟨(hb.block r hr).trans h.blk, h.bytes, ?_, h.len⟩
  rcases h.row with h2 | ⟨b, off, e, s1, s2⟩
  · exact .inl h2
  · exact .inr ⟨b, off, e, s1, fun j hj => (hb.cell (p := ⟨b, off + j, none⟩) (by show b < _; omega)).trans (s2 j hj)⟩
/-- A source that has made at most n draws. -/
def SrcLe (w : World) (r : Nat) (A : Option Addr) (l : List Int) (c n : Nat) : Prop := ∃ a, Src w r A l c a ∧ a ≤ n
theorem SrcLe.below {w w' : World} {r : Nat} {A : Option Addr} {l : List Int} {c n : Nat} (h : SrcLe w r A l c n) (hb : Below w.heap.size w w') : SrcLe w' r A l c n := by
  obtain ⟨a, h1, h2⟩ := h
  exact ⟨a, h1.below hb, h2⟩
theorem SrcLe.lowB {B : Nat} {w w' : World} {r : Nat} {A : Option Addr} {l : List Int} {c n : Nat} (h : SrcLe w r A l c n) (hb : Below B w w') (hr : r < B) : SrcLe w' r A l c n := by
  obtain ⟨a, h1, h2⟩ := h
  exact ⟨a, h1.lowB hb hr, h2⟩
theorem SrcLe.far {w : World} {r : Nat} {A : Option Addr} {l : List Int} {c n : Nat} (h : SrcLe w r A l c n) {p : Addr} (hp : r < p.block) (u : Value) : SrcLe (w.setCell p u) r A l c n := by
  obtain ⟨a, h1, h2⟩ := h
  exact ⟨a, h1.far hp u, h2⟩
theorem SrcLe.up {w : World} {r : Nat} {A : Option Addr} {l : List Int} {c n m : Nat} (h : SrcLe w r A l c n) (hm : n ≤ m) : SrcLe w r A l c m := by
  obtain ⟨a, h1, h2⟩ := h
  exact ⟨a, h1, Nat.le_trans h2 hm⟩
theorem SrcLe.lt {w : World} {r : Nat} {A : Option Addr} {l : List Int} {c n : Nat} (h : SrcLe w r A l c n) : r < w.heap.size := by
  obtain ⟨a, h1, h2⟩ := h
  exact h1.lt
/-- A store in a packet's block keeps the list: its blocks are of other types. -/
theorem Gr.put {B T : Nat} {w : World} {v : Value} {cs : List Chk} (h : Gr B T w v cs) {g i : Nat} {xs : Array Value} (hk : Blk w g 26 xs) (u : Value) : Gr B T (w.setCell ⟨g, i, none⟩ u) v cs := by
  obtain ⟨h1, ps, bs, q1, q2, q3, q4⟩ := h
  have hw : Win g (g + 1) w (w.setCell ⟨g, i, none⟩ u) := win_set w g i u
  refine ⟨Nat.le_trans h1 hw.size, ps, bs, q1, q2.kept hw.grown (.inr (fun e => ?_)), q3, fun j hj hp => ?_⟩
  · rcases q2.2 with ⟨rfl, _⟩ | ⟨g2, cap, cur, rfl, _, hgg, _⟩
    · simp [Value.ownBlock] at e
    · simp only [Value.ownBlock, Option.some.injEq] at e
      subst e
      have := Option.some.inj (hgg.symm.trans hk)
      simp at this
  · obtain ⟨r1, r2, r3⟩ := q4 j hj hp
    refine ⟨r1, r2, ?_⟩
    rcases r3 with r3 | ⟨s1, cur, s2, s3⟩
    · exact .inl r3
    · refine .inr ⟨s1, cur, hw.blk s2 ?_, s3⟩
      rcases Nat.lt_trichotomy (bs j) g with e | e | e
      · exact .inl e
      · rw [e] at s2
        have := Option.some.inj (s2.symm.trans hk)
        simp at this
      · exact .inr (by omega)
theorem Gr.down {B B' T : Nat} {w : World} {v : Value} {cs : List Chk} (h : Gr B T w v cs) (hB : B' ≤ B) : Gr B' T w v cs := by
  obtain ⟨h1, ps, bs, q1, q2, q3, q4⟩ := h
  exact ⟨h1, ps, bs, q1, own_mono q2 hB, q3, fun j hj hp => by obtain ⟨r1, r2, r3⟩ := q4 j hj hp; exact ⟨by omega, r2, r3⟩⟩
theorem wpList_append_gp {w : World} {ops : Array Oper} {rest : List Oper} {o : Oper} {a : Act} {Q : Exit → Act → World → Prop} (hgd : o.guard = none) (s x : Operand)
    (ho : o.op = .call { callee := .builtin .append, args := #[s, x], argTypes := #[24, 24] })
    (B T : Nat) (v : Value) (cs : List Chk) (hs : a.eval s = v) (hG : Gr B T w v cs) (q : Nat) (y : Chk) (A : Option Addr) (c b t : Nat) (hx : a.eval x = .slice (some ⟨q, 0, none⟩) 1 1)
    (hq : Blk w q t #[.int .i64 y.kind, .int .i64 y.flags, .slice A y.body.length c]) (hTb : Tb w b A y.body) (hb1 : T ≤ b) (hb2 : b < w.heap.size) (hB : B ≤ T) (hn : cs.length ≤ 100000)
    (h : ∀ v' w', Gr B w.heap.size w' v' (cs ++ [y]) → Below B w w' → (∀ g xs, Blk w g 26 xs → Blk w' g 26 xs) → wpList Tryd.prog ops Q rest (a.put o.dst v') w') : wpList Tryd.prog ops Q (o :: rest) a w := by
  obtain ⟨hT, ps, bs, q1, q2, q3, q4⟩ := hG
  obtain ⟨i0, hi, hz0, hz1, hz2⟩ := info_parts infoCk
  refine wpList_append_own w hgd s x 24 ho B 49 i0 _ 3 40 Tryd.underlying24 hi hz0 hz1 hz2 (by rfl) (by decide) v cs.length (flatC cs ps) hs q2 ⟨q, 0, none⟩ 1 1 (ce y (A, c)) hx (by rfl)
    (fun j u hu => ?_) (fun u hu => ?_) (by unfold maxLen; omega) (by omega) (by omega) (fun v' w' h1 h2 _ => h v' w' (Gr.more hT hB q1 q2 q3 q4 hb1 hb2 hTb h1 h2) ((Below.refl B w).grown h2 (by omega) (fun k hk => (q2.lt k hk).1)) (fun g xs hk => (h2.block g hk.lt (fun e => ?_)).trans hk))
  · have e : (⟨q, 0, none⟩ : Addr).add j = ⟨q, j, none⟩ := by rw [add_off, Nat.zero_add]
    rw [e, hq.cell, ← hu]
    simp [ce]
  · simp only [ce, List.mem_cons, List.not_mem_nil, or_false] at hu
    rcases hu with rfl | rfl | rfl <;> rfl
  · rcases q2.2 with ⟨rfl, _⟩ | ⟨g2, cap, cur2, rfl, _, hgg, _⟩
    · simp [Value.ownBlock] at e
    · simp only [Value.ownBlock, Option.some.injEq] at e
      subst e
      have := Option.some.inj (hgg.symm.trans hk)
      simp at this
end Go.Proofs.YtepcikghhnfacaaDoor

/- The program's PacketFault. -/
namespace Go.Proofs.YtepcikghhnfacaaDoor
open Go.RowKit Go.Deep

theorem rawTo_len0 (tag sum : Int) (cs : List Chk) : (rawTo tag sum cs 0).length = 8 := by simp [rawTo, pk]
theorem rawTo_lens (tag sum : Int) (cs : List Chk) (j : Nat) (hj : j < cs.length) : (rawTo tag sum cs (j + 1)).length = (rawTo tag sum cs j).length + (4 + cs[j].body.length + chPad cs[j].body.length) := by
  rw [rawTo_succ _ _ _ _ hj, List.length_append, chkL, chL_len]
theorem firstF_taken {cs : List Chk} {j : Nat} (h : firstF (cs.take j) = 0) : ∀ x ∈ cs.take j, chkOk x := firstF_ok h
theorem rawTo_le (tag sum : Int) (cs : List Chk) (j : Nat) (hj : j ≤ cs.length) (h : firstF (cs.take j) = 0) : (rawTo tag sum cs j).length ≤ 8 + 168 * j := by
  have e : rawTo tag sum cs j = rawTo tag sum (cs.take j) j := by rw [rawTo, rawTo, List.take_take, Nat.min_self]
  rw [e]
  exact rawTo_len tag sum (cs.take j) (firstF_ok h) j (by rw [List.length_take]; omega)
set_option maxRecDepth 100000 in
set_option maxHeartbeats 2000000 in
theorem pkFault_impl (tag : Int) (P : Option Addr) (cs : List Chk) (c : Nat) (w : World) (hP : Cs w P cs) (hm : (cs.length : Int) ≤ 9223372036854775807) (hbl : ∀ x ∈ cs, (x.body.length : Int) ≤ 9223372036854775807) :
    Calls Tryd.prog 11 #[pkV tag P cs.length c] w fun e w' => e = .returned (.int .i64 (pkF tag cs)) ∧ Below w.heap.size w w' := by
  unfold pkV
  by_cases ht : wB tag = true
  · by_cases hn : 1 ≤ cs.length ∧ cs.length ≤ 8
    · have hn1 : (1 : Int) ≤ (cs.length : Int) := by omega
      have hn8 : (cs.length : Int) ≤ 8 := by omega
      have hn0 : ((cs.length : Int) == 0) = false := by rw [beq_eq_false_iff_ne]; omega
      have e : pkF tag cs = (if firstF cs = 0 then (if (rawL tag 0 cs).length ≤ 500 then 0 else 2) else firstF cs) := by rw [pkF, if_pos ht, if_pos hn]
      have HE := hidH e
      have P1 : PkB (w.alloc (.cells #[.int .i64 tag, .slice P cs.length c] 26)) w.heap.size 0 tag P cs c :=
        ⟨by simp, (Blk.new w 26 _).cell 0, (Blk.new w 26 _).cell 1, hP.below (bal (Below.refl _ w) _)⟩
      have B1 := bal (Below.refl w.heap.size w) (.cells #[.int .i64 tag, .slice P cs.length c] 26)
      obtain ⟨w1, hw1⟩ : ∃ w1, w.alloc (.cells #[.int .i64 tag, .slice P cs.length c] 26) = w1 := ⟨_, rfl⟩
      rw [hw1] at P1 B1
      have HP1 := hidH P1
      have HB1 := hidH B1
      have HW1 := hidH hw1
      have HBL := hidH hbl
      have HS := hidH (rawTo_lens tag 0 cs)
      have HLE := hidH (rawTo_le tag 0 cs)
      have H0 := hidH (rawTo_len0 tag 0 cs)
      clear P1 B1 hw1 hP hbl e hm hn
      go_enter Tryd.func11, Tryd.ntmps11
      go_wp2_with (go_at_call 44; refine (isWord_any _ _).mono ?_; rintro e w' ⟨rfl, rfl⟩)
      rw [HW1.out]
      go_loopw [3, 24] (fun s i wr => ∃ j : Nat, j ≤ cs.length ∧ i = .int .i64 j ∧ s = .int .i64 (((rawTo tag 0 cs j).length : Nat) : Int) ∧ firstF (cs.take j) = 0 ∧ Below w1.heap.size w1 wr) (fun _ i _ => cs.length - (intOf i).toNat)
      case atStart => exact ⟨0, by omega, rfl, by rw [H0.out]; rfl, rfl, Below.refl _ _⟩
      case round =>
        obtain ⟨j, hj, rfl, rfl, hf, hB⟩ := hrel
        have hle := HLE.out j hj hf
        by_cases hlt : j < cs.length
        · have hj0 : (0 : Int) ≤ (j : Int) := by omega
          have hj1 : (j : Int) < (cs.length : Int) := by omega
          obtain ⟨cg, co, rfl, hg, A, cb, CK⟩ := (HP1.out.below hB).list.get hlt
          have c0 := CK.c0
          have c1 := CK.c1
          have c2 := CK.c2
          have HF := hidH (fun u => chFault_impl cs[j].kind cs[j].flags A cs[j].body cb u (HBL.out _ (List.getElem_mem hlt)))
          have HZ := hidH (fun (u : World) (hh : (cs[j].body.length : Int) ≤ 1000000) => chSize_any cs[j].kind cs[j].flags A cs[j].body.length cb u hh)
          unfold ckV at HF HZ
          have HT2 := hidH (firstF_take hlt hf)
          have HHIT := hidH (fun h => firstF_hit hlt hf h)
          have HSJ := hidH (HS.out j hlt)
          have B2 := bal hB (.cells #[.int .i64 cs[j].kind, .int .i64 cs[j].flags, .slice A cs[j].body.length cb] 49)
          have K2 := Blk.new wr 49 #[.int .i64 cs[j].kind, .int .i64 cs[j].flags, .slice A cs[j].body.length cb]
          have HW2 : Hid (∃ w2, wr.alloc (.cells #[.int .i64 cs[j].kind, .int .i64 cs[j].flags, .slice A cs[j].body.length cb] 49) = w2) := ⟨_, rfl⟩
          obtain ⟨w2, hw2⟩ := HW2.out
          rw [hw2] at B2 K2
          have HW2 := hidH hw2
          obtain ⟨s, hs⟩ : ∃ s, (rawTo tag 0 cs j).length = s := ⟨_, rfl⟩
          rw [hs] at hle HSJ ⊢
          have hsI : (s : Int) ≤ 100000 := by omega
          clear CK hf hB hw2 hs hle
          go_wp2_with fail
          rw [HW2.out]
          refine (HF.out w2).mono ?_
          rintro e w3 ⟨rfl, b3⟩
          have B3 := hidH (btr B2 b3)
          have K3 := K2.below b3
          clear HF b3 c0 c1 c2 B2 K2 HW2
          obtain ⟨F, hF⟩ : ∃ F, chF cs[j].kind cs[j].flags cs[j].body = F := ⟨_, rfl⟩
          rw [hF]
          have HF := hidH (show chkF cs[j] = F from hF)
          by_cases hz : F = 0
          · subst hz
            have hb160 := (chF_zero hF).2.2
            obtain ⟨p3, q3, r3, z3⟩ := K3.three
            have hpd : chPad cs[j].body.length < 4 := by unfold chPad; omega
            clear hF K3
            go_wp2_with fail
            refine (HZ.out w3 (by omega)).mono ?_
            rintro e w4 ⟨rfl, b4⟩
            have B4 := hidH (btr B3.out b4)
            obtain ⟨q, hq⟩ : ∃ q, 4 + cs[j].body.length + chPad cs[j].body.length = q := ⟨_, rfl⟩
            have hqI : (q : Int) ≤ 1000 := by omega
            rw [hq] at HSJ ⊢
            clear b4 p3 q3 r3 z3 hq hpd hb160
            go_wp2
            go_roundw
            case rel => exact ⟨j + 1, by omega, by go_num, by rw [HSJ.out]; go_num, by rw [HT2.out]; exact HF.out, B4.out⟩
            case measure => simp [intOf]; omega
          · have hne : (F != 0) = true := by rw [bne_iff_ne]; exact hz
            have HR := hidH (show pkF tag cs = F by
              have h1 : chkF cs[j] ≠ 0 := by rw [HF.out]; exact hz
              rw [HE.out, HHIT.out h1, if_neg h1, HF.out])
            clear hz hF K3
            go_wp2
            go_ret
            exact ⟨by rw [HR.out]; rfl, btr HB1.out B3.out⟩
        · obtain rfl : j = cs.length := by omega
          rw [List.take_length] at hf
          have HFF := hidH hf
          have HBW := hidH hB
          have HL := hidH (show (rawTo tag 0 cs cs.length).length = (rawL tag 0 cs).length from rfl)
          obtain ⟨s, hs⟩ : ∃ s, (rawTo tag 0 cs cs.length).length = s := ⟨_, rfl⟩
          rw [hs] at HL ⊢
          clear hf hB hlt hj hle hs
          by_cases h5 : s ≤ 500
          · have h5I : (s : Int) ≤ 500 := by omega
            have HR := hidH (show pkF tag cs = 0 by rw [HE.out, if_pos HFF.out, if_pos (by rw [← HL.out]; exact h5)])
            clear h5
            go_wp2
            go_ret
            exact ⟨by rw [HR.out]; rfl, btr HB1.out HBW.out⟩
          · have h5I : (500 : Int) < (s : Int) := by omega
            have HR := hidH (show pkF tag cs = 2 by rw [HE.out, if_pos HFF.out, if_neg (by rw [← HL.out]; exact h5)])
            clear h5
            go_wp2
            go_ret
            exact ⟨by rw [HR.out]; rfl, btr HB1.out HBW.out⟩
    · have e : pkF tag cs = 2 := by rw [pkF, if_pos ht, if_neg hn]
      rw [e]
      clear e hbl hP
      by_cases h1 : cs.length = 0
      · have h1I : ((cs.length : Int) == 0) = true := by rw [beq_iff_eq]; omega
        clear h1 hn
        go_enter Tryd.func11, Tryd.ntmps11
        go_wp2_with (go_at_call 44; refine (isWord_any _ _).mono ?_; rintro e w' ⟨rfl, rfl⟩)
        go_ret
        exact ⟨rfl, bal (Below.refl _ _) _⟩
      · have h1I : ((cs.length : Int) == 0) = false := by rw [beq_eq_false_iff_ne]; omega
        have h8I : (8 : Int) < (cs.length : Int) := by omega
        clear h1 hn
        go_enter Tryd.func11, Tryd.ntmps11
        go_wp2_with (go_at_call 44; refine (isWord_any _ _).mono ?_; rintro e w' ⟨rfl, rfl⟩)
        go_ret
        exact ⟨rfl, bal (Below.refl _ _) _⟩
  · have ht2 : wB tag = false := by simpa using ht
    have e : pkF tag cs = 3 := by rw [pkF, if_neg ht]
    rw [e]
    clear e ht hbl hP
    go_enter Tryd.func11, Tryd.ntmps11
    go_wp2_with (go_at_call 44; refine (isWord_any _ _).mono ?_; rintro e w' ⟨rfl, rfl⟩)
    go_ret
    exact ⟨rfl, bal (Below.refl _ _) _⟩
end Go.Proofs.YtepcikghhnfacaaDoor

/- slices.Grow and slices.Concat at bytes, however many slices. -/
namespace Go.Proofs.YtepcikghhnfacaaDoor
open Go.RowKit Go.Deep

theorem wpList_append_run {w : World} {ops : Array Oper} {rest : List Oper} {o : Oper} {a : Act} {Q : Exit → Act → World → Prop} (hgd : o.guard = none) (s x : Operand) (ts : Array TypeId)
    (ho : o.op = .call { callee := .builtin .append, args := #[s, x], argTypes := ts }) (sv xv : Value) (hs : a.eval s = sv) (hx : a.eval x = xv) (d : Option Tmp) (hd : o.dst = d)
    (v : Value) (w1 : World) (hrun : ∀ ty, (Builtin.append_ ts ty #[sv, xv]).run Tryd.prog w = .ok v w1) (h : wpList Tryd.prog ops Q rest (a.put d v) w1) : wpList Tryd.prog ops Q (o :: rest) a w := by
  subst hd
  refine wpList_plain hgd fun K hK => ?_
  unfold Oper.wp
  simp [execOp, ho, resolve, invoke, builtin, hs, hx, hrun, Result.andThen]
  exact hK _ _ h
set_option maxHeartbeats 1000000 in
theorem grow_any (n : Nat) (w : World) (h : n ≤ 100000) : Calls Tryd.prog 57 #[.slice none 0 0, .int .i64 n] w fun e w' => ∃ v, e = .returned v ∧ w'.ownsRow w.heap.size 5 1 v 0 [] ∧ Below w.heap.size w w' := by
  by_cases h0 : n = 0
  · subst h0
    rw [show ((0 : Nat) : Int) = 0 from rfl]
    go_enter Tryd.func57, Tryd.ntmps57
    go_wp2
    go_ret
    exact ⟨_, rfl, ⟨rfl, .inl ⟨rfl, rfl⟩⟩, Below.refl _ _⟩
  · obtain ⟨i0, hi, hz0, hz1, hz2⟩ := info_parts infoU8
    have hnI : (0 : Int) < (n : Int) := by omega
    have hnJ : (n : Int) ≤ 100000 := by omega
    have hap : ∀ ty, (Builtin.append_ #[22, 3] ty #[.slice none 0 0, .int .i64 n]).run Tryd.prog w = .ok (.slice (some ⟨w.heap.size, 0, none⟩) n (grownCap w n 0 5)) (w.drew.alloc (.cells (Builtin.zeroCells #[.int .u8 0] n ++ Builtin.zeroCells #[.int .u8 0] (grownCap w n 0 5 - n)) 5)) := fun ty =>
      Lib.run_append_nil_zeros w 22 3 ty 5 i0 (.int .u8 0) .i64 .i64 Tryd.underlying22 (by kernel_rfl) hi hz0 n (by omega) (by rw [hz1]; omega) (by omega) (by rw [hz2]; omega)
    have hge := grownCap_ge w n 0 5
    have hle := grownCap_le_maxLen w n 0 5 (by unfold maxLen; omega)
    generalize grownCap w n 0 5 = c at *
    have hsz : (Builtin.zeroCells #[Value.int .u8 0] n ++ Builtin.zeroCells #[Value.int .u8 0] (c - n)).size = c * 1 := by
      rw [Array.size_append, size_zeroCells, size_zeroCells]; simp; omega
    generalize Builtin.zeroCells #[Value.int .u8 0] n ++ Builtin.zeroCells #[Value.int .u8 0] (c - n) = cs at *
    have HC := hidH (And.intro hge (And.intro hle hsz))
    have hc : (0 : Int) ≤ (c : Int) := by omega
    have HAP := hidH hap
    clear hi hz0 hz1 hz2 hge hle hsz h0 hap
    go_enter Tryd.func57, Tryd.ntmps57
    go_wp2_with (at_builtin; refine wpList_append_run rfl _ _ _ rfl (.slice none 0 0) (.int .i64 n) rfl rfl _ rfl _ _ HAP.out ?_)
    go_ret
    refine ⟨_, rfl, ⟨rfl, .inr ⟨w.heap.size, c, cs, rfl, Nat.le_refl _, ?_, by omega, HC.out.2.1, HC.out.2.2, by simp⟩⟩, bal (Below.refl _ _).drew _⟩
    exact heap_alloc_new w.drew _
/-- Slices of bytes in a row of their own. -/
def Parts (w : World) (g : Nat) (ps : List (List Int)) : Prop :=
  g < w.heap.size ∧ ∀ i (hi : i < ps.length), ∃ A c, w.cell? ⟨g, i, none⟩ = some (.slice A ps[i].length c) ∧ Bs w A ps[i]
theorem Parts.below {w w' : World} {g : Nat} {ps : List (List Int)} (h : Parts w g ps) (hb : Below w.heap.size w w') : Parts w' g ps :=
  ⟨Nat.lt_of_lt_of_le h.1 hb.size, fun i hi => by
    obtain ⟨A, c, h1, h2⟩ := h.2 i hi
    exact ⟨A, c, (hb.cell (p := ⟨g, i, none⟩) h.1).trans h1, bs_below h2 hb⟩⟩
def catP (ps : List (List Int)) (k : Nat) : List Int := (ps.take k).flatten
theorem catP_succ (ps : List (List Int)) (k : Nat) (hk : k < ps.length) : catP ps (k + 1) = catP ps k ++ ps[k] := by
  rw [catP, catP, List.take_add_one, List.getElem?_eq_getElem hk, Option.toList_some, List.flatten_append]
  simp
theorem catP_le (ps : List (List Int)) (k : Nat) : (catP ps k).length ≤ ps.flatten.length := by
  have h : ps.flatten = catP ps k ++ (ps.drop k).flatten := by rw [catP, ← List.flatten_append, List.take_append_drop]
  rw [h, List.length_append]
  omega
set_option maxRecDepth 100000 in
set_option maxHeartbeats 1000000 in
theorem concat_all (g c : Nat) (ps : List (List Int)) (w : World) (hg : Parts w g ps) (hn : ps.length ≤ 100) (ht : ps.flatten.length ≤ 40000) :
    Calls Tryd.prog 26 #[.slice (some ⟨g, 0, none⟩) ps.length c] w (OwnB w ps.flatten) := by
  have HG := hidH hg
  have HT := hidH ht
  have HLE := hidH (catP_le ps)
  have HS := hidH (catP_succ ps)
  have HZ := hidH (show catP ps ps.length = ps.flatten by rw [catP, List.take_length])
  have hnI : (ps.length : Int) ≤ 100 := by omega
  clear hg ht
  go_enter Tryd.func26, Tryd.ntmps26
  go_wp2
  go_loopw [3, 11] (fun s i wr => ∃ k : Nat, k ≤ ps.length ∧ i = .int .i64 k ∧ s = .int .i64 ((catP ps k).length : Nat) ∧ w = wr) (fun _ i _ => ps.length - (intOf i).toNat)
  case atStart => exact ⟨0, by omega, rfl, rfl, rfl⟩
  case round =>
    obtain ⟨k, hk, rfl, rfl, rfl⟩ := hrel
    by_cases hlt : k < ps.length
    · obtain ⟨A, cA, e1, _⟩ := HG.out.2 k hlt
      have hk0 : (0 : Int) ≤ (k : Int) := by omega
      have hk1 : (k : Int) < (ps.length : Int) := by omega
      have h1 := HLE.out k
      have h2 := HLE.out (k + 1)
      have h3 := HS.out k hlt
      have h4 : (catP ps (k + 1)).length = (catP ps k).length + ps[k].length := by rw [h3, List.length_append]
      have h5 : ((catP ps k).length : Int) ≤ 40000 := by have := HT.out; omega
      have h6 : (ps[k].length : Int) ≤ 40000 := by have := HT.out; omega
      obtain ⟨x, hx⟩ : ∃ x, (catP ps k).length = x := ⟨_, rfl⟩
      obtain ⟨y, hy⟩ : ∃ y, ps[k].length = y := ⟨_, rfl⟩
      rw [hx] at h5 h4
      rw [hy] at h6 h4 e1
      rw [hx]
      have H4 := hidH h4
      clear h1 h2 h3 h4 hx hy
      go_wp2
      go_round
      case rel => exact ⟨k + 1, by omega, by go_num, by rw [H4.out]; go_num, trivial⟩
      case measure => simp [intOf]; omega
    · obtain rfl : k = ps.length := by omega
      have hgr := grow_any ps.flatten.length w (by have := HT.out; omega)
      rw [HZ.out]
      have HGR := hidH hgr
      obtain ⟨x, hx⟩ : ∃ x, ps.flatten.length = x := ⟨_, rfl⟩
      rw [hx] at HGR ⊢
      clear hgr hlt hk hx
      go_wp2_with fail
      refine HGR.out.mono ?_
      rintro e w1 ⟨v, rfl, o1, b1⟩
      have O1 := hidH o1
      have B1 := hidH b1
      clear o1 b1 HGR
      go_wp2
      go_loopw [6, 27] (fun v i wr => ∃ k : Nat, k ≤ ps.length ∧ i = .int .i64 k ∧ wr.ownsRow w.heap.size 5 1 v (catP ps k).length ((catP ps k).map (Value.int .u8)) ∧ Below w.heap.size w wr) (fun _ i _ => ps.length - (intOf i).toNat)
      case atStart => exact ⟨0, by omega, rfl, O1.out, B1.out⟩
      case round =>
        obtain ⟨k, hk, rfl, ho, hbw⟩ := hrel
        by_cases hlt : k < ps.length
        · obtain ⟨A, cA, e1, s1⟩ := (HG.out.below hbw).2 k hlt
          have hk0 : (0 : Int) ≤ (k : Int) := by omega
          have hk1 : (k : Int) < (ps.length : Int) := by omega
          have hsz := hbw.size
          have HLN := hidH (show (catP ps k).length + ps[k].length ≤ 100000 by
            have h2 := HLE.out (k + 1)
            have h3 := HS.out k hlt
            have := HT.out
            rw [h3, List.length_append] at h2
            omega)
          have HS1 := hidH s1
          have HO := hidH ho
          have HW := hidH hbw
          clear ho hbw s1
          go_wp2_with (at_builtin; refine wpList_append_bs rfl _ _ rfl w.heap.size _ _ _ rfl HO.out A ps[k] cA rfl HS1.out HLN.out hsz ?_)
          intro v' w2 o2 g2
          have B2 := hidH (HW.out.grown g2 hsz (fun k hk => (HO.out.lt k hk).1))
          have O2 := hidH (show w2.ownsRow w.heap.size 5 1 v' (catP ps (k + 1)).length ((catP ps (k + 1)).map (Value.int .u8)) from by rw [HS.out k hlt]; simpa using o2)
          clear o2 g2 HO HW HS1 e1 HLN
          go_wp2
          go_roundw
          case rel => exact ⟨k + 1, by omega, by go_num, O2.out, B2.out⟩
          case measure => simp [intOf]; omega
        · obtain rfl : k = ps.length := by omega
          rw [HZ.out] at ho
          have HO := hidH ho
          have HW := hidH hbw
          clear ho hbw hlt hk
          go_wp2
          go_ret
          exact ⟨_, rfl, HO.out, HW.out⟩
end Go.Proofs.YtepcikghhnfacaaDoor
